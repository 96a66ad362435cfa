/- The program's compose, by induction; ComposeCoercions of both sides. -/
import Derived.Test.YtolhfcpmhhhjpaaSCia
import Derived.Test.YtolhfcpmhhhjpaaSCib
import Derived.Test.YtolhfcpmhhhjpaaSCic
namespace Go.Proofs.Ytolhfcpmhhhjpaa
open Go.RowKit

theorem compose_succ (n : Nat) (ih : CpiC n) (ihA : AcC n) (ihP : PlC n) : ∀ (a b : Co) (d d' : Nat) (va vb : Value) (fa fb : List Nat) (w : World), d + d' ≤ n + 1 → d ≤ 9 → d' ≤ 9 → shpK d a = true → shpK d' b = true → a.At w va fa → b.At w vb fb →
    Calls Try.prog 59 #[va, vb] w (MadeL w (fa ++ fb) (cmpo (n + 1) a b)) := by
  intro a b d d' va vb fa fb w hd hd1 hd2 hsa hsb hata hatb
  have hsa0 := hsa
  have hsb0 := hsb
  obtain ⟨ka, ga, la, ts, rfl⟩ := a.shape
  obtain ⟨kb, gb, lb, us, rfl⟩ := b.shape
  cases d with
  | zero => simp [shpK] at hsa
  | succ d =>
  cases d' with
  | zero => simp [shpK] at hsb
  | succ d' =>
  obtain ⟨hna, hka⟩ := shpK_node hsa
  obtain ⟨hnb, hkb⟩ := shpK_node hsb
  by_cases hu : ka = 1 ∧ ga = 1
  · obtain ⟨rfl, rfl⟩ := hu
    exact compose_unk kb gb la lb ts us _ va vb fa fb w (by simp [cmpo, cmpN]) hata hatb
  by_cases h5 : ka = 5
  · subst h5
    rcases nodeC_cases hna with ⟨h, _⟩ | ⟨h, _⟩ | ⟨h, _⟩ | ⟨h, _⟩ | ⟨_, _, _, a1, rfl, _⟩ | ⟨h, _⟩
    · omega
    · omega
    · omega
    · omega
    · have hr : cmpo (n + 1) (.mk 5 ga la [a1]) (.mk kb gb lb us) = (cmpo n a1 (.mk kb gb lb us)).map fun c => .mk 5 0 la [c] := by simp [cmpo, cmpN]
      rw [hr]
      exact compose_prj n ih ga la kb gb lb a1 us d (d' + 1) va vb fa fb w (by omega) (by omega) hd2 (hka a1 (by simp)) hsb0 hata hatb
    · omega
  by_cases h6 : ka = 6
  · subst h6
    have hr : cmpo (n + 1) (.mk 6 ga la ts) (.mk kb gb lb us) = some (.mk 6 ga la ts) := by simp [cmpo, cmpN]
    rw [hr]
    exact compose_fail ga la kb gb lb ts us va vb fa fb w hata hatb
  by_cases h4 : ka = 4
  · subst h4
    by_cases g5 : kb = 5
    · subst g5
      rcases nodeC_cases hna with ⟨h, _⟩ | ⟨h, _⟩ | ⟨h, _⟩ | ⟨_, _, _, a1, rfl, _⟩ | ⟨h, _⟩ | ⟨h, _⟩
      · omega
      · omega
      · omega
      · rcases nodeC_cases hnb with ⟨h, _⟩ | ⟨h, _⟩ | ⟨h, _⟩ | ⟨h, _⟩ | ⟨_, _, _, b1, rfl, _⟩ | ⟨h, _⟩
        · omega
        · omega
        · omega
        · omega
        · exact compose_ip n ihA ga la gb lb a1 b1 d d' va vb fa fb w (by omega) (by omega) (by omega) (hka a1 (by simp)) (hkb b1 (by simp)) hata hatb
        · omega
      · omega
      · omega
    · exact compose_inj ga la kb gb lb ts us _ va vb fa fb w (by rw [beq_eq_false_iff_ne]; exact g5) (by simp [cmpo, cmpN, g5]) hata hatb
  have q4 : (ka == 4) = false := by rw [beq_eq_false_iff_ne]; exact h4
  have q5 : (ka == 5) = false := by rw [beq_eq_false_iff_ne]; exact h5
  have q6 : (ka == 6) = false := by rw [beq_eq_false_iff_ne]; exact h6
  have qu : (ka == 1 && ga == 1) = false := by
    rw [Bool.and_eq_false_iff]
    by_cases h : ka = 1
    · exact .inr (by rw [beq_eq_false_iff_ne]; exact fun e => hu ⟨h, e⟩)
    · exact .inl (by rw [beq_eq_false_iff_ne]; exact h)
  by_cases g6 : kb = 6
  · subst g6
    exact compose_bfail (d + 1) ka ga la gb lb ts us _ va vb fa fb w q4 q5 q6 qu (tagWf_shp hsa0) (by
      simp only [cmpo, cmpN]
      rw [if_neg hu, if_neg h5, if_neg h6, if_neg h4, if_pos trivial]) hata hatb
  by_cases g4 : kb = 4
  · subst g4
    rcases nodeC_cases hnb with ⟨h, _⟩ | ⟨h, _⟩ | ⟨h, _⟩ | ⟨_, _, _, b1, rfl, _⟩ | ⟨h, _⟩ | ⟨h, _⟩
    · omega
    · omega
    · omega
    · have hr : cmpo (n + 1) (.mk ka ga la ts) (.mk 4 gb lb [b1]) = (cmpo n (.mk ka ga la ts) b1).map fun c => .mk 4 0 0 [c] := by
        simp only [cmpo, cmpN]
        rw [if_neg hu, if_neg h5, if_neg h6, if_neg h4, if_neg (by omega), if_pos trivial, one1_one]
      rw [hr]
      exact compose_binj n ih ka ga la gb lb ts b1 (d + 1) d' va vb fa fb w (by omega) hd1 (by omega) hsa0 (hkb b1 (by simp)) q4 q5 q6 qu hata hatb
    · omega
    · omega
  exact compose_pl _ ka ga la kb gb lb ts us va vb fa fb w (fun va vb w h1 h2 => ihP (.mk ka ga la ts) (.mk kb gb lb us) (d + 1) (d' + 1) va vb fa fb w (by omega) hd1 hd2 hsa0 hsb0 ⟨h4, h5, h6, hu⟩ ⟨g4, g6⟩ h1 h2) q4 q5 q6 qu (by rw [beq_eq_false_iff_ne]; exact g4) (by rw [beq_eq_false_iff_ne]; exact g6) hata hatb

theorem cpi_any : ∀ n, CpiC n
  | 0 => fun a b d d' va vb fa fb w hd _ _ hsa => by
      exfalso
      have : d = 0 := by omega
      subst this
      simp [shpK] at hsa
  | n + 1 => compose_succ n (cpi_any n) (across_any n (cpi_any n)) (plain_any n (cpi_any n))
end Go.Proofs.Ytolhfcpmhhhjpaa
