/- Well-formed types of at most a depth, beside chapter 6. -/
import Derived.Test.YtffmpjcjmffdeaaDoorGk
import Derived.Test.YtffmpjcjmffdeaaDoorTx0
namespace Go.Proofs.YtffmpjcjmffdeaaDoor
open Go.RowKit

def kidsT8 : Ty → List Ty
  | .mk _ ts => ts

theorem shp_small8 : ∀ {d : Nat} {t : Ty}, shp d t = true → t.cnt + 2 ≤ 2 ^ (d + 1)
  | 0, _, h => by simp [shp] at h
  | d + 1, .mk k ts, h => by
    have hp : 0 < 2 ^ d := Nat.pow_pos (by omega)
    rcases shp_cases h with ⟨rfl, _⟩ | ⟨a, b, rfl, _, ha, hb⟩
    · simp only [Ty.cnt, cntL, List.length_nil, Nat.pow_succ]
      omega
    · have h1 := shp_small8 ha
      have h2 := shp_small8 hb
      simp only [Ty.cnt, cntL, List.length_cons, List.length_nil, Nat.pow_succ] at *
      omega

theorem shp_cnt8 {d : Nat} {t : Ty} (h : shp d t = true) (hd : d ≤ 4) : t.cnt ≤ 1048576 := by
  have h1 := shp_small8 h
  have h2 : 2 ^ (d + 1) ≤ 2 ^ 5 := Nat.pow_le_pow_right (by omega) (by omega)
  omega

theorem shp_wf8 {d : Nat} {t : Ty} (h : shp d t = true) : wf t := ⟨d, h⟩

theorem shp_leaf8 {d : Nat} {k : Int} (h : k = 1 ∨ k = 2 ∨ k = 3) : shp (d + 1) (.mk k []) = true := by
  simp [shp, kidsOf, h]

theorem shp_gk8 {d : Nat} {f : Ty} (h : shp d f = true) : shp d (gk (kindT f)) = true := by
  cases d with
  | zero => simp [shp] at h
  | succ d =>
    obtain ⟨k, ts, rfl⟩ := f.shape
    rcases shp_cases h with ⟨rfl, hk⟩ | ⟨a, b, rfl, hk, ha, _⟩
    · have e : gk k = .mk k [] := by unfold gk; rw [if_neg (by omega)]
      show shp (d + 1) (gk k) = true
      rw [e]
      exact shp_leaf8 hk
    · cases d with
      | zero => simp [shp] at ha
      | succ d =>
        have e : gk k = .mk k [.mk 1 [], .mk 1 []] := by unfold gk; rw [if_pos hk]
        have h1 : ¬ (k = 1 ∨ k = 2 ∨ k = 3) := by omega
        have h2 : shp (d + 1) (.mk 1 []) = true := shp_leaf8 (.inl rfl)
        show shp (d + 1 + 1) (gk k) = true
        rw [e, shp]
        simp [kidsOf, h1, hk, h2]

theorem SlAt.none8 {w : World} {s : Value} {fp : List Nat} (h : SlAt w [] s fp) : ∃ a cap, s = .slice a 0 cap := by
  rcases h with ⟨_, _, a, cap, rfl⟩ | ⟨b, o, cap, f, _, hp, _⟩
  · exact ⟨a, cap, rfl⟩
  · simp at hp

end Go.Proofs.YtffmpjcjmffdeaaDoor
