/- The laws' own helpers heldTermS and heldTerm: the marks asked for again. Terms that stay while others are marked; how many marks a term takes. -/
import Derived.Deep.RegionHeld3
import Derived.Test.YtjpmlmdbldcbjaaDoorQMMk
import Derived.Test.YtjpmlmdbldcbjaaDoorQPkA
namespace Go.Proofs.YtjpmlmdbldcbjaaDoor
open Go.RowKit

def HeMC (ts : List Tm) : Prop := ∀ (s : Value) (fp : List Nat) (m : Nat) (n : Int) (w : World), SmAt w (mkML ts m) s fp → n = (m : Int) → m + numL ts ≤ 1073741824 →
  Calls Tryd.prog 35 #[s, .int .i64 n] w fun e w' => e = .returned (.int .i64 ((m + numL ts : Nat) : Int)) ∧ Below w.heap.size w w'

set_option maxRecDepth 100000 in
set_option maxHeartbeats 8000000 in
theorem heldTermS_of (ts : List Tm) (ih : ∀ t ∈ ts, HeMC (tkids t)) : HeMC ts := by
  intro s fp m n w hs hn hm1
  subst hn
  have HIH := hid ih
  clear ih
  obtain ⟨a, cap, rfl, hc, hm, hget⟩ := hs.open
  have HG := hid hget
  rw [mkML_len] at hc hm
  have hlen := mkML_len ts m
  have HL := hid hlen
  have HM1 := hid hm1
  clear hget hs hm1
  rw [hlen]
  clear hlen
  go_enter Tryd.func35, Tryd.ntmps35
  go_wp2_with fail
  go_loopw [1, 5] (fun k i wr => ∃ (j M : Nat), j ≤ ts.length ∧ M = m + offM ts j ∧ i = .int .i64 j ∧ k = .int .i64 (M : Int) ∧ Below w.heap.size w wr)
    (fun _ i _ => ts.length - (intOf i).toNat)
  case atStart => exact ⟨0, m, Nat.zero_le _, by rw [offM_zero]; rfl, rfl, rfl, Below.refl _ _⟩
  case round =>
    obtain ⟨j, M, hj, hM, rfl, rfl, hb⟩ := hrel
    by_cases hlk : j < ts.length
    · have hlk' : j < (mkML ts m).length := by rw [HL.out]; exact hlk
      obtain ⟨b, o, q0, q1, q2, q3, q4, q5, q6, q7, q8, q9, q10, q11, q12, q13, q14, g1, rfl, hblt, e0, e1, e2, e3, e4, e5, e6, e7, e8, hat, hf⟩ := HG.out j hlk'
      rw [mkML_get hlk hlk', ← hM] at hat
      obtain ⟨k, nm, num, ty, fr, lb, kids, htj⟩ := (ts[j]).shape
      have hofs := offM_succ hlk
      have hbd := offM_bd ts (j + 1)
      have HIHJ := hid (HIH.out _ (List.getElem_mem hlk))
      rw [htj] at hat HIHJ
      rw [htj, Tm.num] at hofs
      obtain ⟨ky, us, rfl⟩ := ty.shape
      obtain ⟨kf, vs, rfl⟩ := fr.shape
      simp only [mk1, kidsT, cK] at hat
      obtain ⟨k1, s1, k2, s2, s3, f1, f2, f3, hv, _, ht1, ht2, hfj, hs3⟩ := Tm.at_mk.1 hat
      simp only [Value.agg.injEq, Array.mk.injEq, List.cons.injEq, and_true, Value.int.injEq, true_and, Value.string.injEq] at hv
      obtain ⟨rfl, rfl, rfl, rfl, rfl, rfl, rfl, rfl, rfl⟩ := hv
      obtain ⟨s1', ev1, hs1⟩ := Ty.at_mk.1 ht1
      obtain ⟨s2', ev2, hs2⟩ := Ty.at_mk.1 ht2
      simp only [Value.agg.injEq, Array.mk.injEq, List.cons.injEq, and_true, Value.int.injEq, true_and] at ev1 ev2
      obtain ⟨rfl, rfl⟩ := ev1
      obtain ⟨rfl, rfl⟩ := ev2
      rw [cnt_any ky 0 us, cnt_any kf 0 vs] at hofs hs3
      have hM3 : M + 6 + (Ty.mk 0 us).cnt + (Ty.mk 0 vs).cnt + numL kids ≤ 1073741824 := by have := HM1.out; omega
      have HOFS := hid hofs
      have HM := hid hM
      clear hofs hbd hat ht1 ht2 hfj hf hM htj
      replace e0 := cell_keep e0 hb
      replace e1 := cell_keep e1 hb
      replace e2 := cell_keep e2 hb
      replace e3 := cell_keep e3 hb
      replace e4 := cell_keep e4 hb
      replace e5 := cell_keep e5 hb
      replace e6 := cell_keep e6 hb
      replace e7 := cell_keep e7 hb
      replace e8 := cell_keep e8 hb
      go_wp2_with fail
      go_region_held3 (fun w' => Below wr.heap.size wr w' ∧ w'.cell? ⟨b, o + j * 9 + 1, none⟩ = some (.string (mtx (M + 1))))
        ((refine (fun hB => ⟨hB, cell_keep e1 hB⟩ : Below wr.heap.size wr _ → _) ?_; (first | exact below_drew wr | exact below_trans (below_drew wr) hbl1)))
        (first
          | (go_at_call 56; refine (markText_at (M + 1) _ (by simp) (by omega) (by omega) _).mono ?_; rintro e w1 ⟨rfl, hnsz, hbl1⟩))
      have hb1 := below_trans (below_drew wr) hbl1
      replace e2 := cell_keep e2 hb1
      replace e3 := cell_keep e3 hb1
      replace e4 := cell_keep e4 hb1
      replace e5 := cell_keep e5 hb1
      replace e6 := cell_keep e6 hb1
      replace e7 := cell_keep e7 hb1
      replace e8 := cell_keep e8 hb1
      replace hb1 := below_trans hb hb1
      have p1 : (0 : Int) ≤ (M : Int) + 1 + 1 + 1 + 1 + ((Ty.mk 0 us).cnt : Int) := by omega
      have p2 : (0 : Int) ≤ (M : Int) + 1 + 1 + 1 + 1 + ((Ty.mk 0 us).cnt : Int) + 1 + ((Ty.mk 0 vs).cnt : Int) := by omega
      have p3 : (0 : Int) ≤ ((M + 6 + (Ty.mk 0 us).cnt + (Ty.mk 0 vs).cnt + numL kids : Nat) : Int) := by omega
      clear hb hbl1 e0 e1
      go_wp2_with fail
      refine (heldTypeS_any us _ f1 _ _ (hs1.below hb1) (by omega) (by omega)).mono ?_
      rintro e w2 ⟨rfl, hb2⟩
      replace e5 := cell_keep e5 hb2
      replace e6 := cell_keep e6 hb2
      replace e7 := cell_keep e7 hb2
      replace e8 := cell_keep e8 hb2
      have hb3 := below_trans hb1 hb2
      clear e2 e3 e4 hb1 hb2
      go_wp2_with fail
      refine (heldTypeS_any vs _ f2 _ _ (hs2.below hb3) (by omega) (by omega)).mono ?_
      rintro e w3 ⟨rfl, hb4⟩
      replace e7 := cell_keep e7 hb4
      replace e8 := cell_keep e8 hb4
      have hb5 := below_trans hb3 hb4
      clear e5 e6 hb3 hb4
      go_wp2_with fail
      refine (HIHJ.out _ f3 (M + 6 + (Ty.mk 0 us).cnt + (Ty.mk 0 vs).cnt) _ _ ?_ (by push_cast; omega) (by simp only [tkids]; omega)).mono ?_
      · have := hs3.below hb5
        rw [show M + 6 + (Ty.mk 0 us).cnt + (Ty.mk 0 vs).cnt = M + 6 + (Ty.mk 0 us).cnt + (Ty.mk 0 vs).cnt from rfl] at this
        exact this
      rintro e w4 ⟨rfl, hb6⟩
      have hb7 := below_trans hb5 hb6
      clear e7 e8 hb5 hb6 hs1 hs2 hs3
      simp only [tkids]
      go_wp2_with fail
      go_roundw
      case rel => exact ⟨j + 1, M + 6 + (Ty.mk 0 us).cnt + (Ty.mk 0 vs).cnt + numL kids, by omega, by have := HM.out; have := HOFS.out; omega, by go_num, rfl, hb7⟩
      case measure => simp [intOf]; omega
    · have hjl : j = ts.length := by omega
      have HM := hid hM
      clear hM
      go_wp2_with fail
      go_ret
      exact ⟨ret_i (by rw [HM.out, hjl, offM_all]), hb⟩

theorem heldTermS_any (ts : List Tm) : HeMC ts := by
  have h : ∀ t : Tm, HeMC (tkids t) := Tm.ind fun k nm num ty fr lb ts ih => heldTermS_of ts ih
  exact h (.mk 0 ⟨#[]⟩ 0 (.mk 0 []) (.mk 0 []) 0 ts)

set_option maxHeartbeats 2000000 in
theorem heldTerm_any (t : Tm) (v : Value) (fp : List Nat) (m : Nat) (n : Int) (w : World) (hat : (mkR t m).At w v fp) (hn : n = (m : Int)) (hm1 : m + t.num ≤ 1073741824) :
    Calls Tryd.prog 13 #[v, .int .i64 n] w fun e w' => e = .returned (.int .i64 ((m + t.num : Nat) : Int)) ∧ Below w.heap.size w w' := by
  subst hn
  obtain ⟨k, nm, num, ty, fr, lb, ts, rfl⟩ := t.shape
  simp only [mkR] at hat
  obtain ⟨k1, n1, a1, c1, k2, n2, a2, c2, a3, c3, f1, f2, f3, rfl, hnm, ht1, ht2, rfl, hs⟩ := hat.parts
  simp only [Tm.num] at hm1 ⊢
  clear hat
  have hb0 : Below w.heap.size w (w.alloc (Obj.cells #[.int .i64 k, .string nm, .int .i64 num, .int .i64 k1, .slice a1 n1 c1, .int .i64 k2, .slice a2 n2 c2, .int .i64 lb, .slice a3 (mkML ts (m + ty.cnt + fr.cnt)).length c3] 34)) := (Below.refl _ _).alloc (Nat.le_refl _) _
  have p1 : (0 : Int) ≤ (m : Int) + (ty.cnt : Int) := by omega
  have p2 : (0 : Int) ≤ (m : Int) + (ty.cnt : Int) + (fr.cnt : Int) := by omega
  have p3 : (0 : Int) ≤ ((m + ty.cnt + fr.cnt + numL ts : Nat) : Int) := by omega
  go_enter Tryd.func13, Tryd.ntmps13
  go_wp2_with fail
  refine (heldType_any ty _ f1 _ _ (ht1.below hb0) (by omega) (by omega)).mono ?_
  rintro e w1 ⟨rfl, hb1⟩
  obtain ⟨x0, x1, x2, x3, x4, x5, x6, x7, x8⟩ := box9 hb1
  have b1 := below_trans hb0 hb1
  go_wp2_with fail
  refine (heldType_any fr _ f2 _ _ (ht2.below b1) (by omega) (by omega)).mono ?_
  rintro e w2 ⟨rfl, hb2⟩
  replace x8 := cell_keep x8 hb2
  have b2 := below_trans b1 hb2
  clear x0 x1 x2 x3 x4 x5 x6 x7 hb1 hb2 hb0 b1
  go_wp2_with fail
  refine (heldTermS_any ts _ f3 (m + ty.cnt + fr.cnt) _ _ (hs.below b2) (by push_cast; omega) (by omega)).mono ?_
  rintro e w3 ⟨rfl, hb3⟩
  have b3 := below_trans b2 hb3
  clear x8 b2 hb3
  go_wp2_with fail
  go_ret
  exact ⟨ret_i (by omega), b3⟩
end Go.Proofs.YtjpmlmdbldcbjaaDoor

namespace Go.Proofs.YtjpmlmdbldcbjaaDoor
open Go.RowKit

theorem Tm.At.only {w w' : World} {t : Tm} {v : Value} {fp g : List Nat} (h : t.At w v fp) (hg : Only g w w') (hd : ∀ x ∈ fp, x ∉ g) : t.At w' v fp :=
  h.congr fun x hx o' => World.cell?_of_block (w := w) (a := ⟨x, o', none⟩) (hg.block x (h.lt x hx) (hd x hx))

mutual
theorem num_le : ∀ t : Tm, t.num ≤ 6 * t.sz
  | .mk k nm num ty fr lb ts => by
    have := numL_le ts
    simp only [Tm.num, Tm.sz]
    omega
theorem numL_le : ∀ ts : List Tm, numL ts ≤ 6 * (ts.length + szML ts)
  | [] => by simp [numL]
  | t :: ts => by
    have h1 := num_le t
    have h2 := numL_le ts
    simp only [numL, List.length_cons, szML]
    omega
end
end Go.Proofs.YtjpmlmdbldcbjaaDoor
