/- SafeFor: what one cast can blame; the specification's. -/
import Derived.Test.YtgiimijooabioaaDoorBl5
import Derived.Test.YtgiimijooabioaaDoorBlS
import Derived.Test.YtgiimijooabioaaDoorBlI
import Derived.Test.YtgiimijooabioaaDoorC4
namespace Go.Proofs.YtgiimijooabioaaDoor
open Go.RowKit

theorem own4_prt8 {nm : ByteArray} {num : Int} {ty fr : Ty} {lb : Int} (h : own4 nm num ty fr lb = true) : isLb lb = true ∧ shp 4 ty = true ∧ shp 4 fr = true := by
  simp only [own4, Bool.and_eq_true] at h
  exact ⟨h.1.1.1.2, h.1.1.2, h.1.2⟩

theorem isLb_rng8 {lb : Int} (h : isLb lb = true) : lb ≠ 0 ∧ -99 ≤ lb ∧ lb ≤ 99 := by
  simp only [isLb, Bool.and_eq_true, decide_eq_true_eq, bne_iff_ne] at h
  exact ⟨h.1.1, h.1.2, h.2⟩

set_option maxRecDepth 100000 in
set_option maxHeartbeats 2000000 in
theorem canBlame_any (k : Int) (nm : ByteArray) (num : Int) (ty fr : Ty) (lb l : Int) (n3 : Nat) (k1 k2 : Int) (n1 c1 n2 c2 c3 : Nat) (a1 a2 a3 : Option Addr) (f1 f2 : List Nat) (w : World) (hty : shp 4 ty = true) (hfr : shp 4 fr = true) (hl1 : -99 ≤ lb) (hl2 : lb ≤ 99)
    (ht1 : ty.At w (.agg #[.int .i64 k1, .slice a1 n1 c1]) f1) (ht2 : fr.At w (.agg #[.int .i64 k2, .slice a2 n2 c2]) f2) :
    Calls Tryd.prog 56 #[.agg #[.int .i64 k, .string nm, .int .i64 num, .int .i64 k1, .slice a1 n1 c1, .int .i64 k2, .slice a2 n2 c2, .int .i64 lb, .slice a3 n3 c3], .int .i64 l] w fun e w' => e = .returned (.bool (canB fr ty lb l)) ∧ Below w.heap.size w w' := by
  have hb0 : Below w.heap.size w (w.alloc (Obj.cells #[.int .i64 k, .string nm, .int .i64 num, .int .i64 k1, .slice a1 n1 c1, .int .i64 k2, .slice a2 n2 c2, .int .i64 lb, .slice a3 n3 c3] 35)) := (Below.refl _ _).alloc (Nat.le_refl _) _
  have HB0 := hid hb0
  have HT := hid (And.intro (ht1.below hb0) (ht2.below hb0))
  have HH := hid (fun p hp v1 v2 f1 f2 w h1 h2 => hol_any 4 p fr ty v1 v2 f1 f2 w hp hfr hty h1 h2)
  have HP := hid (show pol 1 ∧ pol (-1) by unfold pol; omega)
  obtain ⟨x0, x1, x2, x3, x4, x5, x6, x7, x8⟩ := box9 (Below.refl ((w.alloc (Obj.cells #[.int .i64 k, .string nm, .int .i64 num, .int .i64 k1, .slice a1 n1 c1, .int .i64 k2, .slice a2 n2 c2, .int .i64 lb, .slice a3 n3 c3] 35))).heap.size (w.alloc (Obj.cells #[.int .i64 k, .string nm, .int .i64 num, .int .i64 k1, .slice a1 n1 c1, .int .i64 k2, .slice a2 n2 c2, .int .i64 lb, .slice a3 n3 c3] 35)))
  clear ht1 ht2 hty hfr hb0
  by_cases h1 : l = lb
  · subst h1
    have HR := hid (show canB fr ty l l = !sub 4 1 fr ty by unfold canB; rw [if_pos rfl])
    have HQ := hid (HH.out 1 HP.out.1 _ _ _ _ _ HT.out.2 HT.out.1)
    generalize sub 4 1 fr ty = r at *
    clear HH HT HP
    go_enter Tryd.func56, Tryd.ntmps56
    go_wp2_with fail
    refine HQ.out.mono ?_
    rintro e w1 ⟨rfl, hb1⟩
    go_wp2_with fail
    go_ret
    exact ⟨ret_b HR.out.symm, below_trans HB0.out hb1⟩
  have q1 : (l == lb) = false := by rw [beq_eq_false_iff_ne]; exact h1
  by_cases h2 : l = -lb
  · have HR := hid (show canB fr ty lb l = !sub 4 (-1) fr ty by unfold canB; rw [if_neg h1, if_pos h2])
    have q2 : (l == -lb) = true := by rw [beq_iff_eq]; exact h2
    have HQ := hid (HH.out (-1) HP.out.2 _ _ _ _ _ HT.out.2 HT.out.1)
    generalize canB fr ty lb l = R at *
    generalize sub 4 (-1) fr ty = r at *
    clear HH HT HP h1 h2
    go_enter Tryd.func56, Tryd.ntmps56
    go_wp2_with fail
    refine HQ.out.mono ?_
    rintro e w1 ⟨rfl, hb1⟩
    go_wp2_with fail
    go_ret
    exact ⟨ret_b HR.out.symm, below_trans HB0.out hb1⟩
  · have HR := hid (show canB fr ty lb l = false by unfold canB; rw [if_neg h1, if_neg h2])
    have q2 : (l == -lb) = false := by rw [beq_eq_false_iff_ne]; exact h2
    generalize canB fr ty lb l = R at *
    clear HH HT HP h1 h2
    go_enter Tryd.func56, Tryd.ntmps56
    go_wp2_with fail
    go_ret
    exact ⟨ret_b HR.out.symm, HB0.out⟩

def L8C (t : Tm) : Prop := ∀ (d : Nat) (l : Int) (v : Value) (fp : List Nat) (w : World), isLb l = true → shpC d t = true → t.At w v fp →
  Calls Tryd.prog 49 #[v, .int .i64 l] w fun e w' => e = .returned (.bool (safN l t)) ∧ Below w.heap.size w w'

set_option maxRecDepth 100000 in
set_option maxHeartbeats 4000000 in
theorem l8Safe_of (k : Int) (nm : ByteArray) (num : Int) (ty fr : Ty) (lb : Int) (ts : List Tm) (ih : ∀ t ∈ ts, L8C t) : L8C (.mk k nm num ty fr lb ts) := by
  intro d l v fp w hl hsh hat
  obtain ⟨d', hkids, h14⟩ := shpC_node hsh
  have HIH := hid (fun (t : Tm) (ht : t ∈ ts) (v : Value) (fp : List Nat) (w : World) (h : t.At w v fp) => ih t ht d' l v fp w hl (hkids t ht) h)
  obtain ⟨hl0, hl1, hl2⟩ := isLb_rng8 hl
  clear ih hsh hkids hl
  obtain ⟨k1, n1, a1, c1, k2, n2, a2, c2, a3, c3, f1, f2, f3, rfl, hnm, ht1, ht2, rfl, hs⟩ := hat.parts
  obtain ⟨a, cap, hss, hc, hm, hget⟩ := hs.open
  cases hss
  have HG := hid hget
  have hb0 : Below w.heap.size w (w.alloc (Obj.cells #[.int .i64 k, .string nm, .int .i64 num, .int .i64 k1, .slice a1 n1 c1, .int .i64 k2, .slice a2 n2 c2, .int .i64 lb, .slice a3 ts.length c3] 35)) := (Below.refl _ _).alloc (Nat.le_refl _) _
  have HB0 := hid hb0
  have HO := hid h14
  have HT := hid (And.intro (ht1.below hb0) (ht2.below hb0))
  have HE0 := hid (show safN l (.mk k nm num ty fr lb ts) = (!(k == 14 && canB fr ty lb l) && safL l ts) by rw [safN])
  obtain ⟨x0, x1, x2, x3, x4, x5, x6, x7, x8⟩ := box9 (Below.refl ((w.alloc (Obj.cells #[.int .i64 k, .string nm, .int .i64 num, .int .i64 k1, .slice a1 n1 c1, .int .i64 k2, .slice a2 n2 c2, .int .i64 lb, .slice a3 ts.length c3] 35))).heap.size (w.alloc (Obj.cells #[.int .i64 k, .string nm, .int .i64 num, .int .i64 k1, .slice a1 n1 c1, .int .i64 k2, .slice a2 n2 c2, .int .i64 lb, .slice a3 ts.length c3] 35)))
  clear hget hs hat ht1 ht2 hb0 h14 hnm
  by_cases hk : k = 14
  · subst hk
    obtain ⟨hlb, hty, hfr⟩ := own4_prt8 (HO.out rfl)
    obtain ⟨hb0', hlb1, hlb2⟩ := isLb_rng8 hlb
    have HQ1 := hid ((pn_any 4 (by omega)).1 fr ty _ _ _ _ _ hfr hty HT.out.2 HT.out.1)
    have HQ2 := hid ((pn_any 4 (by omega)).2 fr ty _ _ _ _ _ hfr hty HT.out.2 HT.out.1)
    clear HO HT hlb hty hfr
    by_cases h1 : lb = l
    · have q1 : (lb == l) = true := by rw [beq_iff_eq]; exact h1
      have q2 : (lb == -l) = false := by rw [beq_eq_false_iff_ne]; omega
      have HE := hid (show safN l (.mk 14 nm num ty fr lb ts) = (sub 4 1 fr ty && safL l ts) by
        rw [HE0.out]
        unfold canB
        rw [if_pos h1.symm]
        simp)
      clear HE0 HQ2
      generalize safN l (.mk 14 nm num ty fr lb ts) = R at *
      generalize sub 4 1 fr ty = r at *
      clear h1
      go_enter Tryd.func49, Tryd.ntmps49
      go_wp2_with fail
      refine HQ1.out.mono ?_
      rintro e w1 ⟨rfl, hb1⟩
      obtain ⟨z0, z1, z2, z3, z4, z5, z6, z7, z8⟩ := box9 hb1
      cases r
      · go_wp2_with fail
        go_ret
        exact ⟨ret_b (by rw [HE.out]; rfl), below_trans HB0.out hb1⟩
      · rw [Bool.true_and] at HE
        have HBS := hid hb1
        clear hb1
        clear x0 x1 x2 x3 x4 x5 x6 x7 x8
        go_wp2_with fail
        clear z0 z1 z2 z3 z4 z5 z6 z7 z8
        go_loopw [5] (fun i wr => ∃ (j : Nat), j ≤ ts.length ∧ i = .int .i64 j ∧ safL l (ts.drop j) = safL l ts ∧ Below ((w.alloc (Obj.cells #[.int .i64 14, .string nm, .int .i64 num, .int .i64 k1, .slice a1 n1 c1, .int .i64 k2, .slice a2 n2 c2, .int .i64 lb, .slice a3 ts.length c3] 35))).heap.size (w.alloc (Obj.cells #[.int .i64 14, .string nm, .int .i64 num, .int .i64 k1, .slice a1 n1 c1, .int .i64 k2, .slice a2 n2 c2, .int .i64 lb, .slice a3 ts.length c3] 35)) wr) (fun i _ => ts.length - (intOf i).toNat)
        case atStart => exact ⟨0, Nat.zero_le _, rfl, rfl, HBS.out⟩
        case round =>
          obtain ⟨j, hj, rfl, hdr, hb⟩ := hrel
          have HD := hid hdr
          clear hdr
          obtain ⟨x0, x1, x2, x3, x4, x5, x6, x7, x8⟩ := box9 hb
          have hbw : Below w.heap.size w wr := below_trans HB0.out hb
          by_cases hlk : j < ts.length
          · obtain ⟨b, o, q0, q1, q2, q3, q4, q5, q6, q7, q8, q9, q10, q11, q12, q13, q14, g1, hab, hblt, e0, e1, e2, e3, e4, e5, e6, e7, e8, hat, -⟩ := HG.out j hlk
            subst hab
            replace e0 := cell_keep e0 hbw
            replace e1 := cell_keep e1 hbw
            replace e2 := cell_keep e2 hbw
            replace e3 := cell_keep e3 hbw
            replace e4 := cell_keep e4 hbw
            replace e5 := cell_keep e5 hbw
            replace e6 := cell_keep e6 hbw
            replace e7 := cell_keep e7 hbw
            replace e8 := cell_keep e8 hbw
            have HIJ := hid (fun (w' : World) (h : Below w.heap.size w w') => HIH.out _ (List.getElem_mem hlk) _ _ w' (hat.below h))
            have HST := hid (safL_step (l := l) hlk)
            generalize safN l ts[j] = r at *
            clear hat hblt
            go_wp2_with fail
            refine (HIJ.out _ hbw).mono ?_
            rintro e w1 ⟨rfl, hb1⟩
            have hbb := hb.trans (hb1.mono hb.size)
            have HBB := hid (below_trans HB0.out hbb)
            clear hb hb1 hbw e0 e1 e2 e3 e4 e5 e6 e7 e8
            cases r
            · go_wp2_with fail
              go_ret
              exact ⟨ret_b (by rw [HE.out, ← HD.out, HST.out]; rfl), HBB.out⟩
            · go_wp2_with fail
              go_roundw
              case rel => exact ⟨j + 1, by omega, by go_num, by rw [← HD.out, HST.out, Bool.true_and], hbb⟩
              case measure => simp [intOf]; omega
          · have hcl : safL l ts = true := by rw [← HD.out, List.drop_of_length_le (by omega)]; rfl
            have HCL := hid hcl
            clear hcl
            go_wp2_with fail
            go_ret
            exact ⟨ret_b (by rw [HE.out, HCL.out]), hbw⟩
    have q1 : (lb == l) = false := by rw [beq_eq_false_iff_ne]; exact h1
    by_cases h2 : lb = -l
    · have q2 : (lb == -l) = true := by rw [beq_iff_eq]; exact h2
      have HE := hid (show safN l (.mk 14 nm num ty fr lb ts) = (sub 4 (-1) fr ty && safL l ts) by
        rw [HE0.out]
        unfold canB
        rw [if_neg (fun e => h1 e.symm), if_pos (by omega)]
        simp)
      clear HE0 HQ1
      generalize safN l (.mk 14 nm num ty fr lb ts) = R at *
      generalize sub 4 (-1) fr ty = r at *
      clear h1 h2
      go_enter Tryd.func49, Tryd.ntmps49
      go_wp2_with fail
      refine HQ2.out.mono ?_
      rintro e w1 ⟨rfl, hb1⟩
      obtain ⟨z0, z1, z2, z3, z4, z5, z6, z7, z8⟩ := box9 hb1
      cases r
      · go_wp2_with fail
        go_ret
        exact ⟨ret_b (by rw [HE.out]; rfl), below_trans HB0.out hb1⟩
      · rw [Bool.true_and] at HE
        have HBS := hid hb1
        clear hb1
        clear x0 x1 x2 x3 x4 x5 x6 x7 x8
        go_wp2_with fail
        clear z0 z1 z2 z3 z4 z5 z6 z7 z8
        go_loopw [5] (fun i wr => ∃ (j : Nat), j ≤ ts.length ∧ i = .int .i64 j ∧ safL l (ts.drop j) = safL l ts ∧ Below ((w.alloc (Obj.cells #[.int .i64 14, .string nm, .int .i64 num, .int .i64 k1, .slice a1 n1 c1, .int .i64 k2, .slice a2 n2 c2, .int .i64 lb, .slice a3 ts.length c3] 35))).heap.size (w.alloc (Obj.cells #[.int .i64 14, .string nm, .int .i64 num, .int .i64 k1, .slice a1 n1 c1, .int .i64 k2, .slice a2 n2 c2, .int .i64 lb, .slice a3 ts.length c3] 35)) wr) (fun i _ => ts.length - (intOf i).toNat)
        case atStart => exact ⟨0, Nat.zero_le _, rfl, rfl, HBS.out⟩
        case round =>
          obtain ⟨j, hj, rfl, hdr, hb⟩ := hrel
          have HD := hid hdr
          clear hdr
          obtain ⟨x0, x1, x2, x3, x4, x5, x6, x7, x8⟩ := box9 hb
          have hbw : Below w.heap.size w wr := below_trans HB0.out hb
          by_cases hlk : j < ts.length
          · obtain ⟨b, o, q0, q1, q2, q3, q4, q5, q6, q7, q8, q9, q10, q11, q12, q13, q14, g1, hab, hblt, e0, e1, e2, e3, e4, e5, e6, e7, e8, hat, -⟩ := HG.out j hlk
            subst hab
            replace e0 := cell_keep e0 hbw
            replace e1 := cell_keep e1 hbw
            replace e2 := cell_keep e2 hbw
            replace e3 := cell_keep e3 hbw
            replace e4 := cell_keep e4 hbw
            replace e5 := cell_keep e5 hbw
            replace e6 := cell_keep e6 hbw
            replace e7 := cell_keep e7 hbw
            replace e8 := cell_keep e8 hbw
            have HIJ := hid (fun (w' : World) (h : Below w.heap.size w w') => HIH.out _ (List.getElem_mem hlk) _ _ w' (hat.below h))
            have HST := hid (safL_step (l := l) hlk)
            generalize safN l ts[j] = r at *
            clear hat hblt
            go_wp2_with fail
            refine (HIJ.out _ hbw).mono ?_
            rintro e w1 ⟨rfl, hb1⟩
            have hbb := hb.trans (hb1.mono hb.size)
            have HBB := hid (below_trans HB0.out hbb)
            clear hb hb1 hbw e0 e1 e2 e3 e4 e5 e6 e7 e8
            cases r
            · go_wp2_with fail
              go_ret
              exact ⟨ret_b (by rw [HE.out, ← HD.out, HST.out]; rfl), HBB.out⟩
            · go_wp2_with fail
              go_roundw
              case rel => exact ⟨j + 1, by omega, by go_num, by rw [← HD.out, HST.out, Bool.true_and], hbb⟩
              case measure => simp [intOf]; omega
          · have hcl : safL l ts = true := by rw [← HD.out, List.drop_of_length_le (by omega)]; rfl
            have HCL := hid hcl
            clear hcl
            go_wp2_with fail
            go_ret
            exact ⟨ret_b (by rw [HE.out, HCL.out]), hbw⟩
    · have q2 : (lb == -l) = false := by rw [beq_eq_false_iff_ne]; exact h2
      have HE := hid (show safN l (.mk 14 nm num ty fr lb ts) = safL l ts by
        rw [HE0.out]
        unfold canB
        rw [if_neg (fun e => h1 e.symm), if_neg (by omega)]
        simp)
      clear HE0 HQ1 HQ2
      generalize safN l (.mk 14 nm num ty fr lb ts) = R at *
      clear h1 h2
      have HBS := hid (Below.refl ((w.alloc (Obj.cells #[.int .i64 14, .string nm, .int .i64 num, .int .i64 k1, .slice a1 n1 c1, .int .i64 k2, .slice a2 n2 c2, .int .i64 lb, .slice a3 ts.length c3] 35))).heap.size (w.alloc (Obj.cells #[.int .i64 14, .string nm, .int .i64 num, .int .i64 k1, .slice a1 n1 c1, .int .i64 k2, .slice a2 n2 c2, .int .i64 lb, .slice a3 ts.length c3] 35)))
      go_enter Tryd.func49, Tryd.ntmps49
      go_wp2_with fail
      clear x0 x1 x2 x3 x4 x5 x6 x7 x8
      go_loopw [5] (fun i wr => ∃ (j : Nat), j ≤ ts.length ∧ i = .int .i64 j ∧ safL l (ts.drop j) = safL l ts ∧ Below ((w.alloc (Obj.cells #[.int .i64 14, .string nm, .int .i64 num, .int .i64 k1, .slice a1 n1 c1, .int .i64 k2, .slice a2 n2 c2, .int .i64 lb, .slice a3 ts.length c3] 35))).heap.size (w.alloc (Obj.cells #[.int .i64 14, .string nm, .int .i64 num, .int .i64 k1, .slice a1 n1 c1, .int .i64 k2, .slice a2 n2 c2, .int .i64 lb, .slice a3 ts.length c3] 35)) wr) (fun i _ => ts.length - (intOf i).toNat)
      case atStart => exact ⟨0, Nat.zero_le _, rfl, rfl, HBS.out⟩
      case round =>
        obtain ⟨j, hj, rfl, hdr, hb⟩ := hrel
        have HD := hid hdr
        clear hdr
        obtain ⟨x0, x1, x2, x3, x4, x5, x6, x7, x8⟩ := box9 hb
        have hbw : Below w.heap.size w wr := below_trans HB0.out hb
        by_cases hlk : j < ts.length
        · obtain ⟨b, o, q0, q1, q2, q3, q4, q5, q6, q7, q8, q9, q10, q11, q12, q13, q14, g1, hab, hblt, e0, e1, e2, e3, e4, e5, e6, e7, e8, hat, -⟩ := HG.out j hlk
          subst hab
          replace e0 := cell_keep e0 hbw
          replace e1 := cell_keep e1 hbw
          replace e2 := cell_keep e2 hbw
          replace e3 := cell_keep e3 hbw
          replace e4 := cell_keep e4 hbw
          replace e5 := cell_keep e5 hbw
          replace e6 := cell_keep e6 hbw
          replace e7 := cell_keep e7 hbw
          replace e8 := cell_keep e8 hbw
          have HIJ := hid (fun (w' : World) (h : Below w.heap.size w w') => HIH.out _ (List.getElem_mem hlk) _ _ w' (hat.below h))
          have HST := hid (safL_step (l := l) hlk)
          generalize safN l ts[j] = r at *
          clear hat hblt
          go_wp2_with fail
          refine (HIJ.out _ hbw).mono ?_
          rintro e w1 ⟨rfl, hb1⟩
          have hbb := hb.trans (hb1.mono hb.size)
          have HBB := hid (below_trans HB0.out hbb)
          clear hb hb1 hbw e0 e1 e2 e3 e4 e5 e6 e7 e8
          cases r
          · go_wp2_with fail
            go_ret
            exact ⟨ret_b (by rw [HE.out, ← HD.out, HST.out]; rfl), HBB.out⟩
          · go_wp2_with fail
            go_roundw
            case rel => exact ⟨j + 1, by omega, by go_num, by rw [← HD.out, HST.out, Bool.true_and], hbb⟩
            case measure => simp [intOf]; omega
        · have hcl : safL l ts = true := by rw [← HD.out, List.drop_of_length_le (by omega)]; rfl
          have HCL := hid hcl
          clear hcl
          go_wp2_with fail
          go_ret
          exact ⟨ret_b (by rw [HE.out, HCL.out]), hbw⟩
  · have hk' : (k == 14) = false := by simpa using hk
    have HE := hid (show safN l (.mk k nm num ty fr lb ts) = safL l ts by rw [HE0.out, hk']; simp)
    clear HE0 HO HT hk
    generalize safN l (.mk k nm num ty fr lb ts) = R at *
    have HBS := hid (Below.refl ((w.alloc (Obj.cells #[.int .i64 k, .string nm, .int .i64 num, .int .i64 k1, .slice a1 n1 c1, .int .i64 k2, .slice a2 n2 c2, .int .i64 lb, .slice a3 ts.length c3] 35))).heap.size (w.alloc (Obj.cells #[.int .i64 k, .string nm, .int .i64 num, .int .i64 k1, .slice a1 n1 c1, .int .i64 k2, .slice a2 n2 c2, .int .i64 lb, .slice a3 ts.length c3] 35)))
    go_enter Tryd.func49, Tryd.ntmps49
    go_wp2_with fail
    clear x0 x1 x2 x3 x4 x5 x6 x7 x8
    go_loopw [5] (fun i wr => ∃ (j : Nat), j ≤ ts.length ∧ i = .int .i64 j ∧ safL l (ts.drop j) = safL l ts ∧ Below ((w.alloc (Obj.cells #[.int .i64 k, .string nm, .int .i64 num, .int .i64 k1, .slice a1 n1 c1, .int .i64 k2, .slice a2 n2 c2, .int .i64 lb, .slice a3 ts.length c3] 35))).heap.size (w.alloc (Obj.cells #[.int .i64 k, .string nm, .int .i64 num, .int .i64 k1, .slice a1 n1 c1, .int .i64 k2, .slice a2 n2 c2, .int .i64 lb, .slice a3 ts.length c3] 35)) wr) (fun i _ => ts.length - (intOf i).toNat)
    case atStart => exact ⟨0, Nat.zero_le _, rfl, rfl, HBS.out⟩
    case round =>
      obtain ⟨j, hj, rfl, hdr, hb⟩ := hrel
      have HD := hid hdr
      clear hdr
      obtain ⟨x0, x1, x2, x3, x4, x5, x6, x7, x8⟩ := box9 hb
      have hbw : Below w.heap.size w wr := below_trans HB0.out hb
      by_cases hlk : j < ts.length
      · obtain ⟨b, o, q0, q1, q2, q3, q4, q5, q6, q7, q8, q9, q10, q11, q12, q13, q14, g1, hab, hblt, e0, e1, e2, e3, e4, e5, e6, e7, e8, hat, -⟩ := HG.out j hlk
        subst hab
        replace e0 := cell_keep e0 hbw
        replace e1 := cell_keep e1 hbw
        replace e2 := cell_keep e2 hbw
        replace e3 := cell_keep e3 hbw
        replace e4 := cell_keep e4 hbw
        replace e5 := cell_keep e5 hbw
        replace e6 := cell_keep e6 hbw
        replace e7 := cell_keep e7 hbw
        replace e8 := cell_keep e8 hbw
        have HIJ := hid (fun (w' : World) (h : Below w.heap.size w w') => HIH.out _ (List.getElem_mem hlk) _ _ w' (hat.below h))
        have HST := hid (safL_step (l := l) hlk)
        generalize safN l ts[j] = r at *
        clear hat hblt
        go_wp2_with fail
        refine (HIJ.out _ hbw).mono ?_
        rintro e w1 ⟨rfl, hb1⟩
        have hbb := hb.trans (hb1.mono hb.size)
        have HBB := hid (below_trans HB0.out hbb)
        clear hb hb1 hbw e0 e1 e2 e3 e4 e5 e6 e7 e8
        cases r
        · go_wp2_with fail
          go_ret
          exact ⟨ret_b (by rw [HE.out, ← HD.out, HST.out]; rfl), HBB.out⟩
        · go_wp2_with fail
          go_roundw
          case rel => exact ⟨j + 1, by omega, by go_num, by rw [← HD.out, HST.out, Bool.true_and], hbb⟩
          case measure => simp [intOf]; omega
      · have hcl : safL l ts = true := by rw [← HD.out, List.drop_of_length_le (by omega)]; rfl
        have HCL := hid hcl
        clear hcl
        go_wp2_with fail
        go_ret
        exact ⟨ret_b (by rw [HE.out, HCL.out]), hbw⟩

theorem l8Safe_any : ∀ t : Tm, L8C t := Tm.ind l8Safe_of

theorem vldC_shp {t : Tm} (h : vldC t = true) : shpC 40 t = true := by unfold vldC at h; simp only [Bool.and_eq_true] at h; exact h.1

set_option maxHeartbeats 1000000 in
theorem specSafeFor (l : Int) (t : Tm) (v : Value) (fp : List Nat) (w : World) (hsz : t.sz ≤ 1048576) (hat : t.At w v fp) :
    Calls Tryd.prog 13 #[v, .int .i64 l] w fun e w' => e = .returned (.bool (safOf l t)) ∧ Below w.heap.size w w' := by
  have hat0 := hat
  obtain ⟨k, nm, num, k1, n1, a1, c1, k2, n2, a2, c2, lb, n3, a3, c3, rfl⟩ := hat.agg
  have hb0 : Below w.heap.size w (w.alloc (Obj.cells #[.int .i64 k, .string nm, .int .i64 num, .int .i64 k1, .slice a1 n1 c1, .int .i64 k2, .slice a2 n2 c2, .int .i64 lb, .slice a3 n3 c3] 35)) := (Below.refl _ _).alloc (Nat.le_refl _) _
  have HCV := hid (specCastValid t _ _ _ hsz (hat0.below hb0))
  have HV := hid (fun (w' : World) (h : Below w.heap.size w w') (hv : vldC t = true) (hl : isLb l = true) => l8Safe_any t 40 l _ _ w' hl (vldC_shp hv) (hat0.below h))
  have HE := hid (show safOf l t = (vldC t && isLb l && safN l t) from rfl)
  have HLB := hid (fun w => l6Label_any l w)
  have HB := hid hb0
  generalize safOf l t = R at *
  generalize vldC t = cv at *
  generalize isLb l = cl at *
  generalize safN l t = r at *
  clear hat hat0 hb0
  go_enter Tryd.func13, Tryd.ntmps13
  go_wp2_with fail
  refine HCV.out.mono ?_
  rintro e w1 ⟨rfl, hb1⟩
  obtain ⟨z0, z1, z2, z3, z4, z5, z6, z7, z8⟩ := box9 hb1
  have HB1 := hid (below_trans HB.out hb1)
  cases cv
  · go_wp2_with fail
    go_ret
    exact ⟨ret_b (by rw [HE.out]; rfl), HB1.out⟩
  · go_wp2_with fail
    refine (HLB.out _).mono ?_
    rintro e w2 ⟨rfl, rfl⟩
    cases cl
    · go_wp2_with fail
      go_ret
      exact ⟨ret_b (by rw [HE.out]; rfl), HB1.out⟩
    · go_wp2_with fail
      refine (HV.out _ HB1.out (by simp) (by simp)).mono ?_
      rintro e w3 ⟨rfl, hb3⟩
      go_wp2_with fail
      go_ret
      exact ⟨ret_b (by rw [HE.out]; rfl), below_trans HB1.out hb3⟩
end Go.Proofs.YtgiimijooabioaaDoor
