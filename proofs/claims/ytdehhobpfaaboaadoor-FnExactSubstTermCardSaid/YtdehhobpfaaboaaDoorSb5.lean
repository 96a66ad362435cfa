/- SubstTerm, of both sides. -/
import Derived.Test.YtdehhobpfaaboaaDoorPkF
import Derived.Test.YtdehhobpfaaboaaDoorPkE
namespace Go.Proofs.YtdehhobpfaaboaaDoor
open Go.RowKit

def zSb : Tm := .mk 0 ByteArray.empty 0 (.mk 0 []) (.mk 0 []) 0 []

def sbOk (name : ByteArray) (t u : Tm) : Bool := vldM t && (vldM u && (isNm name && (decide (freeS u = ⟨#[]⟩) && vldM (subT name u t))))
def sbT (name : ByteArray) (t u : Tm) : Tm := if sbOk name t u then subT name u t else zSb

def MadeSb (w : World) (t : Tm) (ok : Bool) (e : Ending) (w' : World) : Prop := ∃ v fp, e = .returned (.tuple #[v, .bool ok]) ∧ t.At w' v fp ∧ Fresh w.heap.size w' fp ∧ Below w.heap.size w w'

theorem zSb_at (w : World) : zSb.At w (.agg #[.int .i64 0, .string ByteArray.empty, .int .i64 0, .int .i64 0, .slice none 0 0, .int .i64 0, .slice none 0 0, .int .i64 0, .slice none 0 0]) [] :=
  Tm.at_mk.2 ⟨_, _, _, _, _, [], [], [], rfl, by simp, Ty.at_mk.2 ⟨_, rfl, .inl ⟨rfl, rfl, _, _, rfl⟩⟩, Ty.at_mk.2 ⟨_, rfl, .inl ⟨rfl, rfl, _, _, rfl⟩⟩, rfl, .inl ⟨rfl, rfl, _, _, rfl⟩⟩

theorem sb_zero {name : ByteArray} {t u : Tm} {w w1 : World} {B : Nat} (h : sbOk name t u = false) (hb : Below w.heap.size w w1) (hB : w.heap.size ≤ B) : MadeSb w (sbT name t u) (sbOk name t u) (.returned (.tuple #[.agg (Array.mk [.int .i64 0, .string ByteArray.empty, .int .i64 0, .int .i64 0, .slice none 0 0, .int .i64 0, .slice none 0 0, .int .i64 0, .slice none 0 0]), .bool false])) (put w1 B 0 [.int .i64 0, .string ByteArray.empty, .int .i64 0, .int .i64 0, .slice none 0 0, .int .i64 0, .slice none 0 0, .int .i64 0, .slice none 0 0]) := by
  rw [sbT, h]
  exact ⟨_, [], rfl, zSb_at _, Fresh.nil _ _, below_put hb hB⟩

theorem sb_made {name : ByteArray} {t u : Tm} {w w1 w2 : World} {B : Nat} {r0 r2 r3 r7 r11 : Int} {r1 : ByteArray} {r4 r6 r8 r10 r12 r14 : Nat} {r5 r9 r13 : Option Addr} {f' : List Nat} (h : sbOk name t u = true) (hat : (subT name u t).At w1 (.agg #[.int .i64 r0, .string r1, .int .i64 r2, .int .i64 r3, .slice r5 r4 r6, .int .i64 r7, .slice r9 r8 r10, .int .i64 r11, .slice r13 r12 r14]) f') (hf : Fresh (B + 1) w1 f') (hb : Below w.heap.size w w2) (hb2 : Below w1.heap.size w1 w2) (hB : w.heap.size ≤ B) :
    MadeSb w (sbT name t u) (sbOk name t u) (.returned (.tuple #[.agg (Array.mk [.int .i64 r0, .string r1, .int .i64 r2, .int .i64 r3, .slice r5 r4 r6, .int .i64 r7, .slice r9 r8 r10, .int .i64 r11, .slice r13 r12 r14]), .bool true])) (put w2 B 0 [.int .i64 r0, .string r1, .int .i64 r2, .int .i64 r3, .slice r5 r4 r6, .int .i64 r7, .slice r9 r8 r10, .int .i64 r11, .slice r13 r12 r14]) := by
  have ab : Above (B + 1) w2 (put w2 B 0 [.int .i64 r0, .string r1, .int .i64 r2, .int .i64 r3, .slice r5 r4 r6, .int .i64 r7, .slice r9 r8 r10, .int .i64 r11, .slice r13 r12 r14]) := (Above.refl _ _).put (Nat.lt_succ_self _)
  rw [sbT, h]
  exact ⟨_, f', rfl, (hat.below hb2).above ab hf.ge, ((hf.below hb2).above ab (Nat.le_refl _)).mono (by omega), below_put hb hB⟩

set_option maxRecDepth 100000 in
set_option maxHeartbeats 4000000 in
theorem specSubstTerm (name : ByteArray) (hnl : name.size ≤ 9223372036854775807) (t u : Tm) (v v2 : Value) (fp fp2 : List Nat) (w : World) (hsz : t.sz ≤ 1048576) (husz : u.sz ≤ 1048576) (hat : t.At w v fp) (hu : u.At w v2 fp2) :
    Calls Tryd.prog 35 #[v, .string name, v2] w (MadeSb w (sbT name t u) (sbOk name t u)) := by
  have hat0 := hat
  have hu0 := hu
  obtain ⟨k, nm, num, k1, n1, a1, c1, k2, n2, a2, c2, lb, n3, a3, c3, rfl⟩ := hat.agg
  obtain ⟨vk, vnm, vnum, vk1, vn1, va1, vc1, vk2, vn2, va2, vc2, vlb, vn3, va3, vc3, rfl⟩ := hu.agg
  have hb0 : Below w.heap.size w (((w.alloc (Obj.cells #[.int .i64 k, .string nm, .int .i64 num, .int .i64 k1, .slice a1 n1 c1, .int .i64 k2, .slice a2 n2 c2, .int .i64 lb, .slice a3 n3 c3] 34)).alloc (Obj.cells #[.int .i64 vk, .string vnm, .int .i64 vnum, .int .i64 vk1, .slice va1 vn1 vc1, .int .i64 vk2, .slice va2 vn2 vc2, .int .i64 vlb, .slice va3 vn3 vc3] 34)).alloc (Obj.cells #[.int .i64 0, .string ByteArray.empty, .int .i64 0, .int .i64 0, .slice none 0 0, .int .i64 0, .slice none 0 0, .int .i64 0, .slice none 0 0] 34)) := (((Below.refl _ _).alloc (Nat.le_refl _) _).alloc (by simp) _).alloc (by simp; omega) _
  have hs0 : ((((w.alloc (Obj.cells #[.int .i64 k, .string nm, .int .i64 num, .int .i64 k1, .slice a1 n1 c1, .int .i64 k2, .slice a2 n2 c2, .int .i64 lb, .slice a3 n3 c3] 34)).alloc (Obj.cells #[.int .i64 vk, .string vnm, .int .i64 vnum, .int .i64 vk1, .slice va1 vn1 vc1, .int .i64 vk2, .slice va2 vn2 vc2, .int .i64 vlb, .slice va3 vn3 vc3] 34)).alloc (Obj.cells #[.int .i64 0, .string ByteArray.empty, .int .i64 0, .int .i64 0, .slice none 0 0, .int .i64 0, .slice none 0 0, .int .i64 0, .slice none 0 0] 34))).heap.size = w.heap.size + 1 + 1 + 1 := by simp
  have HV1 := hid (specTermValid t _ _ _ hsz (hat0.below hb0))
  have HV2 := hid (fun (w' : World) (h : Below w.heap.size w w') => specTermValid u _ _ w' husz (hu0.below h))
  have HNM := hid (fun w' => l2Name_any name hnl w')
  have HFR := hid (fun (w' : World) (h : Below w.heap.size w w') (hv : vldM u = true) => show Calls Tryd.prog 81 #[.string ⟨#[]⟩, _, .string ⟨#[]⟩] w' fun e w'' => e = .returned (.string (freeS u)) ∧ Below w'.heap.size w' w'' by
    have := l2Free_any u 0 0 12 _ _ w' (by omega) (by omega) (vldM_shp hv) (hu0.below h) husz
    rw [strN_zero] at this
    rwa [freeS, if_pos hv])
  have HSB := hid (fun (w' : World) (h : Below w.heap.size w w') (_ : vldM t = true) (_ : vldM u = true) => l2Subst_any name u t _ _ _ _ w' (hat0.below h) (hu0.below h) hsz husz)
  have HV3 := hid (fun (w' : World) (x : Value) (f : List Nat) (h : vldM t = true) (h' : vldM u = true) (_ : Below w.heap.size w w') (hx : (subT name u t).At w' x f) => specTermValid (subT name u t) x f w' (by have := subT_sz (name := name) h h'; omega) hx)
  have HOK := hid (show sbOk name t u = (vldM t && (vldM u && (isNm name && (decide (freeS u = ⟨#[]⟩) && vldM (subT name u t))))) from rfl)
  have HZ := hid (fun (w1 : World) (B : Nat) (h : sbOk name t u = false) (hb : Below w.heap.size w w1) (hB : w.heap.size ≤ B) => sb_zero (name := name) (t := t) (u := u) h hb hB)
  have HB0 := hid hb0
  have HZ0 := hid hs0
  obtain ⟨hB, hV, hZ⟩ := three_out (Below.refl _ _ : Below ((((w.alloc (Obj.cells #[.int .i64 k, .string nm, .int .i64 num, .int .i64 k1, .slice a1 n1 c1, .int .i64 k2, .slice a2 n2 c2, .int .i64 lb, .slice a3 n3 c3] 34)).alloc (Obj.cells #[.int .i64 vk, .string vnm, .int .i64 vnum, .int .i64 vk1, .slice va1 vn1 vc1, .int .i64 vk2, .slice va2 vn2 vc2, .int .i64 vlb, .slice va3 vn3 vc3] 34)).alloc (Obj.cells #[.int .i64 0, .string ByteArray.empty, .int .i64 0, .int .i64 0, .slice none 0 0, .int .i64 0, .slice none 0 0, .int .i64 0, .slice none 0 0] 34))).heap.size (((w.alloc (Obj.cells #[.int .i64 k, .string nm, .int .i64 num, .int .i64 k1, .slice a1 n1 c1, .int .i64 k2, .slice a2 n2 c2, .int .i64 lb, .slice a3 n3 c3] 34)).alloc (Obj.cells #[.int .i64 vk, .string vnm, .int .i64 vnum, .int .i64 vk1, .slice va1 vn1 vc1, .int .i64 vk2, .slice va2 vn2 vc2, .int .i64 vlb, .slice va3 vn3 vc3] 34)).alloc (Obj.cells #[.int .i64 0, .string ByteArray.empty, .int .i64 0, .int .i64 0, .slice none 0 0, .int .i64 0, .slice none 0 0, .int .i64 0, .slice none 0 0] 34)) _)
  obtain ⟨x0, x1, x2, x3, x4, x5, x6, x7, x8⟩ := cells9 hB
  obtain ⟨s0, s1, s2, s3, s4, s5, s6, s7, s8⟩ := cells9 hV
  obtain ⟨y0, y1, y2, y3, y4, y5, y6, y7, y8⟩ := cells9 hZ
  have yz := fun o => frozen_of_block (o := o) hZ
  have hM := lt_of_block hZ
  clear hB hV hZ
  clear hat hat0 hu hu0 hs0 hsz husz
  go_enter Tryd.func35, Tryd.ntmps35
  go_wp2_with fail
  refine HV1.out.mono ?_
  rintro e w1 ⟨rfl, hb1⟩
  have B1 := hid hb1
  clear x0 x1 x2 x3 x4 x5 x6 x7 x8 s0 s1 s2 s3 s4 s5 s6 s7 s8 y0 y1 y2 y3 y4 y5 y6 y7 y8 yz hM
  obtain ⟨hB, hV, hZ⟩ := three_out (hb1 : Below ((((w.alloc (Obj.cells #[.int .i64 k, .string nm, .int .i64 num, .int .i64 k1, .slice a1 n1 c1, .int .i64 k2, .slice a2 n2 c2, .int .i64 lb, .slice a3 n3 c3] 34)).alloc (Obj.cells #[.int .i64 vk, .string vnm, .int .i64 vnum, .int .i64 vk1, .slice va1 vn1 vc1, .int .i64 vk2, .slice va2 vn2 vc2, .int .i64 vlb, .slice va3 vn3 vc3] 34)).alloc (Obj.cells #[.int .i64 0, .string ByteArray.empty, .int .i64 0, .int .i64 0, .slice none 0 0, .int .i64 0, .slice none 0 0, .int .i64 0, .slice none 0 0] 34))).heap.size (((w.alloc (Obj.cells #[.int .i64 k, .string nm, .int .i64 num, .int .i64 k1, .slice a1 n1 c1, .int .i64 k2, .slice a2 n2 c2, .int .i64 lb, .slice a3 n3 c3] 34)).alloc (Obj.cells #[.int .i64 vk, .string vnm, .int .i64 vnum, .int .i64 vk1, .slice va1 vn1 vc1, .int .i64 vk2, .slice va2 vn2 vc2, .int .i64 vlb, .slice va3 vn3 vc3] 34)).alloc (Obj.cells #[.int .i64 0, .string ByteArray.empty, .int .i64 0, .int .i64 0, .slice none 0 0, .int .i64 0, .slice none 0 0, .int .i64 0, .slice none 0 0] 34)) _)
  obtain ⟨x0, x1, x2, x3, x4, x5, x6, x7, x8⟩ := cells9 hB
  obtain ⟨s0, s1, s2, s3, s4, s5, s6, s7, s8⟩ := cells9 hV
  obtain ⟨y0, y1, y2, y3, y4, y5, y6, y7, y8⟩ := cells9 hZ
  have yz := fun o => frozen_of_block (o := o) hZ
  have hM := lt_of_block hZ
  clear hB hV hZ
  cases hr1 : vldM t
  · have HN := hid (show sbOk name t u = false by rw [HOK.out, hr1]; rfl)
    have FIN := hid (HZ.out w1 (w.heap.size + 1 + 1) HN.out (below_trans HB0.out B1.out) (by omega))
    go_wp2_with fail
    exact bodyPost_ret (v := .tuple #[.agg (Array.mk [.int .i64 0, .string ByteArray.empty, .int .i64 0, .int .i64 0, .slice none 0 0, .int .i64 0, .slice none 0 0, .int .i64 0, .slice none 0 0]), .bool false]) (by simp [results, Tryd.results35, go_sem, y0, y1, y2, y3, y4, y5, y6, y7, y8]; rfl) rfl FIN.out
  · have HR1 := hid hr1
    clear hr1
    go_wp2_with fail
    refine (HV2.out _ (below_trans HB0.out B1.out)).mono ?_
    rintro e w2 ⟨rfl, hb2⟩
    have B2 := hid (below_trans B1.out hb2)
    clear hb2
    clear x0 x1 x2 x3 x4 x5 x6 x7 x8 s0 s1 s2 s3 s4 s5 s6 s7 s8 y0 y1 y2 y3 y4 y5 y6 y7 y8 yz hM
    obtain ⟨hB, hV, hZ⟩ := three_out (B2.out : Below ((((w.alloc (Obj.cells #[.int .i64 k, .string nm, .int .i64 num, .int .i64 k1, .slice a1 n1 c1, .int .i64 k2, .slice a2 n2 c2, .int .i64 lb, .slice a3 n3 c3] 34)).alloc (Obj.cells #[.int .i64 vk, .string vnm, .int .i64 vnum, .int .i64 vk1, .slice va1 vn1 vc1, .int .i64 vk2, .slice va2 vn2 vc2, .int .i64 vlb, .slice va3 vn3 vc3] 34)).alloc (Obj.cells #[.int .i64 0, .string ByteArray.empty, .int .i64 0, .int .i64 0, .slice none 0 0, .int .i64 0, .slice none 0 0, .int .i64 0, .slice none 0 0] 34))).heap.size (((w.alloc (Obj.cells #[.int .i64 k, .string nm, .int .i64 num, .int .i64 k1, .slice a1 n1 c1, .int .i64 k2, .slice a2 n2 c2, .int .i64 lb, .slice a3 n3 c3] 34)).alloc (Obj.cells #[.int .i64 vk, .string vnm, .int .i64 vnum, .int .i64 vk1, .slice va1 vn1 vc1, .int .i64 vk2, .slice va2 vn2 vc2, .int .i64 vlb, .slice va3 vn3 vc3] 34)).alloc (Obj.cells #[.int .i64 0, .string ByteArray.empty, .int .i64 0, .int .i64 0, .slice none 0 0, .int .i64 0, .slice none 0 0, .int .i64 0, .slice none 0 0] 34)) _)
    obtain ⟨x0, x1, x2, x3, x4, x5, x6, x7, x8⟩ := cells9 hB
    obtain ⟨s0, s1, s2, s3, s4, s5, s6, s7, s8⟩ := cells9 hV
    obtain ⟨y0, y1, y2, y3, y4, y5, y6, y7, y8⟩ := cells9 hZ
    have yz := fun o => frozen_of_block (o := o) hZ
    have hM := lt_of_block hZ
    clear hB hV hZ
    cases hr2 : vldM u
    · have HN := hid (show sbOk name t u = false by rw [HOK.out, HR1.out, hr2]; rfl)
      have FIN := hid (HZ.out w2 (w.heap.size + 1 + 1) HN.out (below_trans HB0.out B2.out) (by omega))
      go_wp2_with fail
      exact bodyPost_ret (v := .tuple #[.agg (Array.mk [.int .i64 0, .string ByteArray.empty, .int .i64 0, .int .i64 0, .slice none 0 0, .int .i64 0, .slice none 0 0, .int .i64 0, .slice none 0 0]), .bool false]) (by simp [results, Tryd.results35, go_sem, y0, y1, y2, y3, y4, y5, y6, y7, y8]; rfl) rfl FIN.out
    · have HR2 := hid hr2
      clear hr2
      go_wp2_with fail
      refine (HNM.out _).mono ?_
      rintro e w3 ⟨rfl, rfl⟩
      cases hr3 : isNm name
      · have HN := hid (show sbOk name t u = false by rw [HOK.out, HR1.out, HR2.out, hr3]; rfl)
        have FIN := hid (HZ.out w3 (w.heap.size + 1 + 1) HN.out (below_trans HB0.out B2.out) (by omega))
        go_wp2_with fail
        exact bodyPost_ret (v := .tuple #[.agg (Array.mk [.int .i64 0, .string ByteArray.empty, .int .i64 0, .int .i64 0, .slice none 0 0, .int .i64 0, .slice none 0 0, .int .i64 0, .slice none 0 0]), .bool false]) (by simp [results, Tryd.results35, go_sem, y0, y1, y2, y3, y4, y5, y6, y7, y8]; rfl) rfl FIN.out
      · have HR3 := hid hr3
        clear hr3
        go_wp2_with fail
        refine (HFR.out _ (below_trans HB0.out B2.out) HR2.out).mono ?_
        rintro e w4 ⟨rfl, hb4⟩
        have B4 := hid (below_trans B2.out hb4)
        clear hb4
        clear x0 x1 x2 x3 x4 x5 x6 x7 x8 s0 s1 s2 s3 s4 s5 s6 s7 s8 y0 y1 y2 y3 y4 y5 y6 y7 y8 yz hM
        obtain ⟨hB, hV, hZ⟩ := three_out (B4.out : Below ((((w.alloc (Obj.cells #[.int .i64 k, .string nm, .int .i64 num, .int .i64 k1, .slice a1 n1 c1, .int .i64 k2, .slice a2 n2 c2, .int .i64 lb, .slice a3 n3 c3] 34)).alloc (Obj.cells #[.int .i64 vk, .string vnm, .int .i64 vnum, .int .i64 vk1, .slice va1 vn1 vc1, .int .i64 vk2, .slice va2 vn2 vc2, .int .i64 vlb, .slice va3 vn3 vc3] 34)).alloc (Obj.cells #[.int .i64 0, .string ByteArray.empty, .int .i64 0, .int .i64 0, .slice none 0 0, .int .i64 0, .slice none 0 0, .int .i64 0, .slice none 0 0] 34))).heap.size (((w.alloc (Obj.cells #[.int .i64 k, .string nm, .int .i64 num, .int .i64 k1, .slice a1 n1 c1, .int .i64 k2, .slice a2 n2 c2, .int .i64 lb, .slice a3 n3 c3] 34)).alloc (Obj.cells #[.int .i64 vk, .string vnm, .int .i64 vnum, .int .i64 vk1, .slice va1 vn1 vc1, .int .i64 vk2, .slice va2 vn2 vc2, .int .i64 vlb, .slice va3 vn3 vc3] 34)).alloc (Obj.cells #[.int .i64 0, .string ByteArray.empty, .int .i64 0, .int .i64 0, .slice none 0 0, .int .i64 0, .slice none 0 0, .int .i64 0, .slice none 0 0] 34)) _)
        obtain ⟨x0, x1, x2, x3, x4, x5, x6, x7, x8⟩ := cells9 hB
        obtain ⟨s0, s1, s2, s3, s4, s5, s6, s7, s8⟩ := cells9 hV
        obtain ⟨y0, y1, y2, y3, y4, y5, y6, y7, y8⟩ := cells9 hZ
        have yz := fun o => frozen_of_block (o := o) hZ
        have hM := lt_of_block hZ
        clear hB hV hZ
        by_cases hr4 : freeS u = ⟨#[]⟩
        case neg =>
          have hne : ((freeS u).toList == (⟨#[]⟩ : ByteArray).toList) = false := name_ne hr4
          have hne2 : (freeS u).toList.isEmpty = false := by
            cases hx : (freeS u).toList with
            | nil => rw [hx] at hne; simp at hne
            | cons a b => rfl
          have HN := hid (show sbOk name t u = false by rw [HOK.out, HR1.out, HR2.out, HR3.out, decide_eq_false hr4]; rfl)
          clear hr4
          generalize freeS u = S at *
          clear HFR HOK
          have FIN := hid (HZ.out w4 (w.heap.size + 1 + 1) HN.out (below_trans HB0.out B4.out) (by omega))
          go_wp2_with fail
          exact bodyPost_ret (v := .tuple #[.agg (Array.mk [.int .i64 0, .string ByteArray.empty, .int .i64 0, .int .i64 0, .slice none 0 0, .int .i64 0, .slice none 0 0, .int .i64 0, .slice none 0 0]), .bool false]) (by simp [results, Tryd.results35, go_sem, y0, y1, y2, y3, y4, y5, y6, y7, y8]; rfl) rfl FIN.out
        rw [hr4]
        have HR4 := hid hr4
        clear hr4
        go_wp2_with fail
        refine (HSB.out _ (below_trans HB0.out B4.out) HR1.out HR2.out).mono ?_
        rintro e w5 ⟨v5, f', rfl, hat5, hf5, hb5⟩
        obtain ⟨r0, r1, r2, r3, r4, r5, r6, r7, r8, r9, r10, r11, r12, r13, r14, rfl⟩ := hat5.agg
        have hal : Below w5.heap.size w5 (w5.alloc (Obj.cells #[.int .i64 r0, .string r1, .int .i64 r2, .int .i64 r3, .slice r5 r4 r6, .int .i64 r7, .slice r9 r8 r10, .int .i64 r11, .slice r13 r12 r14] 34)) := (Below.refl _ _).alloc (Nat.le_refl _) _
        have B5 := hid (below_trans B4.out hb5)
        have B6 := hid (below_trans B5.out hal)
        have HF5 := hid (show Fresh (w.heap.size + 1 + 1 + 1) w5 f' from hf5.mono (by have := B4.out.size; have := HZ0.out; omega))
        have HV := hid (HV3.out (w5.alloc (Obj.cells #[.int .i64 r0, .string r1, .int .i64 r2, .int .i64 r3, .slice r5 r4 r6, .int .i64 r7, .slice r9 r8 r10, .int .i64 r11, .slice r13 r12 r14] 34)) _ f' HR1.out HR2.out (below_trans HB0.out B6.out) (hat5.below hal))
        have HAT5 := hid hat5
        have hO := alloc_new w5 (Obj.cells #[.int .i64 r0, .string r1, .int .i64 r2, .int .i64 r3, .slice r5 r4 r6, .int .i64 r7, .slice r9 r8 r10, .int .i64 r11, .slice r13 r12 r14] 34)
        have HAL := hid hal
        clear hat5 hf5 hb5 hal
        clear x0 x1 x2 x3 x4 x5 x6 x7 x8 s0 s1 s2 s3 s4 s5 s6 s7 s8 y0 y1 y2 y3 y4 y5 y6 y7 y8 yz hM
        obtain ⟨hB, hV, hZ⟩ := three_out (B6.out : Below ((((w.alloc (Obj.cells #[.int .i64 k, .string nm, .int .i64 num, .int .i64 k1, .slice a1 n1 c1, .int .i64 k2, .slice a2 n2 c2, .int .i64 lb, .slice a3 n3 c3] 34)).alloc (Obj.cells #[.int .i64 vk, .string vnm, .int .i64 vnum, .int .i64 vk1, .slice va1 vn1 vc1, .int .i64 vk2, .slice va2 vn2 vc2, .int .i64 vlb, .slice va3 vn3 vc3] 34)).alloc (Obj.cells #[.int .i64 0, .string ByteArray.empty, .int .i64 0, .int .i64 0, .slice none 0 0, .int .i64 0, .slice none 0 0, .int .i64 0, .slice none 0 0] 34))).heap.size (((w.alloc (Obj.cells #[.int .i64 k, .string nm, .int .i64 num, .int .i64 k1, .slice a1 n1 c1, .int .i64 k2, .slice a2 n2 c2, .int .i64 lb, .slice a3 n3 c3] 34)).alloc (Obj.cells #[.int .i64 vk, .string vnm, .int .i64 vnum, .int .i64 vk1, .slice va1 vn1 vc1, .int .i64 vk2, .slice va2 vn2 vc2, .int .i64 vlb, .slice va3 vn3 vc3] 34)).alloc (Obj.cells #[.int .i64 0, .string ByteArray.empty, .int .i64 0, .int .i64 0, .slice none 0 0, .int .i64 0, .slice none 0 0, .int .i64 0, .slice none 0 0] 34)) _)
        obtain ⟨x0, x1, x2, x3, x4, x5, x6, x7, x8⟩ := cells9 hB
        obtain ⟨s0, s1, s2, s3, s4, s5, s6, s7, s8⟩ := cells9 hV
        obtain ⟨y0, y1, y2, y3, y4, y5, y6, y7, y8⟩ := cells9 hZ
        have yz := fun o => frozen_of_block (o := o) hZ
        have hM := lt_of_block hZ
        clear hB hV hZ
        obtain ⟨o0, o1, o2, o3, o4, o5, o6, o7, o8⟩ := cells9 hO
        have HO := hid hO
        clear hO
        go_wp2_with fail
        refine HV.out.mono ?_
        rintro e w7 ⟨rfl, hb7⟩
        have B7 := hid (below_trans B6.out hb7)
        replace o0 := cell_keep o0 hb7
        replace o1 := cell_keep o1 hb7
        replace o2 := cell_keep o2 hb7
        replace o3 := cell_keep o3 hb7
        replace o4 := cell_keep o4 hb7
        replace o5 := cell_keep o5 hb7
        replace o6 := cell_keep o6 hb7
        replace o7 := cell_keep o7 hb7
        replace o8 := cell_keep o8 hb7
        have HB7 := hid (below_trans HAL.out hb7)
        clear hb7
        clear x0 x1 x2 x3 x4 x5 x6 x7 x8 s0 s1 s2 s3 s4 s5 s6 s7 s8 y0 y1 y2 y3 y4 y5 y6 y7 y8 yz hM
        obtain ⟨hB, hV, hZ⟩ := three_out (B7.out : Below ((((w.alloc (Obj.cells #[.int .i64 k, .string nm, .int .i64 num, .int .i64 k1, .slice a1 n1 c1, .int .i64 k2, .slice a2 n2 c2, .int .i64 lb, .slice a3 n3 c3] 34)).alloc (Obj.cells #[.int .i64 vk, .string vnm, .int .i64 vnum, .int .i64 vk1, .slice va1 vn1 vc1, .int .i64 vk2, .slice va2 vn2 vc2, .int .i64 vlb, .slice va3 vn3 vc3] 34)).alloc (Obj.cells #[.int .i64 0, .string ByteArray.empty, .int .i64 0, .int .i64 0, .slice none 0 0, .int .i64 0, .slice none 0 0, .int .i64 0, .slice none 0 0] 34))).heap.size (((w.alloc (Obj.cells #[.int .i64 k, .string nm, .int .i64 num, .int .i64 k1, .slice a1 n1 c1, .int .i64 k2, .slice a2 n2 c2, .int .i64 lb, .slice a3 n3 c3] 34)).alloc (Obj.cells #[.int .i64 vk, .string vnm, .int .i64 vnum, .int .i64 vk1, .slice va1 vn1 vc1, .int .i64 vk2, .slice va2 vn2 vc2, .int .i64 vlb, .slice va3 vn3 vc3] 34)).alloc (Obj.cells #[.int .i64 0, .string ByteArray.empty, .int .i64 0, .int .i64 0, .slice none 0 0, .int .i64 0, .slice none 0 0, .int .i64 0, .slice none 0 0] 34)) _)
        obtain ⟨x0, x1, x2, x3, x4, x5, x6, x7, x8⟩ := cells9 hB
        obtain ⟨s0, s1, s2, s3, s4, s5, s6, s7, s8⟩ := cells9 hV
        obtain ⟨y0, y1, y2, y3, y4, y5, y6, y7, y8⟩ := cells9 hZ
        have yz := fun o => frozen_of_block (o := o) hZ
        have hM := lt_of_block hZ
        clear hB hV hZ
        cases hr5 : vldM (subT name u t)
        · have HN := hid (show sbOk name t u = false by rw [HOK.out, HR1.out, HR2.out, HR3.out, hr5, Bool.and_false, Bool.and_false, Bool.and_false, Bool.and_false])
          have FIN := hid (HZ.out w7 (w.heap.size + 1 + 1) HN.out (below_trans HB0.out B7.out) (by omega))
          go_wp2_with fail
          exact bodyPost_ret (v := .tuple #[.agg (Array.mk [.int .i64 0, .string ByteArray.empty, .int .i64 0, .int .i64 0, .slice none 0 0, .int .i64 0, .slice none 0 0, .int .i64 0, .slice none 0 0]), .bool false]) (by simp [results, Tryd.results35, go_sem, y0, y1, y2, y3, y4, y5, y6, y7, y8]; rfl) rfl FIN.out
        · have HN := hid (show sbOk name t u = true by rw [HOK.out, HR1.out, HR2.out, HR3.out, hr5, decide_eq_true HR4.out]; rfl)
          clear hr5
          have FIN := hid (sb_made (B := w.heap.size + 1 + 1) HN.out HAT5.out HF5.out (below_trans HB0.out B7.out) HB7.out (by omega))
          have hM5 : w.heap.size + 1 + 1 < w5.heap.size := by have := B5.out.size; have := HZ0.out; omega
          go_wp2_with fail
          exact bodyPost_ret (v := .tuple #[.agg (Array.mk [.int .i64 r0, .string r1, .int .i64 r2, .int .i64 r3, .slice r5 r4 r6, .int .i64 r7, .slice r9 r8 r10, .int .i64 r11, .slice r13 r12 r14]), .bool true]) (by simp [results, Tryd.results35, go_sem, y0, y1, y2, y3, y4, y5, y6, y7, y8]) rfl FIN.out

end Go.Proofs.YtdehhobpfaaboaaDoor
