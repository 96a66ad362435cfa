/- The program's EraseTerm. The specification's WithTypes. The specification's EraseTerm. -/
import Derived.Test.YtffmpjcjmffdeaaDoorVWea
import Derived.Test.YtffmpjcjmffdeaaDoorVG12
import Derived.Test.YtffmpjcjmffdeaaDoorVWiS
import Derived.Test.YtffmpjcjmffdeaaDoorVTysS
import Derived.Test.YtffmpjcjmffdeaaDoorVG5
import Derived.Test.YtffmpjcjmffdeaaDoorVPkA
namespace Go.Proofs.YtffmpjcjmffdeaaDoor
open Go.RowKit

def zTm : Tm := .mk 0 ByteArray.empty 0 (.mk 0 []) (.mk 0 []) 0 []

theorem zTm_at (w : World) : zTm.At w (.agg #[.int .i64 0, .string ByteArray.empty, .int .i64 0, .int .i64 0, .slice none 0 0, .int .i64 0, .slice none 0 0, .int .i64 0, .slice none 0 0]) [] :=
  Tm.at_mk.2 ⟨_, _, _, _, _, [], [], [], rfl, by decide, Ty.at_mk.2 ⟨_, rfl, .inl ⟨rfl, rfl, _, _, rfl⟩⟩, Ty.at_mk.2 ⟨_, rfl, .inl ⟨rfl, rfl, _, _, rfl⟩⟩, rfl, .inl ⟨rfl, rfl, _, _, rfl⟩⟩

def MadeMB (w : World) (t : Tm) (ok : Bool) (e : Ending) (w' : World) : Prop := ∃ v fp, e = .returned (.tuple #[v, .bool ok]) ∧ t.At w' v fp ∧ Fresh w.heap.size w' fp ∧ Below w.heap.size w w'

/-- The document's EraseTerm. -/
def erT (t : Tm) : Tm := if vldM t then wiT (fun _ => .mk 1 []) 0 t else zTm

set_option maxHeartbeats 400000 in
theorem unk_any (k : Int) (a : Option Addr) (n cap : Nat) (w : World) : Calls Tryd.prog 82 #[.agg #[.int .i64 k, .slice a n cap]] w fun e w' => e = .returned (.agg #[.int .i64 1, .slice none 0 0]) ∧ Below w.heap.size w w' := by
  have hbb := ((((Below.refl w.heap.size w).alloc (Nat.le_refl _) (Obj.cells #[.int .i64 k, .slice a n cap] 32)).alloc (by simp) (Obj.cells #[.int .i64 0, .slice none 0 0] 32)).setCell (p := ⟨w.heap.size + 1, 0, none⟩) (by simp) (.int .i64 1)).setCell (p := ⟨w.heap.size + 1, 1, none⟩) (by simp) (.slice none 0 0)
  go_enter Tryd.func82, Tryd.ntmps82
  go_wp2_with fail
  exact bodyPost_ret (v := .agg #[.int .i64 1, .slice none 0 0]) (by simp [results, Tryd.results82, go_sem]) rfl ⟨rfl, by first | exact hbb | exact (((Below.refl _ _).alloc (Nat.le_refl _) _).alloc (by simp) _)⟩

theorem callOk_unk : CallOkT 82 := fun _ _ => by kernel_rfl
theorem callOk_wet : CallOkT 133 := fun _ _ => by kernel_rfl

theorem forms_belowE {M : Nat} {w w' : World} (h : Forms w) (hb : Below M w w') (hM : 0 < M) : Forms w' := fun j hj => (hb.cell (p := ⟨0, j, none⟩) hM).trans (h j hj)

set_option maxRecDepth 100000 in
set_option maxHeartbeats 2000000 in
theorem implEraseTerm (t : Tm) (v : Value) (fp : List Nat) (w : World) (hsz : t.sz ≤ 1048576) (hF : Forms w) (hat : t.At w v fp) :
    Calls Tryd.prog 33 #[v] w (MadeMB w (erT t) (vldM t)) := by
  have hlt := hat.lt
  have hat0 := hat
  obtain ⟨k, nm, num, k1, n1, a1, c1, k2, n2, a2, c2, lb, n3, a3, c3, rfl⟩ := hat.agg
  have hb0 : Below w.heap.size w ((w.alloc (Obj.cells #[.int .i64 k, .string nm, .int .i64 num, .int .i64 k1, .slice a1 n1 c1, .int .i64 k2, .slice a2 n2 c2, .int .i64 lb, .slice a3 n3 c3] 35)).alloc (Obj.cells #[.int .i64 0, .string ByteArray.empty, .int .i64 0, .int .i64 0, .slice none 0 0, .int .i64 0, .slice none 0 0, .int .i64 0, .slice none 0 0] 35)) := ((Below.refl _ _).alloc (Nat.le_refl _) _).alloc (by simp) _
  have HV := hid (implTermValid t _ _ _ (hF.below hb0) (hat0.below hb0))
  have hM0 : 0 < w.heap.size := World.block_lt_of_cell? _ _ (hF 0 (by omega))
  have hs0 : (((w.alloc (Obj.cells #[.int .i64 k, .string nm, .int .i64 num, .int .i64 k1, .slice a1 n1 c1, .int .i64 k2, .slice a2 n2 c2, .int .i64 lb, .slice a3 n3 c3] 35)).alloc (Obj.cells #[.int .i64 0, .string ByteArray.empty, .int .i64 0, .int .i64 0, .slice none 0 0, .int .i64 0, .slice none 0 0, .int .i64 0, .slice none 0 0] 35))).heap.size = w.heap.size + 1 + 1 := by simp
  have HZ0 := hid hs0
  have HB0 := hid hb0
  have HSH := hid (show vldM t = true → shpM 12 t = true from fun h => by unfold vldM at h; simp only [Bool.and_eq_true] at h; exact h.1)
  have HE := hid (show erT t = if vldM t then wiT (fun _ => .mk 1 []) 0 t else zTm from rfl)
  have HWE := hid (fun (hsh : shpM 12 t = true) (w1 : World) (h1 : Below (((w.alloc (Obj.cells #[.int .i64 k, .string nm, .int .i64 num, .int .i64 k1, .slice a1 n1 c1, .int .i64 k2, .slice a2 n2 c2, .int .i64 lb, .slice a3 n3 c3] 35)).alloc (Obj.cells #[.int .i64 0, .string ByteArray.empty, .int .i64 0, .int .i64 0, .slice none 0 0, .int .i64 0, .slice none 0 0, .int .i64 0, .slice none 0 0] 35))).heap.size ((w.alloc (Obj.cells #[.int .i64 k, .string nm, .int .i64 num, .int .i64 k1, .slice a1 n1 c1, .int .i64 k2, .slice a2 n2 c2, .int .i64 lb, .slice a3 n3 c3] 35)).alloc (Obj.cells #[.int .i64 0, .string ByteArray.empty, .int .i64 0, .int .i64 0, .slice none 0 0, .int .i64 0, .slice none 0 0, .int .i64 0, .slice none 0 0] 35)) w1) => withEach_any 82 #[] w.heap.size (w.heap.size + 1) (tysOf t).length (fun _ w' => Forms w') (fun _ => .mk 1 []) callOk_unk callOk_wet (Nat.lt_succ_self _)
    (fun _ w1 w2 h hb => forms_belowE h hb (by omega)) (fun _ _ h => h)
    (fun n k a m c w1 h _ _ => (unk_any k a m c w1).mono fun e w2 ⟨he, hb⟩ => ⟨1, 0, none, 0, [], he, Ty.at_mk.2 ⟨_, rfl, .inl ⟨rfl, rfl, _, _, rfl⟩⟩, Fresh.nil _ _, Bx.of_below hb, Forms.below h hb⟩)
    t 12 hsh (Nat.le_refl _) _ fp w1 ((hat0.below hb0).below h1) ((hF.below hb0).below h1) (by have := h1.size; rw [hs0] at this; omega) (fun b hb => by have := hlt b hb; omega) hsz)
  generalize erT t = E at *
  generalize vldM t = r at *
  clear hat hat0 hb0 hs0 hlt
  go_enter Tryd.func33, Tryd.ntmps33
  go_wp2_with fail
  refine HV.out.mono ?_
  rintro e w1 ⟨rfl, hb1⟩
  obtain ⟨hB, hZ⟩ := two_out hb1
  obtain ⟨x0, x1, x2, x3, x4, x5, x6, x7, x8⟩ := cells9 hB
  obtain ⟨y0, y1, y2, y3, y4, y5, y6, y7, y8⟩ := cells9 hZ
  have yz := fun o => frozen_of_block (o := o) hZ
  have hM : w.heap.size + 1 < w1.heap.size := lt_of_block hZ
  cases r
  · have FIN := hid (show MadeMB w E false (.returned (.tuple #[.agg (Array.mk [.int .i64 0, .string ByteArray.empty, .int .i64 0, .int .i64 0, .slice none 0 0, .int .i64 0, .slice none 0 0, .int .i64 0, .slice none 0 0]), .bool false])) (put w1 (w.heap.size + 1) 0 [.int .i64 0, .string ByteArray.empty, .int .i64 0, .int .i64 0, .slice none 0 0, .int .i64 0, .slice none 0 0, .int .i64 0, .slice none 0 0]) from ⟨_, [], rfl, by rw [HE.out]; exact zTm_at _, Fresh.nil _ _, below_put (below_trans HB0.out hb1) (by omega)⟩)
    clear hB hZ hb1
    go_wp2_with fail
    exact bodyPost_ret (v := .tuple #[.agg (Array.mk [.int .i64 0, .string ByteArray.empty, .int .i64 0, .int .i64 0, .slice none 0 0, .int .i64 0, .slice none 0 0, .int .i64 0, .slice none 0 0]), .bool false]) (by simp [results, Tryd.results33, go_sem, y0, y1, y2, y3, y4, y5, y6, y7, y8]; rfl) rfl FIN.out
  · have HCL := hid (HWE.out (HSH.out rfl) w1 hb1)
    have HB1 := hid hb1
    have HZB := hid hZ
    clear hb1 hB hZ y0 y1 y2 y3 y4 y5 y6 y7 y8 yz
    go_wp2_with fail
    refine HCL.out.mono ?_
    rintro e w2 ⟨v', f', rfl, hu, hf, hbx, -⟩
    obtain ⟨r0, r1, r2, r3, r4, r5, r6, r7, r8, r9, r10, r11, r12, r13, r14, rfl⟩ := hu.agg
    have hZ := hbx.block' HZB.out (by omega)
    obtain ⟨y0, y1, y2, y3, y4, y5, y6, y7, y8⟩ := cells9 hZ
    have yz := fun o => frozen_of_block (o := o) hZ
    have hM2 : w.heap.size + 1 < w2.heap.size := lt_of_block hZ
    have hs1 : w.heap.size + 1 + 1 ≤ w1.heap.size := by omega
    have ab : Above w1.heap.size w2 (put w2 (w.heap.size + 1) 0 [.int .i64 r0, .string r1, .int .i64 r2, .int .i64 r3, .slice r5 r4 r6, .int .i64 r7, .slice r9 r8 r10, .int .i64 r11, .slice r13 r12 r14]) := (Above.refl _ _).put (by omega)
    have hbb : Below w.heap.size w (put w2 (w.heap.size + 1) 0 [.int .i64 r0, .string r1, .int .i64 r2, .int .i64 r3, .slice r5 r4 r6, .int .i64 r7, .slice r9 r8 r10, .int .i64 r11, .slice r13 r12 r14]) := below_put ((below_trans HB0.out HB1.out).trans (hbx.below (by omega) (Nat.le_refl _))) (by omega)
    have FIN := hid (show MadeMB w E true (.returned (.tuple #[.agg (Array.mk [.int .i64 r0, .string r1, .int .i64 r2, .int .i64 r3, .slice r5 r4 r6, .int .i64 r7, .slice r9 r8 r10, .int .i64 r11, .slice r13 r12 r14]), .bool true])) (put w2 (w.heap.size + 1) 0 [.int .i64 r0, .string r1, .int .i64 r2, .int .i64 r3, .slice r5 r4 r6, .int .i64 r7, .slice r9 r8 r10, .int .i64 r11, .slice r13 r12 r14]) from ⟨_, f', rfl, by rw [HE.out]; exact hu.above ab hf.ge, (hf.above ab (Nat.le_refl _)).mono (by omega), hbb⟩)
    clear hZ hu hf hbx ab hbb x0 x1 x2 x3 x4 x5 x6 x7 x8
    go_wp2_with fail
    exact bodyPost_ret (v := .tuple #[.agg (Array.mk [.int .i64 r0, .string r1, .int .i64 r2, .int .i64 r3, .slice r5 r4 r6, .int .i64 r7, .slice r9 r8 r10, .int .i64 r11, .slice r13 r12 r14]), .bool true]) (by simp [results, Tryd.results33, go_sem, y0, y1, y2, y3, y4, y5, y6, y7, y8]) rfl FIN.out

def wiOk (L : List Ty) (t : Tm) : Bool := ((tyLst t).length == L.length) && (vldM t && L.all vld)
/-- The document's WithTypes. -/
def wiM (L : List Ty) (t : Tm) : Tm := if wiOk L t then wiT (lstT L) 0 t else zTm

theorem vld_take {L : List Ty} {k : Nat} (h : k < L.length) : (L.take (k + 1)).all vld = ((L.take k).all vld && vld L[k]) := by
  rw [List.take_succ_eq_append_getElem h, List.all_append]
  simp

theorem vld_false {L : List Ty} {k : Nat} (h : k < L.length) (hb : vld L[k] = false) : L.all vld = false := by
  rw [List.all_eq_false]
  exact ⟨L[k], List.getElem_mem h, by simp [hb]⟩

/-- A zero answer, stored over zeros. -/
theorem zero_out {w w1 : World} {B : Nat} (hb : Below w.heap.size w w1) (hB : w.heap.size ≤ B) : MadeMB w zTm false (.returned (.tuple #[.agg (Array.mk [.int .i64 0, .string ByteArray.empty, .int .i64 0, .int .i64 0, .slice none 0 0, .int .i64 0, .slice none 0 0, .int .i64 0, .slice none 0 0]), .bool false])) (put w1 B 0 [.int .i64 0, .string ByteArray.empty, .int .i64 0, .int .i64 0, .slice none 0 0, .int .i64 0, .slice none 0 0, .int .i64 0, .slice none 0 0]) :=
  ⟨_, [], rfl, zTm_at _, Fresh.nil _ _, below_put hb hB⟩

set_option maxRecDepth 100000 in
set_option maxHeartbeats 4000000 in
theorem specWithTypes (L : List Ty) (hL : ∀ u ∈ L, u.cnt ≤ 1048576) (t : Tm) (v : Value) (fp : List Nat) (s : Value) (lfp : List Nat) (w : World) (hsz : t.sz ≤ 1048576) (hat : t.At w v fp) (hls : SlAt w L s lfp) :
    Calls Tryd.prog 75 #[v, s] w (MadeMB w (wiM L t) (wiOk L t)) := by
  have hat0 := hat
  obtain ⟨k, nm, num, k1, n1, a1, c1, k2, n2, a2, c2, lb, n3, a3, c3, rfl⟩ := hat.agg
  obtain ⟨la, lcap, rfl, hlc, hlm, hlget⟩ := hls.openA
  have HLG := hid hlget
  have hb0 : Below w.heap.size w ((w.alloc (Obj.cells #[.int .i64 k, .string nm, .int .i64 num, .int .i64 k1, .slice a1 n1 c1, .int .i64 k2, .slice a2 n2 c2, .int .i64 lb, .slice a3 n3 c3] 35)).alloc (Obj.cells #[.int .i64 0, .string ByteArray.empty, .int .i64 0, .int .i64 0, .slice none 0 0, .int .i64 0, .slice none 0 0, .int .i64 0, .slice none 0 0] 35)) := ((Below.refl _ _).alloc (Nat.le_refl _) _).alloc (by simp) _
  have hs0 : (((w.alloc (Obj.cells #[.int .i64 k, .string nm, .int .i64 num, .int .i64 k1, .slice a1 n1 c1, .int .i64 k2, .slice a2 n2 c2, .int .i64 lb, .slice a3 n3 c3] 35)).alloc (Obj.cells #[.int .i64 0, .string ByteArray.empty, .int .i64 0, .int .i64 0, .slice none 0 0, .int .i64 0, .slice none 0 0, .int .i64 0, .slice none 0 0] 35))).heap.size = w.heap.size + 1 + 1 := by simp
  have HZ0 := hid hs0
  have HB0 := hid hb0
  have HAT := hid (hat0.below hb0)
  have HLS := hid (hls.below hb0)
  have HTY := hid (specTermTypes t _ _ _ hsz (hat0.below hb0))
  have HTV := hid (fun (w' : World) (h : t.At w' (.agg #[.int .i64 k, .string nm, .int .i64 num, .int .i64 k1, .slice a1 n1 c1, .int .i64 k2, .slice a2 n2 c2, .int .i64 lb, .slice a3 n3 c3]) fp) => specTermValid t _ fp w' hsz h)
  have HWT := hid (fun (w' : World) (h : t.At w' (.agg #[.int .i64 k, .string nm, .int .i64 num, .int .i64 k1, .slice a1 n1 c1, .int .i64 k2, .slice a2 n2 c2, .int .i64 lb, .slice a3 n3 c3]) fp) (h2 : SlAt w' L (.slice la L.length lcap) lfp) (hn : 0 + (tysOf t).length ≤ L.length) => l2With_any L hL t 0 _ fp _ lfp w' h h2 hn hsz)
  have HLEN := hid (show vldM t = true → tyLst t = tysOf t from fun h => by unfold tyLst; rw [if_pos h])
  have HW := hid (show wiM L t = if wiOk L t then wiT (lstT L) 0 t else zTm from rfl)
  have HO := hid (show wiOk L t = (((tyLst t).length == L.length) && (vldM t && L.all vld)) from rfl)
  generalize wiM L t = E at *
  generalize wiOk L t = ok at *
  generalize tyLst t = TL at *
  generalize vldM t = r at *
  generalize hTT : tysOf t = TT at *
  have hTLm : TL.length ≤ TL.length := Nat.le_refl _
  clear hat hat0 hls hlget hb0 hs0 hTT hTLm
  go_enter Tryd.func75, Tryd.ntmps75
  go_wp2_with fail
  refine HTY.out.mono ?_
  rintro e w1 ⟨s1, f1, rfl, hs1, hf1, hb1⟩
  obtain ⟨ta, tcap, rfl, htc, htm, -⟩ := hs1.openA
  obtain ⟨hB, hZ⟩ := two_out hb1
  obtain ⟨x0, x1, x2, x3, x4, x5, x6, x7, x8⟩ := cells9 hB
  obtain ⟨y0, y1, y2, y3, y4, y5, y6, y7, y8⟩ := cells9 hZ
  have yz := fun o => frozen_of_block (o := o) hZ
  have hM : w.heap.size + 1 < w1.heap.size := lt_of_block hZ
  have b1 := below_trans HB0.out hb1
  have HAT1 := hid (HAT.out.below hb1)
  have HLS1 := hid (HLS.out.below hb1)
  clear hs1 hf1 hb1
  by_cases hlen : TL.length = L.length
  case neg =>
    have hlen' : ((TL.length : Int) == (L.length : Int)) = false := by simp; omega
    have hlen2 : ((TL.length : Int) != (L.length : Int)) = true := by simp; omega
    have hok : ok = false := by rw [HO.out]; simp [hlen]
    have HE := hid (show E = zTm by rw [HW.out, hok]; rfl)
    subst hok
    have FIN := hid (zero_out (B := w.heap.size + 1) b1 (by omega))
    clear hB hZ HO HW
    go_wp2_with fail
    rw [HE.out]
    exact bodyPost_ret (v := .tuple #[.agg (Array.mk [.int .i64 0, .string ByteArray.empty, .int .i64 0, .int .i64 0, .slice none 0 0, .int .i64 0, .slice none 0 0, .int .i64 0, .slice none 0 0]), .bool false]) (by simp [results, Tryd.results75, go_sem, y0, y1, y2, y3, y4, y5, y6, y7, y8]; rfl) rfl FIN.out
  have hlen' : ((TL.length : Int) == (L.length : Int)) = true := by simp [hlen]
  have hlen2 : ((TL.length : Int) != (L.length : Int)) = false := by simp [hlen]
  have hlI : (TL.length : Int) = (L.length : Int) := by omega
  have HLI := hid hlen
  clear hlI
  rw [hlen]
  clear hlen hlen' hlen2
  go_wp2_with fail
  refine (HTV.out _ HAT1.out).mono ?_
  rintro e w2 ⟨rfl, hb2⟩
  replace hB := blk hB hb2
  replace hZ := blk hZ hb2
  have b2 := below_trans b1 hb2
  have HAT2 := hid (HAT1.out.below hb2)
  have HLS2 := hid (HLS1.out.below hb2)
  clear x0 x1 x2 x3 x4 x5 x6 x7 x8 y0 y1 y2 y3 y4 y5 y6 y7 y8 yz hM hb2 b1 HAT1 HLS1 HAT HLS
  obtain ⟨x0, x1, x2, x3, x4, x5, x6, x7, x8⟩ := cells9 hB
  obtain ⟨y0, y1, y2, y3, y4, y5, y6, y7, y8⟩ := cells9 hZ
  have yz := fun o => frozen_of_block (o := o) hZ
  have hM : w.heap.size + 1 < w2.heap.size := lt_of_block hZ
  cases r with
  | false =>
    have hok : ok = false := by rw [HO.out]; simp
    have HE := hid (show E = zTm by rw [HW.out, hok]; rfl)
    subst hok
    have FIN := hid (zero_out (B := w.heap.size + 1) b2 (by omega))
    clear hB hZ HO HW
    go_wp2_with fail
    rw [HE.out]
    exact bodyPost_ret (v := .tuple #[.agg (Array.mk [.int .i64 0, .string ByteArray.empty, .int .i64 0, .int .i64 0, .slice none 0 0, .int .i64 0, .slice none 0 0, .int .i64 0, .slice none 0 0]), .bool false]) (by simp [results, Tryd.results75, go_sem, y0, y1, y2, y3, y4, y5, y6, y7, y8]; rfl) rfl FIN.out
  | true =>
  have HO2 := hid (show ok = L.all vld by rw [HO.out]; simp [HLI.out])
  have HTT := hid (show 0 + TT.length ≤ L.length by rw [← HLEN.out rfl, HLI.out]; omega)
  have HBB := hid (And.intro hB hZ)
  have HB2 := hid b2
  clear HO HLEN HLI x0 x1 x2 x3 x4 x5 x6 x7 x8 y0 y1 y2 y3 y4 y5 y6 y7 y8 yz hM hB hZ b2
  go_wp2_with fail
  go_loopw [6] (fun i wr => ∃ j : Nat, j ≤ L.length ∧ i = .int .i64 j ∧ (L.take j).all vld = true ∧ Below w2.heap.size w2 wr) (fun i _ => L.length - (intOf i).toNat)
  case atStart => exact ⟨0, Nat.zero_le _, rfl, rfl, Below.refl _ _⟩
  case round =>
    obtain ⟨j, hj, rfl, hall, hb⟩ := hrel
    have HAL := hid hall
    clear hall
    have hB := blk HBB.out.1 hb
    have hZ := blk HBB.out.2 hb
    obtain ⟨y0, y1, y2, y3, y4, y5, y6, y7, y8⟩ := cells9 hZ
    have yz := fun o => frozen_of_block (o := o) hZ
    have hM : w.heap.size + 1 < wr.heap.size := lt_of_block hZ
    have br := below_trans HB2.out hb
    by_cases hlk : j < L.length
    · obtain ⟨b, o, kk, nn, aa, cc, g, hla, hblt, d0, d1, hatu, -⟩ := HLG.out j hlk
      subst hla
      have HATU := hid (hatu.below br)
      replace d0 := (br.cell (p := ⟨b, o + j * 2, none⟩) hblt).trans d0
      replace d1 := (br.cell (p := ⟨b, o + j * 2 + 1, none⟩) hblt).trans d1
      have HT := hid (vld_take hlk)
      have HF := hid (vld_false hlk)
      clear y0 y1 y2 y3 y4 y5 y6 y7 y8 yz hM hatu
      go_wp2_with fail
      refine (specTypeValid_any L[j] _ _ _ HATU.out).mono ?_
      rintro e w3 ⟨rfl, hb3⟩
      have hb3' := below_trans hb hb3
      have br3 := below_trans br hb3
      replace hZ := blk hZ hb3
      obtain ⟨y0, y1, y2, y3, y4, y5, y6, y7, y8⟩ := cells9 hZ
      have yz := fun o => frozen_of_block (o := o) hZ
      have hM : w.heap.size + 1 < w3.heap.size := lt_of_block hZ
      clear hb hb3 br d0 d1
      cases hv : vld L[j] with
      | false =>
        have hok : ok = false := by rw [HO2.out, HF.out hv]
        have HE := hid (show E = zTm by rw [HW.out, hok]; rfl)
        subst hok
        have FIN := hid (zero_out (B := w.heap.size + 1) br3 (by omega))
        clear hB hZ HO2 HW hv
        go_wp2_with fail
        rw [HE.out]
        exact bodyPost_ret (v := .tuple #[.agg (Array.mk [.int .i64 0, .string ByteArray.empty, .int .i64 0, .int .i64 0, .slice none 0 0, .int .i64 0, .slice none 0 0, .int .i64 0, .slice none 0 0]), .bool false]) (by simp [results, Tryd.results75, go_sem, y0, y1, y2, y3, y4, y5, y6, y7, y8]; rfl) rfl FIN.out
      | true =>
        have HR := hid (show (L.take (j + 1)).all vld = true by rw [HT.out, HAL.out, hv]; rfl)
        clear hv hB hZ y0 y1 y2 y3 y4 y5 y6 y7 y8 yz hM
        go_wp2_with fail
        go_roundw
        case rel => exact ⟨j + 1, by omega, by go_num, HR.out, hb3'⟩
        case measure => simp [intOf]; omega
    · have hok : ok = true := by
        have := HAL.out
        rw [List.take_of_length_le (by omega)] at this
        rw [HO2.out, this]
      have HE := hid (show E = wiT (lstT L) 0 t by rw [HW.out, hok]; rfl)
      subst hok
      obtain ⟨x0, x1, x2, x3, x4, x5, x6, x7, x8⟩ := cells9 hB
      have HATR := hid (HAT2.out.below hb)
      have HLSR := hid (HLS2.out.below hb)
      have HZR := hid hZ
      have HBR := hid br
      clear HO2 HW hB hZ y0 y1 y2 y3 y4 y5 y6 y7 y8 yz hM hb br
      go_wp2_with fail
      refine (HWT.out _ HATR.out HLSR.out HTT.out).mono ?_
      rintro e w4 ⟨v', f', rfl, hu, hf, hb4⟩
      obtain ⟨r0, r1, r2, r3, r4, r5, r6, r7, r8, r9, r10, r11, r12, r13, r14, rfl⟩ := hu.agg
      have hZ4 := blk HZR.out hb4
      obtain ⟨y0, y1, y2, y3, y4, y5, y6, y7, y8⟩ := cells9 hZ4
      have yz := fun o => frozen_of_block (o := o) hZ4
      have hM : w.heap.size + 1 < w4.heap.size := lt_of_block hZ4
      have b4 := below_trans HBR.out hb4
      have hsr : w.heap.size + 1 + 1 ≤ wr.heap.size := by have := lt_of_block HZR.out; omega
      have ab : Above wr.heap.size w4 (put w4 (w.heap.size + 1) 0 [.int .i64 r0, .string r1, .int .i64 r2, .int .i64 r3, .slice r5 r4 r6, .int .i64 r7, .slice r9 r8 r10, .int .i64 r11, .slice r13 r12 r14]) := (Above.refl _ _).put (by omega)
      have hal : Below (put w4 (w.heap.size + 1) 0 [.int .i64 r0, .string r1, .int .i64 r2, .int .i64 r3, .slice r5 r4 r6, .int .i64 r7, .slice r9 r8 r10, .int .i64 r11, .slice r13 r12 r14]).heap.size (put w4 (w.heap.size + 1) 0 [.int .i64 r0, .string r1, .int .i64 r2, .int .i64 r3, .slice r5 r4 r6, .int .i64 r7, .slice r9 r8 r10, .int .i64 r11, .slice r13 r12 r14]) ((put w4 (w.heap.size + 1) 0 [.int .i64 r0, .string r1, .int .i64 r2, .int .i64 r3, .slice r5 r4 r6, .int .i64 r7, .slice r9 r8 r10, .int .i64 r11, .slice r13 r12 r14]).alloc (Obj.cells #[.int .i64 r0, .string r1, .int .i64 r2, .int .i64 r3, .slice r5 r4 r6, .int .i64 r7, .slice r9 r8 r10, .int .i64 r11, .slice r13 r12 r14] 35)) := (Below.refl _ _).alloc (Nat.le_refl _) _
      have hpb : Below w.heap.size w (put w4 (w.heap.size + 1) 0 [.int .i64 r0, .string r1, .int .i64 r2, .int .i64 r3, .slice r5 r4 r6, .int .i64 r7, .slice r9 r8 r10, .int .i64 r11, .slice r13 r12 r14]) := below_put b4 (by omega)
      have FIN := hid (show MadeMB w E true (.returned (.tuple #[.agg (Array.mk [.int .i64 r0, .string r1, .int .i64 r2, .int .i64 r3, .slice r5 r4 r6, .int .i64 r7, .slice r9 r8 r10, .int .i64 r11, .slice r13 r12 r14]), .bool true])) ((put w4 (w.heap.size + 1) 0 [.int .i64 r0, .string r1, .int .i64 r2, .int .i64 r3, .slice r5 r4 r6, .int .i64 r7, .slice r9 r8 r10, .int .i64 r11, .slice r13 r12 r14]).alloc (Obj.cells #[.int .i64 r0, .string r1, .int .i64 r2, .int .i64 r3, .slice r5 r4 r6, .int .i64 r7, .slice r9 r8 r10, .int .i64 r11, .slice r13 r12 r14] 35)) from
        ⟨_, f', rfl, by rw [HE.out]; exact (hu.above ab hf.ge).below hal, ((hf.above ab (Nat.le_refl _)).below hal).mono (by omega), below_trans hpb hal⟩)
      have HBF := hid (show ((put w4 (w.heap.size + 1) 0 [.int .i64 r0, .string r1, .int .i64 r2, .int .i64 r3, .slice r5 r4 r6, .int .i64 r7, .slice r9 r8 r10, .int .i64 r11, .slice r13 r12 r14]).alloc (Obj.cells #[.int .i64 r0, .string r1, .int .i64 r2, .int .i64 r3, .slice r5 r4 r6, .int .i64 r7, .slice r9 r8 r10, .int .i64 r11, .slice r13 r12 r14] 35)).heap[w.heap.size + 1]? = some (.cells (Array.mk [.int .i64 r0, .string r1, .int .i64 r2, .int .i64 r3, .slice r5 r4 r6, .int .i64 r7, .slice r9 r8 r10, .int .i64 r11, .slice r13 r12 r14]) 35 (0, 0)) from blk (by
        rw [heap_put hZ4]
        simp only [putA, List.setIfInBounds_toArray, List.set]) hal)
      clear x0 x1 x2 x3 x4 x5 x6 x7 x8 hu hf hb4 hZ4 b4 ab hal hpb
      go_wp2_with fail
      generalize hWW : ((((((((((w4.setCell ⟨w.heap.size + 1, 0, none⟩ (.int .i64 r0)).setCell ⟨w.heap.size + 1, 1, none⟩ (.string r1)).setCell ⟨w.heap.size + 1, 2, none⟩ (.int .i64 r2)).setCell ⟨w.heap.size + 1, 3, none⟩ (.int .i64 r3)).setCell ⟨w.heap.size + 1, 4, none⟩ (.slice r5 r4 r6)).setCell ⟨w.heap.size + 1, 5, none⟩ (.int .i64 r7)).setCell ⟨w.heap.size + 1, 6, none⟩ (.slice r9 r8 r10)).setCell ⟨w.heap.size + 1, 7, none⟩ (.int .i64 r11)).setCell ⟨w.heap.size + 1, 8, none⟩ (.slice r13 r12 r14)).alloc (Obj.cells #[.int .i64 r0, .string r1, .int .i64 r2, .int .i64 r3, .slice r5 r4 r6, .int .i64 r7, .slice r9 r8 r10, .int .i64 r11, .slice r13 r12 r14] 35)) = WW
      have e5 : WW = (put w4 (w.heap.size + 1) 0 [.int .i64 r0, .string r1, .int .i64 r2, .int .i64 r3, .slice r5 r4 r6, .int .i64 r7, .slice r9 r8 r10, .int .i64 r11, .slice r13 r12 r14]).alloc (Obj.cells #[.int .i64 r0, .string r1, .int .i64 r2, .int .i64 r3, .slice r5 r4 r6, .int .i64 r7, .slice r9 r8 r10, .int .i64 r11, .slice r13 r12 r14] 35) := by rw [← hWW]; simp only [put, Nat.zero_add, Nat.reduceAdd]
      have hBF := HBF.out
      have hFIN := FIN.out
      rw [← e5] at hBF hFIN
      clear e5 hWW y0 y1 y2 y3 y4 y5 y6 y7 y8 yz hM HBF FIN
      obtain ⟨y0, y1, y2, y3, y4, y5, y6, y7, y8⟩ := cells9 hBF
      exact bodyPost_ret (v := .tuple #[.agg (Array.mk [.int .i64 r0, .string r1, .int .i64 r2, .int .i64 r3, .slice r5 r4 r6, .int .i64 r7, .slice r9 r8 r10, .int .i64 r11, .slice r13 r12 r14]), .bool true]) (by simp [results, Tryd.results75, go_sem, y0, y1, y2, y3, y4, y5, y6, y7, y8]) rfl hFIN

mutual
theorem wiT_congr {T T' : Nat → Ty} : ∀ (t : Tm) (n : Nat), (∀ i, i < (tysOf t).length → T (n + i) = T' (n + i)) → wiT T n t = wiT T' n t
  | .mk k nm num ty fr lb ts, n, h => by
    simp only [wiT]
    by_cases hk : k = 5 ∨ k = 13
    · have hl : (tysOf (.mk k nm num ty fr lb ts)).length = 1 + (tysL ts).length := by simp only [tysOf, List.length_append, if_pos hk]; rfl
      rw [hl] at h
      have h0 := h 0 (by omega)
      simp only [hasTy, hk, decide_true, ↓reduceIte]
      rw [show T n = T' n by simpa using h0, wiL_congr (T := T) (T' := T') ts (n + 1) (fun i hi => by have := h (i + 1) (by omega); rw [show n + (i + 1) = n + 1 + i by omega] at this; exact this)]
    · have hl : (tysOf (.mk k nm num ty fr lb ts)).length = (tysL ts).length := by simp only [tysOf, List.length_append, if_neg hk, List.length_nil, Nat.zero_add]
      rw [hl] at h
      simp only [hasTy, hk, decide_false, Bool.false_eq_true, ↓reduceIte]
      rw [wiL_congr (T := T) (T' := T') ts n h]
theorem wiL_congr {T T' : Nat → Ty} : ∀ (ts : List Tm) (n : Nat), (∀ i, i < (tysL ts).length → T (n + i) = T' (n + i)) → wiL T n ts = wiL T' n ts
  | [], n, _ => by simp only [wiL]
  | t :: ts, n, h => by
    simp only [wiL]
    simp only [tysL, List.length_append] at h
    rw [wiT_congr (T := T) (T' := T') t n (fun i hi => h i (by omega)), wiL_congr (T := T) (T' := T') ts (n + (tysOf t).length) (fun i hi => by have := h ((tysOf t).length + i) (by omega); rw [← Nat.add_assoc] at this; exact this)]
end

theorem wi_er (t : Tm) : wiOk (List.replicate (tyLst t).length (.mk 1 [])) t = vldM t ∧ wiM (List.replicate (tyLst t).length (.mk 1 [])) t = erT t := by
  have h1 : wiOk (List.replicate (tyLst t).length (.mk 1 [])) t = vldM t := by
    have hv : vld (.mk 1 []) = true := rfl
    simp [wiOk, List.all_replicate, hv]
  refine ⟨h1, ?_⟩
  unfold wiM erT
  rw [h1]
  by_cases hv : vldM t = true
  · rw [if_pos hv, if_pos hv]
    have e : tyLst t = tysOf t := by unfold tyLst; rw [if_pos hv]
    rw [e]
    exact wiT_congr t 0 (fun i hi => by simp [lstT, hi])
  · rw [if_neg hv, if_neg hv]

/-- A slice of the call's own of n types, of which the first j have been set to the unknown one. -/
def AnyI (B : Nat) (s : Value) (n j : Nat) (w : World) : Prop := n = 0 ∨ ∃ b o cap, s = .slice (some ⟨b, o, none⟩) n cap ∧ n ≤ cap ∧ n ≤ maxLen ∧ B ≤ b ∧ b < w.heap.size ∧ (∀ q, w.frozen? ⟨b, q, none⟩ = false) ∧
  ∀ i, i < n → ∃ v0 v1, w.cell? ⟨b, o + i * 2, none⟩ = some v0 ∧ w.cell? ⟨b, o + i * 2 + 1, none⟩ = some v1 ∧ (i < j → v0 = .int .i64 1 ∧ v1 = .slice none 0 0)

theorem AnyI.start {B : Nat} {s : Value} {L : List Ty} {f : List Nat} {w : World} (h : SlAt w L s f) (hf : Fresh B w f) : AnyI B s L.length 0 w := by
  rcases h with ⟨rfl, _, _⟩ | ⟨b, o, cap, f', rfl, hp, hc, hm, hl, rfl⟩
  · exact .inl rfl
  · refine .inr ⟨b, o, cap, rfl, hc, hm, hf.ge b (by simp), (hf.2 b (by simp)).2.1, (hf.2 b (by simp)).2.2, fun i hi => ?_⟩
    obtain ⟨v0, v1, _, c0, c1, _⟩ := Ty.atL_get hl i hi
    exact ⟨v0, v1, c0, c1, fun h => absurd h (by omega)⟩

theorem AnyI.below {B : Nat} {s : Value} {n j : Nat} {w w' : World} (h : AnyI B s n j w) (hb : Below w.heap.size w w') : AnyI B s n j w' := by
  rcases h with h | ⟨b, o, cap, hs, hc, hm, hB, hlt, hz, hx⟩
  · exact .inl h
  · refine .inr ⟨b, o, cap, hs, hc, hm, hB, Nat.lt_of_lt_of_le hlt hb.size, fun q => (hb.frozen (p := ⟨b, q, none⟩) hlt).trans (hz q), fun i hi => ?_⟩
    obtain ⟨v0, v1, c0, c1, h⟩ := hx i hi
    exact ⟨v0, v1, cell_keep c0 hb, cell_keep c1 hb, h⟩

theorem AnyI.done {B : Nat} {s : Value} {n a c : Nat} {p : Option Addr} {w : World} (h : AnyI B s n n w) (hs : s = .slice p n a) (_ : c = 0) : ∃ f, SlAt w (List.replicate n (.mk 1 [])) s f := by
  rcases h with rfl | ⟨b, o, cap, rfl, hc, hm, hB, hlt, hz, hx⟩
  · exact ⟨[], .inl ⟨rfl, rfl, _, _, hs⟩⟩
  · by_cases h0 : n = 0
    · subst h0
      exact ⟨[], .inl ⟨rfl, rfl, _, _, rfl⟩⟩
    have hat : Ty.AtL w (List.replicate n (.mk 1 [])) b o ((List.replicate n (Ty.mk 1 [])).map fun _ => ([] : List Nat)).flatten := idx_atL (by simp) (fun i h h' => by
      have hi : i < n := by simpa using h
      obtain ⟨v0, v1, c0, c1, hq⟩ := hx i hi
      obtain ⟨rfl, rfl⟩ := hq hi
      refine ⟨1, .slice none 0 0, c0, c1, ?_, ?_⟩
      · simp only [List.getElem_replicate, List.getElem_map, kidsT]
        exact .inl ⟨rfl, rfl, none, 0, rfl⟩
      · simp [kidsT])
    exact ⟨_, .inr ⟨b, o, cap, _, by rw [List.length_replicate], by rw [List.length_replicate]; omega, by rw [List.length_replicate]; exact hc, by rw [List.length_replicate]; exact hm, hat, rfl⟩⟩

theorem AnyI.step {B : Nat} {n j b o cap : Nat} {w : World} (h : AnyI B (.slice (some ⟨b, o, none⟩) n cap) n j w) (hj : j < n) : AnyI B (.slice (some ⟨b, o, none⟩) n cap) n (j + 1) ((w.setCell ⟨b, o + j * 2, none⟩ (.int .i64 1)).setCell ⟨b, o + j * 2 + 1, none⟩ (.slice none 0 0)) := by
  rcases h with h | ⟨b', o', cap', hs, hc, hm, hB, hlt, hz, hx⟩
  · omega
  cases hs
  refine .inr ⟨b, o, cap, rfl, hc, hm, hB, by rw [size_setCell, size_setCell]; exact hlt, fun q => by rw [frozen_setCell, frozen_setCell]; exact hz q, fun i hi => ?_⟩
  obtain ⟨v0, v1, c0, c1, hq⟩ := hx i hi
  by_cases hij : i = j
  · subst hij
    exact ⟨.int .i64 1, .slice none 0 0, (cell_setCell_other (by omega) _).trans (cell_setCell_self c0 _), cell_setCell_self ((cell_setCell_other (by omega) _).trans c1) _, fun _ => ⟨rfl, rfl⟩⟩
  · exact ⟨v0, v1, (cell_setCell_other (by omega) _).trans ((cell_setCell_other (by omega) _).trans c0), (cell_setCell_other (by omega) _).trans ((cell_setCell_other (by omega) _).trans c1), fun h => hq (by omega)⟩

set_option maxRecDepth 100000 in
set_option maxHeartbeats 2000000 in
theorem specEraseTerm (t : Tm) (v : Value) (fp : List Nat) (w : World) (hsz : t.sz ≤ 1048576) (hat : t.At w v fp) :
    Calls Tryd.prog 34 #[v] w (MadeMB w (erT t) (vldM t)) := by
  have hlt := hat.lt
  have HLT := hid hlt
  clear hlt
  have hat0 := hat
  obtain ⟨k, nm, num, k1, n1, a1, c1, k2, n2, a2, c2, lb, n3, a3, c3, rfl⟩ := hat.agg
  have hb0 : Below w.heap.size w ((w.alloc (Obj.cells #[.int .i64 k, .string nm, .int .i64 num, .int .i64 k1, .slice a1 n1 c1, .int .i64 k2, .slice a2 n2 c2, .int .i64 lb, .slice a3 n3 c3] 35)).alloc (Obj.cells #[.int .i64 0, .string ByteArray.empty, .int .i64 0, .int .i64 0, .slice none 0 0, .int .i64 0, .slice none 0 0, .int .i64 0, .slice none 0 0] 35)) := ((Below.refl _ _).alloc (Nat.le_refl _) _).alloc (by simp) _
  have hs0 : (((w.alloc (Obj.cells #[.int .i64 k, .string nm, .int .i64 num, .int .i64 k1, .slice a1 n1 c1, .int .i64 k2, .slice a2 n2 c2, .int .i64 lb, .slice a3 n3 c3] 35)).alloc (Obj.cells #[.int .i64 0, .string ByteArray.empty, .int .i64 0, .int .i64 0, .slice none 0 0, .int .i64 0, .slice none 0 0, .int .i64 0, .slice none 0 0] 35))).heap.size = w.heap.size + 1 + 1 := by simp
  have HZ0 := hid hs0
  have HB0 := hid hb0
  have HAT := hid (hat0.below hb0)
  have HTY := hid (specTermTypes t _ _ _ hsz (hat0.below hb0))
  have HWI := hid (wi_er t)
  generalize hTL : tyLst t = TL at *
  have HWT := hid (fun (w' : World) (s : Value) (lfp : List Nat) (h : t.At w' (.agg #[.int .i64 k, .string nm, .int .i64 num, .int .i64 k1, .slice a1 n1 c1, .int .i64 k2, .slice a2 n2 c2, .int .i64 lb, .slice a3 n3 c3]) fp) (h2 : SlAt w' (List.replicate TL.length (.mk 1 [])) s lfp) => specWithTypes (List.replicate TL.length (.mk 1 [])) (fun u hu => by rw [(List.mem_replicate.1 hu).2]; simp [Ty.cnt, cntL]) t _ fp s lfp w' hsz h h2)
  generalize wiM (List.replicate TL.length (.mk 1 [])) t = E at *
  generalize wiOk (List.replicate TL.length (.mk 1 [])) t = ok at *
  rw [← HWI.out.1, ← HWI.out.2]
  clear hat hat0 hb0 hs0 hTL
  go_enter Tryd.func34, Tryd.ntmps34
  go_wp2_with fail
  refine HTY.out.mono ?_
  rintro e w1 ⟨s1, f1, rfl, hs1, hf1, hb1⟩
  obtain ⟨hB, hZ⟩ := two_out hb1
  have hA := AnyI.start hs1 hf1
  obtain ⟨la, lcap, rfl, hlc, hlm, -⟩ := hs1.openA
  have b1 := below_trans HB0.out hb1
  rw [HZ0.out] at hA
  have HB1 := hid (And.intro b1 (And.intro hB hZ))
  have HA := hid hA
  have HAT1 := hid (HAT.out.below hb1)
  have hM1 : w.heap.size + 1 < w1.heap.size := lt_of_block hZ
  clear hs1 hf1 hb1 hB hZ hA b1
  go_wp2_with fail
  go_loopw [5] (fun i wr => ∃ j : Nat, j ≤ TL.length ∧ i = .int .i64 j ∧ AnyI (w.heap.size + 1 + 1) (.slice la TL.length lcap) TL.length j wr ∧ Below (w.heap.size + 1 + 1) w1 wr) (fun i _ => TL.length - (intOf i).toNat)
  case atStart => exact ⟨0, Nat.zero_le _, rfl, HA.out, Below.refl _ _⟩
  case round =>
    obtain ⟨j, hj, rfl, hI, hb⟩ := hrel
    by_cases hlk : j < TL.length
    · have hI0 := hI
      rcases hI0 with h0 | ⟨b, o, cap, hs, hc, hm, hBb, hlt, hz, hx⟩
      · omega
      cases hs
      have HI := hid hI
      have HX := hid hx
      have hbs := hb.size
      clear hI hx
      go_wp2_with fail
      refine (l1Any_any _).mono ?_
      rintro e w2 ⟨rfl, hb2⟩
      obtain ⟨v0, v1, d0, d1, -⟩ := HX.out j hlk
      replace d0 := cell_keep d0 hb2
      replace d1 := cell_keep d1 hb2
      have hz2 := fun q => (hb2.frozen (p := ⟨b, q, none⟩) hlt).trans (hz q)
      have hlt2 : b < w2.heap.size := Nat.lt_of_lt_of_le hlt hb2.size
      have HI2 := hid (AnyI.step (HI.out.below hb2) hlk)
      have HBB := hid (((hb.trans (hb2.mono (by omega))).setCell (p := ⟨b, o + j * 2, none⟩) hBb (.int .i64 1)).setCell (p := ⟨b, o + j * 2 + 1, none⟩) hBb (.slice none 0 0))
      clear hb hb2 hz
      go_wp2_with fail
      exact ⟨⟨j + 1, by omega, by go_num, HI2.out, HBB.out⟩, by simp [intOf]; omega⟩
    · obtain rfl : j = TL.length := by omega
      obtain ⟨lfp, hsl⟩ := hI.done (c := 0) rfl rfl
      have hB : wr.heap[w.heap.size]? = some (Obj.cells #[.int .i64 k, .string nm, .int .i64 num, .int .i64 k1, .slice a1 n1 c1, .int .i64 k2, .slice a2 n2 c2, .int .i64 lb, .slice a3 n3 c3] 35) := (hb.block _ (by omega)).trans HB1.out.2.1
      have hZ : wr.heap[w.heap.size + 1]? = some (Obj.cells #[.int .i64 0, .string ByteArray.empty, .int .i64 0, .int .i64 0, .slice none 0 0, .int .i64 0, .slice none 0 0, .int .i64 0, .slice none 0 0] 35) := (hb.block _ (by omega)).trans HB1.out.2.2
      have bw : Below w.heap.size w wr := HB1.out.1.trans (hb.mono (by omega))
      have HATR := hid (show t.At wr (.agg #[.int .i64 k, .string nm, .int .i64 num, .int .i64 k1, .slice a1 n1 c1, .int .i64 k2, .slice a2 n2 c2, .int .i64 lb, .slice a3 n3 c3]) fp from HAT1.out.congr fun x hx o => hb.cell (p := ⟨x, o, none⟩) (by have := HLT.out x hx; show x < _; omega))
      have HSL := hid hsl
      obtain ⟨x0, x1, x2, x3, x4, x5, x6, x7, x8⟩ := cells9 hB
      have HZR := hid hZ
      have HBR := hid bw
      clear hB hZ bw hsl hI hb
      go_wp2_with fail
      refine (HWT.out _ _ _ HATR.out HSL.out).mono ?_
      rintro e w4 ⟨v', f', rfl, hu, hf, hb4⟩
      obtain ⟨r0, r1, r2, r3, r4, r5, r6, r7, r8, r9, r10, r11, r12, r13, r14, rfl⟩ := hu.agg
      have hZ4 := blk HZR.out hb4
      obtain ⟨y0, y1, y2, y3, y4, y5, y6, y7, y8⟩ := cells9 hZ4
      have yz := fun o => frozen_of_block (o := o) hZ4
      have hM : w.heap.size + 1 < w4.heap.size := lt_of_block hZ4
      have hsr : w.heap.size + 1 < wr.heap.size := lt_of_block HZR.out
      have b4 := below_trans HBR.out hb4
      have ab : Above wr.heap.size w4 (put w4 (w.heap.size + 1) 0 [.int .i64 r0, .string r1, .int .i64 r2, .int .i64 r3, .slice r5 r4 r6, .int .i64 r7, .slice r9 r8 r10, .int .i64 r11, .slice r13 r12 r14]) := (Above.refl _ _).put (by omega)
      have FIN := hid (show MadeMB w E ok (.returned (.tuple #[.agg (Array.mk [.int .i64 r0, .string r1, .int .i64 r2, .int .i64 r3, .slice r5 r4 r6, .int .i64 r7, .slice r9 r8 r10, .int .i64 r11, .slice r13 r12 r14]), .bool ok])) (put w4 (w.heap.size + 1) 0 [.int .i64 r0, .string r1, .int .i64 r2, .int .i64 r3, .slice r5 r4 r6, .int .i64 r7, .slice r9 r8 r10, .int .i64 r11, .slice r13 r12 r14]) from
        ⟨_, f', rfl, hu.above ab hf.ge, (hf.above ab (Nat.le_refl _)).mono (by omega), below_put b4 (by omega)⟩)
      clear x0 x1 x2 x3 x4 x5 x6 x7 x8 hu hf hb4 hZ4 b4 ab
      go_wp2_with fail
      exact bodyPost_ret (v := .tuple #[.agg (Array.mk [.int .i64 r0, .string r1, .int .i64 r2, .int .i64 r3, .slice r5 r4 r6, .int .i64 r7, .slice r9 r8 r10, .int .i64 r11, .slice r13 r12 r14]), .bool ok]) (by simp [results, Tryd.results34, go_sem, y0, y1, y2, y3, y4, y5, y6, y7, y8]) rfl FIN.out

end Go.Proofs.YtffmpjcjmffdeaaDoor
