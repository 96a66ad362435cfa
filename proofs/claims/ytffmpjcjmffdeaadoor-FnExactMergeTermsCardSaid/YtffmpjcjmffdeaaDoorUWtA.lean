/- The choice of the program's WithTypes: the list's next type. The program's WithTypes. -/
import Derived.Test.YtffmpjcjmffdeaaDoorUErA
import Derived.Test.YtffmpjcjmffdeaaDoorUTysT
import Derived.Test.YtffmpjcjmffdeaaDoorUG1
namespace Go.Proofs.YtffmpjcjmffdeaaDoor
open Go.RowKit

/-- The state of the choice: the cell at block U holds how many types have been taken; the list lies in the cell at block C. -/
def WtSt (U C : Nat) (L : List Ty) (la : Option Addr) (lcap : Nat) (lfp : List Nat) (n : Nat) (w : World) : Prop :=
  Forms w ∧ w.heap[U]? = some (.cells #[.int .i64 (n : Int)] 3 (0, 0)) ∧ w.cell? ⟨C, 0, none⟩ = some (.slice la L.length lcap) ∧ SlAt w L (.slice la L.length lcap) lfp

theorem WtSt.stable {U C S0 : Nat} {L : List Ty} {la : Option Addr} {lcap : Nat} {lfp : List Nat} (hU : U < S0) (hC : C < S0) (hl : ∀ b ∈ lfp, b < S0) (hG : 0 < S0) (n : Nat) (w w' : World) (h : WtSt U C L la lcap lfp n w) (hb : Below S0 w w') : WtSt U C L la lcap lfp n w' := by
  obtain ⟨hF, hu, hc, hs⟩ := h
  exact ⟨forms_belowE hF hb hG, (hb.block U hU).trans hu, (hb.cell (p := ⟨C, 0, none⟩) hC).trans hc, hs.congr fun b hm o => hb.cell (p := ⟨b, o, none⟩) (hl b hm)⟩

theorem callOk_wt : CallOkT 128 := fun _ _ => by kernel_rfl

set_option maxRecDepth 100000 in
set_option maxHeartbeats 2000000 in
theorem wtCho_any (U C S0 : Nat) (L : List Ty) (la : Option Addr) (lcap : Nat) (lfp : List Nat) (hU : U < S0) (hC : C < S0) (hCU : C ≠ U) (hl : ∀ b ∈ lfp, b < S0 ∧ b ≠ U) (hG : 0 < S0) (hGU : 0 ≠ U) (hLv : ∀ u ∈ L, vld u = true)
    (n : Nat) (k : Int) (a : Option Addr) (m c : Nat) (w : World) (hst : WtSt U C L la lcap lfp n w) (hn : n < L.length) (hS : S0 ≤ w.heap.size) :
    Calls Tryd.prog 128 #[.agg #[.int .i64 k, .slice a m c], .pointer (some ⟨U, 0, none⟩), .pointer (some ⟨C, 0, none⟩)] w (ChoOut U (WtSt U C L la lcap lfp) w (n + 1) (lstT L n)) := by
  obtain ⟨hF, hu, hc, hs⟩ := hst
  have hb0 : Below w.heap.size w ((w.alloc (Obj.cells #[.int .i64 k, .slice a m c] 32)).alloc (Obj.cells #[.int .i64 0, .slice none 0 0] 32)) := ((Below.refl _ _).alloc (Nat.le_refl _) _).alloc (by simp) _
  have hs0 : ((w.alloc (Obj.cells #[.int .i64 k, .slice a m c] 32)).alloc (Obj.cells #[.int .i64 0, .slice none 0 0] 32)).heap.size = w.heap.size + 1 + 1 := by simp
  obtain ⟨la', lcap', hsl, hlc, hlm, hget⟩ := hs.openA
  cases hsl
  obtain ⟨b, o, lk, ln, lla, lc, g, rfl, hblt, d0, d1, hat, hg⟩ := hget n hn
  have hbU : b ≠ U := by
    rcases hs with ⟨h0, _⟩ | ⟨b', o', cap', f, e', _, _, _, _, rfl⟩
    · rw [h0] at hn; simp at hn
    · cases e'
      exact (hl b (by simp)).2
  have hT := hid (show lstT L n = L[n] by simp [lstT, hn])
  have u0 : w.cell? ⟨U, 0, none⟩ = some (.int .i64 (n : Int)) := by rw [cell_of_block hu]; rfl
  have uz := frozen_of_block (o := 0) hu
  have hUw : U < w.heap.size := by omega
  have hCw : C < w.heap.size := by omega
  have hn1 : (n : Int) + 1 ≤ 9223372036854775807 := by omega
  have hn0 : (0 : Int) ≤ (n : Int) := by omega
  have hW : Bx U w (((w.setCell ⟨U, 0, none⟩ (.int .i64 ((n : Int) + 1))).alloc (Obj.cells #[.int .i64 k, .slice a m c] 32)).alloc (Obj.cells #[.int .i64 0, .slice none 0 0] 32)) ∧ WtSt U C L (some ⟨b, o, none⟩) lcap lfp (n + 1) (((w.setCell ⟨U, 0, none⟩ (.int .i64 ((n : Int) + 1))).alloc (Obj.cells #[.int .i64 k, .slice a m c] 32)).alloc (Obj.cells #[.int .i64 0, .slice none 0 0] 32)) := by
    have hB1 : Below w.heap.size (w.setCell ⟨U, 0, none⟩ (.int .i64 ((n : Int) + 1))) (((w.setCell ⟨U, 0, none⟩ (.int .i64 ((n : Int) + 1))).alloc (Obj.cells #[.int .i64 k, .slice a m c] 32)).alloc (Obj.cells #[.int .i64 0, .slice none 0 0] 32)) := ((Below.refl _ _).alloc (by rw [size_setCell]; exact Nat.le_refl _) _).alloc (by simp) _
    have hx : Bx U w (((w.setCell ⟨U, 0, none⟩ (.int .i64 ((n : Int) + 1))).alloc (Obj.cells #[.int .i64 k, .slice a m c] 32)).alloc (Obj.cells #[.int .i64 0, .slice none 0 0] 32)) := ⟨hB1.os, hB1.tape, hB1.output, by have := hB1.size; rw [size_setCell] at this; exact this, fun i hi hne => (hB1.block i hi).trans (Below.heap_setCell _ _ _ _ (fun e => hne (by rw [e])))⟩
    refine ⟨hx, fun j hj => hx.cell (hF j hj) hGU, ?_, hx.cell hc hCU, ?_⟩
    · rw [hB1.block U hUw, heap_setCell_at hu]
      simp
    · exact hs.congr fun b' hm o' => World.grownBy.cell_far hx ⟨b', o', none⟩ (hs.lt b' hm) (fun e => (hl b' hm).2 (Option.some.inj e))
  have HW := hid hW
  have HS := hid hs
  have HATL := hid hat
  have HGG := hid (show ∀ x ∈ g, x ≠ U from fun x hx => (hl x (hg x hx)).2)
  have HWF := hid (wf_of_vld (hLv _ (List.getElem_mem hn)))
  have HST := hid (fun nn => WtSt.stable (L := L) (la := some ⟨b, o, none⟩) (lcap := lcap) hU hC (fun b hb => (hl b hb).1) hG nn)
  clear hF hs hget hat hg hW hs0 hLv hu
  go_enter Tryd.func128, Tryd.ntmps128
  go_wp2_with fail
  refine (copyType_any L[n] _ _ _ (HW.out.1.ty HATL.out HGG.out) HWF.out).mono ?_
  rintro e w2 ⟨v', f', rfl, hu', hf', hb'⟩
  obtain ⟨kr, nr, ar, capr, rfl⟩ := hu'.agg
  obtain ⟨x0, x1, r0, r1, rz⟩ := boxes2 hb'
  simp only [size_setCell] at x0 x1 r0 r1 rz
  have hsz : ((((w.setCell ⟨U, 0, none⟩ (.int .i64 ((n : Int) + 1))).alloc (Obj.cells #[.int .i64 k, .slice a m c] 32)).alloc (Obj.cells #[.int .i64 0, .slice none 0 0] 32))).heap.size = w.heap.size + 1 + 1 := by simp
  have hM : w.heap.size + 1 < w2.heap.size := by have := hb'.size; rw [hsz] at this; omega
  rw [hsz] at hf'
  have hbb := ((Below.refl w.heap.size w2).setCell (p := ⟨w.heap.size + 1, 0, none⟩) (by simp) (.int .i64 kr)).setCell (p := ⟨w.heap.size + 1, 1, none⟩) (by simp) (.slice ar nr capr)
  have hkr := keepR (R := w.heap.size + 1) (x := .int .i64 kr) (y := .slice ar nr capr) hu' hf' (by omega)
  have hst2 := HST.out (n + 1) _ _ (HST.out (n + 1) _ _ HW.out.2 (hb'.mono (by rw [hsz]; omega))) (hbb.mono hS)
  have hbx2 := (HW.out.1.trans (Bx.of_below hb')).trans_below hbb (Nat.le_refl _)
  have FIN := hid (show ChoOut U (WtSt U C L (some ⟨b, o, none⟩) lcap lfp) w (n + 1) L[n] (.returned (.agg #[.int .i64 kr, .slice ar nr capr])) _ from ⟨kr, nr, ar, capr, f', rfl, hkr.1, hkr.2.mono (by omega), hbx2, hst2⟩)
  clear hu' hf' hb' hbb hkr hst2 hbx2 hsz
  go_wp2_with fail
  exact bodyPost_ret (v := .agg #[.int .i64 kr, .slice ar nr capr]) (by simp [results, Tryd.results128, go_sem, r0, r1]) rfl (by rw [hT.out]; exact FIN.out)

set_option linter.unusedSimpArgs false in
set_option maxRecDepth 100000 in
set_option maxHeartbeats 4000000 in
theorem implWithTypes (L : List Ty) (t : Tm) (v : Value) (fp : List Nat) (s : Value) (lfp : List Nat) (w : World) (hsz : t.sz ≤ 1048576) (hF : Forms w) (hat : t.At w v fp) (hls : SlAt w L s lfp) :
    Calls Tryd.prog 78 #[v, s] w (MadeMB w (wiM L t) (wiOk L t)) := by
  have hlt := hat.lt
  have hllt := hls.lt
  have hat0 := hat
  obtain ⟨k, nm, num, k1, n1, a1, c1, k2, n2, a2, c2, lb, n3, a3, c3, rfl⟩ := hat.agg
  obtain ⟨la, lcap, rfl, hlc, hlm, hlget⟩ := hls.openA
  have HLG := hid hlget
  have hb0 : Below w.heap.size w (((w.alloc (Obj.cells #[.int .i64 k, .string nm, .int .i64 num, .int .i64 k1, .slice a1 n1 c1, .int .i64 k2, .slice a2 n2 c2, .int .i64 lb, .slice a3 n3 c3] 35)).alloc (Obj.cells #[.slice la L.length lcap] 30)).alloc (Obj.cells #[.int .i64 0, .string ByteArray.empty, .int .i64 0, .int .i64 0, .slice none 0 0, .int .i64 0, .slice none 0 0, .int .i64 0, .slice none 0 0] 35)) := (((Below.refl _ _).alloc (Nat.le_refl _) _).alloc (by simp) _).alloc (by simp; omega) _
  obtain ⟨hBx, hLx, hZx⟩ := three_all (w := w) (o1 := (Obj.cells #[.int .i64 k, .string nm, .int .i64 num, .int .i64 k1, .slice a1 n1 c1, .int .i64 k2, .slice a2 n2 c2, .int .i64 lb, .slice a3 n3 c3] 35)) (o2 := (Obj.cells #[.slice la L.length lcap] 30)) (o3 := (Obj.cells #[.int .i64 0, .string ByteArray.empty, .int .i64 0, .int .i64 0, .slice none 0 0, .int .i64 0, .slice none 0 0, .int .i64 0, .slice none 0 0] 35))
  obtain ⟨z0, z1, z2, z3, z4, z5, z6, z7, z8⟩ := cells9 hBx
  have lc0 : ((((w.alloc (Obj.cells #[.int .i64 k, .string nm, .int .i64 num, .int .i64 k1, .slice a1 n1 c1, .int .i64 k2, .slice a2 n2 c2, .int .i64 lb, .slice a3 n3 c3] 35)).alloc (Obj.cells #[.slice la L.length lcap] 30)).alloc (Obj.cells #[.int .i64 0, .string ByteArray.empty, .int .i64 0, .int .i64 0, .slice none 0 0, .int .i64 0, .slice none 0 0, .int .i64 0, .slice none 0 0] 35))).cell? ⟨w.heap.size + 1, 0, none⟩ = some (.slice la L.length lcap) := by rw [cell_of_block hLx]; rfl
  have hs0 : ((((w.alloc (Obj.cells #[.int .i64 k, .string nm, .int .i64 num, .int .i64 k1, .slice a1 n1 c1, .int .i64 k2, .slice a2 n2 c2, .int .i64 lb, .slice a3 n3 c3] 35)).alloc (Obj.cells #[.slice la L.length lcap] 30)).alloc (Obj.cells #[.int .i64 0, .string ByteArray.empty, .int .i64 0, .int .i64 0, .slice none 0 0, .int .i64 0, .slice none 0 0, .int .i64 0, .slice none 0 0] 35))).heap.size = w.heap.size + 1 + 1 + 1 := by simp
  have HZ0 := hid hs0
  have HB0 := hid hb0
  have HBL := hid (And.intro hBx (And.intro hLx hZx))
  have hG0 : 0 < w.heap.size := World.block_lt_of_cell? _ _ (hF 0 (by omega))
  have HLT := hid (And.intro hlt hllt)
  have HV := hid (fun (w' : World) (h : Below ((((w.alloc (Obj.cells #[.int .i64 k, .string nm, .int .i64 num, .int .i64 k1, .slice a1 n1 c1, .int .i64 k2, .slice a2 n2 c2, .int .i64 lb, .slice a3 n3 c3] 35)).alloc (Obj.cells #[.slice la L.length lcap] 30)).alloc (Obj.cells #[.int .i64 0, .string ByteArray.empty, .int .i64 0, .int .i64 0, .slice none 0 0, .int .i64 0, .slice none 0 0, .int .i64 0, .slice none 0 0] 35))).heap.size (((w.alloc (Obj.cells #[.int .i64 k, .string nm, .int .i64 num, .int .i64 k1, .slice a1 n1 c1, .int .i64 k2, .slice a2 n2 c2, .int .i64 lb, .slice a3 n3 c3] 35)).alloc (Obj.cells #[.slice la L.length lcap] 30)).alloc (Obj.cells #[.int .i64 0, .string ByteArray.empty, .int .i64 0, .int .i64 0, .slice none 0 0, .int .i64 0, .slice none 0 0, .int .i64 0, .slice none 0 0] 35)) w') => implTermValid t _ fp w' ((hF.below hb0).below h) ((hat0.below hb0).below h))
  have HTY := hid (fun (w' : World) (h : Below ((((w.alloc (Obj.cells #[.int .i64 k, .string nm, .int .i64 num, .int .i64 k1, .slice a1 n1 c1, .int .i64 k2, .slice a2 n2 c2, .int .i64 lb, .slice a3 n3 c3] 35)).alloc (Obj.cells #[.slice la L.length lcap] 30)).alloc (Obj.cells #[.int .i64 0, .string ByteArray.empty, .int .i64 0, .int .i64 0, .slice none 0 0, .int .i64 0, .slice none 0 0, .int .i64 0, .slice none 0 0] 35))).heap.size (((w.alloc (Obj.cells #[.int .i64 k, .string nm, .int .i64 num, .int .i64 k1, .slice a1 n1 c1, .int .i64 k2, .slice a2 n2 c2, .int .i64 lb, .slice a3 n3 c3] 35)).alloc (Obj.cells #[.slice la L.length lcap] 30)).alloc (Obj.cells #[.int .i64 0, .string ByteArray.empty, .int .i64 0, .int .i64 0, .slice none 0 0, .int .i64 0, .slice none 0 0, .int .i64 0, .slice none 0 0] 35)) w') => implTermTypes t _ fp w' hsz ((hF.below hb0).below h) ((hat0.below hb0).below h))
  have HWE := hid (fun (hv : vldM t = true) (hLv : ∀ u ∈ L, vld u = true) (hlen : (tysOf t).length ≤ L.length) (wr : World) (h : Below w.heap.size w wr) (hUB : w.heap.size + 1 + 1 < wr.heap.size) (hcl : wr.cell? ⟨w.heap.size + 1, 0, none⟩ = some (.slice la L.length lcap)) =>
    withEach_any 128 #[.pointer (some ⟨wr.heap.size, 0, none⟩), .pointer (some ⟨w.heap.size + 1, 0, none⟩)] wr.heap.size (wr.heap.size + 1) L.length (WtSt wr.heap.size (w.heap.size + 1) L la lcap lfp) (lstT L) callOk_wt callOk_wet (Nat.lt_succ_self _)
      (WtSt.stable (Nat.lt_succ_self _) (by omega) (fun b hb => by have := hllt b hb; omega) (by omega)) (fun _ _ h => h.1)
      (fun n k a m c w1 h1 h2 h3 => wtCho_any wr.heap.size (w.heap.size + 1) (wr.heap.size + 1) L la lcap lfp (Nat.lt_succ_self _) (by omega) (by omega) (fun b hb => by have := hllt b hb; omega) (by omega) (by omega) hLv n k a m c w1 h1 h2 h3)
      t 12 (by unfold vldM at hv; simp only [Bool.and_eq_true] at hv; exact hv.1) hlen _ fp (wr.alloc (Obj.cells #[.int .i64 0] 3)) ((hat0.below h).below ((Below.refl _ _).alloc (Nat.le_refl _) _))
      ⟨(hF.below h).below ((Below.refl _ _).alloc (Nat.le_refl _) _), alloc_new _ _, cell_keep hcl ((Below.refl _ _).alloc (Nat.le_refl _) _), (hls.below h).below ((Below.refl _ _).alloc (Nat.le_refl _) _)⟩ (by simp) (fun b hb => by have := hlt b hb; omega) hsz)
  have HLEN := hid (show vldM t = true → tyLst t = tysOf t from fun h => by unfold tyLst; rw [if_pos h])
  have HW := hid (show wiM L t = if wiOk L t then wiT (lstT L) 0 t else zTm from rfl)
  have HO := hid (show wiOk L t = (((tyLst t).length == L.length) && (vldM t && L.all vld)) from rfl)
  generalize wiM L t = E at *
  generalize wiOk L t = ok at *
  generalize tyLst t = TL at *
  generalize vldM t = r at *
  clear hat hat0 hls hlget hs0 hBx hLx hZx hlt hllt hF
  go_enter Tryd.func78, Tryd.ntmps78
  go_wp2_with fail
  cases r with
  | false =>
    have hok : ok = false := by rw [HO.out]; simp
    refine wp_region_held_drew (S := (fun w' => Below (((w.alloc (Obj.cells #[.int .i64 k, .string nm, .int .i64 num, .int .i64 k1, .slice a1 n1 c1, .int .i64 k2, .slice a2 n2 c2, .int .i64 lb, .slice a3 n3 c3] 35)).alloc (Obj.cells #[.slice la L.length lcap] 30)).alloc (Obj.cells #[.int .i64 0, .string ByteArray.empty, .int .i64 0, .int .i64 0, .slice none 0 0, .int .i64 0, .slice none 0 0, .int .i64 0, .slice none 0 0] 35)).heap.size (((w.alloc (Obj.cells #[.int .i64 k, .string nm, .int .i64 num, .int .i64 k1, .slice a1 n1 c1, .int .i64 k2, .slice a2 n2 c2, .int .i64 lb, .slice a3 n3 c3] 35)).alloc (Obj.cells #[.slice la L.length lcap] 30)).alloc (Obj.cells #[.int .i64 0, .string ByteArray.empty, .int .i64 0, .int .i64 0, .slice none 0 0, .int .i64 0, .slice none 0 0, .int .i64 0, .slice none 0 0] 35)) w' ∧ w'.cell? ⟨w.heap.size, 0, none⟩ = some (.int .i64 k) ∧ w'.cell? ⟨w.heap.size, 1, none⟩ = some (.string nm) ∧ w'.cell? ⟨w.heap.size, 2, none⟩ = some (.int .i64 num) ∧ w'.cell? ⟨w.heap.size, 3, none⟩ = some (.int .i64 k1) ∧ w'.cell? ⟨w.heap.size, 4, none⟩ = some (.slice a1 n1 c1) ∧ w'.cell? ⟨w.heap.size, 5, none⟩ = some (.int .i64 k2) ∧ w'.cell? ⟨w.heap.size, 6, none⟩ = some (.slice a2 n2 c2) ∧ w'.cell? ⟨w.heap.size, 7, none⟩ = some (.int .i64 lb) ∧ w'.cell? ⟨w.heap.size, 8, none⟩ = some (.slice a3 n3 c3) ∧ w'.cell? ⟨w.heap.size + 1, 0, none⟩ = some (.slice la L.length lcap))) (by kernel_rfl) ?_ (fun hS0 => ?_)
    · (refine (fun hB => ⟨hB, cell_keep z0 hB, cell_keep z1 hB, cell_keep z2 hB, cell_keep z3 hB, cell_keep z4 hB, cell_keep z5 hB, cell_keep z6 hB, cell_keep z7 hB, cell_keep z8 hB, cell_keep lc0 hB⟩ : Below (((w.alloc (Obj.cells #[.int .i64 k, .string nm, .int .i64 num, .int .i64 k1, .slice a1 n1 c1, .int .i64 k2, .slice a2 n2 c2, .int .i64 lb, .slice a3 n3 c3] 35)).alloc (Obj.cells #[.slice la L.length lcap] 30)).alloc (Obj.cells #[.int .i64 0, .string ByteArray.empty, .int .i64 0, .int .i64 0, .slice none 0 0, .int .i64 0, .slice none 0 0, .int .i64 0, .slice none 0 0] 35)).heap.size (((w.alloc (Obj.cells #[.int .i64 k, .string nm, .int .i64 num, .int .i64 k1, .slice a1 n1 c1, .int .i64 k2, .slice a2 n2 c2, .int .i64 lb, .slice a3 n3 c3] 35)).alloc (Obj.cells #[.slice la L.length lcap] 30)).alloc (Obj.cells #[.int .i64 0, .string ByteArray.empty, .int .i64 0, .int .i64 0, .slice none 0 0, .int .i64 0, .slice none 0 0, .int .i64 0, .slice none 0 0] 35)) _ → _) ?_; exact below_drew _)
    refine regTake (i := 0) (v := ?v0) rfl (by kernel_rfl) (by kernel_rfl) (by kernel_rfl) (fun _ _ _ h => h) (Or.inl ⟨by rfl, ?hy0⟩) (by assumption) ?_
    case hy0 => (intro w hSw; (try dsimp only at hSw); go_simp; (try with_reducible rfl))
    try simp only [Act.put, List.setIfInBounds_toArray, List.set_cons_zero, List.set_cons_succ]
    refine wpAnyH_ready (rs := [1]) (by kernel_rfl) (by simp) ?_
    refine regCons rfl (fun K hK => ?_)
    go_simp
    refine (HV.out _ (below_drew _)).mono ?_
    rintro e w1 ⟨rfl, hb1⟩
    have hk1 := below_trans (below_drew _) hb1
    refine hK.out _ _ ?_ (fun hS1 => ?_)
    · (refine (fun hB => ⟨hB, cell_keep z0 hB, cell_keep z1 hB, cell_keep z2 hB, cell_keep z3 hB, cell_keep z4 hB, cell_keep z5 hB, cell_keep z6 hB, cell_keep z7 hB, cell_keep z8 hB, cell_keep lc0 hB⟩ : Below (((w.alloc (Obj.cells #[.int .i64 k, .string nm, .int .i64 num, .int .i64 k1, .slice a1 n1 c1, .int .i64 k2, .slice a2 n2 c2, .int .i64 lb, .slice a3 n3 c3] 35)).alloc (Obj.cells #[.slice la L.length lcap] 30)).alloc (Obj.cells #[.int .i64 0, .string ByteArray.empty, .int .i64 0, .int .i64 0, .slice none 0 0, .int .i64 0, .slice none 0 0, .int .i64 0, .slice none 0 0] 35)).heap.size (((w.alloc (Obj.cells #[.int .i64 k, .string nm, .int .i64 num, .int .i64 k1, .slice a1 n1 c1, .int .i64 k2, .slice a2 n2 c2, .int .i64 lb, .slice a3 n3 c3] 35)).alloc (Obj.cells #[.slice la L.length lcap] 30)).alloc (Obj.cells #[.int .i64 0, .string ByteArray.empty, .int .i64 0, .int .i64 0, .slice none 0 0, .int .i64 0, .slice none 0 0, .int .i64 0, .slice none 0 0] 35)) _ → _) ?_; exact hk1)
    clear hK K hS0
    try simp only [Act.put, List.setIfInBounds_toArray, List.set_cons_zero, List.set_cons_succ]
    refine regTake (i := 2) (v := ?v2) rfl (by kernel_rfl) (by kernel_rfl) (by kernel_rfl) (fun _ _ _ h => h) (Or.inl ⟨by rfl, ?hy2⟩) (by assumption) ?_
    case hy2 => (intro w hSw; (try dsimp only at hSw); go_simp; (try with_reducible rfl))
    try simp only [Act.put, List.setIfInBounds_toArray, List.set_cons_zero, List.set_cons_succ]
    refine regTake (i := 3) (v := ?v3) rfl (by kernel_rfl) (by kernel_rfl) (by kernel_rfl) (fun _ _ _ h => h) (Or.inl ⟨by rfl, ?hy3⟩) (by assumption) ?_
    case hy3 => (intro w hSw; (try dsimp only at hSw); go_simp; (try with_reducible rfl))
    try simp only [Act.put, List.setIfInBounds_toArray, List.set_cons_zero, List.set_cons_succ]
    refine regTake (i := 4) (v := undef) rfl (by kernel_rfl) (by kernel_rfl) (by kernel_rfl) (fun _ _ _ h => h) (Or.inr ⟨by rfl, rfl⟩) (by assumption) ?_
    try simp only [Act.put, List.setIfInBounds_toArray, List.set_cons_zero, List.set_cons_succ]
    refine regTake (i := 5) (v := undef) rfl (by kernel_rfl) (by kernel_rfl) (by kernel_rfl) (fun _ _ _ h => h) (Or.inr ⟨by rfl, rfl⟩) (by assumption) ?_
    try simp only [Act.put, List.setIfInBounds_toArray, List.set_cons_zero, List.set_cons_succ]
    refine regTake (i := 6) (v := undef) rfl (by kernel_rfl) (by kernel_rfl) (by kernel_rfl) (fun _ _ _ h => h) (Or.inr ⟨by rfl, rfl⟩) (by assumption) ?_
    try simp only [Act.put, List.setIfInBounds_toArray, List.set_cons_zero, List.set_cons_succ]
    refine regTake (i := 7) (v := undef) rfl (by kernel_rfl) (by kernel_rfl) (by kernel_rfl) (fun _ _ _ h => h) (Or.inr ⟨by rfl, rfl⟩) (by assumption) ?_
    try simp only [Act.put, List.setIfInBounds_toArray, List.set_cons_zero, List.set_cons_succ]
    refine regTake (i := 8) (v := undef) rfl (by kernel_rfl) (by kernel_rfl) (by kernel_rfl) (fun _ _ _ h => h) (Or.inr ⟨by rfl, rfl⟩) (by assumption) ?_
    try simp only [Act.put, List.setIfInBounds_toArray, List.set_cons_zero, List.set_cons_succ]
    refine regTake (i := 9) (v := undef) rfl (by kernel_rfl) (by kernel_rfl) (by kernel_rfl) (fun _ _ _ h => h) (Or.inr ⟨by rfl, rfl⟩) (by assumption) ?_
    try simp only [Act.put, List.setIfInBounds_toArray, List.set_cons_zero, List.set_cons_succ]
    refine regTake (i := 10) (v := ?v10) rfl (by kernel_rfl) (by kernel_rfl) (by kernel_rfl) (fun _ _ _ h => h) (Or.inl ⟨by rfl, ?hy10⟩) (by assumption) ?_
    case hy10 => (intro w hSw; (try dsimp only at hSw); go_simp; (try with_reducible rfl))
    try simp only [Act.put, List.setIfInBounds_toArray, List.set_cons_zero, List.set_cons_succ]
    refine wpAnyH_done (by kernel_rfl) ?_ _
    have hZ := blk HBL.out.2.2 hk1
    have b1 := below_trans HB0.out hk1
    obtain ⟨y0, y1, y2, y3, y4, y5, y6, y7, y8⟩ := cells9 hZ
    have yz := fun o => frozen_of_block (o := o) hZ
    have hM : w.heap.size + 1 + 1 < w1.heap.size := lt_of_block hZ
    have HE := hid (show E = zTm by rw [HW.out, hok]; rfl)
    subst hok
    have FIN := hid (zero_out (B := w.heap.size + 1 + 1) b1 (by omega))
    clear hZ HO HW
    go_wp2_with fail
    rw [HE.out]
    exact bodyPost_ret (v := .tuple #[.agg (Array.mk [.int .i64 0, .string ByteArray.empty, .int .i64 0, .int .i64 0, .slice none 0 0, .int .i64 0, .slice none 0 0, .int .i64 0, .slice none 0 0]), .bool false]) (by simp [results, Tryd.results78, go_sem, y0, y1, y2, y3, y4, y5, y6, y7, y8]; rfl) rfl FIN.out
  | true =>
    refine wp_region_held_drew (S := (fun w' => Below (((w.alloc (Obj.cells #[.int .i64 k, .string nm, .int .i64 num, .int .i64 k1, .slice a1 n1 c1, .int .i64 k2, .slice a2 n2 c2, .int .i64 lb, .slice a3 n3 c3] 35)).alloc (Obj.cells #[.slice la L.length lcap] 30)).alloc (Obj.cells #[.int .i64 0, .string ByteArray.empty, .int .i64 0, .int .i64 0, .slice none 0 0, .int .i64 0, .slice none 0 0, .int .i64 0, .slice none 0 0] 35)).heap.size (((w.alloc (Obj.cells #[.int .i64 k, .string nm, .int .i64 num, .int .i64 k1, .slice a1 n1 c1, .int .i64 k2, .slice a2 n2 c2, .int .i64 lb, .slice a3 n3 c3] 35)).alloc (Obj.cells #[.slice la L.length lcap] 30)).alloc (Obj.cells #[.int .i64 0, .string ByteArray.empty, .int .i64 0, .int .i64 0, .slice none 0 0, .int .i64 0, .slice none 0 0, .int .i64 0, .slice none 0 0] 35)) w' ∧ w'.cell? ⟨w.heap.size, 0, none⟩ = some (.int .i64 k) ∧ w'.cell? ⟨w.heap.size, 1, none⟩ = some (.string nm) ∧ w'.cell? ⟨w.heap.size, 2, none⟩ = some (.int .i64 num) ∧ w'.cell? ⟨w.heap.size, 3, none⟩ = some (.int .i64 k1) ∧ w'.cell? ⟨w.heap.size, 4, none⟩ = some (.slice a1 n1 c1) ∧ w'.cell? ⟨w.heap.size, 5, none⟩ = some (.int .i64 k2) ∧ w'.cell? ⟨w.heap.size, 6, none⟩ = some (.slice a2 n2 c2) ∧ w'.cell? ⟨w.heap.size, 7, none⟩ = some (.int .i64 lb) ∧ w'.cell? ⟨w.heap.size, 8, none⟩ = some (.slice a3 n3 c3) ∧ w'.cell? ⟨w.heap.size + 1, 0, none⟩ = some (.slice la L.length lcap))) (by kernel_rfl) ?_ (fun hS0 => ?_)
    · (refine (fun hB => ⟨hB, cell_keep z0 hB, cell_keep z1 hB, cell_keep z2 hB, cell_keep z3 hB, cell_keep z4 hB, cell_keep z5 hB, cell_keep z6 hB, cell_keep z7 hB, cell_keep z8 hB, cell_keep lc0 hB⟩ : Below (((w.alloc (Obj.cells #[.int .i64 k, .string nm, .int .i64 num, .int .i64 k1, .slice a1 n1 c1, .int .i64 k2, .slice a2 n2 c2, .int .i64 lb, .slice a3 n3 c3] 35)).alloc (Obj.cells #[.slice la L.length lcap] 30)).alloc (Obj.cells #[.int .i64 0, .string ByteArray.empty, .int .i64 0, .int .i64 0, .slice none 0 0, .int .i64 0, .slice none 0 0, .int .i64 0, .slice none 0 0] 35)).heap.size (((w.alloc (Obj.cells #[.int .i64 k, .string nm, .int .i64 num, .int .i64 k1, .slice a1 n1 c1, .int .i64 k2, .slice a2 n2 c2, .int .i64 lb, .slice a3 n3 c3] 35)).alloc (Obj.cells #[.slice la L.length lcap] 30)).alloc (Obj.cells #[.int .i64 0, .string ByteArray.empty, .int .i64 0, .int .i64 0, .slice none 0 0, .int .i64 0, .slice none 0 0, .int .i64 0, .slice none 0 0] 35)) _ → _) ?_; exact below_drew _)
    refine regTake (i := 0) (v := ?w0) rfl (by kernel_rfl) (by kernel_rfl) (by kernel_rfl) (fun _ _ _ h => h) (Or.inl ⟨by rfl, ?hq0⟩) (by assumption) ?_
    case hq0 => (intro w hSw; (try dsimp only at hSw); go_simp; (try with_reducible rfl))
    try simp only [Act.put, List.setIfInBounds_toArray, List.set_cons_zero, List.set_cons_succ]
    refine wpAnyH_ready (rs := [1]) (by kernel_rfl) (by simp) ?_
    refine regCons rfl (fun K hK => ?_)
    go_simp
    refine (HV.out _ (below_drew _)).mono ?_
    rintro e w1 ⟨rfl, hb1⟩
    have hk1 := below_trans (below_drew _) hb1
    refine hK.out _ _ ?_ (fun hS1 => ?_)
    · (refine (fun hB => ⟨hB, cell_keep z0 hB, cell_keep z1 hB, cell_keep z2 hB, cell_keep z3 hB, cell_keep z4 hB, cell_keep z5 hB, cell_keep z6 hB, cell_keep z7 hB, cell_keep z8 hB, cell_keep lc0 hB⟩ : Below (((w.alloc (Obj.cells #[.int .i64 k, .string nm, .int .i64 num, .int .i64 k1, .slice a1 n1 c1, .int .i64 k2, .slice a2 n2 c2, .int .i64 lb, .slice a3 n3 c3] 35)).alloc (Obj.cells #[.slice la L.length lcap] 30)).alloc (Obj.cells #[.int .i64 0, .string ByteArray.empty, .int .i64 0, .int .i64 0, .slice none 0 0, .int .i64 0, .slice none 0 0, .int .i64 0, .slice none 0 0] 35)).heap.size (((w.alloc (Obj.cells #[.int .i64 k, .string nm, .int .i64 num, .int .i64 k1, .slice a1 n1 c1, .int .i64 k2, .slice a2 n2 c2, .int .i64 lb, .slice a3 n3 c3] 35)).alloc (Obj.cells #[.slice la L.length lcap] 30)).alloc (Obj.cells #[.int .i64 0, .string ByteArray.empty, .int .i64 0, .int .i64 0, .slice none 0 0, .int .i64 0, .slice none 0 0, .int .i64 0, .slice none 0 0] 35)) _ → _) ?_; exact hk1)
    clear hK K hS0
    try simp only [Act.put, List.setIfInBounds_toArray, List.set_cons_zero, List.set_cons_succ]
    refine regTake (i := 2) (v := ?w2) rfl (by kernel_rfl) (by kernel_rfl) (by kernel_rfl) (fun _ _ _ h => h) (Or.inl ⟨by rfl, ?hq2⟩) (by assumption) ?_
    case hq2 => (intro w hSw; (try dsimp only at hSw); go_simp; (try with_reducible rfl))
    try simp only [Act.put, List.setIfInBounds_toArray, List.set_cons_zero, List.set_cons_succ]
    refine regTake (i := 3) (v := ?w3) rfl (by kernel_rfl) (by kernel_rfl) (by kernel_rfl) (fun _ _ _ h => h) (Or.inl ⟨by rfl, ?hq3⟩) (by assumption) ?_
    case hq3 => (intro w hSw; (try dsimp only at hSw); go_simp; (try with_reducible rfl))
    try simp only [Act.put, List.setIfInBounds_toArray, List.set_cons_zero, List.set_cons_succ]
    refine regTake (i := 4) (v := ?w4) rfl (by kernel_rfl) (by kernel_rfl) (by kernel_rfl) (fun _ _ _ h => h) (Or.inl ⟨by rfl, ?hq4⟩) (by assumption) ?_
    case hq4 => (intro w hSw; (try dsimp only at hSw); go_simp; (try with_reducible rfl))
    try simp only [Act.put, List.setIfInBounds_toArray, List.set_cons_zero, List.set_cons_succ]
    refine regTake (i := 5) (v := ?w5) rfl (by kernel_rfl) (by kernel_rfl) (by kernel_rfl) (fun _ _ _ h => h) (Or.inl ⟨by rfl, ?hq5⟩) (by assumption) ?_
    case hq5 => (intro w hSw; (try dsimp only at hSw); go_simp; (try with_reducible rfl))
    try simp only [Act.put, List.setIfInBounds_toArray, List.set_cons_zero, List.set_cons_succ]
    refine regTake (i := 6) (v := ?w6) rfl (by kernel_rfl) (by kernel_rfl) (by kernel_rfl) (fun _ _ _ h => h) (Or.inl ⟨by rfl, ?hq6⟩) (by assumption) ?_
    case hq6 => (intro w hSw; (try dsimp only at hSw); go_simp; (try with_reducible rfl))
    try simp only [Act.put, List.setIfInBounds_toArray, List.set_cons_zero, List.set_cons_succ]
    refine wpAnyH_ready (rs := [7]) (by kernel_rfl) (by simp) ?_
    refine regCons rfl (fun K hK => ?_)
    go_simp
    refine (HTY.out _ hk1).mono ?_
    rintro e w2 ⟨s1, f1, rfl, hs1, -, hb2⟩
    obtain ⟨ta, tcap, rfl, -, -, -⟩ := hs1.openA
    clear hs1
    have hk2 := below_trans hk1 hb2
    refine hK.out _ _ ?_ (fun hS2 => ?_)
    · (refine (fun hB => ⟨hB, cell_keep z0 hB, cell_keep z1 hB, cell_keep z2 hB, cell_keep z3 hB, cell_keep z4 hB, cell_keep z5 hB, cell_keep z6 hB, cell_keep z7 hB, cell_keep z8 hB, cell_keep lc0 hB⟩ : Below (((w.alloc (Obj.cells #[.int .i64 k, .string nm, .int .i64 num, .int .i64 k1, .slice a1 n1 c1, .int .i64 k2, .slice a2 n2 c2, .int .i64 lb, .slice a3 n3 c3] 35)).alloc (Obj.cells #[.slice la L.length lcap] 30)).alloc (Obj.cells #[.int .i64 0, .string ByteArray.empty, .int .i64 0, .int .i64 0, .slice none 0 0, .int .i64 0, .slice none 0 0, .int .i64 0, .slice none 0 0] 35)).heap.size (((w.alloc (Obj.cells #[.int .i64 k, .string nm, .int .i64 num, .int .i64 k1, .slice a1 n1 c1, .int .i64 k2, .slice a2 n2 c2, .int .i64 lb, .slice a3 n3 c3] 35)).alloc (Obj.cells #[.slice la L.length lcap] 30)).alloc (Obj.cells #[.int .i64 0, .string ByteArray.empty, .int .i64 0, .int .i64 0, .slice none 0 0, .int .i64 0, .slice none 0 0, .int .i64 0, .slice none 0 0] 35)) _ → _) ?_; exact hk2)
    clear hK K hS1
    try simp only [Act.put, List.setIfInBounds_toArray, List.set_cons_zero, List.set_cons_succ]
    refine regTake (i := 8) (v := ?w8) rfl (by kernel_rfl) (by kernel_rfl) (by kernel_rfl) (fun _ _ _ h => h) (Or.inl ⟨by rfl, ?hq8⟩) (by assumption) ?_
    case hq8 => (intro w hSw; (try dsimp only at hSw); go_simp; (try with_reducible rfl))
    try simp only [Act.put, List.setIfInBounds_toArray, List.set_cons_zero, List.set_cons_succ]
    refine regTake (i := 9) (v := ?w9) rfl (by kernel_rfl) (by kernel_rfl) (by kernel_rfl) (fun _ _ _ h => h) (Or.inl ⟨by rfl, ?hq9⟩) (by assumption) ?_
    case hq9 => (intro w hSw; (try dsimp only at hSw); go_simp; (try with_reducible rfl))
    try simp only [Act.put, List.setIfInBounds_toArray, List.set_cons_zero, List.set_cons_succ]
    refine regTake (i := 10) (v := ?w10) rfl (by kernel_rfl) (by kernel_rfl) (by kernel_rfl) (fun _ _ _ h => h) (Or.inl ⟨by rfl, ?hq10⟩) (by assumption) ?_
    case hq10 => (intro w hSw; (try dsimp only at hSw); go_simp; (try with_reducible rfl))
    try simp only [Act.put, List.setIfInBounds_toArray, List.set_cons_zero, List.set_cons_succ]
    refine wpAnyH_done (by kernel_rfl) ?_ _
    have hZ := blk HBL.out.2.2 hk2
    have b2 := below_trans HB0.out hk2
    by_cases hlen : TL.length = L.length
    case neg =>
      have hlen' : ((L.length : Int) == (TL.length : Int)) = false := by simp; omega
      have hlen2 : ((L.length : Int) != (TL.length : Int)) = true := by simp; omega
      have hok : ok = false := by rw [HO.out]; simp [hlen]
      obtain ⟨y0, y1, y2, y3, y4, y5, y6, y7, y8⟩ := cells9 hZ
      have yz := fun o => frozen_of_block (o := o) hZ
      have hM : w.heap.size + 1 + 1 < w2.heap.size := lt_of_block hZ
      have HE := hid (show E = zTm by rw [HW.out, hok]; rfl)
      subst hok
      have FIN := hid (zero_out (B := w.heap.size + 1 + 1) b2 (by omega))
      clear hZ HO HW
      go_wp2_with fail
      rw [HE.out]
      exact bodyPost_ret (v := .tuple #[.agg (Array.mk [.int .i64 0, .string ByteArray.empty, .int .i64 0, .int .i64 0, .slice none 0 0, .int .i64 0, .slice none 0 0, .int .i64 0, .slice none 0 0]), .bool false]) (by simp [results, Tryd.results78, go_sem, y0, y1, y2, y3, y4, y5, y6, y7, y8]; rfl) rfl FIN.out
    have hlen' : ((L.length : Int) == (TL.length : Int)) = true := by simp [hlen]
    have hlen2 : ((L.length : Int) != (TL.length : Int)) = false := by simp [hlen]
    have HO2 := hid (show ok = L.all vld by rw [HO.out]; simp [hlen])
    have HTT := hid (show (tysOf t).length ≤ L.length by rw [← HLEN.out rfl, hlen]; exact Nat.le_refl _)
    have HL2 := hid hlen
    have lc2 := cell_keep lc0 hk2
    have HB2 := hid b2
    have HZ2 := hid hZ
    have HK2 := hid hk2
    rw [hlen]
    have hll : ((L.length : Int) != (L.length : Int)) = false := by simp
    have HBX := hid (blk HBL.out.1 hk2)
    clear hk1 hk2 hb1 hb2 hS2 lc0 hZ b2 hlen hlen' hlen2 HO HLEN z0 z1 z2 z3 z4 z5 z6 z7 z8
    go_wp2_with fail
    clear hll
    go_loopw [24] (fun i wr => ∃ j : Nat, j ≤ L.length ∧ i = .int .i64 j ∧ (L.take j).all vld = true ∧ Below w2.heap.size w2 wr) (fun i _ => L.length - (intOf i).toNat)
    case atStart => exact ⟨0, Nat.zero_le _, rfl, rfl, Below.refl _ _⟩
    case round =>
      obtain ⟨j, hj, rfl, hall, hb⟩ := hrel
      have HAL := hid hall
      clear hall
      have hZ := blk HZ2.out hb
      have br := below_trans HB2.out hb
      by_cases hlk : j < L.length
      · obtain ⟨b, o, kk, nn, aa, cc, g, hla, hblt, d0, d1, hatu, -⟩ := HLG.out j hlk
        subst hla
        have hal : Below wr.heap.size wr (wr.alloc (Obj.cells #[.int .i64 kk, .slice aa nn cc] 32)) := (Below.refl _ _).alloc (Nat.le_refl _) _
        have HATU := hid ((hatu.below br).below hal)
        replace d0 := (br.cell (p := ⟨b, o + j * 2, none⟩) hblt).trans d0
        replace d1 := (br.cell (p := ⟨b, o + j * 2 + 1, none⟩) hblt).trans d1
        have HT := hid (vld_take hlk)
        have HF := hid (vld_false hlk)
        clear hatu
        go_wp2_with fail
        refine (implTypeValid_any L[j] _ _ _ HATU.out).mono ?_
        rintro e w3 ⟨rfl, hb3⟩
        have hb3' := below_trans (below_trans hb hal) hb3
        have br3 := below_trans (below_trans br hal) hb3
        replace hZ := blk (blk hZ hal) hb3
        obtain ⟨y0, y1, y2, y3, y4, y5, y6, y7, y8⟩ := cells9 hZ
        have yz := fun o => frozen_of_block (o := o) hZ
        have hM : w.heap.size + 1 + 1 < w3.heap.size := lt_of_block hZ
        clear hb hb3 br d0 d1 hal
        cases hv : vld L[j] with
        | false =>
          have hok : ok = false := by rw [HO2.out, HF.out hv]
          clear hv
          have HE := hid (show E = zTm by rw [HW.out, hok]; rfl)
          subst hok
          have FIN := hid (zero_out (B := w.heap.size + 1 + 1) br3 (by omega))
          clear hZ HO2 HW
          go_wp2_with fail
          rw [HE.out]
          exact bodyPost_ret (v := .tuple #[.agg (Array.mk [.int .i64 0, .string ByteArray.empty, .int .i64 0, .int .i64 0, .slice none 0 0, .int .i64 0, .slice none 0 0, .int .i64 0, .slice none 0 0]), .bool false]) (by simp [results, Tryd.results78, go_sem, y0, y1, y2, y3, y4, y5, y6, y7, y8]; rfl) rfl FIN.out
        | true =>
          have HR := hid (show (L.take (j + 1)).all vld = true by rw [HT.out, HAL.out, hv]; rfl)
          clear hv hZ y0 y1 y2 y3 y4 y5 y6 y7 y8 yz hM
          go_wp2_with fail
          go_roundw
          case rel => exact ⟨j + 1, by omega, by go_num, HR.out, hb3'⟩
          case measure => simp [intOf]; omega
      · have hallL : L.all vld = true := by
          have := HAL.out
          rwa [List.take_of_length_le (by omega)] at this
        have hok : ok = true := by rw [HO2.out, hallL]
        have HE := hid (show E = wiT (lstT L) 0 t by rw [HW.out, hok]; rfl)
        subst hok
        have hB := blk HBX.out hb
        have hcl := cell_keep lc2 hb
        obtain ⟨x0, x1, x2, x3, x4, x5, x6, x7, x8⟩ := cells9 hB
        have hUB : w.heap.size + 1 + 1 < wr.heap.size := lt_of_block hZ
        have hS0 : w.heap.size < wr.heap.size := by omega
        have hS1 : w.heap.size + 1 < wr.heap.size := by omega
        have HCL := hid (HWE.out trivial (fun u hu => List.all_eq_true.1 hallL u hu) HTT.out wr br hUB hcl)
        have HZR := hid hZ
        have HBR := hid br
        clear HO2 HW hB hZ hb br hcl hallL
        generalize hTT : (tysOf t).length = tn at *
        clear hTT
        go_wp2_with fail
        refine HCL.out.mono ?_
        rintro e w4 ⟨v', f', rfl, hu, hf, hbx, -⟩
        obtain ⟨r0, r1, r2, r3, r4, r5, r6, r7, r8, r9, r10, r11, r12, r13, r14, rfl⟩ := hu.agg
        have hal : Below wr.heap.size wr (wr.alloc (Obj.cells #[.int .i64 0] 3)) := (Below.refl _ _).alloc (Nat.le_refl _) _
        have hZ4 := hbx.block' (blk HZR.out hal) (by omega)
        obtain ⟨y0, y1, y2, y3, y4, y5, y6, y7, y8⟩ := cells9 hZ4
        have yz := fun o => frozen_of_block (o := o) hZ4
        have hM : w.heap.size + 1 + 1 < w4.heap.size := lt_of_block hZ4
        have hsU : (wr.alloc (Obj.cells #[.int .i64 0] 3)).heap.size = wr.heap.size + 1 := by simp
        rw [hsU] at hf
        have b4 : Below w.heap.size w w4 := (below_trans HBR.out hal).trans (hbx.below (by rw [hsU]; omega) (by omega))
        have ab : Above (wr.heap.size + 1) w4 (put w4 (w.heap.size + 1 + 1) 0 [.int .i64 r0, .string r1, .int .i64 r2, .int .i64 r3, .slice r5 r4 r6, .int .i64 r7, .slice r9 r8 r10, .int .i64 r11, .slice r13 r12 r14]) := (Above.refl _ _).put (by omega)
        have hal5 : Below (put w4 (w.heap.size + 1 + 1) 0 [.int .i64 r0, .string r1, .int .i64 r2, .int .i64 r3, .slice r5 r4 r6, .int .i64 r7, .slice r9 r8 r10, .int .i64 r11, .slice r13 r12 r14]).heap.size (put w4 (w.heap.size + 1 + 1) 0 [.int .i64 r0, .string r1, .int .i64 r2, .int .i64 r3, .slice r5 r4 r6, .int .i64 r7, .slice r9 r8 r10, .int .i64 r11, .slice r13 r12 r14]) ((put w4 (w.heap.size + 1 + 1) 0 [.int .i64 r0, .string r1, .int .i64 r2, .int .i64 r3, .slice r5 r4 r6, .int .i64 r7, .slice r9 r8 r10, .int .i64 r11, .slice r13 r12 r14]).alloc (Obj.cells #[.int .i64 r0, .string r1, .int .i64 r2, .int .i64 r3, .slice r5 r4 r6, .int .i64 r7, .slice r9 r8 r10, .int .i64 r11, .slice r13 r12 r14] 35)) := (Below.refl _ _).alloc (Nat.le_refl _) _
        have hpb : Below w.heap.size w (put w4 (w.heap.size + 1 + 1) 0 [.int .i64 r0, .string r1, .int .i64 r2, .int .i64 r3, .slice r5 r4 r6, .int .i64 r7, .slice r9 r8 r10, .int .i64 r11, .slice r13 r12 r14]) := below_put b4 (by omega)
        have FIN := hid (show MadeMB w E true (.returned (.tuple #[.agg (Array.mk [.int .i64 r0, .string r1, .int .i64 r2, .int .i64 r3, .slice r5 r4 r6, .int .i64 r7, .slice r9 r8 r10, .int .i64 r11, .slice r13 r12 r14]), .bool true])) ((put w4 (w.heap.size + 1 + 1) 0 [.int .i64 r0, .string r1, .int .i64 r2, .int .i64 r3, .slice r5 r4 r6, .int .i64 r7, .slice r9 r8 r10, .int .i64 r11, .slice r13 r12 r14]).alloc (Obj.cells #[.int .i64 r0, .string r1, .int .i64 r2, .int .i64 r3, .slice r5 r4 r6, .int .i64 r7, .slice r9 r8 r10, .int .i64 r11, .slice r13 r12 r14] 35)) from
          ⟨_, f', rfl, by rw [HE.out]; exact (hu.above ab hf.ge).below hal5, ((hf.above ab (Nat.le_refl _)).below hal5).mono (by omega), below_trans hpb hal5⟩)
        have HBF := hid (show ((put w4 (w.heap.size + 1 + 1) 0 [.int .i64 r0, .string r1, .int .i64 r2, .int .i64 r3, .slice r5 r4 r6, .int .i64 r7, .slice r9 r8 r10, .int .i64 r11, .slice r13 r12 r14]).alloc (Obj.cells #[.int .i64 r0, .string r1, .int .i64 r2, .int .i64 r3, .slice r5 r4 r6, .int .i64 r7, .slice r9 r8 r10, .int .i64 r11, .slice r13 r12 r14] 35)).heap[w.heap.size + 1 + 1]? = some (.cells (Array.mk [.int .i64 r0, .string r1, .int .i64 r2, .int .i64 r3, .slice r5 r4 r6, .int .i64 r7, .slice r9 r8 r10, .int .i64 r11, .slice r13 r12 r14]) 35 (0, 0)) from blk (by
          rw [heap_put hZ4]
          simp only [putA, List.setIfInBounds_toArray, List.set]) hal5)
        clear x0 x1 x2 x3 x4 x5 x6 x7 x8 hu hf hbx hZ4 b4 ab hal hal5 hpb hsU
        go_wp2_with fail
        generalize hWW : ((((((((((w4.setCell ⟨w.heap.size + 1 + 1, 0, none⟩ (.int .i64 r0)).setCell ⟨w.heap.size + 1 + 1, 1, none⟩ (.string r1)).setCell ⟨w.heap.size + 1 + 1, 2, none⟩ (.int .i64 r2)).setCell ⟨w.heap.size + 1 + 1, 3, none⟩ (.int .i64 r3)).setCell ⟨w.heap.size + 1 + 1, 4, none⟩ (.slice r5 r4 r6)).setCell ⟨w.heap.size + 1 + 1, 5, none⟩ (.int .i64 r7)).setCell ⟨w.heap.size + 1 + 1, 6, none⟩ (.slice r9 r8 r10)).setCell ⟨w.heap.size + 1 + 1, 7, none⟩ (.int .i64 r11)).setCell ⟨w.heap.size + 1 + 1, 8, none⟩ (.slice r13 r12 r14)).alloc (Obj.cells #[.int .i64 r0, .string r1, .int .i64 r2, .int .i64 r3, .slice r5 r4 r6, .int .i64 r7, .slice r9 r8 r10, .int .i64 r11, .slice r13 r12 r14] 35)) = WW
        have e5 : WW = (put w4 (w.heap.size + 1 + 1) 0 [.int .i64 r0, .string r1, .int .i64 r2, .int .i64 r3, .slice r5 r4 r6, .int .i64 r7, .slice r9 r8 r10, .int .i64 r11, .slice r13 r12 r14]).alloc (Obj.cells #[.int .i64 r0, .string r1, .int .i64 r2, .int .i64 r3, .slice r5 r4 r6, .int .i64 r7, .slice r9 r8 r10, .int .i64 r11, .slice r13 r12 r14] 35) := by rw [← hWW]; simp only [put, Nat.zero_add, Nat.reduceAdd]
        have hBF := HBF.out
        have hFIN := FIN.out
        rw [← e5] at hBF hFIN
        clear e5 hWW y0 y1 y2 y3 y4 y5 y6 y7 y8 yz hM HBF FIN
        obtain ⟨y0, y1, y2, y3, y4, y5, y6, y7, y8⟩ := cells9 hBF
        exact bodyPost_ret (v := .tuple #[.agg (Array.mk [.int .i64 r0, .string r1, .int .i64 r2, .int .i64 r3, .slice r5 r4 r6, .int .i64 r7, .slice r9 r8 r10, .int .i64 r11, .slice r13 r12 r14]), .bool true]) (by simp [results, Tryd.results78, go_sem, y0, y1, y2, y3, y4, y5, y6, y7, y8]) rfl hFIN

end Go.Proofs.YtffmpjcjmffdeaaDoor
