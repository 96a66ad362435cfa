/- TermSame of the program. -/
import Derived.Laws.EntriesVeiled
import Derived.Test.YtffmpjcjmffdeaaDoorUMs2
namespace Go.Proofs.YtffmpjcjmffdeaaDoor
open Go.RowKit

theorem Raw.belowMm {w w' : World} {b : Nat} (h : Raw w b) (hb : Below w.heap.size w w') : Raw w' b := by
  obtain ⟨⟨C, T, fz, hC⟩, hf⟩ := h
  exact ⟨⟨C, T, fz, (hb.block b (lt_of_block hC)).trans hC⟩, fun o => (hb.frozen (p := ⟨b, o, none⟩) (lt_of_block hC)).trans (hf o)⟩

theorem Ty.At.heldMm {w : World} : ∀ {t : Ty} {v : Value} {fp : List Nat}, Ty.At w t v fp → ∀ b ∈ fp, ∃ o x, w.cell? ⟨b, o, none⟩ = some x := by
  have hl : ∀ {ts : List Ty} (ih : ∀ t ∈ ts, ∀ (v : Value) (fp : List Nat), Ty.At w t v fp → ∀ b ∈ fp, ∃ o x, w.cell? ⟨b, o, none⟩ = some x) {b o : Nat} {fp : List Nat}, Ty.AtL w ts b o fp → ∀ b ∈ fp, ∃ o x, w.cell? ⟨b, o, none⟩ = some x := by
    intro ts
    induction ts with
    | nil => intro _ b o fp h; cases h; simp
    | cons t ts ihl =>
      intro ih b o fp h
      obtain ⟨v0, v1, f1, f2, c0, c1, ht, hr, rfl⟩ := h
      intro x hx
      rcases List.mem_append.1 hx with hx | hx
      · exact ih t (by simp) _ _ ht x hx
      · exact ihl (fun t h => ih t (by simp [h])) hr x hx
  have : ∀ t : Ty, ∀ (v : Value) (fp : List Nat), Ty.At w t v fp → ∀ b ∈ fp, ∃ o x, w.cell? ⟨b, o, none⟩ = some x := Ty.ind fun k ts ih v fp h b hb => by
    obtain ⟨s, rfl, h⟩ := h
    rcases h with ⟨_, rfl, _⟩ | ⟨b', o, cap, f, rfl, hp, hc, hm, hr, rfl⟩
    · simp at hb
    · rcases List.mem_cons.1 hb with rfl | hb
      · obtain ⟨v0, v1, f, c0, _⟩ := Ty.atL_get hr 0 hp
        exact ⟨_, _, c0⟩
      · exact hl ih hr b hb
  intro t v fp
  exact this t v fp

theorem Tm.At.heldMm {w : World} : ∀ {t : Tm} {v : Value} {fp : List Nat}, Tm.At w t v fp → ∀ b ∈ fp, ∃ o x, w.cell? ⟨b, o, none⟩ = some x := by
  have hl : ∀ {ts : List Tm} (ih : ∀ t ∈ ts, ∀ (v : Value) (fp : List Nat), Tm.At w t v fp → ∀ b ∈ fp, ∃ o x, w.cell? ⟨b, o, none⟩ = some x) {b o : Nat} {fp : List Nat}, Tm.AtL w ts b o fp → ∀ b ∈ fp, ∃ o x, w.cell? ⟨b, o, none⟩ = some x := by
    intro ts
    induction ts with
    | nil => intro _ b o fp h; simp only [Tm.AtL] at h; subst h; simp
    | cons t ts ihl =>
      intro ih b o fp h
      simp only [Tm.AtL] at h
      obtain ⟨cs, f1, f2, hc, ht, hr, rfl⟩ := h
      intro x hx
      rcases List.mem_append.1 hx with hx | hx
      · exact ih t (by simp) _ _ ht x hx
      · exact ihl (fun t h => ih t (by simp [h])) hr x hx
  have : ∀ t : Tm, ∀ (v : Value) (fp : List Nat), Tm.At w t v fp → ∀ b ∈ fp, ∃ o x, w.cell? ⟨b, o, none⟩ = some x := Tm.ind fun k nm num ty fr lb ts ih v fp h b hb => by
    obtain ⟨k1, s1, k2, s2, s, f1, f2, f3, rfl, hnm, h1, h2, rfl, hs⟩ := Tm.at_mk.1 h
    rcases List.mem_append.1 hb with hb | hb
    · exact h1.heldMm b hb
    rcases List.mem_append.1 hb with hb | hb
    · exact h2.heldMm b hb
    rcases hs with ⟨_, rfl, _⟩ | ⟨b', o, cap, f, rfl, hp, hc, hm, hr, rfl⟩
    · simp at hb
    · rcases List.mem_cons.1 hb with rfl | hb
      · obtain ⟨cs, f, hcs, hat, _⟩ := Tm.atL_get hr 0 hp
        have h9 := Tm.size9 hat
        have h0 := hcs 0 (by omega)
        rw [Array.getElem?_eq_getElem (by omega)] at h0
        exact ⟨_, _, h0⟩
      · exact hl ih hr b hb
  intro t v fp
  exact this t v fp

/-- Memory that a call has made for its answer is unfrozen. -/
theorem Fresh.rawM {B : Nat} {w : World} {t : Tm} {v : Value} {fp : List Nat} (h : t.At w v fp) (hf : Fresh B w fp) : ∀ x ∈ fp, Raw w x := fun x hx => by
  obtain ⟨o, y, hc⟩ := h.heldMm x hx
  refine ⟨?_, (hf.2 x hx).2.2⟩
  simp only [World.cell?] at hc
  cases hb : w.heap[x]? with
  | none => rw [hb] at hc; cases hc
  | some ob =>
    rw [hb] at hc
    cases ob with
    | cells C T fz => exact ⟨C, T, fz, rfl⟩
    | _ => cases hc

theorem second_newMm (w : World) (X Y : Obj) : ((w.alloc X).alloc Y).heap[w.heap.size + 1]? = some Y := by
  have hs : (w.alloc X).heap.size = w.heap.size + 1 := by simp
  rw [← hs]
  exact alloc_new _ _

set_option maxHeartbeats 400000 in
theorem compareTypes_anyMm (w : World) : Calls Tryd.prog 84 #[] w fun e w' => ∃ N, e = .returned (.agg #[.map (some N), .func (.func 136) #[] #[], .func (.func 137) #[] #[]]) ∧ w'.heap[N]? = some (.map #[] 0) ∧ w.heap.size ≤ N ∧ Below w.heap.size w w' := by
  have hmm := @run_makeMap Tryd.prog
  go_enter Tryd.func84, Tryd.ntmps84
  go_wp2_with fail
  exact bodyPost_ret (v := .agg #[.map (some (w.heap.size + 1)), .func (.func 136) #[] #[], .func (.func 137) #[] #[]]) (by simp [results, Tryd.results84, go_sem]) rfl ⟨w.heap.size + 1, rfl, second_newMm _ _ _, by omega, ((Below.refl _ _).alloc (Nat.le_refl _) _).alloc (by simp) _⟩

theorem node_of_box {w W : World} {t : Tm} {x0 x1 x2 x3 x4 x5 x6 x7 x8 : Value} {fp : List Nat} {b : Nat} {T : TypeId} (hE : W.heap[b]? = some (Obj.cells #[x0, x1, x2, x3, x4, x5, x6, x7, x8] T)) (hat : t.At w (.agg #[x0, x1, x2, x3, x4, x5, x6, x7, x8]) fp) (hr : ∀ x ∈ fp, Raw w x) (hb : Below w.heap.size w W) : NdAtMm W t (b, 0) := by
  obtain ⟨y0, y1, y2, y3, y4, y5, y6, y7, y8⟩ := cells9 hE
  refine ⟨_, fp, fun i hi => ?_, hat.below hb, ⟨⟨_, _, _, hE⟩, fun o => frozen_of_block hE⟩, fun x hx => (hr x hx).belowMm hb⟩
  simp only [Nat.zero_add]
  rcases (by omega : i = 0 ∨ i = 1 ∨ i = 2 ∨ i = 3 ∨ i = 4 ∨ i = 5 ∨ i = 6 ∨ i = 7 ∨ i = 8) with rfl | rfl | rfl | rfl | rfl | rfl | rfl | rfl | rfl <;> assumption

theorem two_blkMm {w wr : World} {o1 o2 : Obj} (h : Below ((w.alloc o1).alloc o2).heap.size ((w.alloc o1).alloc o2) wr) : wr.heap[w.heap.size]? = some o1 ∧ wr.heap[w.heap.size + 1]? = some o2 := two_outMm h

set_option maxRecDepth 100000 in
set_option maxHeartbeats 2000000 in
theorem implTermSame (t u : Tm) (v1 v2 : Value) (f1 f2 : List Nat) (w : World) (hn : t.sz ≤ 8388608) (h1 : t.At w v1 f1) (h2 : u.At w v2 f2) (r1 : ∀ x ∈ f1, Raw w x) (r2 : ∀ x ∈ f2, Raw w x) :
    Calls Tryd.prog 35 #[v1, v2] w fun e w' => e = .returned (.bool (tmEq t u)) ∧ Below w.heap.size w w' := by
  obtain ⟨k, nm, num, k1, n1, a1, c1, k2, n2, a2, c2, lb, n3, a3, c3, rfl⟩ := h1.agg
  obtain ⟨k', nm', num', k1', n1', a1', c1', k2', n2', a2', c2', lb', n3', a3', c3', rfl⟩ := h2.agg
  have hal : Below w.heap.size w ((w.alloc (Obj.cells #[.int .i64 k, .string nm, .int .i64 num, .int .i64 k1, .slice a1 n1 c1, .int .i64 k2, .slice a2 n2 c2, .int .i64 lb, .slice a3 n3 c3] 35)).alloc (Obj.cells #[.int .i64 k', .string nm', .int .i64 num', .int .i64 k1', .slice a1' n1' c1', .int .i64 k2', .slice a2' n2' c2', .int .i64 lb', .slice a3' n3' c3'] 35)) := ((Below.refl _ _).alloc (Nat.le_refl _) _).alloc (by simp) _
  have HA := hid hal
  have H1 := hid (And.intro h1 h2)
  have HR := hid (And.intro r1 r2)
  have hmm := @run_makeMap Tryd.prog
  clear hal h1 h2 r1 r2
  go_enter Tryd.func35, Tryd.ntmps35
  go_wp2_with fail
  refine (compareTypes_anyMm _).mono ?_
  rintro e w1 ⟨N, rfl, hN, hNl, hb⟩
  obtain ⟨hkA, hkB⟩ := two_blkMm hb
  have hg1 := alloc_new w1 (Obj.cells #[.map (some N), .func (.func 136) #[] #[], .func (.func 137) #[] #[]] 100)
  have hga : Below w1.heap.size w1 (w1.alloc (Obj.cells #[.map (some N), .func (.func 136) #[] #[], .func (.func 137) #[] #[]] 100)) := (Below.refl _ _).alloc (Nat.le_refl _) _
  have hs1 : (w1.alloc (Obj.cells #[.map (some N), .func (.func 136) #[] #[], .func (.func 137) #[] #[]] 100)).heap.size = w1.heap.size + 1 := by simp
  have HS := hid (show w.heap.size + 1 + 1 ≤ w1.heap.size by have := hb.size; simp at this; omega)
  have HNL := hid (show w.heap.size + 1 + 1 ≤ N by simp at hNl; omega)
  have HB1 := hid hb
  clear hNl
  have hs2 : ((w1.alloc (Obj.cells #[.map (some N), .func (.func 136) #[] #[], .func (.func 137) #[] #[]] 100)).alloc (Obj.map #[] 0)).heap.size = w1.heap.size + 1 + 1 := by simp
  have hbW0 : Below (w1.alloc (Obj.cells #[.map (some N), .func (.func 136) #[] #[], .func (.func 137) #[] #[]] 100)).heap.size (w1.alloc (Obj.cells #[.map (some N), .func (.func 136) #[] #[], .func (.func 137) #[] #[]] 100)) (((w1.alloc (Obj.cells #[.map (some N), .func (.func 136) #[] #[], .func (.func 137) #[] #[]] 100)).alloc (Obj.map #[] 0)).alloc (Obj.cells #[.map (some (w1.heap.size + 1)), .func (.func 85) #[] #[], .func (.func 86) #[] #[.pointer (some ⟨w1.heap.size, 0, none⟩)]] 108)) := ((Below.refl _ _).alloc (Nat.le_refl _) _).alloc (by simp) _
  have hbW := below_trans hga hbW0
  have hWG := (hbW0.block _ (lt_of_block hg1)).trans hg1
  have hWM : (((w1.alloc (Obj.cells #[.map (some N), .func (.func 136) #[] #[], .func (.func 137) #[] #[]] 100)).alloc (Obj.map #[] 0)).alloc (Obj.cells #[.map (some (w1.heap.size + 1)), .func (.func 85) #[] #[], .func (.func 86) #[] #[.pointer (some ⟨w1.heap.size, 0, none⟩)]] 108)).heap[w1.heap.size + 1]? = some (Obj.map #[] 0) := by
    have h1 := alloc_new (w1.alloc (Obj.cells #[.map (some N), .func (.func 136) #[] #[], .func (.func 137) #[] #[]] 100)) (Obj.map #[] 0)
    rw [hs1] at h1
    exact (Below.heap_alloc _ _ _ (by rw [hs2]; omega)).trans h1
  have hWN := (hbW.block _ (lt_of_block hN)).trans hN
  have hNlt : N < w1.heap.size := lt_of_block hN
  have hBw := below_trans HA.out (below_trans hb hbW)
  have hA := node_of_box ((hbW.block _ (lt_of_block hkA)).trans hkA) H1.out.1 HR.out.1 hBw
  have hB := node_of_box ((hbW.block _ (lt_of_block hkB)).trans hkB) H1.out.2 HR.out.2 hBw
  have HX := hid (same_anyMm t u w.heap.size 0 (w.heap.size + 1) 0 (w1.heap.size + 1) N w1.heap.size #[] 0 0 (((w1.alloc (Obj.cells #[.map (some N), .func (.func 136) #[] #[], .func (.func 137) #[] #[]] 100)).alloc (Obj.map #[] 0)).alloc (Obj.cells #[.map (some (w1.heap.size + 1)), .func (.func 85) #[] #[], .func (.func 86) #[] #[.pointer (some ⟨w1.heap.size, 0, none⟩)]] 108)) hn hA hB hWM hWN hWG (fun e he => by simp at he) (by omega))
  have HBW := hid hBw
  clear hkA hkB hg1 hga hs1 hs2 hbW0 hbW hWG hWM hWN hBw hA hB hb
  go_wp2_with fail
  refine HX.out.mono ?_
  rintro e w2 ⟨r, rfl, hr, hx⟩
  have hbb := HBW.out.trans (hx.below (B := w.heap.size) HBW.out.size (by have := HS.out; omega) (by have := HNL.out; omega))
  have hre : tmEq t u = r := by
    cases r with
    | true => rw [hr.1 rfl, tmEq_refl]
    | false =>
      cases h : tmEq t u with
      | false => rfl
      | true => cases hr.2 (eq_of_tmEq h)
  have HRE := hid hre
  clear hx hr hre HX
  go_wp2_with fail
  go_ret
  exact ⟨ret_b HRE.out.symm, hbb⟩
end Go.Proofs.YtffmpjcjmffdeaaDoor
