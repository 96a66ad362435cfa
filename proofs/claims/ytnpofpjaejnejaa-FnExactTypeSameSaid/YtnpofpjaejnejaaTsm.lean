/- TypeSame, of the specification and of the program. -/
import Derived.Test.YtnpofpjaejnejaaSmI
import Derived.Laws.EntriesVeiled
import Derived.Test.YtnpofpjaejnejaaWf
import Derived.Test.YtnpofpjaejnejaaEq
namespace Go.Proofs.Ytnpofpjaejnejaa
open Go.RowKit

def TsC (t : Ty) : Prop := ∀ (u : Ty) (v1 v2 : Value) (f1 f2 : List Nat) (w : World), t.At w v1 f1 → u.At w v2 f2 →
  Calls Try.prog 8 #[v1, v2] w fun e w' => e = .returned (.bool (tyEq t u)) ∧ Below w.heap.size w w'

set_option maxHeartbeats 800000 in
set_option maxRecDepth 100000 in
theorem specTypeSame_of (k : Int) (ts : List Ty) (ih : ∀ t ∈ ts, TsC t) : TsC (.mk k ts) := by
  intro u v1 v2 f1 f2 w h1 h2
  have HIH := hid ih
  clear ih
  obtain ⟨k', us, rfl⟩ := u.shape
  obtain ⟨s1, rfl, hs1⟩ := Ty.at_mk.1 h1
  obtain ⟨s2, rfl, hs2⟩ := Ty.at_mk.1 h2
  obtain ⟨a, cap, rfl, hc, hm, hget⟩ := hs1.openA
  have HG := hid hget
  obtain ⟨a2, cap2, rfl, hc2, hm2, hget2⟩ := hs2.openA
  have HG2 := hid hget2
  clear hget hget2 hs1 hs2 h1 h2
  have hal : Below w.heap.size w ((w.alloc (Obj.cells #[.int .i64 k, .slice a ts.length cap] 29)).alloc (Obj.cells #[.int .i64 k', .slice a2 us.length cap2] 29)) := ((Below.refl _ _).alloc (Nat.le_refl _) _).alloc (by simp) _
  have HAL := hid hal
  clear hal
  by_cases hkk : k = k'
  case neg =>
    have HT := hid (show tyEq (.mk k ts) (.mk k' us) = false by simp [tyEq, hkk])
    have hk1 : (k == k') = false := by simpa using hkk
    have hk2 : (k != k') = true := by simpa using hkk
    clear hkk
    go_enter Try.func8, Try.ntmps8
    go_wp2_with fail
    go_ret
    exact ⟨ret_b HT.out.symm, HAL.out⟩
  subst hkk
  by_cases hl : ts.length = us.length
  case neg =>
    have HT := hid (show tyEq (.mk k ts) (.mk k us) = false by simp [tyEq, tyEqL_len hl])
    have hl1 : ((ts.length : Int) != (us.length : Int)) = true := by simp; omega
    have hl2 : ((ts.length : Int) == (us.length : Int)) = false := by simp; omega
    clear hl
    go_enter Try.func8, Try.ntmps8
    go_wp2_with fail
    go_ret
    exact ⟨ret_b HT.out.symm, HAL.out⟩
  have HT := hid (show tyEq (.mk k ts) (.mk k us) = tyEqL ts us by simp [tyEq])
  have hl1 : ((ts.length : Int) != (us.length : Int)) = false := by simp; omega
  have hl2 : ((ts.length : Int) == (us.length : Int)) = true := by simp; omega
  have HL := hid hl
  clear hl
  go_enter Try.func8, Try.ntmps8
  go_wp2_with fail
  go_loopw [5] (fun i wr => ∃ j : Nat, j ≤ ts.length ∧ i = .int .i64 j ∧ tyEqL (ts.drop j) (us.drop j) = tyEqL ts us ∧ Below ((w.alloc (Obj.cells #[.int .i64 k, .slice a ts.length cap] 29)).alloc (Obj.cells #[.int .i64 k, .slice a2 us.length cap2] 29)).heap.size ((w.alloc (Obj.cells #[.int .i64 k, .slice a ts.length cap] 29)).alloc (Obj.cells #[.int .i64 k, .slice a2 us.length cap2] 29)) wr) (fun i _ => ts.length - (intOf i).toNat)
  case atStart => exact ⟨0, Nat.zero_le _, rfl, rfl, Below.refl _ _⟩
  case round =>
    obtain ⟨j, hj, rfl, hdr, hb⟩ := hrel
    have HD := hid hdr
    clear hdr
    obtain ⟨x0, x1, x2, x3⟩ := box_cells2 hb
    by_cases hlk : j < ts.length
    · have hlk2 : j < us.length := by have := HL.out; omega
      obtain ⟨b, o, k1, n1, a1, cap1, g1, rfl, hblt, c0, c1, hat, hf⟩ := HG.out j hlk
      obtain ⟨b2, o2, k3, n3, a3, cap3, g2, rfl, hblt2, e0, e1, hat2, hf2⟩ := HG2.out j hlk2
      have hbw := alloc2 hb
      have d0 := (hbw.cell (p := ⟨b, o + j * 2, none⟩) hblt).trans c0
      have d1 := (hbw.cell (p := ⟨b, o + j * 2 + 1, none⟩) hblt).trans c1
      have d2 := (hbw.cell (p := ⟨b2, o2 + j * 2, none⟩) hblt2).trans e0
      have d3 := (hbw.cell (p := ⟨b2, o2 + j * 2 + 1, none⟩) hblt2).trans e1
      clear c0 c1 e0 e1
      have HST := hid (tyEqL_step hlk hlk2)
      go_wp2_with fail
      go_still_tail 10, (by kernel_rfl)
      go_wp2_with fail
      refine (HIH.out _ (List.getElem_mem hlk) _ _ _ _ _ _ (hat.below ?_) (hat2.below ?_)).mono ?_
      · exact hbw.drew
      · exact hbw.drew
      rintro e w1 ⟨rfl, hb1⟩
      have hbb := hb.trans ((below_trans (below_drew wr) hb1).mono hb.size)
      clear hb hb1 hat hat2 d0 d1 d2 d3 hbw
      generalize tyEq ts[j] us[j] = r at *
      cases r
      · go_wp2_with fail
        go_ret
        exact ⟨ret_b (by rw [HT.out, ← HD.out, HST.out, Bool.false_and]), alloc2 hbb⟩
      · go_wp2_with fail
        go_roundw
        case rel => exact ⟨j + 1, by omega, by go_num, by rw [← HD.out, HST.out, Bool.true_and], hbb⟩
        case measure => simp [intOf]; omega
    · go_wp2_with fail
      go_ret
      exact ⟨ret_b (by rw [HT.out, ← HD.out, List.drop_of_length_le (by omega), List.drop_of_length_le (by have := HL.out; omega)]; simp only [tyEqL]), alloc2 hb⟩

theorem specTypeSame : ∀ t : Ty, TsC t := Ty.ind specTypeSame_of

theorem second_new (w : World) (X Y : Obj) : ((w.alloc X).alloc Y).heap[w.heap.size + 1]? = some Y := by
  have hs : (w.alloc X).heap.size = w.heap.size + 1 := by simp
  rw [← hs]
  exact alloc_new _ _

set_option maxHeartbeats 400000 in
theorem compareTypes_any (w : World) : Calls Try.prog 25 #[] w fun e w' => ∃ M, e = .returned (.agg #[.map (some M), .func (.func 48) #[] #[], .func (.func 49) #[] #[]]) ∧ w'.heap[M]? = some (.map #[] 0) ∧ w.heap.size ≤ M ∧ Below w.heap.size w w' := by
  have hmm := @run_makeMap Try.prog
  go_enter Try.func25, Try.ntmps25
  go_wp2_with fail

  exact bodyPost_ret (v := .agg #[.map (some (w.heap.size + 1)), .func (.func 48) #[] #[], .func (.func 49) #[] #[]]) (by simp [results, Try.results25, go_sem]) rfl ⟨w.heap.size + 1, rfl, second_new _ _ _, by omega, ((Below.refl _ _).alloc (Nat.le_refl _) _).alloc (by simp) _⟩

theorem Ty.At.held {w : World} : ∀ {t : Ty} {v : Value} {fp : List Nat}, Ty.At w t v fp → ∀ b ∈ fp, ∃ o x, w.cell? ⟨b, o, none⟩ = some x := by
  have hl : ∀ {ts : List Ty} (ih : ∀ t ∈ ts, ∀ (v : Value) (fp : List Nat), Ty.At w t v fp → ∀ b ∈ fp, ∃ o x, w.cell? ⟨b, o, none⟩ = some x) {b o : Nat} {fp : List Nat}, Ty.AtL w ts b o fp → ∀ b ∈ fp, ∃ o x, w.cell? ⟨b, o, none⟩ = some x := by
    intro ts
    induction ts with
    | nil => intro _ b o fp h; cases h; simp
    | cons t ts ihl =>
      intro ih b o fp h
      obtain ⟨v0, v1, f1, f2, c0, c1, ht, hr, rfl⟩ := h
      intro x hx
      rcases List.mem_append.1 hx with hx | hx
      · exact ih t (by simp) _ _ ht x hx
      · exact ihl (fun t h => ih t (by simp [h])) hr x hx
  have : ∀ t : Ty, ∀ (v : Value) (fp : List Nat), Ty.At w t v fp → ∀ b ∈ fp, ∃ o x, w.cell? ⟨b, o, none⟩ = some x := Ty.ind fun k ts ih v fp h b hb => by
    obtain ⟨s, rfl, h⟩ := h
    rcases h with ⟨_, rfl, _⟩ | ⟨b', o, cap, f, rfl, hp, hc, hm, hr, rfl⟩
    · simp at hb
    · rcases List.mem_cons.1 hb with rfl | hb
      · obtain ⟨v0, v1, f, c0, _⟩ := Ty.atL_get hr 0 hp
        exact ⟨_, _, c0⟩
      · exact hl ih hr b hb
  intro t v fp
  exact this t v fp

/-- Memory that a call has made for its answer is unfrozen. -/
theorem Fresh.raw {B : Nat} {w : World} {t : Ty} {v : Value} {fp : List Nat} (h : t.At w v fp) (hf : Fresh B w fp) : ∀ x ∈ fp, Raw w x := fun x hx => by
  obtain ⟨o, y, hc⟩ := h.held x hx
  refine ⟨?_, (hf.2 x hx).2.2⟩
  simp only [World.cell?] at hc
  cases hb : w.heap[x]? with
  | none => rw [hb] at hc; cases hc
  | some ob =>
    rw [hb] at hc
    cases ob with
    | cells C T fz => exact ⟨C, T, fz, rfl⟩
    | _ => cases hc

theorem Raw.below {w w' : World} {b : Nat} (h : Raw w b) (hb : Below w.heap.size w w') : Raw w' b := by
  obtain ⟨⟨C, T, fz, hC⟩, hf⟩ := h
  exact ⟨⟨C, T, fz, (hb.block b (lt_of_block hC)).trans hC⟩, fun o => (hb.frozen (p := ⟨b, o, none⟩) (lt_of_block hC)).trans (hf o)⟩

set_option maxHeartbeats 1000000 in
theorem implTypeSame (t u : Ty) (v1 v2 : Value) (f1 f2 : List Nat) (w : World) (hn : t.cnt ≤ 16777216) (h1 : t.At w v1 f1) (h2 : u.At w v2 f2) (r1 : ∀ x ∈ f1, Raw w x) (r2 : ∀ x ∈ f2, Raw w x) :
    Calls Try.prog 10 #[v1, v2] w fun e w' => e = .returned (.bool (tyEq t u)) ∧ Below w.heap.size w w' := by
  obtain ⟨k, n, a, cap, rfl⟩ := h1.agg
  obtain ⟨k', n2, a2, cap2, rfl⟩ := h2.agg
  have hal : Below w.heap.size w ((w.alloc (Obj.cells #[.int .i64 k, .slice a n cap] 29)).alloc (Obj.cells #[.int .i64 k', .slice a2 n2 cap2] 29)) := ((Below.refl _ _).alloc (Nat.le_refl _) _).alloc (by simp) _
  have HA := hid hal
  have H1 := hid (And.intro h1 h2)
  have HR := hid (And.intro r1 r2)
  clear hal h1 h2 r1 r2
  go_enter Try.func10, Try.ntmps10
  go_wp2_with fail
  refine (compareTypes_any _).mono ?_
  rintro e w1 ⟨M, rfl, hM, hMlt, hb⟩
  have hb2 := HA.out.trans (hb.mono HA.out.size)
  obtain ⟨x0, x1, x2, x3⟩ := box_cells2 hb
  have hkA := (hb.block w.heap.size (by simp; omega)).trans ((Below.heap_alloc _ _ _ (by simp)).trans (alloc_new w _))
  have hkB : w1.heap[w.heap.size + 1]? = some (Obj.cells #[.int .i64 k', .slice a2 n2 cap2] 29) := by
    rw [hb.block (w.heap.size + 1) (by simp)]
    have hs : (w.alloc (Obj.cells #[.int .i64 k, .slice a n cap] 29)).heap.size = w.heap.size + 1 := by simp
    rw [← hs]
    exact alloc_new _ _
  have hA : NdAt w1 t (w.heap.size, 0) := ⟨k, _, f1, x0, x1, H1.out.1.below hb2, ⟨⟨_, _, _, hkA⟩, fun o => frozen_of_block hkA⟩, fun x hx => (HR.out.1 x hx).below hb2⟩
  have hB : NdAt w1 u (w.heap.size + 1, 0) := ⟨k', _, f2, x2, x3, H1.out.2.below hb2, ⟨⟨_, _, _, hkB⟩, fun o => frozen_of_block hkB⟩, fun x hx => (HR.out.2 x hx).below hb2⟩
  have HAB := hid (And.intro hA (And.intro hB hM))
  have HB2 := hid hb2
  have HML : w.heap.size ≤ M := by simp at hMlt; omega
  clear hA hB hkA hkB hb hb2 x0 x1 x2 x3 hM hMlt
  go_wp2_with fail
  refine (same_any t u _ 0 _ 0 M _ 0 _ hn HAB.out.1 HAB.out.2.1 HAB.out.2.2 (fun e he => by simp at he)).mono ?_
  rintro e w2 ⟨r, rfl, hr, hx, -⟩
  have hbb := HB2.out.trans (hx.below HB2.out.size HML)
  have hre : tyEq t u = r := by
    cases r with
    | true => rw [hr.1 rfl, tyEq_refl]
    | false =>
      cases h : tyEq t u with
      | false => rfl
      | true => cases hr.2 (eq_of_tyEq h)
  have HRE := hid hre
  clear hx hr hre
  go_wp2_with fail
  go_ret
  exact ⟨ret_b HRE.out.symm, hbb⟩
end Go.Proofs.Ytnpofpjaejnejaa
