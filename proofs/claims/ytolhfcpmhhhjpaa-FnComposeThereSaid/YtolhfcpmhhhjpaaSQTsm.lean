/- TypeSame, of the program. -/
import Derived.Laws.EntriesVeiled
import Derived.Test.YtolhfcpmhhhjpaaSQSmI
import Derived.Test.YtolhfcpmhhhjpaaSG3
namespace Go.Proofs.Ytolhfcpmhhhjpaa
open Go.RowKit

theorem Co.At.held {w : World} : ∀ {t : Co} {v : Value} {fp : List Nat}, Co.At w t v fp → ∀ b ∈ fp, ∃ o x, w.cell? ⟨b, o, none⟩ = some x := by
  have hl : ∀ {ts : List Co} (ih : ∀ t ∈ ts, ∀ (v : Value) (fp : List Nat), Co.At w t v fp → ∀ b ∈ fp, ∃ o x, w.cell? ⟨b, o, none⟩ = some x) {b o : Nat} {fp : List Nat}, Co.AtL w ts b o fp → ∀ b ∈ fp, ∃ o x, w.cell? ⟨b, o, none⟩ = some x := by
    intro ts
    induction ts with
    | nil => intro _ b o fp h; cases h; simp
    | cons t ts ihl =>
      intro ih b o fp h
      obtain ⟨v0, v1, v2, v3, f1, f2, c0, c1, c2, c3, ht, hr, rfl⟩ := h
      intro x hx
      rcases List.mem_append.1 hx with hx | hx
      · exact ih t (by simp) _ _ ht x hx
      · exact ihl (fun t h => ih t (by simp [h])) hr x hx
  have : ∀ t : Co, ∀ (v : Value) (fp : List Nat), Co.At w t v fp → ∀ b ∈ fp, ∃ o x, w.cell? ⟨b, o, none⟩ = some x := Co.ind fun k g l ts ih v fp h b hb => by
    obtain ⟨s, rfl, h⟩ := h
    rcases h with ⟨_, rfl, _⟩ | ⟨b', o, cap, f, rfl, hp, hc, hm, hr, rfl⟩
    · simp at hb
    · rcases List.mem_cons.1 hb with rfl | hb
      · obtain ⟨k1, g1, l1, n1, a1, cap1, f, c0, _⟩ := Co.atL_get hr 0 hp
        exact ⟨_, _, c0⟩
      · exact hl ih hr b hb
  intro t v fp
  exact this t v fp

/-- Memory that a call has made for its answer is unfrozen. -/
theorem Fresh.rawQ {B : Nat} {w : World} {t : Co} {v : Value} {fp : List Nat} (h : t.At w v fp) (hf : Fresh B w fp) : ∀ x ∈ fp, RawQ w x := fun x hx => by
  obtain ⟨o, y, hc⟩ := h.held x hx
  refine ⟨?_, (hf.2 x hx).2.2⟩
  simp only [World.cell?] at hc
  cases hb : w.heap[x]? with
  | none => rw [hb] at hc; cases hc
  | some ob =>
    rw [hb] at hc
    cases ob with
    | cells C T fz => exact ⟨C, T, fz, rfl⟩
    | _ => cases hc

theorem RawQ.below {w w' : World} {b : Nat} (h : RawQ w b) (hb : Below w.heap.size w w') : RawQ w' b := by
  obtain ⟨⟨C, T, fz, hC⟩, hf⟩ := h
  exact ⟨⟨C, T, fz, (hb.block b (lt_of_block hC)).trans hC⟩, fun o => (hb.frozen (p := ⟨b, o, none⟩) (lt_of_block hC)).trans (hf o)⟩

set_option maxHeartbeats 1000000 in
theorem implCoercionSame (t u : Co) (v1 v2 : Value) (f1 f2 : List Nat) (w : World) (hn : t.cnt ≤ 16777216) (h1 : t.At w v1 f1) (h2 : u.At w v2 f2) (r1 : ∀ x ∈ f1, RawQ w x) (r2 : ∀ x ∈ f2, RawQ w x) :
    Calls Try.prog 16 #[v1, v2] w fun e w' => e = .returned (.bool (coEq t u)) ∧ Below w.heap.size w w' := by
  obtain ⟨k, g, l, n, a, cap, rfl⟩ := h1.agg
  obtain ⟨k', g', l', n2, a2, cap2, rfl⟩ := h2.agg
  have hal : Below w.heap.size w ((w.alloc (Obj.cells #[.int .i64 k, .int .i64 g, .int .i64 l, .slice a n cap] 30)).alloc (Obj.cells #[.int .i64 k', .int .i64 g', .int .i64 l', .slice a2 n2 cap2] 30)) := ((Below.refl _ _).alloc (Nat.le_refl _) _).alloc (by simp) _
  have HA := hid hal
  have H1 := hid (And.intro h1 h2)
  have HR := hid (And.intro r1 r2)
  have hmm := @run_makeMap Try.prog
  clear hal h1 h2 r1 r2
  go_enter Try.func16, Try.ntmps16
  go_wp2_with fail
  have hs2 : (((w.alloc (Obj.cells #[.int .i64 k, .int .i64 g, .int .i64 l, .slice a n cap] 30)).alloc (Obj.cells #[.int .i64 k', .int .i64 g', .int .i64 l', .slice a2 n2 cap2] 30))).heap.size = w.heap.size + 1 + 1 := by simp
  have hw1 : Below (((w.alloc (Obj.cells #[.int .i64 k, .int .i64 g, .int .i64 l, .slice a n cap] 30)).alloc (Obj.cells #[.int .i64 k', .int .i64 g', .int .i64 l', .slice a2 n2 cap2] 30))).heap.size ((w.alloc (Obj.cells #[.int .i64 k, .int .i64 g, .int .i64 l, .slice a n cap] 30)).alloc (Obj.cells #[.int .i64 k', .int .i64 g', .int .i64 l', .slice a2 n2 cap2] 30)) ((((w.alloc (Obj.cells #[.int .i64 k, .int .i64 g, .int .i64 l, .slice a n cap] 30)).alloc (Obj.cells #[.int .i64 k', .int .i64 g', .int .i64 l', .slice a2 n2 cap2] 30))).alloc (Obj.map #[] 0)) := (Below.refl _ _).alloc (Nat.le_refl _) _
  have hM1 : ((((w.alloc (Obj.cells #[.int .i64 k, .int .i64 g, .int .i64 l, .slice a n cap] 30)).alloc (Obj.cells #[.int .i64 k', .int .i64 g', .int .i64 l', .slice a2 n2 cap2] 30))).alloc (Obj.map #[] 0)).heap[w.heap.size + 1 + 1]? = some (Obj.map #[] 0) := by rw [← hs2]; exact alloc_new _ _
  have hw2 : Below ((((w.alloc (Obj.cells #[.int .i64 k, .int .i64 g, .int .i64 l, .slice a n cap] 30)).alloc (Obj.cells #[.int .i64 k', .int .i64 g', .int .i64 l', .slice a2 n2 cap2] 30))).alloc (Obj.map #[] 0)).heap.size ((((w.alloc (Obj.cells #[.int .i64 k, .int .i64 g, .int .i64 l, .slice a n cap] 30)).alloc (Obj.cells #[.int .i64 k', .int .i64 g', .int .i64 l', .slice a2 n2 cap2] 30))).alloc (Obj.map #[] 0)) (((((w.alloc (Obj.cells #[.int .i64 k, .int .i64 g, .int .i64 l, .slice a n cap] 30)).alloc (Obj.cells #[.int .i64 k', .int .i64 g', .int .i64 l', .slice a2 n2 cap2] 30))).alloc (Obj.map #[] 0)).alloc (Obj.cells #[.map (some (w.heap.size + 1 + 1)), .func (.func 43) #[] #[], .func (.func 44) #[] #[]] 60)) := (Below.refl _ _).alloc (Nat.le_refl _) _
  have hM := blkMQ hM1 hw2
  have hb := below_trans hw1 hw2
  have hb2 := HA.out.trans (hb.mono HA.out.size)
  obtain ⟨hkA, hkB⟩ := boxes44Q hb
  generalize hW : ((((w.alloc (Obj.cells #[.int .i64 k, .int .i64 g, .int .i64 l, .slice a n cap] 30)).alloc (Obj.cells #[.int .i64 k', .int .i64 g', .int .i64 l', .slice a2 n2 cap2] 30))).alloc (Obj.map #[] 0)).alloc (Obj.cells #[.map (some (w.heap.size + 1 + 1)), .func (.func 43) #[] #[], .func (.func 44) #[] #[]] 60) = W at *
  have hA : NdAtQ W t (w.heap.size, 0) := ⟨k, g, l, _, f1, by rw [cell_of_block hkA]; rfl, by rw [cell_of_block hkA]; rfl, by rw [cell_of_block hkA]; rfl, by rw [cell_of_block hkA]; rfl, H1.out.1.below hb2, ⟨⟨_, _, _, hkA⟩, fun o => frozen_of_block hkA⟩, fun x hx => (HR.out.1 x hx).below hb2⟩
  have hB : NdAtQ W u (w.heap.size + 1, 0) := ⟨k', g', l', _, f2, by rw [cell_of_block hkB]; rfl, by rw [cell_of_block hkB]; rfl, by rw [cell_of_block hkB]; rfl, by rw [cell_of_block hkB]; rfl, H1.out.2.below hb2, ⟨⟨_, _, _, hkB⟩, fun o => frozen_of_block hkB⟩, fun x hx => (HR.out.2 x hx).below hb2⟩
  have HB2 := hid hb2
  clear hkA hkB hb hw1 hw2 hM1 hs2 hb2
  refine (same_anyQ t u _ 0 _ 0 (w.heap.size + 1 + 1) _ 0 _ hn hA hB hM (fun e he => by simp at he)).mono ?_
  rintro e w2 ⟨r, rfl, hr, hx, -⟩
  have hbb := HB2.out.trans (hx.below HB2.out.size (by omega))
  have hre : coEq t u = r := by
    cases r with
    | true => rw [hr.1 rfl, coEq_refl]
    | false =>
      cases h : coEq t u with
      | false => rfl
      | true => cases hr.2 (eq_of_coEq h)
  have HRE := hid hre
  clear hx hr hre hW hA hB hM
  go_wp2_with fail
  go_ret
  exact ⟨ret_b HRE.out.symm, hbb⟩
end Go.Proofs.Ytolhfcpmhhhjpaa
