/- TypeSame, of the program. The blocks of a tree are blocks of cells. The order of types, plainly: what the drawn laws on meets, joins, ground types, static types and the relations of chapter 8 want. -/
import Derived.Laws.EntriesVeiled
import Derived.Test.YtolhfcpmhhhjpaaSSmI
import Derived.Test.YtolhfcpmhhhjpaaSPkA
import Derived.Test.YtolhfcpmhhhjpaaSG1
import Derived.Test.YtolhfcpmhhhjpaaSG19
namespace Go.Proofs.Ytolhfcpmhhhjpaa
open Go.RowKit

theorem second_new (w : World) (X Y : Obj) : ((w.alloc X).alloc Y).heap[w.heap.size + 1]? = some Y := by
  have hs : (w.alloc X).heap.size = w.heap.size + 1 := by simp
  rw [← hs]
  exact alloc_new _ _

set_option maxHeartbeats 400000 in
theorem compareTypes_any (w : World) : Calls Try.prog 54 #[] w fun e w' => ∃ M, e = .returned (.agg #[.map (some M), .func (.func 89) #[] #[], .func (.func 90) #[] #[]]) ∧ w'.heap[M]? = some (.map #[] 0) ∧ w.heap.size ≤ M ∧ Below w.heap.size w w' := by
  have hmm := @run_makeMap Try.prog
  go_enter Try.func54, Try.ntmps54
  go_wp2_with fail

  exact bodyPost_ret (v := .agg #[.map (some (w.heap.size + 1)), .func (.func 89) #[] #[], .func (.func 90) #[] #[]]) (by simp [results, Try.results54, go_sem]) rfl ⟨w.heap.size + 1, rfl, second_new _ _ _, by omega, ((Below.refl _ _).alloc (Nat.le_refl _) _).alloc (by simp) _⟩

theorem Ty.At.held {w : World} : ∀ {t : Ty} {v : Value} {fp : List Nat}, Ty.At w t v fp → ∀ b ∈ fp, ∃ o x, w.cell? ⟨b, o, none⟩ = some x := by
  have hl : ∀ {ts : List Ty} (ih : ∀ t ∈ ts, ∀ (v : Value) (fp : List Nat), Ty.At w t v fp → ∀ b ∈ fp, ∃ o x, w.cell? ⟨b, o, none⟩ = some x) {b o : Nat} {fp : List Nat}, Ty.AtL w ts b o fp → ∀ b ∈ fp, ∃ o x, w.cell? ⟨b, o, none⟩ = some x := by
    intro ts
    induction ts with
    | nil => intro _ b o fp h; cases h; simp
    | cons t ts ihl =>
      intro ih b o fp h
      obtain ⟨v0, v1, f1, f2, c0, c1, ht, hr, rfl⟩ := h
      intro x hx
      rcases List.mem_append.1 hx with hx | hx
      · exact ih t (by simp) _ _ ht x hx
      · exact ihl (fun t h => ih t (by simp [h])) hr x hx
  have : ∀ t : Ty, ∀ (v : Value) (fp : List Nat), Ty.At w t v fp → ∀ b ∈ fp, ∃ o x, w.cell? ⟨b, o, none⟩ = some x := Ty.ind fun k ts ih v fp h b hb => by
    obtain ⟨s, rfl, h⟩ := h
    rcases h with ⟨_, rfl, _⟩ | ⟨b', o, cap, f, rfl, hp, hc, hm, hr, rfl⟩
    · simp at hb
    · rcases List.mem_cons.1 hb with rfl | hb
      · obtain ⟨v0, v1, f, c0, _⟩ := Ty.atL_get hr 0 hp
        exact ⟨_, _, c0⟩
      · exact hl ih hr b hb
  intro t v fp
  exact this t v fp

theorem Raw.below {w w' : World} {b : Nat} (h : Raw w b) (hb : Below w.heap.size w w') : Raw w' b := by
  obtain ⟨⟨C, T, fz, hC⟩, hf⟩ := h
  exact ⟨⟨C, T, fz, (hb.block b (lt_of_block hC)).trans hC⟩, fun o => (hb.frozen (p := ⟨b, o, none⟩) (lt_of_block hC)).trans (hf o)⟩

set_option maxHeartbeats 1000000 in
theorem implTypeSame (t u : Ty) (v1 v2 : Value) (f1 f2 : List Nat) (w : World) (hn : t.cnt ≤ 16777216) (h1 : t.At w v1 f1) (h2 : u.At w v2 f2) (r1 : ∀ x ∈ f1, Raw w x) (r2 : ∀ x ∈ f2, Raw w x) :
    Calls Try.prog 21 #[v1, v2] w fun e w' => e = .returned (.bool (tyEq t u)) ∧ Below w.heap.size w w' := by
  obtain ⟨k, n, a, cap, rfl⟩ := h1.agg
  obtain ⟨k', n2, a2, cap2, rfl⟩ := h2.agg
  have hal : Below w.heap.size w ((w.alloc (Obj.cells #[.int .i64 k, .slice a n cap] 25)).alloc (Obj.cells #[.int .i64 k', .slice a2 n2 cap2] 25)) := ((Below.refl _ _).alloc (Nat.le_refl _) _).alloc (by simp) _
  have HA := hid hal
  have H1 := hid (And.intro h1 h2)
  have HR := hid (And.intro r1 r2)
  clear hal h1 h2 r1 r2
  go_enter Try.func21, Try.ntmps21
  go_wp2_with fail
  refine (compareTypes_any _).mono ?_
  rintro e w1 ⟨M, rfl, hM, hMlt, hb⟩
  have hb2 := HA.out.trans (hb.mono HA.out.size)
  obtain ⟨x0, x1, x2, x3⟩ := box_cells2 hb
  have hkA := (hb.block w.heap.size (by simp; omega)).trans ((Below.heap_alloc _ _ _ (by simp)).trans (alloc_new w _))
  have hkB : w1.heap[w.heap.size + 1]? = some (Obj.cells #[.int .i64 k', .slice a2 n2 cap2] 25) := by
    rw [hb.block (w.heap.size + 1) (by simp)]
    have hs : (w.alloc (Obj.cells #[.int .i64 k, .slice a n cap] 25)).heap.size = w.heap.size + 1 := by simp
    rw [← hs]
    exact alloc_new _ _
  have hA : NdAt w1 t (w.heap.size, 0) := ⟨k, _, f1, x0, x1, H1.out.1.below hb2, ⟨⟨_, _, _, hkA⟩, fun o => frozen_of_block hkA⟩, fun x hx => (HR.out.1 x hx).below hb2⟩
  have hB : NdAt w1 u (w.heap.size + 1, 0) := ⟨k', _, f2, x2, x3, H1.out.2.below hb2, ⟨⟨_, _, _, hkB⟩, fun o => frozen_of_block hkB⟩, fun x hx => (HR.out.2 x hx).below hb2⟩
  have HAB := hid (And.intro hA (And.intro hB hM))
  have HB2 := hid hb2
  have HML : w.heap.size ≤ M := by simp at hMlt; omega
  clear hA hB hkA hkB hb hb2 x0 x1 x2 x3 hM hMlt
  go_wp2_with fail
  refine (same_any t u _ 0 _ 0 M _ 0 _ hn HAB.out.1 HAB.out.2.1 HAB.out.2.2 (fun e he => by simp at he)).mono ?_
  rintro e w2 ⟨r, rfl, hr, hx, -⟩
  have hbb := HB2.out.trans (hx.below HB2.out.size HML)
  have hre : tyEq t u = r := by
    cases r with
    | true => rw [hr.1 rfl, tyEq_refl]
    | false =>
      cases h : tyEq t u with
      | false => rfl
      | true => cases hr.2 (eq_of_tyEq h)
  have HRE := hid hre
  clear hx hr hre
  go_wp2_with fail
  go_ret
  exact ⟨ret_b HRE.out.symm, hbb⟩
end Go.Proofs.Ytolhfcpmhhhjpaa

namespace Go.Proofs.Ytolhfcpmhhhjpaa
open Go.RowKit

theorem cell_raw {w : World} {b o : Nat} {u : Value} (h : w.cell? ⟨b, o, none⟩ = some u) : ∃ C T fz, w.heap[b]? = some (.cells C T fz) := by
  unfold World.cell? at h
  split at h
  · exact ⟨_, _, _, by assumption⟩
  · cases h

mutual
theorem Ty.At.laid {w : World} : ∀ {t : Ty} {v : Value} {fp : List Nat}, Ty.At w t v fp → ∀ b ∈ fp, ∃ C T fz, w.heap[b]? = some (.cells C T fz)
  | .mk k ts, v, fp, h => by
    obtain ⟨s, hv, h⟩ := h
    rcases h with ⟨_, rfl, _⟩ | ⟨b, o, cap, f, hs, hp, hc, hm, hl, rfl⟩
    · simp
    · intro x hx
      rcases List.mem_cons.1 hx with rfl | hx
      · cases ts with
        | nil => simp at hp
        | cons t ts =>
          obtain ⟨v0, v1, f1, f2, c0, _⟩ := hl
          exact cell_raw c0
      · exact Ty.AtL.laid hl x hx
theorem Ty.AtL.laid {w : World} : ∀ {ts : List Ty} {b o : Nat} {fp : List Nat}, Ty.AtL w ts b o fp → ∀ b ∈ fp, ∃ C T fz, w.heap[b]? = some (.cells C T fz)
  | [], _, _, _, h => by cases h; simp
  | t :: ts, b, o, fp, h => by
    obtain ⟨v0, v1, f1, f2, c0, c1, ha, hl, rfl⟩ := h
    intro x hx
    rcases List.mem_append.1 hx with hx | hx
    · exact Ty.At.laid ha x hx
    · exact Ty.AtL.laid hl x hx
end

end Go.Proofs.Ytolhfcpmhhhjpaa

namespace Go.Proofs.Ytolhfcpmhhhjpaa
open Go.RowKit

mutual
theorem tyEq_eq : ∀ (t u : Ty), tyEq t u = true → t = u
  | .mk k ts, .mk k' us, h => by
    simp only [tyEq, Bool.and_eq_true, beq_iff_eq] at h
    rw [h.1, tyEqL_eq ts us h.2]
theorem tyEqL_eq : ∀ (ts us : List Ty), tyEqL ts us = true → ts = us
  | [], [], _ => rfl
  | [], _ :: _, h => by simp [tyEqL] at h
  | _ :: _, [], h => by simp [tyEqL] at h
  | t :: ts, u :: us, h => by
    simp only [tyEqL, Bool.and_eq_true] at h
    rw [tyEq_eq t u h.1, tyEqL_eq ts us h.2]
end

end Go.Proofs.Ytolhfcpmhhhjpaa
