/- A region that draws its order, walked under a condition that holds until one of its operations has come up. -/
import Derived.Test.YtffmpjcjmffdeaaDoorPkA
import Derived.Deep.RegionHeld3
namespace Go.Proofs.YtffmpjcjmffdeaaDoor
open Go.RowKit

section
variable {P : Program} {ops : Array Oper} {Q : Exit → Act → World → Prop} {md : Region.Mode} {s : Nat} {S0 S1 : World → Prop}

/-- S1 holds; and S0, as long as operation s has not come up. -/
def SLx (s : Nat) (S0 S1 : World → Prop) (l : Array Bool) (w : World) : Prop := S1 w ∧ (l.getD s true = false → S0 w)

theorem SLx_set {l : Array Bool} {i : Nat} (h : i ≠ s) (w : World) : SLx s S0 S1 (l.setIfInBounds i true) w ↔ SLx s S0 S1 l w := by
  unfold SLx
  have e : (l.setIfInBounds i true).getD s true = l.getD s true := by
    simp only [Array.getD_eq_getD_getElem?, Array.getElem?_setIfInBounds_ne h]
  rw [e]

/-- Whatever order is picked from here on; behind each operation the condition of that moment holds. -/
def wpAnyL (P : Program) (md : Region.Mode) (ops : Array Oper) (Q : Exit → Act → World → Prop) (s : Nat) (S0 S1 : World → Prop) : Nat → Array Bool → Act → World → Prop
  | 0, listed, a, w => Region.ready md ops listed = [] ∧ Q .normal a w
  | fuel + 1, listed, a, w =>
    (Region.ready md ops listed = [] → Q .normal a w) ∧
    ∀ i ∈ Region.ready md ops listed, wpOp P ops Q i (fun a' w' => SLx s S0 S1 (listed.setIfInBounds i true) w' ∧ wpAnyL P md ops Q s S0 S1 fuel (listed.setIfInBounds i true) a' w') a w

theorem wpAny_of_L : ∀ (fuel : Nat) (listed : Array Bool) (a : Act) (w : World), wpAnyL P md ops Q s S0 S1 fuel listed a w → wpAny P md ops Q fuel listed a w
  | 0, _, _, _, h => h
  | fuel + 1, _, _, _, h => ⟨h.1, fun i hi => wpOp_mono (fun a' w' h' => wpAny_of_L fuel _ a' w' h'.2) (h.2 i hi)⟩

theorem wpAnyL_first (flag : Bool) {i : Nat} {oi : Oper} {v : Value} (hi : ops[i]? = some oi) (hsel : ∀ (j : Nat) (o : Oper) cs b, ops[j]? = some o → o.op ≠ .select cs b)
    (hQ : ∀ c a w, Q (.panic c) (a.put oi.dst v) w → Q (.panic c) a w) (his : i ≠ s) (hwait : flag = true → ∃ os e, ops[s]? = some os ∧ e ∈ os.after ∧ Region.binds md e = true ∧ e.on = i) :
    ∀ (fuel : Nat) (listed : Array Bool) (a : Act) (w : World),
      (∀ j oj, ops[j]? = some oj → j ≠ i → listed.getD j true = false → (∀ e ∈ oj.after, Region.binds md e = true → e.on ≠ i) → oi.apart ops oj = true) →
      i ∈ Region.ready md ops listed → YieldsIf P ops (fun w => S1 w ∧ (flag = true → S0 w)) oi v a → (flag = true → listed.getD s true = false) → SLx s S0 S1 listed w →
      wpAnyL P md ops Q s S0 S1 fuel (listed.setIfInBounds i true) (a.put oi.dst v) w → wpAnyL P md ops Q s S0 S1 (fuel + 1) listed a w := by
  intro fuel
  induction fuel with
  | zero =>
    intro listed a w _ hr hy hfl hS H
    refine ⟨fun h => (by rw [h] at hr; cases hr), fun j hj => ?_⟩
    by_cases hji : j = i
    · subst hji; exact hy.wpOp hi ⟨hS.1, fun h => hS.2 (hfl h)⟩ ⟨(SLx_set his w).2 hS, H⟩
    · have := ready_mono hj hji
      rw [H.1] at this
      cases this
  | succ fuel ih =>
    intro listed a w hfree hr hy hfl hS H
    refine ⟨fun h => (by rw [h] at hr; cases hr), fun j hj => ?_⟩
    by_cases hji : j = i
    · subst hji; exact hy.wpOp hi ⟨hS.1, fun h => hS.2 (hfl h)⟩ ⟨(SLx_set his w).2 hS, H⟩
    · have h1 := H.2 j (ready_mono hj hji)
      obtain ⟨hjun, oj, hoj, hall⟩ := mem_ready.1 hj
      have hnot : ∀ e ∈ oj.after, Region.binds md e = true → e.on ≠ i := fun e he hb heq => by
        have h1 := hall e he hb
        have h0 := (mem_ready.1 hr).1
        rw [heq] at h1
        rcases Nat.lt_or_ge i listed.size with h' | h'
        · simp [h'] at h0 h1; rw [h0] at h1; cases h1
        · simp [Array.getElem?_eq_none h'] at h1
      have hjs : flag = true → j ≠ s := fun hf e => by
        obtain ⟨os, e', hos, he', hb, hon⟩ := hwait hf
        subst e
        rw [hos] at hoj
        cases hoj
        exact hnot e' he' hb hon
      have h2 := wpOp_putIf hoj (hfree j oj hoj hji hjun hnot) (fun cs b => hsel i oi cs b hi) (fun cs b => hsel j oj cs b hoj) hQ hy h1
      have hfree' : ∀ k ok, ops[k]? = some ok → k ≠ i → (listed.setIfInBounds j true).getD k true = false →
          (∀ e ∈ ok.after, Region.binds md e = true → e.on ≠ i) → oi.apart ops ok = true := fun k ok hk hki hun hno => by
        refine hfree k ok hk hki ?_ hno
        by_cases hjk : j = k
        · subst hjk; exact hjun
        · rw [getD_set_ne true hjk] at hun; exact hun
      have hfl' : flag = true → (listed.setIfInBounds j true).getD s true = false := fun hf => by rw [getD_set_ne true (hjs hf)]; exact hfl hf
      refine wpOp_mono (fun a' w' h3 => ?_) h2
      have hS' : SLx s S0 S1 (listed.setIfInBounds j true) w' := by
        have := h3.2.1
        rw [Array.setIfInBounds_comm _ _ (Ne.symm hji)] at this
        exact (SLx_set his w').1 this
      refine ⟨hS', ih (listed.setIfInBounds j true) a' w' hfree' (ready_mono hr (Ne.symm hji)) h3.1 hfl' hS' ?_⟩
      rw [Array.setIfInBounds_comm _ _ hji]
      exact h3.2.2

/-- Taken first under S1 alone. -/
theorem takeL {i : Nat} {oi : Oper} {v : Value} {fuel : Nat} {listed : Array Bool} {a : Act} {w : World} (hi : ops.toList[i]? = some oi)
    (hs : Region.noSelect ops = true) (hf : Region.free md ops listed i = true) (hr : (Region.ready md ops listed).contains i = true) (his : i ≠ s)
    (hQ : ∀ c a w, Q (.panic c) (a.put oi.dst v) w → Q (.panic c) a w) (hy : YieldsIf P ops S1 oi v a) (hS : SLx s S0 S1 listed w)
    (h : wpAnyL P md ops Q s S0 S1 fuel (listed.setIfInBounds i true) (a.put oi.dst v) w) : wpAnyL P md ops Q s S0 S1 (fuel + 1) listed a w := by
  have hi' : ops[i]? = some oi := by rw [← Array.getElem?_toList]; exact hi
  refine wpAnyL_first false hi' (Region.noSelect_spec hs) hQ his (fun h => by cases h) fuel listed a w (Region.free_spec hi' hf) (by simpa using hr) ?_ (fun h => by cases h) hS h
  rcases hy with ⟨h1, h2⟩ | h
  · exact .inl ⟨h1, fun w hw => h2 w hw.1⟩
  · exact .inr h

/-- Taken first under S0 too: s waits for it, and has not come up. -/
theorem takeL0 {i : Nat} {oi os : Oper} {v : Value} {fuel : Nat} {listed : Array Bool} {a : Act} {w : World} (hi : ops.toList[i]? = some oi) (hos : ops.toList[s]? = some os)
    (hs : Region.noSelect ops = true) (hf : Region.free md ops listed i = true) (hr : (Region.ready md ops listed).contains i = true) (his : i ≠ s)
    (hw : (os.after.toList.any fun e => Region.binds md e && e.on == i) = true) (hl : listed.getD s true = false)
    (hQ : ∀ c a w, Q (.panic c) (a.put oi.dst v) w → Q (.panic c) a w) (hy : YieldsIf P ops (fun w => S1 w ∧ S0 w) oi v a) (hS : SLx s S0 S1 listed w)
    (h : wpAnyL P md ops Q s S0 S1 fuel (listed.setIfInBounds i true) (a.put oi.dst v) w) : wpAnyL P md ops Q s S0 S1 (fuel + 1) listed a w := by
  have hi' : ops[i]? = some oi := by rw [← Array.getElem?_toList]; exact hi
  have hos' : ops[s]? = some os := by rw [← Array.getElem?_toList]; exact hos
  refine wpAnyL_first true hi' (Region.noSelect_spec hs) hQ his (fun _ => ?_) fuel listed a w (Region.free_spec hi' hf) (by simpa using hr) ?_ (fun _ => hl) hS h
  · obtain ⟨e, he, h2⟩ := List.any_eq_true.1 hw
    rw [Bool.and_eq_true] at h2
    exact ⟨os, e, hos', by simpa using he, h2.1, by simpa using h2.2⟩
  · rcases hy with ⟨h1, h2⟩ | h
    · exact .inl ⟨h1, fun w hw => h2 w ⟨hw.1, hw.2 rfl⟩⟩
    · exact .inr h

def AllReadyL (P : Program) (md : Region.Mode) (ops : Array Oper) (Q : Exit → Act → World → Prop) (s : Nat) (S0 S1 : World → Prop) (fuel : Nat) (listed : Array Bool) (a : Act) (w : World) (rs : List Nat) : Prop :=
  ∀ i ∈ rs, wpOp P ops Q i (fun a' w' => SLx s S0 S1 (listed.setIfInBounds i true) w' ∧ wpAnyL P md ops Q s S0 S1 fuel (listed.setIfInBounds i true) a' w') a w

theorem AllReadyL.nil {fuel : Nat} {listed : Array Bool} {a : Act} {w : World} : AllReadyL P md ops Q s S0 S1 fuel listed a w [] := fun _ h => by cases h

theorem AllReadyL.cons {fuel : Nat} {listed : Array Bool} {a : Act} {w : World} {i : Nat} {o : Oper} {rs : List Nat} (ho : ops.toList[i]? = some o)
    (h : ∀ K' : Act → World → Prop, Shut (∀ a w, SLx s S0 S1 (listed.setIfInBounds i true) w → (SLx s S0 S1 (listed.setIfInBounds i true) w → wpAnyL P md ops Q s S0 S1 fuel (listed.setIfInBounds i true) a w) → K' a w) → if Region.wanted o (yielded ops a.tmps) = true then Oper.wp P o a w K' Q else K' (a.put o.dst undef) w)
    (hs : AllReadyL P md ops Q s S0 S1 fuel listed a w rs) : AllReadyL P md ops Q s S0 S1 fuel listed a w (i :: rs) := fun j hj => by
  have ho' : ops[i]? = some o := by rw [← Array.getElem?_toList]; exact ho
  rcases List.mem_cons.1 hj with rfl | hj
  · exact wpOp_step ho' (fun K' hK => h K' (fun a w hS hW => hK a w ⟨hS, hW hS⟩))
  · exact hs j hj

theorem readyL {rs : List Nat} {fuel : Nat} {listed : Array Bool} {a : Act} {w : World} (hr : Region.ready md ops listed = rs) (hne : rs ≠ [])
    (h : AllReadyL P md ops Q s S0 S1 fuel listed a w rs) : wpAnyL P md ops Q s S0 S1 (fuel + 1) listed a w :=
  ⟨fun h0 => absurd (hr ▸ h0) hne, hr ▸ h⟩

theorem doneL {listed : Array Bool} {a : Act} {w : World} (hr : Region.ready md ops listed = []) (h : Q .normal a w) : ∀ fuel, wpAnyL P md ops Q s S0 S1 fuel listed a w
  | 0 => ⟨hr, h⟩
  | _ + 1 => ⟨fun _ => h, by rw [hr]; simp⟩

theorem regionL {id : Nat} {a : Act} {w : World} (hm : P.follows .mixedOrders = true) (h0 : S0 w.drew) (h1 : S1 w.drew)
    (h : SLx s S0 S1 (Array.replicate ops.size false) w.drew → wpAnyL P .any ops Q s S0 S1 ops.size (Array.replicate ops.size false) a w.drew) : (Code.region id ops true).wp P Q a w :=
  wp_region_any hm (wpAny_of_L _ _ _ _ (h ⟨h1, fun _ => h0⟩))
end
end Go.Proofs.YtffmpjcjmffdeaaDoor
