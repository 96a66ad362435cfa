/- The specification's l3More: a context with another binding. -/
import Derived.Deep.AppendLies
import Derived.Deep.RegionLaw
import Derived.Deep.Upon
import Derived.Tactics
import Derived.Test.YtffmpjcjmffdeaaDoorRG1
namespace Go.Proofs.YtffmpjcjmffdeaaDoor
open Go Go.RowKit

/-- append of a slice without elements, in a region that draws its order. -/
theorem step_append_zero {P : Program} {w : World} {ops : Array Oper} {o : Oper} {a : Act} {K : Act → World → Prop} {Q : Exit → Act → World → Prop} {E : Prop} (hgd : o.guard = none) (s x : Operand) (t : TypeId)
    (ho : o.op = .call { callee := .builtin .append, args := #[s, x], argTypes := #[t, t] })
    (e : TypeId) (i : TypeInfo) (ht : P.underlying t = some (.slice e)) (hi : P.info? e = some i)
    (base : Option Addr) (n sc : Nat) (hs : a.eval s = .slice base n sc) (hle : n ≤ sc) (ao : Option Addr) (c : Nat) (hx : a.eval x = .slice ao 0 c)
    (h : K (a.put o.dst (.slice base n sc)) w) : if Region.wanted o (yielded ops a.tmps) = true then Oper.wp P o a w K Q else E := by
  have hw : Region.wanted o (yielded ops a.tmps) = true := by simp [Region.wanted, hgd]
  rw [if_pos hw]
  have hc : ∀ W : World, (Builtin.firstCells i.size 0 (.slice ao 0 c)).run P W = .ok ([] : List Value).toArray W := by
    intro W
    cases ao with
    | none => exact run_firstCells_none W i.size 0 0 c
    | some a' => exact run_firstCells_some W i.size 0 a' 0 c [] (by simp) (by intro _ _ h'; simp at h')
  have hsrc : Src P i.size t (.slice ao 0 c) 0 [] w := ⟨.inl ⟨e, ht⟩, fun w' => by simp [Builtin.lenOf], hc w, hc w.drew, by simp, by simp⟩
  have hrun := run_append_nothing (P := P) w t t o.type e i ht hi base n sc hle (.slice ao 0 c) hsrc
  unfold Oper.wp
  simp [execOp, ho, resolve, invoke, builtin, hs, hx, hrun, Result.andThen]
  exact h

theorem own_at {W : World} {B G : Nat} (h : W.heap[G]? = some (Obj.cells #[] 76)) (hB : B ≤ G) : W.ownsRow B 76 3 (.slice (some ⟨G, 0, none⟩) 0 0) 0 [] :=
  ⟨rfl, .inr ⟨G, 0, #[], rfl, hB, h, Nat.le_refl _, Nat.zero_le _, rfl, rfl⟩⟩

theorem bs_own {w : World} {B g n cap : Nat} {ds : List Bd} {xs : List Value} {f : List Nat} (ho : w.ownsRow B 76 3 (.slice (some ⟨g, 0, none⟩) n cap) n xs) (ha : AtYs w ds xs f) (hn : n = ds.length) (hm : n ≤ maxLen) : ∃ fp, BsAt w ds (.slice (some ⟨g, 0, none⟩) n cap) fp := by
  subst hn
  rcases ho.2 with ⟨h1, h0⟩ | ⟨g', cap', cur, e, hb, hg, hc, hmx, hsz, hx⟩
  · cases h1
  · cases e
    by_cases h0 : ds.length = 0
    · exact ⟨[], .inl ⟨List.length_eq_zero_iff.1 h0, rfl, _, _, by rw [h0]⟩⟩
    · have hcell : ∀ j u, xs[j]? = some u → w.cell? ⟨g, 0 + j, none⟩ = some u := fun j u hj => by
        rw [Nat.zero_add, cell_of_block hg, ← hj, ← hx, List.getElem?_take]
        have : j < xs.length := (List.getElem?_eq_some_iff.1 hj).1
        rw [if_pos (by rw [ho.1] at this; exact this)]
        simp
      exact ⟨g :: f, .inr ⟨g, 0, cap, f, rfl, by omega, hc, hm, ha.atL hcell, rfl⟩⟩

set_option maxRecDepth 100000 in
set_option maxHeartbeats 4000000 in
theorem l3More_nil (nm : ByteArray) (ty : Ty) (k : Int) (n : Nat) (a : Option Addr) (c : Nat) (f : List Nat) (w : World) (a3 : Option Addr) (c3 : Nat) (hnm : nm.size ≤ 9223372036854775807) (ht : ty.At w (.agg #[.int .i64 k, .slice a n c]) f) :
    Calls Tryd.prog 113 #[.slice a3 0 c3, .string nm, .agg #[.int .i64 k, .slice a n c]] w fun e w' => ∃ s' fp', e = .returned s' ∧ BsAt w' ([] ++ [⟨nm, ty⟩]) s' fp' ∧ Below w.heap.size w w' := by
  have hz : Below w.heap.size w (w.alloc (Obj.cells #[.int .i64 k, .slice a n c] 32)) := (Below.refl _ _).alloc (Nat.le_refl _) _
  have HZ := hid hz
  have HT := hid (ht.below hz)
  have q := alloc_new w (Obj.cells #[.int .i64 k, .slice a n c] 32)
  have z0 : (w.alloc (Obj.cells #[.int .i64 k, .slice a n c] 32)).cell? ⟨w.heap.size, 0, none⟩ = some (.int .i64 k) := by rw [cell_of_block q]; rfl
  have z1 : (w.alloc (Obj.cells #[.int .i64 k, .slice a n c] 32)).cell? ⟨w.heap.size, 1, none⟩ = some (.slice a n c) := by rw [cell_of_block q]; rfl
  obtain ⟨i0, hi0, hz0, hz1, hz2⟩ := info_parts (P := Tryd.prog) (e := 76) Tryd.infoBd
  have HS := hid (fun (W : World) (h : Below (w.alloc (Obj.cells #[.int .i64 k, .slice a n c] 32)).heap.size (w.alloc (Obj.cells #[.int .i64 k, .slice a n c] 32)) W) => (show W.cell? ⟨w.heap.size, 0, none⟩ = some (.int .i64 k) ∧ W.cell? ⟨w.heap.size, 1, none⟩ = some (.slice a n c) from ⟨cell_keep z0 h, cell_keep z1 h⟩))
  have HNM := hid hnm
  clear ht hz q
  go_enter Tryd.func113, Tryd.ntmps113
  go_wp2_with fail
  generalize (w.alloc (Obj.cells #[.int .i64 k, .slice a n c] 32)) = Z at *
  refine regionL (s := 8) (S0 := (fun w' => w'.cell? ⟨w.heap.size, 0, none⟩ = some (.int .i64 k) ∧ w'.cell? ⟨w.heap.size, 1, none⟩ = some (.slice a n c))) (S1 := (fun _ => True)) (by kernel_rfl) (HS.out _ (below_drew _)) (trivial) (fun hS0 => ?_)
  refine takeL0 (i := 1) (v := ?ve1) rfl rfl (by kernel_rfl) (by kernel_rfl) (by kernel_rfl) (by decide) (by kernel_rfl) (by kernel_rfl) (fun _ _ _ h => h) (Or.inl ⟨by rfl, ?hye1⟩) (by assumption) ?_
  case hye1 => (intro w hSw; (try dsimp only at hSw); go_simp; (try with_reducible rfl))
  try simp only [Act.put, List.setIfInBounds_toArray, List.set_cons_zero, List.set_cons_succ]
  refine takeL0 (i := 3) (v := ?ve2) rfl rfl (by kernel_rfl) (by kernel_rfl) (by kernel_rfl) (by decide) (by kernel_rfl) (by kernel_rfl) (fun _ _ _ h => h) (Or.inl ⟨by rfl, ?hye2⟩) (by assumption) ?_
  case hye2 => (intro w hSw; (try dsimp only at hSw); go_simp; (try with_reducible rfl))
  try simp only [Act.put, List.setIfInBounds_toArray, List.set_cons_zero, List.set_cons_succ]
  refine takeL0 (i := 4) (v := ?ve3) rfl rfl (by kernel_rfl) (by kernel_rfl) (by kernel_rfl) (by decide) (by kernel_rfl) (by kernel_rfl) (fun _ _ _ h => h) (Or.inl ⟨by rfl, ?hye3⟩) (by assumption) ?_
  case hye3 => (intro w hSw; (try dsimp only at hSw); go_simp; (try with_reducible rfl))
  try simp only [Act.put, List.setIfInBounds_toArray, List.set_cons_zero, List.set_cons_succ]
  refine takeL0 (i := 5) (v := ?ve4) rfl rfl (by kernel_rfl) (by kernel_rfl) (by kernel_rfl) (by decide) (by kernel_rfl) (by kernel_rfl) (fun _ _ _ h => h) (Or.inl ⟨by rfl, ?hye4⟩) (by assumption) ?_
  case hye4 => (intro w hSw; (try dsimp only at hSw); go_simp; (try with_reducible rfl))
  try simp only [Act.put, List.setIfInBounds_toArray, List.set_cons_zero, List.set_cons_succ]
  refine readyL (rs := [0, 6]) (by kernel_rfl) (by simp) ?_
  refine AllReadyL.cons rfl (fun K hK => ?_) ?_
  · go_simp
    refine hK.out _ _ ?_ (fun hS1 => ?_)
    · exact ⟨trivial, fun _ => HS.out _ (((Below.refl Z.heap.size Z).alloc (Nat.le_refl _) _).drew)⟩
    clear hK K hS0
    try simp only [Act.put, List.setIfInBounds_toArray, List.set_cons_zero, List.set_cons_succ]
    refine readyL (rs := [2, 6]) (by kernel_rfl) (by simp) ?_
    refine AllReadyL.cons rfl (fun K hK => ?_) ?_
    · refine step_append_zero (by rfl) _ _ _ (by rfl) 76 i0 Tryd.underBds hi0 (some ⟨Z.heap.size, 0, none⟩) 0 0 (by rfl) (Nat.le_refl _) a3 c3 (by rfl) ?_
      refine hK.out _ _ ?_ (fun hS2 => ?_)
      · exact ⟨trivial, fun _ => HS.out _ (((Below.refl Z.heap.size Z).alloc (Nat.le_refl _) _).drew)⟩
      clear hK K hS1
      try simp only [Act.put, List.setIfInBounds_toArray, List.set_cons_zero, List.set_cons_succ]
      refine readyL (rs := [6]) (by kernel_rfl) (by simp) ?_
      refine AllReadyL.cons rfl (fun K hK => ?_) AllReadyL.nil
      go_simp
      refine hK.out _ _ ?_ (fun hS3 => ?_)
      · exact ⟨trivial, fun _ => HS.out _ ((((Below.refl Z.heap.size Z).alloc (Nat.le_refl _) _).alloc (by simp) _).drew)⟩
      clear hK K hS2
      try simp only [Act.put, List.setIfInBounds_toArray, List.set_cons_zero, List.set_cons_succ]
      refine readyL (rs := [7]) (by kernel_rfl) (by simp) ?_
      refine AllReadyL.cons rfl (fun K hK => ?_) AllReadyL.nil
      have hbW : Below Z.heap.size Z ((Z.alloc (Obj.cells #[] 76)).alloc (Obj.cells #[.string nm, .int .i64 k, .slice a n c] 76)).drew := (((Below.refl Z.heap.size Z).alloc (Nat.le_refl _) _).alloc (by simp) _).drew
      have hE : (((Z.alloc (Obj.cells #[] 76)).alloc (Obj.cells #[.string nm, .int .i64 k, .slice a n c] 76)).drew).heap[Z.heap.size]? = some (Obj.cells #[] 76) := (fin_a (y := Z) (Obj.cells #[] 76) (Obj.cells #[.string nm, .int .i64 k, .slice a n c] 76)).1
      have hN7 : (((Z.alloc (Obj.cells #[] 76)).alloc (Obj.cells #[.string nm, .int .i64 k, .slice a n c] 76)).drew).heap[(Z.heap.size + 1)]? = some (Obj.cells #[.string nm, .int .i64 k, .slice a n c] 76) := (fin_a (y := Z) (Obj.cells #[] 76) (Obj.cells #[.string nm, .int .i64 k, .slice a n c] 76)).2.1
      have hs7 : Z.heap.size + 1 + 1 = (((Z.alloc (Obj.cells #[] 76)).alloc (Obj.cells #[.string nm, .int .i64 k, .slice a n c] 76)).drew).heap.size := by show _ = (World.heap _).size; simp
      refine step_append_lies _ (by rfl) _ _ _ (by rfl) (Z.heap.size) 76 i0 _ 3 48 Tryd.underBds hi0 hz0 hz1 hz2 rfl (by omega) (.slice (some ⟨Z.heap.size, 0, none⟩) 0 0) 0 [] (by rfl) (own_at hE (Nat.le_refl _)) ⟨(Z.heap.size + 1), 0, none⟩ 1 1 [.string nm, .int .i64 k, .slice a n c] (by rfl) rfl (World.news_of_block (cs := #[.string nm, .int .i64 k, .slice a n c]) (t := 76) (fr := (0, 0)) hN7) (by simp [Value.oneCell']) (by omega) (by unfold maxLen; omega) (by omega) (by first | omega | (simp; done) | (simp; omega)) _ rfl ?_
      intro g7 cp7 w7 hown7b hgrow7 hat7 hlt7
      simp only [Nat.zero_add, List.nil_append] at hown7b ⊢
      have hB7 : Below Z.heap.size Z w7 := hbW.grown hgrow7 hbW.size (fun b hb => by have : Z.heap.size = b := (by simpa [Value.ownBlock] using hb); omega)
      refine hK.out _ _ ?_ (fun hS4 => ?_)
      · exact ⟨trivial, fun _ => HS.out _ hB7⟩
      clear hK K hS3
      try simp only [Act.put, List.setIfInBounds_toArray, List.set_cons_zero, List.set_cons_succ]
      refine readyL (rs := [8]) (by kernel_rfl) (by simp) ?_
      refine AllReadyL.cons rfl (fun K hK => ?_) AllReadyL.nil
      go_simp
      refine hK.out _ _ ?_ (fun hS5 => ?_)
      · exact ⟨trivial, fun h => absurd (h.symm.trans (show _ = true by kernel_rfl)) (by decide)⟩
      clear hK K hS4
      try simp only [Act.put, List.setIfInBounds_toArray, List.set_cons_zero, List.set_cons_succ]
      refine doneL (by kernel_rfl) ?_ _
      obtain ⟨fp', hBs⟩ := bs_own (ds := [⟨nm, ty⟩]) (f := f) hown7b ⟨.string nm, .int .i64 k, .slice a n c, [], f, [], rfl, by simp, ⟨k, n, a, c, rfl, HNM.out, HT.out.below hB7⟩, rfl, rfl⟩ (by simp) (by unfold maxLen; omega)
      have FIN := hid hBs
      have FB := hid (below_trans HZ.out hB7)
      go_wp2_with fail
      go_ret
      exact ⟨_, _, rfl, FIN.out, FB.out⟩
    refine AllReadyL.cons rfl (fun K hK => ?_) AllReadyL.nil
    go_simp
    refine hK.out _ _ ?_ (fun hS2 => ?_)
    · exact ⟨trivial, fun _ => HS.out _ ((((Below.refl Z.heap.size Z).alloc (Nat.le_refl _) _).alloc (by simp) _).drew)⟩
    clear hK K hS1
    try simp only [Act.put, List.setIfInBounds_toArray, List.set_cons_zero, List.set_cons_succ]
    refine readyL (rs := [2]) (by kernel_rfl) (by simp) ?_
    refine AllReadyL.cons rfl (fun K hK => ?_) AllReadyL.nil
    refine step_append_zero (by rfl) _ _ _ (by rfl) 76 i0 Tryd.underBds hi0 (some ⟨Z.heap.size, 0, none⟩) 0 0 (by rfl) (Nat.le_refl _) a3 c3 (by rfl) ?_
    refine hK.out _ _ ?_ (fun hS3 => ?_)
    · exact ⟨trivial, fun _ => HS.out _ ((((Below.refl Z.heap.size Z).alloc (Nat.le_refl _) _).alloc (by simp) _).drew)⟩
    clear hK K hS2
    try simp only [Act.put, List.setIfInBounds_toArray, List.set_cons_zero, List.set_cons_succ]
    refine readyL (rs := [7]) (by kernel_rfl) (by simp) ?_
    refine AllReadyL.cons rfl (fun K hK => ?_) AllReadyL.nil
    have hbW : Below Z.heap.size Z ((Z.alloc (Obj.cells #[] 76)).alloc (Obj.cells #[.string nm, .int .i64 k, .slice a n c] 76)).drew := (((Below.refl Z.heap.size Z).alloc (Nat.le_refl _) _).alloc (by simp) _).drew
    have hE : (((Z.alloc (Obj.cells #[] 76)).alloc (Obj.cells #[.string nm, .int .i64 k, .slice a n c] 76)).drew).heap[Z.heap.size]? = some (Obj.cells #[] 76) := (fin_a (y := Z) (Obj.cells #[] 76) (Obj.cells #[.string nm, .int .i64 k, .slice a n c] 76)).1
    have hN7 : (((Z.alloc (Obj.cells #[] 76)).alloc (Obj.cells #[.string nm, .int .i64 k, .slice a n c] 76)).drew).heap[(Z.heap.size + 1)]? = some (Obj.cells #[.string nm, .int .i64 k, .slice a n c] 76) := (fin_a (y := Z) (Obj.cells #[] 76) (Obj.cells #[.string nm, .int .i64 k, .slice a n c] 76)).2.1
    have hs7 : Z.heap.size + 1 + 1 = (((Z.alloc (Obj.cells #[] 76)).alloc (Obj.cells #[.string nm, .int .i64 k, .slice a n c] 76)).drew).heap.size := by show _ = (World.heap _).size; simp
    refine step_append_lies _ (by rfl) _ _ _ (by rfl) (Z.heap.size) 76 i0 _ 3 48 Tryd.underBds hi0 hz0 hz1 hz2 rfl (by omega) (.slice (some ⟨Z.heap.size, 0, none⟩) 0 0) 0 [] (by rfl) (own_at hE (Nat.le_refl _)) ⟨(Z.heap.size + 1), 0, none⟩ 1 1 [.string nm, .int .i64 k, .slice a n c] (by rfl) rfl (World.news_of_block (cs := #[.string nm, .int .i64 k, .slice a n c]) (t := 76) (fr := (0, 0)) hN7) (by simp [Value.oneCell']) (by omega) (by unfold maxLen; omega) (by omega) (by first | omega | (simp; done) | (simp; omega)) _ rfl ?_
    intro g7 cp7 w7 hown7b hgrow7 hat7 hlt7
    simp only [Nat.zero_add, List.nil_append] at hown7b ⊢
    have hB7 : Below Z.heap.size Z w7 := hbW.grown hgrow7 hbW.size (fun b hb => by have : Z.heap.size = b := (by simpa [Value.ownBlock] using hb); omega)
    refine hK.out _ _ ?_ (fun hS4 => ?_)
    · exact ⟨trivial, fun _ => HS.out _ hB7⟩
    clear hK K hS3
    try simp only [Act.put, List.setIfInBounds_toArray, List.set_cons_zero, List.set_cons_succ]
    refine readyL (rs := [8]) (by kernel_rfl) (by simp) ?_
    refine AllReadyL.cons rfl (fun K hK => ?_) AllReadyL.nil
    go_simp
    refine hK.out _ _ ?_ (fun hS5 => ?_)
    · exact ⟨trivial, fun h => absurd (h.symm.trans (show _ = true by kernel_rfl)) (by decide)⟩
    clear hK K hS4
    try simp only [Act.put, List.setIfInBounds_toArray, List.set_cons_zero, List.set_cons_succ]
    refine doneL (by kernel_rfl) ?_ _
    obtain ⟨fp', hBs⟩ := bs_own (ds := [⟨nm, ty⟩]) (f := f) hown7b ⟨.string nm, .int .i64 k, .slice a n c, [], f, [], rfl, by simp, ⟨k, n, a, c, rfl, HNM.out, HT.out.below hB7⟩, rfl, rfl⟩ (by simp) (by unfold maxLen; omega)
    have FIN := hid hBs
    have FB := hid (below_trans HZ.out hB7)
    go_wp2_with fail
    go_ret
    exact ⟨_, _, rfl, FIN.out, FB.out⟩
  refine AllReadyL.cons rfl (fun K hK => ?_) AllReadyL.nil
  go_simp
  refine hK.out _ _ ?_ (fun hS1 => ?_)
  · exact ⟨trivial, fun _ => HS.out _ (((Below.refl Z.heap.size Z).alloc (Nat.le_refl _) _).drew)⟩
  clear hK K hS0
  try simp only [Act.put, List.setIfInBounds_toArray, List.set_cons_zero, List.set_cons_succ]
  refine readyL (rs := [0]) (by kernel_rfl) (by simp) ?_
  refine AllReadyL.cons rfl (fun K hK => ?_) AllReadyL.nil
  go_simp
  refine hK.out _ _ ?_ (fun hS2 => ?_)
  · exact ⟨trivial, fun _ => HS.out _ ((((Below.refl Z.heap.size Z).alloc (Nat.le_refl _) _).alloc (by simp) _).drew)⟩
  clear hK K hS1
  try simp only [Act.put, List.setIfInBounds_toArray, List.set_cons_zero, List.set_cons_succ]
  refine readyL (rs := [2]) (by kernel_rfl) (by simp) ?_
  refine AllReadyL.cons rfl (fun K hK => ?_) AllReadyL.nil
  refine step_append_zero (by rfl) _ _ _ (by rfl) 76 i0 Tryd.underBds hi0 (some ⟨(Z.heap.size + 1), 0, none⟩) 0 0 (by rfl) (Nat.le_refl _) a3 c3 (by rfl) ?_
  refine hK.out _ _ ?_ (fun hS3 => ?_)
  · exact ⟨trivial, fun _ => HS.out _ ((((Below.refl Z.heap.size Z).alloc (Nat.le_refl _) _).alloc (by simp) _).drew)⟩
  clear hK K hS2
  try simp only [Act.put, List.setIfInBounds_toArray, List.set_cons_zero, List.set_cons_succ]
  refine readyL (rs := [7]) (by kernel_rfl) (by simp) ?_
  refine AllReadyL.cons rfl (fun K hK => ?_) AllReadyL.nil
  have hbW : Below Z.heap.size Z ((Z.alloc (Obj.cells #[.string nm, .int .i64 k, .slice a n c] 76)).alloc (Obj.cells #[] 76)).drew := (((Below.refl Z.heap.size Z).alloc (Nat.le_refl _) _).alloc (by simp) _).drew
  have hE : (((Z.alloc (Obj.cells #[.string nm, .int .i64 k, .slice a n c] 76)).alloc (Obj.cells #[] 76)).drew).heap[(Z.heap.size + 1)]? = some (Obj.cells #[] 76) := (fin_a (y := Z) (Obj.cells #[.string nm, .int .i64 k, .slice a n c] 76) (Obj.cells #[] 76)).2.1
  have hN7 : (((Z.alloc (Obj.cells #[.string nm, .int .i64 k, .slice a n c] 76)).alloc (Obj.cells #[] 76)).drew).heap[Z.heap.size]? = some (Obj.cells #[.string nm, .int .i64 k, .slice a n c] 76) := (fin_a (y := Z) (Obj.cells #[.string nm, .int .i64 k, .slice a n c] 76) (Obj.cells #[] 76)).1
  have hs7 : Z.heap.size + 1 + 1 = (((Z.alloc (Obj.cells #[.string nm, .int .i64 k, .slice a n c] 76)).alloc (Obj.cells #[] 76)).drew).heap.size := by show _ = (World.heap _).size; simp
  refine step_append_lies _ (by rfl) _ _ _ (by rfl) ((Z.heap.size + 1)) 76 i0 _ 3 48 Tryd.underBds hi0 hz0 hz1 hz2 rfl (by omega) (.slice (some ⟨(Z.heap.size + 1), 0, none⟩) 0 0) 0 [] (by rfl) (own_at hE (Nat.le_refl _)) ⟨Z.heap.size, 0, none⟩ 1 1 [.string nm, .int .i64 k, .slice a n c] (by rfl) rfl (World.news_of_block (cs := #[.string nm, .int .i64 k, .slice a n c]) (t := 76) (fr := (0, 0)) hN7) (by simp [Value.oneCell']) (by omega) (by unfold maxLen; omega) (by omega) (by first | omega | (simp; done) | (simp; omega)) _ rfl ?_
  intro g7 cp7 w7 hown7b hgrow7 hat7 hlt7
  simp only [Nat.zero_add, List.nil_append] at hown7b ⊢
  have hB7 : Below Z.heap.size Z w7 := hbW.grown hgrow7 hbW.size (fun b hb => by have : (Z.heap.size + 1) = b := (by simpa [Value.ownBlock] using hb); omega)
  refine hK.out _ _ ?_ (fun hS4 => ?_)
  · exact ⟨trivial, fun _ => HS.out _ hB7⟩
  clear hK K hS3
  try simp only [Act.put, List.setIfInBounds_toArray, List.set_cons_zero, List.set_cons_succ]
  refine readyL (rs := [8]) (by kernel_rfl) (by simp) ?_
  refine AllReadyL.cons rfl (fun K hK => ?_) AllReadyL.nil
  go_simp
  refine hK.out _ _ ?_ (fun hS5 => ?_)
  · exact ⟨trivial, fun h => absurd (h.symm.trans (show _ = true by kernel_rfl)) (by decide)⟩
  clear hK K hS4
  try simp only [Act.put, List.setIfInBounds_toArray, List.set_cons_zero, List.set_cons_succ]
  refine doneL (by kernel_rfl) ?_ _
  obtain ⟨fp', hBs⟩ := bs_own (ds := [⟨nm, ty⟩]) (f := f) hown7b ⟨.string nm, .int .i64 k, .slice a n c, [], f, [], rfl, by simp, ⟨k, n, a, c, rfl, HNM.out, HT.out.below hB7⟩, rfl, rfl⟩ (by simp) (by unfold maxLen; omega)
  have FIN := hid hBs
  have FB := hid (below_trans HZ.out hB7)
  go_wp2_with fail
  go_ret
  exact ⟨_, _, rfl, FIN.out, FB.out⟩

set_option maxRecDepth 100000 in
set_option maxHeartbeats 4000000 in
theorem l3More_any (xs : List Bd) (s : Value) (fp : List Nat) (nm : ByteArray) (ty : Ty) (k : Int) (n : Nat) (a : Option Addr) (c : Nat) (f : List Nat) (w : World) (hs : BsAt w xs s fp) (hnm : nm.size ≤ 9223372036854775807) (ht : ty.At w (.agg #[.int .i64 k, .slice a n c]) f) (hlen : xs.length ≤ 1000000) :
    Calls Tryd.prog 113 #[s, .string nm, .agg #[.int .i64 k, .slice a n c]] w fun e w' => ∃ s' fp', e = .returned s' ∧ BsAt w' (xs ++ [⟨nm, ty⟩]) s' fp' ∧ Below w.heap.size w w' := by
  have hz : Below w.heap.size w (w.alloc (Obj.cells #[.int .i64 k, .slice a n c] 32)) := (Below.refl _ _).alloc (Nat.le_refl _) _
  have HZ := hid hz
  have HT := hid (ht.below hz)
  have q := alloc_new w (Obj.cells #[.int .i64 k, .slice a n c] 32)
  have z0 : (w.alloc (Obj.cells #[.int .i64 k, .slice a n c] 32)).cell? ⟨w.heap.size, 0, none⟩ = some (.int .i64 k) := by rw [cell_of_block q]; rfl
  have z1 : (w.alloc (Obj.cells #[.int .i64 k, .slice a n c] 32)).cell? ⟨w.heap.size, 1, none⟩ = some (.slice a n c) := by rw [cell_of_block q]; rfl
  obtain ⟨i0, hi0, hz0, hz1, hz2⟩ := info_parts (P := Tryd.prog) (e := 76) Tryd.infoBd
  have hs2 := hs.below hz
  rcases hs2 with ⟨rfl, rfl, a3, c3, rfl⟩ | ⟨b, o, cap, g, rfl, hp, hc, hm, hl, rfl⟩
  · exact l3More_nil nm ty k n a c f w a3 c3 hnm ht
  · obtain ⟨L, hL, hLc⟩ := BdL.vals hl
    obtain ⟨hL1, hL2⟩ := hL.one
    have HL := hid (And.intro hL (And.intro hL1 hL2))
    have HNEW := hid (show ∀ j u, L[j]? = some u → (w.alloc (Obj.cells #[.int .i64 k, .slice a n c] 32)).cell? ((⟨b, o, none⟩ : Addr).add j) = some u from fun j u hj => by
      have := hLc j u hj
      rw [Addr.add_lit]
      exact this)
    have HS := hid (fun (W : World) (h : Below (w.alloc (Obj.cells #[.int .i64 k, .slice a n c] 32)).heap.size (w.alloc (Obj.cells #[.int .i64 k, .slice a n c] 32)) W) => (show W.cell? ⟨w.heap.size, 0, none⟩ = some (.int .i64 k) ∧ W.cell? ⟨w.heap.size, 1, none⟩ = some (.slice a n c) from ⟨cell_keep z0 h, cell_keep z1 h⟩))
    have HLEN := hid (And.intro hlen hp)
    have HNM := hid hnm
    have hlx : 0 < xs.length := hp
    have hlm := hlen
    clear ht hs hz q hl hL hL1 hL2 hLc hlen hp hm
    go_enter Tryd.func113, Tryd.ntmps113
    go_wp2_with fail
    generalize (w.alloc (Obj.cells #[.int .i64 k, .slice a n c] 32)) = Z at *
    refine regionL (s := 8) (S0 := (fun w' => w'.cell? ⟨w.heap.size, 0, none⟩ = some (.int .i64 k) ∧ w'.cell? ⟨w.heap.size, 1, none⟩ = some (.slice a n c))) (S1 := (fun _ => True)) (by kernel_rfl) (HS.out _ (below_drew _)) (trivial) (fun hS0 => ?_)
    refine takeL0 (i := 1) (v := ?vm1) rfl rfl (by kernel_rfl) (by kernel_rfl) (by kernel_rfl) (by decide) (by kernel_rfl) (by kernel_rfl) (fun _ _ _ h => h) (Or.inl ⟨by rfl, ?hym1⟩) (by assumption) ?_
    case hym1 => (intro w hSw; (try dsimp only at hSw); go_simp; (try with_reducible rfl))
    try simp only [Act.put, List.setIfInBounds_toArray, List.set_cons_zero, List.set_cons_succ]
    refine takeL0 (i := 3) (v := ?vm2) rfl rfl (by kernel_rfl) (by kernel_rfl) (by kernel_rfl) (by decide) (by kernel_rfl) (by kernel_rfl) (fun _ _ _ h => h) (Or.inl ⟨by rfl, ?hym2⟩) (by assumption) ?_
    case hym2 => (intro w hSw; (try dsimp only at hSw); go_simp; (try with_reducible rfl))
    try simp only [Act.put, List.setIfInBounds_toArray, List.set_cons_zero, List.set_cons_succ]
    refine takeL0 (i := 4) (v := ?vm3) rfl rfl (by kernel_rfl) (by kernel_rfl) (by kernel_rfl) (by decide) (by kernel_rfl) (by kernel_rfl) (fun _ _ _ h => h) (Or.inl ⟨by rfl, ?hym3⟩) (by assumption) ?_
    case hym3 => (intro w hSw; (try dsimp only at hSw); go_simp; (try with_reducible rfl))
    try simp only [Act.put, List.setIfInBounds_toArray, List.set_cons_zero, List.set_cons_succ]
    refine takeL0 (i := 5) (v := ?vm4) rfl rfl (by kernel_rfl) (by kernel_rfl) (by kernel_rfl) (by decide) (by kernel_rfl) (by kernel_rfl) (fun _ _ _ h => h) (Or.inl ⟨by rfl, ?hym4⟩) (by assumption) ?_
    case hym4 => (intro w hSw; (try dsimp only at hSw); go_simp; (try with_reducible rfl))
    try simp only [Act.put, List.setIfInBounds_toArray, List.set_cons_zero, List.set_cons_succ]
    refine readyL (rs := [0, 6]) (by kernel_rfl) (by simp) ?_
    refine AllReadyL.cons rfl (fun K hK => ?_) ?_
    · go_simp
      refine hK.out _ _ ?_ (fun hS1 => ?_)
      · exact ⟨trivial, fun _ => HS.out _ (((Below.refl Z.heap.size Z).alloc (Nat.le_refl _) _).drew)⟩
      clear hK K hS0
      try simp only [Act.put, List.setIfInBounds_toArray, List.set_cons_zero, List.set_cons_succ]
      refine readyL (rs := [2, 6]) (by kernel_rfl) (by simp) ?_
      refine AllReadyL.cons rfl (fun K hK => ?_) ?_
      · have hbW : Below Z.heap.size Z (Z.alloc (Obj.cells #[] 76)).drew := ((Below.refl Z.heap.size Z).alloc (Nat.le_refl _) _).drew
        have hE : ((Z.alloc (Obj.cells #[] 76)).drew).heap[Z.heap.size]? = some (Obj.cells #[] 76) := alloc_new Z (Obj.cells #[] 76)
        have hnew : ∀ j u, L[j]? = some u → ((Z.alloc (Obj.cells #[] 76)).drew).cell? ((⟨b, o, none⟩ : Addr).add j) = some u := fun j u hj => cell_keep (HNEW.out j u hj) hbW
        have hH : ((Z.alloc (Obj.cells #[] 76)).drew).heap.size = Z.heap.size + 1 := by show (World.heap _).size = _; simp
        refine step_append_lies _ (by rfl) _ _ _ (by rfl) (Z.heap.size) 76 i0 _ 3 48 Tryd.underBds hi0 hz0 hz1 hz2 rfl (by omega) (.slice (some ⟨Z.heap.size, 0, none⟩) 0 0) 0 [] (by rfl) (own_at hE (Nat.le_refl _)) ⟨b, o, none⟩ xs.length cap L (by rfl) HL.out.2.2 hnew HL.out.2.1 (by omega) (by unfold maxLen; omega) (by omega) (by first | omega | (simp; done) | (simp; omega)) _ rfl ?_
        intro g5 cp5 w5 hown5 hgrow5 hat5 hlt5
        simp only [Nat.zero_add, List.nil_append] at hown5 ⊢
        have hB5 : Below Z.heap.size Z w5 := hbW.grown hgrow5 hbW.size (fun b hb => by have : Z.heap.size = b := (by simpa [Value.ownBlock] using hb); omega)
        have hs5 := hB5.size
        refine hK.out _ _ ?_ (fun hS2 => ?_)
        · exact ⟨trivial, fun _ => HS.out _ hB5⟩
        clear hK K hS1
        try simp only [Act.put, List.setIfInBounds_toArray, List.set_cons_zero, List.set_cons_succ]
        refine readyL (rs := [6]) (by kernel_rfl) (by simp) ?_
        refine AllReadyL.cons rfl (fun K hK => ?_) AllReadyL.nil
        go_simp
        refine hK.out _ _ ?_ (fun hS3 => ?_)
        · exact ⟨trivial, fun _ => HS.out _ (hB5.alloc hB5.size _)⟩
        clear hK K hS2
        try simp only [Act.put, List.setIfInBounds_toArray, List.set_cons_zero, List.set_cons_succ]
        refine readyL (rs := [7]) (by kernel_rfl) (by simp) ?_
        refine AllReadyL.cons rfl (fun K hK => ?_) AllReadyL.nil
        have hN7 := alloc_new w5 (Obj.cells #[.string nm, .int .i64 k, .slice a n c] 76)
        have hal7 : Below w5.heap.size w5 (w5.alloc (Obj.cells #[.string nm, .int .i64 k, .slice a n c] 76)) := (Below.refl _ _).alloc (Nat.le_refl _) _
        have hbW7 := below_trans hB5 hal7
        have hown7 := hown5.kept (grown_of_below hal7 none) (.inr (by simp [Value.ownBlock]))
        refine step_append_lies _ (by rfl) _ _ _ (by rfl) (Z.heap.size) 76 i0 _ 3 48 Tryd.underBds hi0 hz0 hz1 hz2 rfl (by omega) (.slice (some ⟨g5, 0, none⟩) xs.length cp5) xs.length L (by rfl) (hown7) ⟨w5.heap.size, 0, none⟩ 1 1 [.string nm, .int .i64 k, .slice a n c] (by rfl) rfl (World.news_of_block (cs := #[.string nm, .int .i64 k, .slice a n c]) (t := 76) (fr := (0, 0)) hN7) (by simp [Value.oneCell']) (by omega) (by unfold maxLen; omega) (by omega) (by first | omega | (simp; done) | (simp; omega)) _ rfl ?_
        intro g7 cp7 w7 hown7b hgrow7 hat7 hlt7
        have hB7 : Below Z.heap.size Z w7 := hbW7.grown hgrow7 hbW7.size (fun b hb => by have h1 : g5 = b := (by simpa [Value.ownBlock] using hb); rcases hat5 with h2 | h2; (have h3 : Z.heap.size = g5 := (by simpa [Value.ownBlock] using h2); omega); (have h4 := hbW.size; omega))
        refine hK.out _ _ ?_ (fun hS4 => ?_)
        · exact ⟨trivial, fun _ => HS.out _ hB7⟩
        clear hK K hS3
        try simp only [Act.put, List.setIfInBounds_toArray, List.set_cons_zero, List.set_cons_succ]
        refine readyL (rs := [8]) (by kernel_rfl) (by simp) ?_
        refine AllReadyL.cons rfl (fun K hK => ?_) AllReadyL.nil
        go_simp
        refine hK.out _ _ ?_ (fun hS5 => ?_)
        · exact ⟨trivial, fun h => absurd (h.symm.trans (show _ = true by kernel_rfl)) (by decide)⟩
        clear hK K hS4
        try simp only [Act.put, List.setIfInBounds_toArray, List.set_cons_zero, List.set_cons_succ]
        refine doneL (by kernel_rfl) ?_ _
        have hYs := (HL.out.1.below hB7).snoc (t := ⟨nm, ty⟩) (x := .string nm) (y := .int .i64 k) (z := .slice a n c) ⟨k, n, a, c, rfl, HNM.out, HT.out.below hB7⟩
        obtain ⟨fp', hBs⟩ := bs_own hown7b hYs (by simp) (by unfold maxLen; have := HLEN.out.1; omega)
        have FIN := hid hBs
        have FB := hid (below_trans HZ.out hB7)
        go_wp2_with fail
        go_ret
        exact ⟨_, _, rfl, FIN.out, FB.out⟩
      refine AllReadyL.cons rfl (fun K hK => ?_) AllReadyL.nil
      go_simp
      refine hK.out _ _ ?_ (fun hS2 => ?_)
      · exact ⟨trivial, fun _ => HS.out _ ((((Below.refl Z.heap.size Z).alloc (Nat.le_refl _) _).alloc (by simp) _).drew)⟩
      clear hK K hS1
      try simp only [Act.put, List.setIfInBounds_toArray, List.set_cons_zero, List.set_cons_succ]
      refine readyL (rs := [2]) (by kernel_rfl) (by simp) ?_
      refine AllReadyL.cons rfl (fun K hK => ?_) AllReadyL.nil
      have hbW : Below Z.heap.size Z ((Z.alloc (Obj.cells #[] 76)).alloc (Obj.cells #[.string nm, .int .i64 k, .slice a n c] 76)).drew := (((Below.refl Z.heap.size Z).alloc (Nat.le_refl _) _).alloc (by simp) _).drew
      have hE : (((Z.alloc (Obj.cells #[] 76)).alloc (Obj.cells #[.string nm, .int .i64 k, .slice a n c] 76)).drew).heap[Z.heap.size]? = some (Obj.cells #[] 76) := (fin_a (y := Z) (Obj.cells #[] 76) (Obj.cells #[.string nm, .int .i64 k, .slice a n c] 76)).1
      have hnew : ∀ j u, L[j]? = some u → (((Z.alloc (Obj.cells #[] 76)).alloc (Obj.cells #[.string nm, .int .i64 k, .slice a n c] 76)).drew).cell? ((⟨b, o, none⟩ : Addr).add j) = some u := fun j u hj => cell_keep (HNEW.out j u hj) hbW
      have hH : (((Z.alloc (Obj.cells #[] 76)).alloc (Obj.cells #[.string nm, .int .i64 k, .slice a n c] 76)).drew).heap.size = Z.heap.size + 1 + 1 := by show (World.heap _).size = _; simp
      refine step_append_lies _ (by rfl) _ _ _ (by rfl) (Z.heap.size) 76 i0 _ 3 48 Tryd.underBds hi0 hz0 hz1 hz2 rfl (by omega) (.slice (some ⟨Z.heap.size, 0, none⟩) 0 0) 0 [] (by rfl) (own_at hE (Nat.le_refl _)) ⟨b, o, none⟩ xs.length cap L (by rfl) HL.out.2.2 hnew HL.out.2.1 (by omega) (by unfold maxLen; omega) (by omega) (by first | omega | (simp; done) | (simp; omega)) _ rfl ?_
      intro g5 cp5 w5 hown5 hgrow5 hat5 hlt5
      simp only [Nat.zero_add, List.nil_append] at hown5 ⊢
      have hB5 : Below Z.heap.size Z w5 := hbW.grown hgrow5 hbW.size (fun b hb => by have : Z.heap.size = b := (by simpa [Value.ownBlock] using hb); omega)
      have hs5 := hB5.size
      have hN5 : w5.heap[(Z.heap.size + 1)]? = some (Obj.cells #[.string nm, .int .i64 k, .slice a n c] 76) := (World.grownBy.block hgrow5 (Z.heap.size + 1) (lt_of_block (show (((Z.alloc (Obj.cells #[] 76)).alloc (Obj.cells #[.string nm, .int .i64 k, .slice a n c] 76)).drew).heap[(Z.heap.size + 1)]? = some (Obj.cells #[.string nm, .int .i64 k, .slice a n c] 76) from (fin_a (y := Z) (Obj.cells #[] 76) (Obj.cells #[.string nm, .int .i64 k, .slice a n c] 76)).2.1)) (by simp [Value.ownBlock])).trans (show (((Z.alloc (Obj.cells #[] 76)).alloc (Obj.cells #[.string nm, .int .i64 k, .slice a n c] 76)).drew).heap[(Z.heap.size + 1)]? = some (Obj.cells #[.string nm, .int .i64 k, .slice a n c] 76) from (fin_a (y := Z) (Obj.cells #[] 76) (Obj.cells #[.string nm, .int .i64 k, .slice a n c] 76)).2.1)
      have hs6 := lt_of_block hN5
      refine hK.out _ _ ?_ (fun hS3 => ?_)
      · exact ⟨trivial, fun _ => HS.out _ hB5⟩
      clear hK K hS2
      try simp only [Act.put, List.setIfInBounds_toArray, List.set_cons_zero, List.set_cons_succ]
      refine readyL (rs := [7]) (by kernel_rfl) (by simp) ?_
      refine AllReadyL.cons rfl (fun K hK => ?_) AllReadyL.nil
      have hN7 := hN5
      have hbW7 := hB5
      have hown7 := hown5
      refine step_append_lies _ (by rfl) _ _ _ (by rfl) (Z.heap.size) 76 i0 _ 3 48 Tryd.underBds hi0 hz0 hz1 hz2 rfl (by omega) (.slice (some ⟨g5, 0, none⟩) xs.length cp5) xs.length L (by rfl) (hown7) ⟨(Z.heap.size + 1), 0, none⟩ 1 1 [.string nm, .int .i64 k, .slice a n c] (by rfl) rfl (World.news_of_block (cs := #[.string nm, .int .i64 k, .slice a n c]) (t := 76) (fr := (0, 0)) hN7) (by simp [Value.oneCell']) (by omega) (by unfold maxLen; omega) (by omega) (by first | omega | (simp; done) | (simp; omega)) _ rfl ?_
      intro g7 cp7 w7 hown7b hgrow7 hat7 hlt7
      have hB7 : Below Z.heap.size Z w7 := hbW7.grown hgrow7 hbW7.size (fun b hb => by have h1 : g5 = b := (by simpa [Value.ownBlock] using hb); rcases hat5 with h2 | h2; (have h3 : Z.heap.size = g5 := (by simpa [Value.ownBlock] using h2); omega); (have h4 := hbW.size; omega))
      refine hK.out _ _ ?_ (fun hS4 => ?_)
      · exact ⟨trivial, fun _ => HS.out _ hB7⟩
      clear hK K hS3
      try simp only [Act.put, List.setIfInBounds_toArray, List.set_cons_zero, List.set_cons_succ]
      refine readyL (rs := [8]) (by kernel_rfl) (by simp) ?_
      refine AllReadyL.cons rfl (fun K hK => ?_) AllReadyL.nil
      go_simp
      refine hK.out _ _ ?_ (fun hS5 => ?_)
      · exact ⟨trivial, fun h => absurd (h.symm.trans (show _ = true by kernel_rfl)) (by decide)⟩
      clear hK K hS4
      try simp only [Act.put, List.setIfInBounds_toArray, List.set_cons_zero, List.set_cons_succ]
      refine doneL (by kernel_rfl) ?_ _
      have hYs := (HL.out.1.below hB7).snoc (t := ⟨nm, ty⟩) (x := .string nm) (y := .int .i64 k) (z := .slice a n c) ⟨k, n, a, c, rfl, HNM.out, HT.out.below hB7⟩
      obtain ⟨fp', hBs⟩ := bs_own hown7b hYs (by simp) (by unfold maxLen; have := HLEN.out.1; omega)
      have FIN := hid hBs
      have FB := hid (below_trans HZ.out hB7)
      go_wp2_with fail
      go_ret
      exact ⟨_, _, rfl, FIN.out, FB.out⟩
    refine AllReadyL.cons rfl (fun K hK => ?_) AllReadyL.nil
    go_simp
    refine hK.out _ _ ?_ (fun hS1 => ?_)
    · exact ⟨trivial, fun _ => HS.out _ (((Below.refl Z.heap.size Z).alloc (Nat.le_refl _) _).drew)⟩
    clear hK K hS0
    try simp only [Act.put, List.setIfInBounds_toArray, List.set_cons_zero, List.set_cons_succ]
    refine readyL (rs := [0]) (by kernel_rfl) (by simp) ?_
    refine AllReadyL.cons rfl (fun K hK => ?_) AllReadyL.nil
    go_simp
    refine hK.out _ _ ?_ (fun hS2 => ?_)
    · exact ⟨trivial, fun _ => HS.out _ ((((Below.refl Z.heap.size Z).alloc (Nat.le_refl _) _).alloc (by simp) _).drew)⟩
    clear hK K hS1
    try simp only [Act.put, List.setIfInBounds_toArray, List.set_cons_zero, List.set_cons_succ]
    refine readyL (rs := [2]) (by kernel_rfl) (by simp) ?_
    refine AllReadyL.cons rfl (fun K hK => ?_) AllReadyL.nil
    have hbW : Below Z.heap.size Z ((Z.alloc (Obj.cells #[.string nm, .int .i64 k, .slice a n c] 76)).alloc (Obj.cells #[] 76)).drew := (((Below.refl Z.heap.size Z).alloc (Nat.le_refl _) _).alloc (by simp) _).drew
    have hE : (((Z.alloc (Obj.cells #[.string nm, .int .i64 k, .slice a n c] 76)).alloc (Obj.cells #[] 76)).drew).heap[(Z.heap.size + 1)]? = some (Obj.cells #[] 76) := (fin_a (y := Z) (Obj.cells #[.string nm, .int .i64 k, .slice a n c] 76) (Obj.cells #[] 76)).2.1
    have hnew : ∀ j u, L[j]? = some u → (((Z.alloc (Obj.cells #[.string nm, .int .i64 k, .slice a n c] 76)).alloc (Obj.cells #[] 76)).drew).cell? ((⟨b, o, none⟩ : Addr).add j) = some u := fun j u hj => cell_keep (HNEW.out j u hj) hbW
    have hH : (((Z.alloc (Obj.cells #[.string nm, .int .i64 k, .slice a n c] 76)).alloc (Obj.cells #[] 76)).drew).heap.size = Z.heap.size + 1 + 1 := by show (World.heap _).size = _; simp
    refine step_append_lies _ (by rfl) _ _ _ (by rfl) ((Z.heap.size + 1)) 76 i0 _ 3 48 Tryd.underBds hi0 hz0 hz1 hz2 rfl (by omega) (.slice (some ⟨(Z.heap.size + 1), 0, none⟩) 0 0) 0 [] (by rfl) (own_at hE (Nat.le_refl _)) ⟨b, o, none⟩ xs.length cap L (by rfl) HL.out.2.2 hnew HL.out.2.1 (by omega) (by unfold maxLen; omega) (by omega) (by first | omega | (simp; done) | (simp; omega)) _ rfl ?_
    intro g5 cp5 w5 hown5 hgrow5 hat5 hlt5
    simp only [Nat.zero_add, List.nil_append] at hown5 ⊢
    have hB5 : Below Z.heap.size Z w5 := hbW.grown hgrow5 hbW.size (fun b hb => by have : (Z.heap.size + 1) = b := (by simpa [Value.ownBlock] using hb); omega)
    have hs5 := hB5.size
    have hN5 : w5.heap[Z.heap.size]? = some (Obj.cells #[.string nm, .int .i64 k, .slice a n c] 76) := (World.grownBy.block hgrow5 Z.heap.size (lt_of_block (show (((Z.alloc (Obj.cells #[.string nm, .int .i64 k, .slice a n c] 76)).alloc (Obj.cells #[] 76)).drew).heap[Z.heap.size]? = some (Obj.cells #[.string nm, .int .i64 k, .slice a n c] 76) from (fin_a (y := Z) (Obj.cells #[.string nm, .int .i64 k, .slice a n c] 76) (Obj.cells #[] 76)).1)) (by simp [Value.ownBlock])).trans (show (((Z.alloc (Obj.cells #[.string nm, .int .i64 k, .slice a n c] 76)).alloc (Obj.cells #[] 76)).drew).heap[Z.heap.size]? = some (Obj.cells #[.string nm, .int .i64 k, .slice a n c] 76) from (fin_a (y := Z) (Obj.cells #[.string nm, .int .i64 k, .slice a n c] 76) (Obj.cells #[] 76)).1)
    have hs6 := lt_of_block hN5
    refine hK.out _ _ ?_ (fun hS3 => ?_)
    · exact ⟨trivial, fun _ => HS.out _ hB5⟩
    clear hK K hS2
    try simp only [Act.put, List.setIfInBounds_toArray, List.set_cons_zero, List.set_cons_succ]
    refine readyL (rs := [7]) (by kernel_rfl) (by simp) ?_
    refine AllReadyL.cons rfl (fun K hK => ?_) AllReadyL.nil
    have hN7 := hN5
    have hbW7 := hB5
    have hown7 := hown5
    refine step_append_lies _ (by rfl) _ _ _ (by rfl) ((Z.heap.size + 1)) 76 i0 _ 3 48 Tryd.underBds hi0 hz0 hz1 hz2 rfl (by omega) (.slice (some ⟨g5, 0, none⟩) xs.length cp5) xs.length L (by rfl) (hown7) ⟨Z.heap.size, 0, none⟩ 1 1 [.string nm, .int .i64 k, .slice a n c] (by rfl) rfl (World.news_of_block (cs := #[.string nm, .int .i64 k, .slice a n c]) (t := 76) (fr := (0, 0)) hN7) (by simp [Value.oneCell']) (by omega) (by unfold maxLen; omega) (by omega) (by first | omega | (simp; done) | (simp; omega)) _ rfl ?_
    intro g7 cp7 w7 hown7b hgrow7 hat7 hlt7
    have hB7 : Below Z.heap.size Z w7 := hbW7.grown hgrow7 hbW7.size (fun b hb => by have h1 : g5 = b := (by simpa [Value.ownBlock] using hb); rcases hat5 with h2 | h2; (have h3 : (Z.heap.size + 1) = g5 := (by simpa [Value.ownBlock] using h2); omega); (have h4 := hbW.size; omega))
    refine hK.out _ _ ?_ (fun hS4 => ?_)
    · exact ⟨trivial, fun _ => HS.out _ hB7⟩
    clear hK K hS3
    try simp only [Act.put, List.setIfInBounds_toArray, List.set_cons_zero, List.set_cons_succ]
    refine readyL (rs := [8]) (by kernel_rfl) (by simp) ?_
    refine AllReadyL.cons rfl (fun K hK => ?_) AllReadyL.nil
    go_simp
    refine hK.out _ _ ?_ (fun hS5 => ?_)
    · exact ⟨trivial, fun h => absurd (h.symm.trans (show _ = true by kernel_rfl)) (by decide)⟩
    clear hK K hS4
    try simp only [Act.put, List.setIfInBounds_toArray, List.set_cons_zero, List.set_cons_succ]
    refine doneL (by kernel_rfl) ?_ _
    have hYs := (HL.out.1.below hB7).snoc (t := ⟨nm, ty⟩) (x := .string nm) (y := .int .i64 k) (z := .slice a n c) ⟨k, n, a, c, rfl, HNM.out, HT.out.below hB7⟩
    obtain ⟨fp', hBs⟩ := bs_own hown7b hYs (by simp) (by unfold maxLen; have := HLEN.out.1; omega)
    have FIN := hid hBs
    have FB := hid (below_trans HZ.out hB7)
    go_wp2_with fail
    go_ret
    exact ⟨_, _, rfl, FIN.out, FB.out⟩
end Go.Proofs.YtffmpjcjmffdeaaDoor
