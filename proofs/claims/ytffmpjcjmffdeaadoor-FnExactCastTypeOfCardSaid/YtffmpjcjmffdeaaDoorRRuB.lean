/- ruleFor: the kinds whose rules call. -/
import Derived.Deep.RegionHeld3
import Derived.Test.YtffmpjcjmffdeaaDoorRRu0
import Derived.Test.YtffmpjcjmffdeaaDoorRPkB
namespace Go.Proofs.YtffmpjcjmffdeaaDoor
open Go.RowKit

theorem four_out {w wr : World} {o1 o2 o3 o4 : Obj} (h : Below ((((w.alloc o1).alloc o2).alloc o3).alloc o4).heap.size ((((w.alloc o1).alloc o2).alloc o3).alloc o4) wr) :
    wr.heap[w.heap.size]? = some o1 ∧ wr.heap[w.heap.size + 1]? = some o2 ∧ wr.heap[w.heap.size + 1 + 1]? = some o3 ∧ wr.heap[w.heap.size + 1 + 1 + 1]? = some o4 := by
  have s1 : (w.alloc o1).heap.size = w.heap.size + 1 := by simp
  have s2 : ((w.alloc o1).alloc o2).heap.size = w.heap.size + 1 + 1 := by simp
  have s3 : (((w.alloc o1).alloc o2).alloc o3).heap.size = w.heap.size + 1 + 1 + 1 := by simp
  have e1 : (w.alloc o1).heap[w.heap.size]? = some o1 := alloc_new w o1
  have e2 : ((w.alloc o1).alloc o2).heap[w.heap.size + 1]? = some o2 := by have := alloc_new (w.alloc o1) o2; rwa [s1] at this
  have e3 : (((w.alloc o1).alloc o2).alloc o3).heap[w.heap.size + 1 + 1]? = some o3 := by have := alloc_new ((w.alloc o1).alloc o2) o3; rwa [s2] at this
  have e4 : ((((w.alloc o1).alloc o2).alloc o3).alloc o4).heap[w.heap.size + 1 + 1 + 1]? = some o4 := by have := alloc_new (((w.alloc o1).alloc o2).alloc o3) o4; rwa [s3] at this
  have b1 := (Below.refl _ (w.alloc o1)).alloc (Nat.le_refl _) o2
  have b2 := (Below.refl _ ((w.alloc o1).alloc o2)).alloc (Nat.le_refl _) o3
  have b3 := (Below.refl _ (((w.alloc o1).alloc o2).alloc o3)).alloc (Nat.le_refl _) o4
  have k1 := (b1.block _ (lt_of_block e1)).trans e1
  have k1' := (b2.block _ (lt_of_block k1)).trans k1
  have k1b := (b3.block _ (lt_of_block k1')).trans k1'
  have k2 := (b2.block _ (lt_of_block e2)).trans e2
  have k2' := (b3.block _ (lt_of_block k2)).trans k2
  have k3 := (b3.block _ (lt_of_block e3)).trans e3
  exact ⟨(h.block _ (lt_of_block k1b)).trans k1b, (h.block _ (lt_of_block k2')).trans k2', (h.block _ (lt_of_block k3)).trans k3, (h.block _ (lt_of_block e4)).trans e4⟩

/-- Blocks that were given, or made behind block P. -/
def SrcP (P : Nat) (A : List Nat) (X : World) (f : List Nat) : Prop := ∀ b ∈ f, b ∈ A ∨ (P < b ∧ ∀ o, X.frozen? ⟨b, o, none⟩ = false)
theorem SrcP.nil (P : Nat) (A : List Nat) (X : World) : SrcP P A X [] := fun b hb => by cases hb
theorem SrcP.given {P : Nat} {A f : List Nat} {X : World} (h : ∀ b ∈ f, b ∈ A) : SrcP P A X f := fun b hb => .inl (h b hb)
theorem SrcP.append {P : Nat} {A f g : List Nat} {X : World} (h : SrcP P A X f) (k : SrcP P A X g) : SrcP P A X (f ++ g) := fun b hb => by
  rcases List.mem_append.1 hb with hb | hb
  · exact h b hb
  · exact k b hb
theorem SrcP.cons {P : Nat} {A f : List Nat} {X : World} {b : Nat} (hb : P < b) (hz : ∀ o, X.frozen? ⟨b, o, none⟩ = false) (h : SrcP P A X f) : SrcP P A X (b :: f) := fun x hx => by
  rcases List.mem_cons.1 hx with rfl | hx
  · exact .inr ⟨hb, hz⟩
  · exact h x hx
theorem SrcP.of {P : Nat} {A A' f : List Nat} {w1 X : World} (h : SrcB A' w1 X f) (hP : P < w1.heap.size) (hA : ∀ b ∈ A', b ∈ A) : SrcP P A X f := fun b hb => by
  rcases h b hb with h | h
  · exact .inl (hA b h)
  · exact .inr ⟨Nat.lt_of_lt_of_le hP h.1, h.2⟩
theorem SrcP.fresh {P B : Nat} {A f : List Nat} {X : World} (h : Fresh B X f) (hP : P < B) : SrcP P A X f := fun b hb => .inr ⟨Nat.lt_of_lt_of_le hP (h.2 b hb).1, (h.2 b hb).2.2⟩
theorem SrcP.later {P : Nat} {A f : List Nat} {X Y : World} (h : SrcP P A X f) (hlt : ∀ b ∈ f, b < X.heap.size) (hb : Below X.heap.size X Y) : SrcP P A Y f := fun b hm => by
  rcases h b hm with h | h
  · exact .inl h
  · exact .inr ⟨h.1, fun o => (hb.frozen (p := ⟨b, o, none⟩) (hlt b hm)).trans (h.2 o)⟩
theorem three_set {w : World} {R b : Nat} (h : b ≠ R) (o : Nat) (x y z : Value) : (((w.setCell ⟨R, 0, none⟩ x).setCell ⟨R, 1, none⟩ y).setCell ⟨R, 2, none⟩ z).cell? ⟨b, o, none⟩ = w.cell? ⟨b, o, none⟩ :=
  (cell_setCell_ne _ _ _ b o h).trans ((cell_setCell_ne _ _ _ b o h).trans (cell_setCell_ne _ _ _ b o h))

theorem putB {w : World} {P o : Nat} {vs : List Value} {b : Nat} (h : b ≠ P) (i : Nat) : (put w P o vs).cell? ⟨b, i, none⟩ = w.cell? ⟨b, i, none⟩ ∧ (put w P o vs).frozen? ⟨b, i, none⟩ = w.frozen? ⟨b, i, none⟩ := by
  have hh : ∀ (vs : List Value) (w : World) (o : Nat), (put w P o vs).heap[b]? = w.heap[b]? := by
    intro vs
    induction vs with
    | nil => intro w o; rfl
    | cons v vs ih => intro w o; rw [put, ih]; exact Below.heap_setCell w ⟨P, o, none⟩ v b h
  exact ⟨World.cell?_of_block (w := w) (a := ⟨b, i, none⟩) (hh vs w o), World.frozen?_of_block (w := w) (a := ⟨b, i, none⟩) (hh vs w o)⟩

theorem RuO.below {A : List Nat} {w W W' : World} {o : Option (List Ty × Ty)} {e : Ending} (h : RuO A w o e W) (hb : Below W.heap.size W W') : RuO A w o e W' := by
  obtain ⟨ws, r, sa, sn, sc, k, n, a, c, f1, f2, he, h1, h2, h3, h4, h5⟩ := h
  exact ⟨ws, r, sa, sn, sc, k, n, a, c, f1, f2, he, h1.below hb, h2.below hb, h3, h4.later (fun b hm => by rcases List.mem_append.1 hm with h | h; exact h1.lt b h; exact h2.lt b h) hb, below_trans h5 hb⟩

/-- The rule stored into the result's block. -/
theorem RuO.stored {A : List Nat} {w X : World} {o : Option (List Ty × Ty)} {ws : List Ty} {r : Ty} {sa a : Option Addr} {sn sc n c P : Nat} {k : Int} {f1 f2 : List Nat} {b : Bool} (hbo : o.isSome = b) (h1 : SlAt X ws (.slice sa sn sc) f1) (h2 : r.At X (.agg #[.int .i64 k, .slice a n c]) f2)
    (ho : ∀ p, o = some p → p = (ws, r)) (hs : SrcP P A X (f1 ++ f2)) (hA : ∀ b ∈ A, b < w.heap.size) (hb : Below w.heap.size w X) (hP : w.heap.size ≤ P) :
    RuO A w o (.returned (.tuple #[.agg #[.slice sa sn sc, .int .i64 k, .slice a n c], .bool b])) (put X P 0 [.slice sa sn sc, .int .i64 k, .slice a n c]) := by
  subst hbo
  have ne : ∀ b ∈ f1 ++ f2, b ≠ P := fun b hm => by
    rcases hs b hm with h | h
    · have := hA b h; omega
    · omega
  refine ⟨ws, r, sa, sn, sc, k, n, a, c, f1, f2, rfl, h1.congr fun b hm i => (putB (ne b (by simp [hm])) i).1, h2.congr fun b hm i => (putB (ne b (by simp [hm])) i).1, ho, fun b hm => ?_, below_put hb hP⟩
  rcases hs b hm with h | h
  · exact .inl h
  · exact .inr ⟨by omega, fun i => ((putB (ne b hm) i).2).trans (h.2 i)⟩

set_option maxRecDepth 100000 in
set_option maxHeartbeats 2000000 in
theorem rule_1 : RuC 1 := by
  intro xs p fps nm num ty fr lb ts v fe us s fu w hsc hat hus hlen hvl
  have hA : ∀ b ∈ fe ++ (fps ++ fu), b < w.heap.size := fun b hb => by
    rcases List.mem_append.1 hb with h | h
    · exact hat.lt b h
    · rcases List.mem_append.1 h with h | h
      · exact hsc.lt b h
      · exact hus.lt b h
  obtain ⟨k1, n1, a1, c1, k2, n2, a2, c2, a3, c3, f1, f2, f3, rfl, hnm, ht1, ht2, rfl, hs3⟩ := hat.parts
  have HB := hid (show Below w.heap.size w ((((w.alloc (Obj.cells #[.int .i64 1, .string nm, .int .i64 num, .int .i64 k1, .slice a1 n1 c1, .int .i64 k2, .slice a2 n2 c2, .int .i64 lb, .slice a3 ts.length c3] 35)).alloc (Obj.cells #[.slice none 0 0, .int .i64 0, .slice none 0 0] 135)).alloc (Obj.cells #[.int .i64 2, .slice none 0 0] 32)).alloc (Obj.cells #[.int .i64 3, .slice none 0 0] 32)) from ((((Below.refl _ _).alloc (Nat.le_refl _) _).alloc (by simp) _).alloc (by simp; omega) _).alloc (by simp; omega) _)
  have HSZ := hid (show ((((w.alloc (Obj.cells #[.int .i64 1, .string nm, .int .i64 num, .int .i64 k1, .slice a1 n1 c1, .int .i64 k2, .slice a2 n2 c2, .int .i64 lb, .slice a3 ts.length c3] 35)).alloc (Obj.cells #[.slice none 0 0, .int .i64 0, .slice none 0 0] 135)).alloc (Obj.cells #[.int .i64 2, .slice none 0 0] 32)).alloc (Obj.cells #[.int .i64 3, .slice none 0 0] 32)).heap.size = w.heap.size + 1 + 1 + 1 + 1 by simp)
  have HQ := hid (four_out (Below.refl _ ((((w.alloc (Obj.cells #[.int .i64 1, .string nm, .int .i64 num, .int .i64 k1, .slice a1 n1 c1, .int .i64 k2, .slice a2 n2 c2, .int .i64 lb, .slice a3 ts.length c3] 35)).alloc (Obj.cells #[.slice none 0 0, .int .i64 0, .slice none 0 0] 135)).alloc (Obj.cells #[.int .i64 2, .slice none 0 0] 32)).alloc (Obj.cells #[.int .i64 3, .slice none 0 0] 32)))).2.1
  obtain ⟨z0, z1, z2, z3, z4, z5, z6, z7, z8⟩ := cells9 (four_out (Below.refl _ ((((w.alloc (Obj.cells #[.int .i64 1, .string nm, .int .i64 num, .int .i64 k1, .slice a1 n1 c1, .int .i64 k2, .slice a2 n2 c2, .int .i64 lb, .slice a3 ts.length c3] 35)).alloc (Obj.cells #[.slice none 0 0, .int .i64 0, .slice none 0 0] 135)).alloc (Obj.cells #[.int .i64 2, .slice none 0 0] 32)).alloc (Obj.cells #[.int .i64 3, .slice none 0 0] 32)))).1
  have hl0 : us.length = 0 := by have : kidsM 1 = 0 := (by decide); omega
  obtain rfl := List.length_eq_zero_iff.1 hl0
  obtain ⟨sa, sc, rfl⟩ := hus.shape
  have HS := hid hsc
  have HA := hid hA
  have HR := hid (show (ruleM xs 1 nm ty fr []).isSome = (look xs nm).isSome from by unfold ruleM; rw [if_pos rfl]; cases look xs nm <;> rfl)
  have HR2 := hid (show ∀ q, ruleM xs 1 nm ty fr [] = some q → q = ([], (look xs nm).getD (.mk 0 [])) from fun q h => by
    unfold ruleM at h
    rw [if_pos rfl] at h
    cases hl : look xs nm with
    | none => rw [hl] at h; cases h
    | some t => rw [hl] at h; cases h; rfl)
  clear hat hus hlen hvl hs3 ht1 ht2 hsc hA hl0
  go_enter Tryd.func117, Tryd.ntmps117
  go_wp2_with fail
  refine (find_any xs p fps nm _ (HS.out.below HB.out) hnm).mono ?_
  rintro e w1 ⟨k, n, a, c, f, rfl, hatk, hsub, hb1⟩
  have hbw := below_trans HB.out hb1
  have FIN := hid (RuO.stored (A := (f1 ++ (f2 ++ f3)) ++ (fps ++ fu)) (w := w) (X := w1) (P := w.heap.size + 1) HR.out (sl_nil _ none 0) hatk HR2.out (SrcP.given (by intro b hb; have := hsub b (by simpa using hb); simp [this])) HA.out hbw (by omega))
  replace FIN := hid (FIN.out.below ((Below.refl _ _).alloc (Nat.le_refl _) (Obj.cells #[.int .i64 k, .slice a n c] 32)))
  have qq : (w1).heap[w.heap.size + 1]? = some (Obj.cells #[.slice none 0 0, .int .i64 0, .slice none 0 0] 135) := (four_out hb1).2.1
  have r0 : (w1).cell? ⟨w.heap.size + 1, 0, none⟩ = some (.slice none 0 0) := by rw [cell_of_block qq]; rfl
  have r1 : (w1).cell? ⟨w.heap.size + 1, 1, none⟩ = some (.int .i64 0) := by rw [cell_of_block qq]; rfl
  have r2 : (w1).cell? ⟨w.heap.size + 1, 2, none⟩ = some (.slice none 0 0) := by rw [cell_of_block qq]; rfl
  have rz := fun o => frozen_of_block (o := o) qq
  have rl : w.heap.size + 1 < (w1).heap.size := lt_of_block qq
  clear qq
  simp only [put, Nat.zero_add, Nat.reduceAdd] at FIN
  generalize (look xs nm).isSome = bb at *
  clear hatk hsub hb1 hbw HS HB HR HR2 HA
  go_wp2_with fail
  exact bodyPost_ret (v := (.tuple #[.agg #[.slice none 0 0, .int .i64 k, .slice a n c], .bool bb])) (by simp [results, Tryd.results117, go_sem, r0, r1, r2, rl]) rfl FIN.out

set_option maxRecDepth 100000 in
set_option maxHeartbeats 2000000 in
theorem rule_5 : RuC 5 := by
  intro xs p fps nm num ty fr lb ts v fe us s fu w hsc hat hus hlen hvl
  have hA : ∀ b ∈ fe ++ (fps ++ fu), b < w.heap.size := fun b hb => by
    rcases List.mem_append.1 hb with h | h
    · exact hat.lt b h
    · rcases List.mem_append.1 h with h | h
      · exact hsc.lt b h
      · exact hus.lt b h
  obtain ⟨k1, n1, a1, c1, k2, n2, a2, c2, a3, c3, f1, f2, f3, rfl, hnm, ht1, ht2, rfl, hs3⟩ := hat.parts
  have HB := hid (show Below w.heap.size w ((((w.alloc (Obj.cells #[.int .i64 5, .string nm, .int .i64 num, .int .i64 k1, .slice a1 n1 c1, .int .i64 k2, .slice a2 n2 c2, .int .i64 lb, .slice a3 ts.length c3] 35)).alloc (Obj.cells #[.slice none 0 0, .int .i64 0, .slice none 0 0] 135)).alloc (Obj.cells #[.int .i64 2, .slice none 0 0] 32)).alloc (Obj.cells #[.int .i64 3, .slice none 0 0] 32)) from ((((Below.refl _ _).alloc (Nat.le_refl _) _).alloc (by simp) _).alloc (by simp; omega) _).alloc (by simp; omega) _)
  have HSZ := hid (show ((((w.alloc (Obj.cells #[.int .i64 5, .string nm, .int .i64 num, .int .i64 k1, .slice a1 n1 c1, .int .i64 k2, .slice a2 n2 c2, .int .i64 lb, .slice a3 ts.length c3] 35)).alloc (Obj.cells #[.slice none 0 0, .int .i64 0, .slice none 0 0] 135)).alloc (Obj.cells #[.int .i64 2, .slice none 0 0] 32)).alloc (Obj.cells #[.int .i64 3, .slice none 0 0] 32)).heap.size = w.heap.size + 1 + 1 + 1 + 1 by simp)
  have HQ := hid (four_out (Below.refl _ ((((w.alloc (Obj.cells #[.int .i64 5, .string nm, .int .i64 num, .int .i64 k1, .slice a1 n1 c1, .int .i64 k2, .slice a2 n2 c2, .int .i64 lb, .slice a3 ts.length c3] 35)).alloc (Obj.cells #[.slice none 0 0, .int .i64 0, .slice none 0 0] 135)).alloc (Obj.cells #[.int .i64 2, .slice none 0 0] 32)).alloc (Obj.cells #[.int .i64 3, .slice none 0 0] 32)))).2.1
  obtain ⟨z0, z1, z2, z3, z4, z5, z6, z7, z8⟩ := cells9 (four_out (Below.refl _ ((((w.alloc (Obj.cells #[.int .i64 5, .string nm, .int .i64 num, .int .i64 k1, .slice a1 n1 c1, .int .i64 k2, .slice a2 n2 c2, .int .i64 lb, .slice a3 ts.length c3] 35)).alloc (Obj.cells #[.slice none 0 0, .int .i64 0, .slice none 0 0] 135)).alloc (Obj.cells #[.int .i64 2, .slice none 0 0] 32)).alloc (Obj.cells #[.int .i64 3, .slice none 0 0] 32)))).1
  have hl0 : us.length = 1 := by have : kidsM 5 = 1 := (by decide); omega
  obtain ⟨u, rfl⟩ := List.length_eq_one_iff.1 hl0
  have HUS := hid hus
  obtain ⟨sa, sc, hss, hcap, hmx, hget⟩ := hus.openA
  subst hss
  obtain ⟨bx, ox, kx, nx, ax, cx, gx, hpx, hltx, ex0, ex1, hkx, hsubx⟩ := hget 0 (by simp)
  subst hpx
  simp only [Nat.zero_mul, Nat.add_zero, List.getElem_cons_zero, List.length_cons, List.length_nil, Nat.zero_add] at *
  have x0 := cell_keep ex0 HB.out
  have x1 := cell_keep ex1 HB.out
  have H1 := hid ht1
  have H2 := hid hkx
  have HA := hid hA
  have HG := hid (show ∀ b ∈ f1 ++ gx, b ∈ (f1 ++ (f2 ++ f3)) ++ (fps ++ fu) from fun b hb => by
    rcases List.mem_append.1 hb with h | h
    · simp [h]
    · simp [hsubx b h])
  have HR := hid (show ∀ q, ruleM xs 5 nm ty fr [u] = some q → q = ([u], .mk 4 [ty, u]) from fun q h => by cases h; rfl)
  have HRS := hid (show (ruleM xs 5 nm ty fr [u]).isSome = true from rfl)
  clear hat hus hlen hvl hs3 ht1 ht2 hsc hA hget hkx hl0 ex0 ex1 hsubx hcap hmx
  go_enter Tryd.func117, Tryd.ntmps117
  go_wp2_with fail
  generalize ((((w.alloc (Obj.cells #[.int .i64 5, .string nm, .int .i64 num, .int .i64 k1, .slice a1 n1 c1, .int .i64 k2, .slice a2 n2 c2, .int .i64 lb, .slice a3 ts.length c3] 35)).alloc (Obj.cells #[.slice none 0 0, .int .i64 0, .slice none 0 0] 135)).alloc (Obj.cells #[.int .i64 2, .slice none 0 0] 32)).alloc (Obj.cells #[.int .i64 3, .slice none 0 0] 32)) = Z at *
  have S0 := hid (show Z.drew.cell? ⟨w.heap.size, 3, none⟩ = some (.int .i64 k1) ∧ Z.drew.cell? ⟨w.heap.size, 4, none⟩ = some (.slice a1 n1 c1) ∧ Z.drew.cell? ⟨bx, ox, none⟩ = some (.int .i64 kx) ∧ Z.drew.cell? ⟨bx, ox + 1, none⟩ = some (.slice ax nx cx) from ⟨cell_keep z3 (below_drew Z), cell_keep z4 (below_drew Z), cell_keep x0 (below_drew Z), cell_keep x1 (below_drew Z)⟩)
  go_region_held3 (fun w' => w'.cell? ⟨w.heap.size, 3, none⟩ = some (.int .i64 k1) ∧ w'.cell? ⟨w.heap.size, 4, none⟩ = some (.slice a1 n1 c1) ∧ w'.cell? ⟨bx, ox, none⟩ = some (.int .i64 kx) ∧ w'.cell? ⟨bx, ox + 1, none⟩ = some (.slice ax nx cx))
    ((first | with_reducible exact S0.out | with_reducible exact S1.out | with_reducible exact S2.out _ _ _))
    (first
      | (go_at_call 152; refine (twoPart_any 4 ty u _ _ _ _ _ _ _ _ _ _ _ (H1.out.below HB.out.drew) (H2.out.below HB.out.drew)).mono ?_; rintro e w1 ⟨a, f, rfl, hatk, hsub, hb1⟩; have hb1' : Below Z.heap.size Z w1 := (below_drew _).trans (hb1.mono (below_drew _).size); have qq : w1.heap[w.heap.size + 1]? = some (Obj.cells #[.slice none 0 0, .int .i64 0, .slice none 0 0] 135) := (hb1'.block _ (lt_of_block HQ.out)).trans HQ.out; have r0 : w1.cell? ⟨w.heap.size + 1, 0, none⟩ = some (.slice none 0 0) := (by rw [cell_of_block qq]; rfl); have r1 : w1.cell? ⟨w.heap.size + 1, 1, none⟩ = some (.int .i64 0) := (by rw [cell_of_block qq]; rfl); have r2 : w1.cell? ⟨w.heap.size + 1, 2, none⟩ = some (.slice none 0 0) := (by rw [cell_of_block qq]; rfl); have rz := (fun o => frozen_of_block (o := o) qq); have rl : w.heap.size + 1 < w1.heap.size := lt_of_block qq; clear qq; have S1 := hid (show w1.cell? ⟨w.heap.size, 3, none⟩ = some (.int .i64 k1) ∧ w1.cell? ⟨w.heap.size, 4, none⟩ = some (.slice a1 n1 c1) ∧ w1.cell? ⟨bx, ox, none⟩ = some (.int .i64 kx) ∧ w1.cell? ⟨bx, ox + 1, none⟩ = some (.slice ax nx cx) from ⟨cell_keep z3 ((below_drew Z).trans (hb1.mono (below_drew Z).size)), cell_keep z4 ((below_drew Z).trans (hb1.mono (below_drew Z).size)), cell_keep x0 ((below_drew Z).trans (hb1.mono (below_drew Z).size)), cell_keep x1 ((below_drew Z).trans (hb1.mono (below_drew Z).size))⟩); have S2 := hid (fun x y z => (show (((w1.setCell ⟨w.heap.size + 1, 0, none⟩ x).setCell ⟨w.heap.size + 1, 1, none⟩ y).setCell ⟨w.heap.size + 1, 2, none⟩ z).cell? ⟨w.heap.size, 3, none⟩ = some (.int .i64 k1) ∧ (((w1.setCell ⟨w.heap.size + 1, 0, none⟩ x).setCell ⟨w.heap.size + 1, 1, none⟩ y).setCell ⟨w.heap.size + 1, 2, none⟩ z).cell? ⟨w.heap.size, 4, none⟩ = some (.slice a1 n1 c1) ∧ (((w1.setCell ⟨w.heap.size + 1, 0, none⟩ x).setCell ⟨w.heap.size + 1, 1, none⟩ y).setCell ⟨w.heap.size + 1, 2, none⟩ z).cell? ⟨bx, ox, none⟩ = some (.int .i64 kx) ∧ (((w1.setCell ⟨w.heap.size + 1, 0, none⟩ x).setCell ⟨w.heap.size + 1, 1, none⟩ y).setCell ⟨w.heap.size + 1, 2, none⟩ z).cell? ⟨bx, ox + 1, none⟩ = some (.slice ax nx cx) from ⟨(three_set (by first | omega | exact Nat.ne_of_lt (Nat.lt_succ_of_lt hltx)) _ _ _ _).trans (S1.out.1), (three_set (by first | omega | exact Nat.ne_of_lt (Nat.lt_succ_of_lt hltx)) _ _ _ _).trans (S1.out.2.1), (three_set (by first | omega | exact Nat.ne_of_lt (Nat.lt_succ_of_lt hltx)) _ _ _ _).trans (S1.out.2.2.1), (three_set (by first | omega | exact Nat.ne_of_lt (Nat.lt_succ_of_lt hltx)) _ _ _ _).trans (S1.out.2.2.2)⟩))))
  have hbw := below_trans HB.out hb1'
  have FIN := hid (RuO.stored (A := (f1 ++ (f2 ++ f3)) ++ (fps ++ fu)) (w := w) (X := w1) (P := w.heap.size + 1) HRS.out (HUS.out.below hbw) hatk HR.out ((SrcP.given (by intro b hb; simp [hb])).append (SrcP.of hsub (by show w.heap.size + 1 < Z.heap.size; rw [HSZ.out]; omega) HG.out)) HA.out hbw (by omega))
  simp only [put, Nat.zero_add, Nat.reduceAdd] at FIN
  clear hatk hsub hb1 hb1' hbw HB HR HRS HA HG HUS H1 H2 S0 S1 S2
  go_wp2_with fail
  exact bodyPost_ret (v := (.tuple #[.agg #[.slice (some ⟨bx, ox, none⟩) 1 sc, .int .i64 4, .slice a 2 2], .bool true])) (by simp [results, Tryd.results117, go_sem, r0, r1, r2]) rfl FIN.out

set_option maxRecDepth 100000 in
set_option maxHeartbeats 2000000 in
theorem rule_10 : RuC 10 := by
  intro xs p fps nm num ty fr lb ts v fe us s fu w hsc hat hus hlen hvl
  have hA : ∀ b ∈ fe ++ (fps ++ fu), b < w.heap.size := fun b hb => by
    rcases List.mem_append.1 hb with h | h
    · exact hat.lt b h
    · rcases List.mem_append.1 h with h | h
      · exact hsc.lt b h
      · exact hus.lt b h
  obtain ⟨k1, n1, a1, c1, k2, n2, a2, c2, a3, c3, f1, f2, f3, rfl, hnm, ht1, ht2, rfl, hs3⟩ := hat.parts
  have HB := hid (show Below w.heap.size w ((((w.alloc (Obj.cells #[.int .i64 10, .string nm, .int .i64 num, .int .i64 k1, .slice a1 n1 c1, .int .i64 k2, .slice a2 n2 c2, .int .i64 lb, .slice a3 ts.length c3] 35)).alloc (Obj.cells #[.slice none 0 0, .int .i64 0, .slice none 0 0] 135)).alloc (Obj.cells #[.int .i64 2, .slice none 0 0] 32)).alloc (Obj.cells #[.int .i64 3, .slice none 0 0] 32)) from ((((Below.refl _ _).alloc (Nat.le_refl _) _).alloc (by simp) _).alloc (by simp; omega) _).alloc (by simp; omega) _)
  have HSZ := hid (show ((((w.alloc (Obj.cells #[.int .i64 10, .string nm, .int .i64 num, .int .i64 k1, .slice a1 n1 c1, .int .i64 k2, .slice a2 n2 c2, .int .i64 lb, .slice a3 ts.length c3] 35)).alloc (Obj.cells #[.slice none 0 0, .int .i64 0, .slice none 0 0] 135)).alloc (Obj.cells #[.int .i64 2, .slice none 0 0] 32)).alloc (Obj.cells #[.int .i64 3, .slice none 0 0] 32)).heap.size = w.heap.size + 1 + 1 + 1 + 1 by simp)
  have HQ := hid (four_out (Below.refl _ ((((w.alloc (Obj.cells #[.int .i64 10, .string nm, .int .i64 num, .int .i64 k1, .slice a1 n1 c1, .int .i64 k2, .slice a2 n2 c2, .int .i64 lb, .slice a3 ts.length c3] 35)).alloc (Obj.cells #[.slice none 0 0, .int .i64 0, .slice none 0 0] 135)).alloc (Obj.cells #[.int .i64 2, .slice none 0 0] 32)).alloc (Obj.cells #[.int .i64 3, .slice none 0 0] 32)))).2.1
  obtain ⟨z0, z1, z2, z3, z4, z5, z6, z7, z8⟩ := cells9 (four_out (Below.refl _ ((((w.alloc (Obj.cells #[.int .i64 10, .string nm, .int .i64 num, .int .i64 k1, .slice a1 n1 c1, .int .i64 k2, .slice a2 n2 c2, .int .i64 lb, .slice a3 ts.length c3] 35)).alloc (Obj.cells #[.slice none 0 0, .int .i64 0, .slice none 0 0] 135)).alloc (Obj.cells #[.int .i64 2, .slice none 0 0] 32)).alloc (Obj.cells #[.int .i64 3, .slice none 0 0] 32)))).1
  obtain ⟨u, u2, rfl⟩ : ∃ a b, us = [a, b] := by
    have hl0 : us.length = 2 := by have : kidsM 10 = 2 := (by decide); omega
    match us, hl0 with
    | [a, b], _ => exact ⟨a, b, rfl⟩
  have HUS := hid hus
  obtain ⟨sa, sc, hss, hcap, hmx, hget⟩ := hus.openA
  subst hss
  obtain ⟨bx, ox, kx, nx, ax, cx, gx, hpx, hltx, ex0, ex1, hkx, hsubx⟩ := hget 0 (by simp)
  obtain ⟨bj, oj, kj, nj, aj, cj, gj, hpj, hltj, ej0, ej1, hkj, hsubj⟩ := hget 1 (by simp)
  rw [hpx] at hpj
  simp only [Option.some.injEq, Addr.mk.injEq, and_true] at hpj
  obtain ⟨rfl, rfl⟩ := hpj
  subst hpx
  simp only [Nat.zero_mul, Nat.add_zero, Nat.one_mul, List.getElem_cons_zero, List.getElem_cons_succ, List.length_cons, List.length_nil, Nat.zero_add, Nat.reduceAdd] at *
  have x0 := cell_keep ex0 HB.out
  have x1 := cell_keep ex1 HB.out
  have y0 := cell_keep ej0 HB.out
  have y1 := cell_keep ej1 HB.out
  have H1 := hid hkx
  have H2 := hid hkj
  have HA := hid hA
  have HG := hid (show ∀ b ∈ gx ++ gj, b ∈ (f1 ++ (f2 ++ f3)) ++ (fps ++ fu) from fun b hb => by
    rcases List.mem_append.1 hb with h | h
    · simp [hsubx b h]
    · simp [hsubj b h])
  have HR := hid (show ∀ q, ruleM xs 10 nm ty fr [u, u2] = some q → q = ([u, u2], .mk 5 [u, u2]) from fun q h => by cases h; rfl)
  have HRS := hid (show (ruleM xs 10 nm ty fr [u, u2]).isSome = true from rfl)
  clear hat hus hlen hvl hs3 ht1 ht2 hsc hA hget hkx hkj ej0 ej1 hsubj ex0 ex1 hsubx hcap hmx
  go_enter Tryd.func117, Tryd.ntmps117
  go_wp2_with fail
  generalize ((((w.alloc (Obj.cells #[.int .i64 10, .string nm, .int .i64 num, .int .i64 k1, .slice a1 n1 c1, .int .i64 k2, .slice a2 n2 c2, .int .i64 lb, .slice a3 ts.length c3] 35)).alloc (Obj.cells #[.slice none 0 0, .int .i64 0, .slice none 0 0] 135)).alloc (Obj.cells #[.int .i64 2, .slice none 0 0] 32)).alloc (Obj.cells #[.int .i64 3, .slice none 0 0] 32)) = Z at *
  have S0 := hid (show Z.drew.cell? ⟨bx, ox, none⟩ = some (.int .i64 kx) ∧ Z.drew.cell? ⟨bx, ox + 1, none⟩ = some (.slice ax nx cx) ∧ Z.drew.cell? ⟨bx, ox + 2, none⟩ = some (.int .i64 kj) ∧ Z.drew.cell? ⟨bx, ox + 2 + 1, none⟩ = some (.slice aj nj cj) from ⟨cell_keep x0 (below_drew Z), cell_keep x1 (below_drew Z), cell_keep y0 (below_drew Z), cell_keep y1 (below_drew Z)⟩)
  go_region_held3 (fun w' => w'.cell? ⟨bx, ox, none⟩ = some (.int .i64 kx) ∧ w'.cell? ⟨bx, ox + 1, none⟩ = some (.slice ax nx cx) ∧ w'.cell? ⟨bx, ox + 2, none⟩ = some (.int .i64 kj) ∧ w'.cell? ⟨bx, ox + 2 + 1, none⟩ = some (.slice aj nj cj))
    ((first | with_reducible exact S0.out | with_reducible exact S1.out | with_reducible exact S2.out _ _ _))
    (first
      | (go_at_call 152; refine (twoPart_any 5 u u2 _ _ _ _ _ _ _ _ _ _ _ (H1.out.below HB.out.drew) (H2.out.below HB.out.drew)).mono ?_; rintro e w1 ⟨a, f, rfl, hatk, hsub, hb1⟩; have hb1' : Below Z.heap.size Z w1 := (below_drew _).trans (hb1.mono (below_drew _).size); have qq : w1.heap[w.heap.size + 1]? = some (Obj.cells #[.slice none 0 0, .int .i64 0, .slice none 0 0] 135) := (hb1'.block _ (lt_of_block HQ.out)).trans HQ.out; have r0 : w1.cell? ⟨w.heap.size + 1, 0, none⟩ = some (.slice none 0 0) := (by rw [cell_of_block qq]; rfl); have r1 : w1.cell? ⟨w.heap.size + 1, 1, none⟩ = some (.int .i64 0) := (by rw [cell_of_block qq]; rfl); have r2 : w1.cell? ⟨w.heap.size + 1, 2, none⟩ = some (.slice none 0 0) := (by rw [cell_of_block qq]; rfl); have rz := (fun o => frozen_of_block (o := o) qq); have rl : w.heap.size + 1 < w1.heap.size := lt_of_block qq; clear qq; have S1 := hid (show w1.cell? ⟨bx, ox, none⟩ = some (.int .i64 kx) ∧ w1.cell? ⟨bx, ox + 1, none⟩ = some (.slice ax nx cx) ∧ w1.cell? ⟨bx, ox + 2, none⟩ = some (.int .i64 kj) ∧ w1.cell? ⟨bx, ox + 2 + 1, none⟩ = some (.slice aj nj cj) from ⟨cell_keep x0 ((below_drew Z).trans (hb1.mono (below_drew Z).size)), cell_keep x1 ((below_drew Z).trans (hb1.mono (below_drew Z).size)), cell_keep y0 ((below_drew Z).trans (hb1.mono (below_drew Z).size)), cell_keep y1 ((below_drew Z).trans (hb1.mono (below_drew Z).size))⟩); have S2 := hid (fun x y z => (show (((w1.setCell ⟨w.heap.size + 1, 0, none⟩ x).setCell ⟨w.heap.size + 1, 1, none⟩ y).setCell ⟨w.heap.size + 1, 2, none⟩ z).cell? ⟨bx, ox, none⟩ = some (.int .i64 kx) ∧ (((w1.setCell ⟨w.heap.size + 1, 0, none⟩ x).setCell ⟨w.heap.size + 1, 1, none⟩ y).setCell ⟨w.heap.size + 1, 2, none⟩ z).cell? ⟨bx, ox + 1, none⟩ = some (.slice ax nx cx) ∧ (((w1.setCell ⟨w.heap.size + 1, 0, none⟩ x).setCell ⟨w.heap.size + 1, 1, none⟩ y).setCell ⟨w.heap.size + 1, 2, none⟩ z).cell? ⟨bx, ox + 2, none⟩ = some (.int .i64 kj) ∧ (((w1.setCell ⟨w.heap.size + 1, 0, none⟩ x).setCell ⟨w.heap.size + 1, 1, none⟩ y).setCell ⟨w.heap.size + 1, 2, none⟩ z).cell? ⟨bx, ox + 2 + 1, none⟩ = some (.slice aj nj cj) from ⟨(three_set (by first | omega | exact Nat.ne_of_lt (Nat.lt_succ_of_lt hltx)) _ _ _ _).trans (S1.out.1), (three_set (by first | omega | exact Nat.ne_of_lt (Nat.lt_succ_of_lt hltx)) _ _ _ _).trans (S1.out.2.1), (three_set (by first | omega | exact Nat.ne_of_lt (Nat.lt_succ_of_lt hltx)) _ _ _ _).trans (S1.out.2.2.1), (three_set (by first | omega | exact Nat.ne_of_lt (Nat.lt_succ_of_lt hltx)) _ _ _ _).trans (S1.out.2.2.2)⟩))))
  have hbw := below_trans HB.out hb1'
  have FIN := hid (RuO.stored (A := (f1 ++ (f2 ++ f3)) ++ (fps ++ fu)) (w := w) (X := w1) (P := w.heap.size + 1) HRS.out (HUS.out.below hbw) hatk HR.out ((SrcP.given (by intro b hb; simp [hb])).append (SrcP.of hsub (by show w.heap.size + 1 < Z.heap.size; rw [HSZ.out]; omega) HG.out)) HA.out hbw (by omega))
  simp only [put, Nat.zero_add, Nat.reduceAdd] at FIN
  clear hatk hsub hb1 hb1' hbw HB HR HRS HA HG HUS H1 H2 S0 S1 S2
  go_wp2_with fail
  exact bodyPost_ret (v := (.tuple #[.agg #[.slice (some ⟨bx, ox, none⟩) 2 sc, .int .i64 5, .slice a 2 2], .bool true])) (by simp [results, Tryd.results117, go_sem, r0, r1, r2]) rfl FIN.out
end Go.Proofs.YtffmpjcjmffdeaaDoor
