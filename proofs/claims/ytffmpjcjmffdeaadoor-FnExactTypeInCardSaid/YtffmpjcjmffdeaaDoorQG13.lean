/- A type of two parts, which share the memory of the types given; scopes as linked lists of bindings. The innermost binding of a name in a scope. The specification's l3Look: the type of the last binding of a name, copied. An argument that is a list of the laws' type Bind, opened. -/
import Derived.Test.YtffmpjcjmffdeaaDoorQG11
import Derived.Test.YtffmpjcjmffdeaaDoorQBd
import Derived.Lib.Strings
import Derived.Test.YtffmpjcjmffdeaaDoorQCtxP
import Derived.Test.YtffmpjcjmffdeaaDoorQG1
namespace Go.Proofs.YtffmpjcjmffdeaaDoor
open Go.RowKit

/-- Blocks that were given, or that a call has made. -/
def SrcB (A : List Nat) (w w' : World) (f : List Nat) : Prop := ∀ b ∈ f, b ∈ A ∨ (w.heap.size ≤ b ∧ ∀ o, w'.frozen? ⟨b, o, none⟩ = false)

theorem SrcB.nil (A : List Nat) (w w' : World) : SrcB A w w' [] := fun b hb => by cases hb
theorem SrcB.given {A f : List Nat} {w w' : World} (h : ∀ b ∈ f, b ∈ A) : SrcB A w w' f := fun b hb => .inl (h b hb)
theorem SrcB.fresh {A f : List Nat} {B : Nat} {w w' : World} (h : Fresh B w' f) (hB : w.heap.size ≤ B) : SrcB A w w' f := fun b hb => .inr ⟨Nat.le_trans hB (h.2 b hb).1, (h.2 b hb).2.2⟩
theorem SrcB.append {A f g : List Nat} {w w' : World} (h : SrcB A w w' f) (k : SrcB A w w' g) : SrcB A w w' (f ++ g) := fun b hb => by
  rcases List.mem_append.1 hb with hb | hb
  · exact h b hb
  · exact k b hb
/-- Behind one more call. -/
theorem SrcB.later {A f : List Nat} {w w1 w2 : World} (h : SrcB A w w1 f) (hlt : ∀ b ∈ f, b < w1.heap.size) (hb : Below w1.heap.size w1 w2) : SrcB A w w2 f := fun b hm => by
  rcases h b hm with h | h
  · exact .inl h
  · exact .inr ⟨h.1, fun o => (hb.frozen (p := ⟨b, o, none⟩) (hlt b hm)).trans (h.2 o)⟩
/-- From what another call was given. -/
theorem SrcB.from {A A' f : List Nat} {w w1 w2 : World} (h : SrcB A' w1 w2 f) (hA : SrcB A w w1 A') (hlt : ∀ b ∈ A', b < w1.heap.size) (hs : w.heap.size ≤ w1.heap.size) (hb : Below w1.heap.size w1 w2) : SrcB A w w2 f := fun b hm => by
  rcases h b hm with h | h
  · exact hA.later hlt hb b h
  · exact .inr ⟨Nat.le_trans hs h.1, h.2⟩

set_option maxHeartbeats 1000000 in
set_option maxRecDepth 100000 in
theorem twoPart_any (k : Int) (t u : Ty) (k1 k2 : Int) (n1 n2 c1 c2 : Nat) (a1 a2 : Option Addr) (f1 f2 : List Nat) (w : World) (h1 : t.At w (.agg #[.int .i64 k1, .slice a1 n1 c1]) f1) (h2 : u.At w (.agg #[.int .i64 k2, .slice a2 n2 c2]) f2) :
    Calls Tryd.prog 152 #[.int .i64 k, .agg #[.int .i64 k1, .slice a1 n1 c1], .agg #[.int .i64 k2, .slice a2 n2 c2]] w fun e w' => ∃ a f, e = .returned (.agg #[.int .i64 k, .slice a 2 2]) ∧ (Ty.mk k [t, u]).At w' (.agg #[.int .i64 k, .slice a 2 2]) f ∧ SrcB (f1 ++ f2) w w' f ∧ Below w.heap.size w w' := by
  have hb0 : Below w.heap.size w ((((w.alloc (Obj.cells #[.int .i64 k1, .slice a1 n1 c1] 32)).alloc (Obj.cells #[.int .i64 k2, .slice a2 n2 c2] 32)).alloc (Obj.cells #[.int .i64 k, .slice (some ⟨w.heap.size + 1 + 1 + 1, 0, none⟩) 2 2] 32)).alloc (Obj.cells #[.int .i64 k1, .slice a1 n1 c1, .int .i64 k2, .slice a2 n2 c2] 32)) := ((((Below.refl _ _).alloc (Nat.le_refl _) _).alloc (by simp) _).alloc (by simp; omega) _).alloc (by simp; omega) _
  have hM : (((((w.alloc (Obj.cells #[.int .i64 k1, .slice a1 n1 c1] 32)).alloc (Obj.cells #[.int .i64 k2, .slice a2 n2 c2] 32)).alloc (Obj.cells #[.int .i64 k, .slice (some ⟨w.heap.size + 1 + 1 + 1, 0, none⟩) 2 2] 32)).alloc (Obj.cells #[.int .i64 k1, .slice a1 n1 c1, .int .i64 k2, .slice a2 n2 c2] 32))).heap[w.heap.size + 1 + 1 + 1]? = some (Obj.cells #[.int .i64 k1, .slice a1 n1 c1, .int .i64 k2, .slice a2 n2 c2] 32) := by
    have hs : (((w.alloc (Obj.cells #[.int .i64 k1, .slice a1 n1 c1] 32)).alloc (Obj.cells #[.int .i64 k2, .slice a2 n2 c2] 32)).alloc (Obj.cells #[.int .i64 k, .slice (some ⟨w.heap.size + 1 + 1 + 1, 0, none⟩) 2 2] 32)).heap.size = w.heap.size + 1 + 1 + 1 := by simp
    have h := alloc_new (((w.alloc (Obj.cells #[.int .i64 k1, .slice a1 n1 c1] 32)).alloc (Obj.cells #[.int .i64 k2, .slice a2 n2 c2] 32)).alloc (Obj.cells #[.int .i64 k, .slice (some ⟨w.heap.size + 1 + 1 + 1, 0, none⟩) 2 2] 32)) (Obj.cells #[.int .i64 k1, .slice a1 n1 c1, .int .i64 k2, .slice a2 n2 c2] 32)
    rw [hs] at h
    exact h
  have FIN := hid (show (Ty.mk k [t, u]).At ((((w.alloc (Obj.cells #[.int .i64 k1, .slice a1 n1 c1] 32)).alloc (Obj.cells #[.int .i64 k2, .slice a2 n2 c2] 32)).alloc (Obj.cells #[.int .i64 k, .slice (some ⟨w.heap.size + 1 + 1 + 1, 0, none⟩) 2 2] 32)).alloc (Obj.cells #[.int .i64 k1, .slice a1 n1 c1, .int .i64 k2, .slice a2 n2 c2] 32)) (.agg #[.int .i64 k, .slice (some ⟨w.heap.size + 1 + 1 + 1, 0, none⟩) 2 2]) ((w.heap.size + 1 + 1 + 1) :: (f1 ++ (f2 ++ []))) from
    Ty.at_mk.2 ⟨_, rfl, .inr ⟨w.heap.size + 1 + 1 + 1, 0, 2, _, rfl, by simp, by simp, by simp [maxLen], ⟨_, _, f1, f2 ++ [], by rw [cell_of_block hM]; rfl, by rw [cell_of_block hM]; rfl, h1.below hb0, ⟨_, _, f2, [], by rw [cell_of_block hM]; rfl, by rw [cell_of_block hM]; rfl, h2.below hb0, rfl, rfl⟩, rfl⟩, rfl⟩⟩)
  have HS := hid (show SrcB (f1 ++ f2) w ((((w.alloc (Obj.cells #[.int .i64 k1, .slice a1 n1 c1] 32)).alloc (Obj.cells #[.int .i64 k2, .slice a2 n2 c2] 32)).alloc (Obj.cells #[.int .i64 k, .slice (some ⟨w.heap.size + 1 + 1 + 1, 0, none⟩) 2 2] 32)).alloc (Obj.cells #[.int .i64 k1, .slice a1 n1 c1, .int .i64 k2, .slice a2 n2 c2] 32)) ((w.heap.size + 1 + 1 + 1) :: (f1 ++ (f2 ++ []))) from fun b hb => by
    rcases List.mem_cons.1 hb with rfl | hb
    · exact .inr ⟨by omega, fun o => frozen_of_block hM⟩
    · exact .inl (by simpa using hb))
  have HB := hid hb0
  clear h1 h2 hM hb0
  go_enter Tryd.func152, Tryd.ntmps152
  go_wp2_with fail
  exact bodyPost_ret (v := .agg #[.int .i64 k, .slice (some ⟨w.heap.size + 1 + 1 + 1, 0, none⟩) 2 2]) (by simp [results, Tryd.results152, go_sem]) rfl ⟨_, _, rfl, FIN.out, HS.out, HB.out⟩

/-- One above a pointer's block; nothing for nil. -/
def rk : Value → Nat
  | .pointer (some ⟨b, _, _⟩) => b + 1
  | _ => 0

/-- A pointer that reads as a scope: the innermost binding first; outer scopes are older. -/
def ScAt (w : World) : List Bd → Value → List Nat → Prop
  | [], v, fp => v = .pointer none ∧ fp = []
  | x :: xs, v, fp => ∃ b k n a c o f g, v = .pointer (some ⟨b, 0, none⟩) ∧ w.heap[b]? = some (.cells #[.string x.nm, .int .i64 k, .slice a n c, o] 131 (0, 0)) ∧ x.nm.size ≤ maxLen ∧ x.ty.At w (.agg #[.int .i64 k, .slice a n c]) f ∧ ScAt w xs o g ∧ rk o ≤ b ∧ fp = b :: (f ++ g)

theorem ScAt.lt {w : World} : ∀ {xs : List Bd} {v : Value} {fp : List Nat}, ScAt w xs v fp → ∀ b ∈ fp, b < w.heap.size
  | [], _, _, ⟨_, rfl⟩ => by simp
  | _ :: _, _, _, ⟨b, k, n, a, c, o, f, g, _, hb, _, ht, hs, _, rfl⟩ => fun y hy => by
    rcases List.mem_cons.1 hy with rfl | hy
    · exact lt_of_block hb
    · rcases List.mem_append.1 hy with hy | hy
      · exact ht.lt y hy
      · exact hs.lt y hy

theorem ScAt.below {w w' : World} : ∀ {xs : List Bd} {v : Value} {fp : List Nat}, ScAt w xs v fp → Below w.heap.size w w' → ScAt w' xs v fp
  | [], _, _, h, _ => h
  | _ :: _, _, _, ⟨b, k, n, a, c, o, f, g, hv, hb, hn, ht, hs, hr, hf⟩, h => ⟨b, k, n, a, c, o, f, g, hv, (h.block b (lt_of_block hb)).trans hb, hn, ht.below h, hs.below h, hr, hf⟩

theorem ScAt.rk_le {w : World} : ∀ {xs : List Bd} {v : Value} {fp : List Nat}, ScAt w xs v fp → rk v ≤ w.heap.size
  | [], _, _, ⟨hv, _⟩ => by subst hv; exact Nat.zero_le _
  | _ :: _, _, _, ⟨b, k, n, a, c, o, f, g, hv, hb, _, _, _, _, _⟩ => by subst hv; exact lt_of_block hb

theorem ScAt.ptr {w : World} {xs : List Bd} {v : Value} {fp : List Nat} (h : ScAt w xs v fp) : ∃ a, v = .pointer a := by
  cases xs with
  | nil => exact ⟨_, h.1⟩
  | cons x xs => obtain ⟨b, _, _, _, _, _, _, _, hv, _⟩ := h; exact ⟨_, hv⟩

set_option maxHeartbeats 1000000 in
theorem with_any (xs : List Bd) (p : Option Addr) (fp : List Nat) (nm : ByteArray) (t : Ty) (k : Int) (n : Nat) (a : Option Addr) (c : Nat) (f : List Nat) (w : World) (hs : ScAt w xs (.pointer p) fp) (hn : nm.size ≤ 9223372036854775807) (ht : t.At w (.agg #[.int .i64 k, .slice a n c]) f) :
    Calls Tryd.prog 61 #[.pointer p, .agg #[.string nm, .int .i64 k, .slice a n c]] w fun e w' => ∃ b g, e = .returned (.pointer (some ⟨b, 0, none⟩)) ∧ ScAt w' (⟨nm, t⟩ :: xs) (.pointer (some ⟨b, 0, none⟩)) g ∧ SrcB (f ++ fp) w w' g ∧ Below w.heap.size w w' := by
  have hb0 : Below w.heap.size w ((w.alloc (Obj.cells #[.string nm, .int .i64 k, .slice a n c] 76)).alloc (Obj.cells #[.string nm, .int .i64 k, .slice a n c, .pointer p] 131)) := ((Below.refl _ _).alloc (Nat.le_refl _) _).alloc (by simp) _
  go_enter Tryd.func61, Tryd.ntmps61
  go_wp2_with fail
  go_ret
  have hX : ((w.alloc (Obj.cells #[.string nm, .int .i64 k, .slice a n c] 76)).alloc (Obj.cells #[.string nm, .int .i64 k, .slice a n c, .pointer p] 131)).heap[w.heap.size + 1]? = some (Obj.cells #[.string nm, .int .i64 k, .slice a n c, .pointer p] 131) := by
    have hs1 : (w.alloc (Obj.cells #[.string nm, .int .i64 k, .slice a n c] 76)).heap.size = w.heap.size + 1 := by simp
    rw [← hs1]
    exact alloc_new _ _
  refine ⟨_, _, rfl, ⟨w.heap.size + 1, k, n, a, c, .pointer p, f, fp, rfl, hX, hn, ht.below hb0, hs.below hb0, Nat.le_succ_of_le hs.rk_le, rfl⟩, fun b hb => ?_, hb0⟩
  rcases List.mem_cons.1 hb with rfl | hb
  · exact .inr ⟨by omega, fun o => frozen_of_block hX⟩
  · exact .inl hb

/-- The type of the innermost binding of a name. -/
def look : List Bd → ByteArray → Option Ty
  | [], _ => none
  | x :: xs, nm => if x.nm = nm then some x.ty else look xs nm
end Go.Proofs.YtffmpjcjmffdeaaDoor

namespace Go.Proofs.YtffmpjcjmffdeaaDoor
open Go.RowKit

/-- A tree, which may share the memory of what was given, and a bool. -/
def SeenTB (A : List Nat) (w : World) (t : Ty) (b : Bool) (e : Ending) (w' : World) : Prop :=
  ∃ k n a c f, e = .returned (.tuple #[.agg #[.int .i64 k, .slice a n c], .bool b]) ∧ t.At w' (.agg #[.int .i64 k, .slice a n c]) f ∧ (∀ b ∈ f, b ∈ A) ∧ Below w.heap.size w w'

theorem toList_ne {x y : ByteArray} (h : x ≠ y) : (x.toList == y.toList) = false := by
  rw [beq_eq_false_iff_ne]
  intro he
  rw [Lib.toList_data, Lib.toList_data] at he
  exact h (ByteArray.ext (Array.toList_inj.1 he))

set_option maxHeartbeats 1000000 in
set_option maxRecDepth 100000 in
theorem find_any (xs : List Bd) (p : Option Addr) (fp : List Nat) (nm : ByteArray) (w : World) (hs : ScAt w xs (.pointer p) fp) (hn : nm.size ≤ 9223372036854775807) :
    Calls Tryd.prog 151 #[.pointer p, .string nm] w (SeenTB fp w ((look xs nm).getD (.mk 0 [])) (look xs nm).isSome) := by
  have HS := hid hs
  have HN := hid hn
  clear hs hn
  go_enter Tryd.func151, Tryd.ntmps151
  go_wp2_with fail
  go_loopw [0] (fun q wr => ∃ ys g, ScAt w ys q g ∧ look ys nm = look xs nm ∧ (∀ b ∈ g, b ∈ fp) ∧ wr = w.alloc (Obj.cells #[.int .i64 0, .slice none 0 0] 32))
    (fun q _ => rk q)
  case atStart => exact ⟨xs, fp, HS.out, rfl, fun _ h => h, rfl⟩
  case round =>
    obtain ⟨ys, g, hy, hl, hsub, rfl⟩ := hrel
    have HSUB := hid hsub
    clear hsub
    have HL := hid hl
    rw [← hl]
    clear hl
    have hb0 : Below w.heap.size w (w.alloc (Obj.cells #[.int .i64 0, .slice none 0 0] 32)) := (Below.refl _ _).alloc (Nat.le_refl _) _
    have y0 : (w.alloc (Obj.cells #[.int .i64 0, .slice none 0 0] 32)).cell? ⟨w.heap.size, 0, none⟩ = some (.int .i64 0) := by rw [cell_of_block (alloc_new _ _)]; rfl
    cases ys with
    | nil =>
      obtain ⟨rfl, rfl⟩ := hy
      have HB := hid hb0
      clear hb0
      go_wp2_with fail
      refine bodyPost_ret (v := .tuple #[.agg #[.int .i64 0, .slice none 0 0], .bool false]) (by simp [results, Tryd.results151, go_sem]) rfl ?_
      rw [← HL.out]
      exact ⟨0, 0, none, 0, [], rfl, Ty.at_mk.2 ⟨_, rfl, .inl ⟨rfl, rfl, _, _, rfl⟩⟩, (fun b hb => by cases hb), HB.out⟩
    | cons x ys =>
      obtain ⟨b, k, n, a, c, o, f, g', rfl, hb, hnm, ht, hs, hr, rfl⟩ := hy
      have hbw := lt_of_block hb
      replace hb := (hb0.block b hbw).trans hb
      have hblt := lt_of_block hb
      obtain ⟨oa, rfl⟩ := hs.ptr
      have c0 : (w.alloc (Obj.cells #[.int .i64 0, .slice none 0 0] 32)).cell? ⟨b, 0, none⟩ = some (.string x.nm) := by rw [cell_of_block hb]; rfl
      have c1 : (w.alloc (Obj.cells #[.int .i64 0, .slice none 0 0] 32)).cell? ⟨b, 1, none⟩ = some (.int .i64 k) := by rw [cell_of_block hb]; rfl
      have c2 : (w.alloc (Obj.cells #[.int .i64 0, .slice none 0 0] 32)).cell? ⟨b, 2, none⟩ = some (.slice a n c) := by rw [cell_of_block hb]; rfl
      have c3 : (w.alloc (Obj.cells #[.int .i64 0, .slice none 0 0] 32)).cell? ⟨b, 3, none⟩ = some (.pointer oa) := by rw [cell_of_block hb]; rfl
      by_cases hx : x.nm = nm
      · have hx1 : (x.nm.toList == nm.toList) = true := by rw [hx, beq_self_eq_true]
        have hl : look (x :: ys) nm = some x.ty := by rw [look, if_pos hx]
        have FIN := hid (ht.below ((Below.refl _ _).alloc (Nat.le_refl _) (Obj.cells #[.int .i64 k, .slice a n c] 32)))
        have HB := hid hb0
        clear ht hs hb hb0 hr
        go_wp2_with fail
        refine bodyPost_ret (v := .tuple #[.agg #[.int .i64 k, .slice a n c], .bool true]) (by simp [results, Tryd.results151, go_sem]) rfl ?_
        rw [hl]
        exact ⟨k, n, a, c, f, rfl, FIN.out, (fun b hb => HSUB.out b (by simp [hb])), (Below.refl _ _).alloc (Nat.le_refl _) _⟩
      · have hx1 : (x.nm.toList == nm.toList) = false := toList_ne hx
        have hl : look (x :: ys) nm = look ys nm := by rw [look, if_neg hx]
        have FIN := hid hs
        have HR := hid hr
        have HB := hid hb0
        clear ht hs hb hb0 hr
        go_wp2_with fail
        exact ⟨⟨ys, g', FIN.out, hl.symm, (fun b hb => HSUB.out b (by simp [hb])), trivial⟩, Nat.lt_succ_of_le HR.out⟩
end Go.Proofs.YtffmpjcjmffdeaaDoor

namespace Go.Proofs.YtffmpjcjmffdeaaDoor
open Go.RowKit

theorem look_take {xs : List Bd} {k : Nat} (h : k < xs.length) (nm : ByteArray) : look (xs.take (k + 1)).reverse nm = if xs[k].nm = nm then some xs[k].ty else look (xs.take k).reverse nm := by
  rw [List.take_succ_eq_append_getElem h, List.reverse_append]
  rfl

theorem one_box {w wr : World} {x y : Value} {T : TypeId} (h : Below (w.alloc (Obj.cells #[x, y] T)).heap.size (w.alloc (Obj.cells #[x, y] T)) wr) :
    wr.cell? ⟨w.heap.size, 0, none⟩ = some x ∧ wr.cell? ⟨w.heap.size, 1, none⟩ = some y ∧ (∀ o, wr.frozen? ⟨w.heap.size, o, none⟩ = false) ∧ w.heap.size < wr.heap.size := by
  have K : wr.heap[w.heap.size]? = some (Obj.cells #[x, y] T) := by
    rw [h.block w.heap.size (by simp)]
    exact alloc_new _ _
  exact ⟨cell_of_block K, cell_of_block K, fun o => frozen_of_block K, lt_of_block K⟩

set_option maxHeartbeats 1000000 in
set_option maxRecDepth 100000 in
theorem l3Look_any (xs : List Bd) (s : Value) (fp : List Nat) (nm : ByteArray) (w : World) (hs : BsAt w xs s fp) (hn : ∀ x ∈ xs, x.ty.cnt ≤ 1048576) :
    Calls Tryd.prog 110 #[s, .string nm] w (MadeTB w ((look xs.reverse nm).getD (.mk 0 [])) (look xs.reverse nm).isSome) := by
  obtain ⟨a, cap, rfl, hc, hm, hget⟩ := hs.open
  have HG := hid hget
  have HN := hid hn
  clear hget hs hn
  have hb0 : Below w.heap.size w (w.alloc (Obj.cells #[.int .i64 0, .slice none 0 0] 32)) := (Below.refl _ _).alloc (Nat.le_refl _) _
  have HB := hid hb0
  have Y := one_box (Below.refl _ (w.alloc (Obj.cells #[.int .i64 0, .slice none 0 0] 32)))
  obtain ⟨y0, y1, yz, ylt⟩ := Y
  go_enter Tryd.func110, Tryd.ntmps110
  go_wp2_with fail
  go_loopw [6] (fun i wr => ∃ k : Nat, k ≤ xs.length ∧ i = .int .i64 ((k : Int) - 1) ∧ look (xs.take k).reverse nm = look xs.reverse nm ∧ wr = w.alloc (Obj.cells #[.int .i64 0, .slice none 0 0] 32))
    (fun i _ => (intOf i + 1).toNat)
  case atStart => exact ⟨xs.length, Nat.le_refl _, rfl, by rw [List.take_length], rfl⟩
  case round =>
    obtain ⟨k, hk, rfl, hl, rfl⟩ := hrel
    cases k with
    | zero =>
      have HL := hid hl
      clear hl
      go_wp2_with fail
      refine bodyPost_ret (v := .tuple #[.agg #[.int .i64 0, .slice none 0 0], .bool false]) (by simp [results, Tryd.results110, go_sem]) rfl ?_
      rw [← HL.out]
      exact ⟨_, [], rfl, Ty.at_mk.2 ⟨_, rfl, .inl ⟨rfl, rfl, _, _, rfl⟩⟩, Fresh.nil _ _, HB.out⟩
    | succ k =>
      have hlk : k < xs.length := hk
      obtain ⟨b, o, m, k1, n1, a1, c1, f, rfl, hblt, hmn, hms, c0, d1, c2, hat, -⟩ := HG.out k hlk
      rw [look_take hlk] at hl
      replace c0 := (hb0.cell (p := ⟨b, o + k * 3, none⟩) hblt).trans c0
      replace d1 := (hb0.cell (p := ⟨b, o + k * 3 + 1, none⟩) hblt).trans d1
      replace c2 := (hb0.cell (p := ⟨b, o + k * 3 + 2, none⟩) hblt).trans c2
      have he : ((k + 1 : Nat) : Int) - 1 = (k : Int) := by omega
      rw [he]
      clear he
      by_cases hx : m = nm
      · have hx1 : (m.toList == nm.toList) = true := by rw [hx, beq_self_eq_true]
        rw [if_pos (hmn.symm.trans hx)] at hl
        have HL := hid hl
        have HA := hid (hat.below hb0)
        have HM := hid (HN.out _ (List.getElem_mem hlk))
        clear hl hat hb0 hmn
        go_wp2_with fail
        refine (l1Copy_any _ _ _ _ HA.out HM.out).mono ?_
        rintro e w1 ⟨v1, f1, rfl, hat1, hf1, hb1⟩
        obtain ⟨kr, nr, ar, capr, rfl⟩ := hat1.agg
        obtain ⟨r0, r1, rz, rlt⟩ := one_box hb1
        have hkr := keepR (R := w.heap.size) (x := .int .i64 kr) (y := .slice ar nr capr) hat1 hf1 (by simp)
        have hbb := ((HB.out.trans (hb1.mono HB.out.size)).setCell (p := ⟨w.heap.size, 0, none⟩) (by simp) (.int .i64 kr)).setCell (p := ⟨w.heap.size, 1, none⟩) (by simp) (.slice ar nr capr)
        go_wp2_with fail
        refine bodyPost_ret (v := .tuple #[.agg #[.int .i64 kr, .slice ar nr capr], .bool true]) (by simp [results, Tryd.results110, go_sem, r0, r1]) rfl ?_
        rw [← HL.out]
        exact ⟨_, f1, rfl, hkr.1, hkr.2.mono (by simp), hbb⟩
      · have hx1 : (m.toList == nm.toList) = false := toList_ne hx
        rw [if_neg (fun h => hx (hmn.trans h))] at hl
        have HL := hid hl
        clear hl hat hb0 hmn
        go_wp2_with fail
        exact ⟨⟨k, by omega, by go_num, HL.out, trivial⟩, by simp [intOf]⟩
end Go.Proofs.YtffmpjcjmffdeaaDoor

namespace Go.Proofs.YtffmpjcjmffdeaaDoor
open Go.ChangeShapes Go.WideShapes Go.ChangeAt Go.RowKit Go.Deep

theorem Tryd.cellsBd : Tryd.prog.cellsOf 72 = 3 := by kernel_rfl
theorem Tryd.cellsStr0 : Tryd.prog.cellsOf 9 = 1 := by kernel_rfl

section
variable {H : Type} {enc : TypeId × Value → H} {w : World} {base : Nat} {sp : Nat → Bool} {hd : Bool}

theorem bdL_of {b : Nat} : ∀ (n o : Nat), (∀ i, i < n → ∃ v0 v1 v2 x f, w.cell? ⟨b, o + i * 3, none⟩ = some v0 ∧ w.cell? ⟨b, o + i * 3 + 1, none⟩ = some v1 ∧ w.cell? ⟨b, o + i * 3 + 2, none⟩ = some v2 ∧ BdAt w x (.agg #[v0, v1, v2]) f) →
    ∃ xs fp, xs.length = n ∧ BdL w xs b o fp
  | 0, o, _ => ⟨[], [], rfl, rfl⟩
  | n + 1, o, h => by
    obtain ⟨v0, v1, v2, x, f, c0, c1, c2, ht⟩ := h 0 (by omega)
    obtain ⟨xs, fp, hn, hl⟩ := bdL_of n (o + 3) (fun i hi => by
      have := h (i + 1) (by omega)
      rw [show o + (i + 1) * 3 = o + 3 + i * 3 by omega] at this
      exact this)
    exact ⟨x :: xs, f ++ fp, by simp [hn], v0, v1, v2, f, fp, by simpa using c0, by simpa using c1, by simpa using c2, ht, hl, rfl⟩

set_option maxRecDepth 100000 in
theorem open_bd {fuel : Nat} {cs : List Value} {x : DataW H × List MemPlace} (h : DataW.trod enc Tryd.prog w base sp hd fuel 72 cs = some x) : ∃ v0 v1 v2, cs = [v0, v1, v2] ∧ ∃ (b : Bd) (fp : List Nat), BdAt w b (.agg #[v0, v1, v2]) fp := by
  obtain ⟨xs, n, rfl, hx, hl, hlen, hf⟩ := DataW.trod_struct Tryd.underlying72 h
  rw [Tryd.cellsBd] at hl
  match xs, hlen, cs, hl with
  | [y0, y1], _, [c0, c1, c2], _ =>
    have g0 := hf 0 _ rfl
    have g1 := hf 1 _ rfl
    simp [Tryd.cellsStr0, Tryd.cellsTy] at g0 g1
    obtain ⟨nm, hnm, _, hns⟩ := DataW.trod_string Tryd.underlying9 g0
    simp at hnm
    subst hnm
    obtain ⟨ty, f1, h1⟩ := open_ty _ _ _ g1
    obtain ⟨k, m, a, c, e⟩ := h1.agg
    simp only [Value.agg.injEq, Array.mk.injEq, List.cons.injEq, and_true] at e
    obtain ⟨rfl, rfl⟩ := e
    exact ⟨_, _, _, rfl, ⟨nm, ty⟩, f1, k, m, a, c, rfl, hns, h1⟩

set_option maxRecDepth 100000 in
theorem open_bds {fuel : Nat} {v : Value} {x : DataW H × List MemPlace} (h : DataW.trod enc Tryd.prog w base sp hd fuel 39 [v] = some x) : ∃ (xs : List Bd) (fp : List Nat), BsAt w xs v fp := by
  rcases DataW.trod_slice Tryd.underlying39 h with ⟨hc, _⟩ | ⟨a, len, cap, elems, rest, m, rfl, hc, _, hb, hle, hm, hel, hi, _⟩
  · simp at hc
    subst hc
    exact ⟨[], [], .inl ⟨rfl, rfl, _, _, rfl⟩⟩
  · simp at hc
    subst hc
    by_cases h0 : len = 0
    · subst h0
      exact ⟨[], [], .inl ⟨rfl, rfl, _, _, rfl⟩⟩
    rw [Tryd.cellsBd] at hi
    have hel' : ∀ i, i < len → ∃ v0 v1 v2 t f, w.cell? (a.add (i * 3)) = some v0 ∧ w.cell? ((a.add (i * 3)).add 1) = some v1 ∧ w.cell? ((a.add (i * 3)).add 2) = some v2 ∧ BdAt w t (.agg #[v0, v1, v2]) f := by
      intro i hil
      have h2 := hi i hil
      rw [List.getElem?_eq_getElem (by omega)] at h2
      obtain ⟨cs', h3, h4⟩ := Option.bind_eq_some_iff.1 h2
      obtain ⟨_, hl', hc'⟩ := World.cells?_some h3
      obtain ⟨v0, v1, v2, rfl, t, f, hat⟩ := open_bd h4
      have e0 := hc' 0 (by omega)
      have e1 := hc' 1 (by omega)
      have e2 := hc' 2 (by omega)
      simp [Addr.add] at e0
      exact ⟨v0, v1, v2, t, f, by simpa [Addr.add] using e0, by simpa using e1, by simpa using e2, hat⟩
    obtain ⟨b, off, spot⟩ := a
    obtain ⟨v0, _, _, _, _, e0, _⟩ := hel' 0 (by omega)
    have hspot : spot = none := by simpa [Addr.add] using World.cell?_spot e0
    subst hspot
    obtain ⟨ts, fp, hn, hl⟩ := bdL_of (w := w) (b := b) len off (fun i hil => by
      obtain ⟨v0, v1, v2, t, f, d0, d1, d2, hat⟩ := hel' i hil
      refine ⟨v0, v1, v2, t, f, ?_, ?_, ?_, hat⟩
      · simpa [add_plain] using d0
      · simpa [add_plain] using d1
      · simpa [add_plain] using d2)
    subst hn
    exact ⟨ts, b :: fp, .inr ⟨b, off, cap, fp, rfl, by omega, hle, Nat.le_trans hle hm, hl, rfl⟩⟩
end
end Go.Proofs.YtffmpjcjmffdeaaDoor
