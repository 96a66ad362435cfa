/- What the program's composition hands back: parts of its arguments, or new memory. -/
import Derived.Test.YtgekfnodmgkdaaaCom
import Derived.Test.YtgekfnodmgkdaaaCmE
import Derived.Test.YtgekfnodmgkdaaaCi6
import Derived.Test.YtgekfnodmgkdaaaCw6
import Derived.Test.YtgekfnodmgkdaaaTgi
import Derived.Test.YtgekfnodmgkdaaaTgs
import Derived.Deep.DeepCutAuto
namespace Go.Proofs.Ytgekfnodmgkdaaa
open Go.RowKit

/-- Where there is a coercion, it reads so, and lies in the blocks A or behind lo. -/
def Lft (A : List Nat) (lo : Nat) (o : Option Co) (v : Value) (wS : World) : Prop := ∀ c, o = some c → ∃ fp, c.At wS v fp ∧ ∀ x ∈ fp, x ∈ A ∨ lo ≤ x

theorem Lft.below {A : List Nat} {lo : Nat} {o : Option Co} {v : Value} {w w' : World} (h : Lft A lo o v w) (hb : Below w.heap.size w w') : Lft A lo o v w' := fun c hc => by
  obtain ⟨fp, h1, h2⟩ := h c hc
  exact ⟨fp, h1.below hb, h2⟩

theorem Lft.mono {A A' : List Nat} {lo lo' : Nat} {o : Option Co} {v : Value} {w : World} (h : Lft A lo o v w) (hA : ∀ x ∈ A, x ∈ A' ∨ lo' ≤ x) (hl : lo' ≤ lo) : Lft A' lo' o v w := fun c hc => by
  obtain ⟨fp, h1, h2⟩ := h c hc
  exact ⟨fp, h1, fun x hx => (h2 x hx).elim (hA x) (fun h => .inr (by omega))⟩

def MadeL (w : World) (A : List Nat) (o : Option Co) (e : Ending) (w' : World) : Prop :=
  ∃ (k g l : Int) (a : Option Addr) (n cap : Nat), e = .returned (.tuple #[.agg #[.int .i64 k, .int .i64 g, .int .i64 l, .slice a n cap], .bool o.isSome]) ∧ Below w.heap.size w w' ∧ Lft A w.heap.size o (.agg #[.int .i64 k, .int .i64 g, .int .i64 l, .slice a n cap]) w'

theorem put4_lft {A : List Nat} {lo M : Nat} {o : Option Co} {v : Value} {w : World} (h : Lft A lo o v w) (hA : ∀ x ∈ A, x ≠ M) (hlo : M < lo) (x0 x1 x2 x3 : Value) : Lft A lo o v (put4 w M 0 x0 x1 x2 x3) := fun c hc => by
  obtain ⟨fp, hat, h2⟩ := h c hc
  have hne : ∀ b ∈ fp, b ≠ M := fun b hb => (h2 b hb).elim (hA b) (fun h => by omega)
  exact ⟨fp, (((hat.setCell (a := ⟨M, 0, none⟩) hne x0).setCell (a := ⟨M, 0 + 1, none⟩) hne x1).setCell (a := ⟨M, 0 + 2, none⟩) hne x2).setCell (a := ⟨M, 0 + 3, none⟩) hne x3, h2⟩

theorem closeL {w wF : World} {M lo : Nat} {A : List Nat} {o : Option Co} {b : Bool} {k g l : Int} {a : Option Addr} {n cap : Nat} (hb : o.isSome = b) (h : Lft A lo o (.agg #[.int .i64 k, .int .i64 g, .int .i64 l, .slice a n cap]) wF) (hA : ∀ x ∈ A, x < w.heap.size) (hM : w.heap.size ≤ M) (hlo : M < lo) (hbw : Below w.heap.size w wF) :
    MadeL w A o (.returned (.tuple #[.agg #[.int .i64 k, .int .i64 g, .int .i64 l, .slice a n cap], .bool b])) (put4 wF M 0 (.int .i64 k) (.int .i64 g) (.int .i64 l) (.slice a n cap)) := by
  subst hb
  exact ⟨k, g, l, a, n, cap, rfl, put4_below hbw hM _ _ _ _, (put4_lft h (fun x hx => by have := hA x hx; omega) hlo _ _ _ _).mono (fun _ hx => .inl hx) (by omega)⟩

/-- A variable that holds what a composition handed back. -/
def CutL (Z : World) (A : List Nat) (o : Option Co) (s q : Value) (wx : World) : Prop :=
  ∃ (b : Nat) (r : Bool) (k g l : Int) (a : Option Addr) (n cap : Nat), s = .pointer (some ⟨b, 0, none⟩) ∧ q = .bool r ∧ o.isSome = r ∧ Z.heap.size ≤ b ∧ wx.heap[b]? = some (Obj.cells #[.int .i64 k, .int .i64 g, .int .i64 l, .slice a n cap] 44) ∧ Lft A Z.heap.size o (.agg #[.int .i64 k, .int .i64 g, .int .i64 l, .slice a n cap]) wx ∧ Below Z.heap.size Z wx

theorem cutL_alloc {Z X wq : World} {A : List Nat} {o : Option Co} {k g l : Int} {a : Option Addr} {n cap : Nat} (h : Lft A wq.heap.size o (.agg #[.int .i64 k, .int .i64 g, .int .i64 l, .slice a n cap]) X) (hq : Z.heap.size ≤ wq.heap.size) (hB : Below Z.heap.size Z X) :
    CutL Z A o (.pointer (some ⟨X.heap.size, 0, none⟩)) (.bool o.isSome) (X.alloc (Obj.cells #[.int .i64 k, .int .i64 g, .int .i64 l, .slice a n cap] 44)) :=
  ⟨_, _, k, g, l, a, n, cap, rfl, rfl, rfl, hB.size, alloc_new _ _, (h.below ((Below.refl X.heap.size X).alloc (Nat.le_refl _) _)).mono (fun _ hx => .inl hx) hq, hB.alloc hB.size _⟩

theorem cutL_stores {Z X wq : World} {A : List Nat} {o : Option Co} {x0 x1 x2 x3 : Value} {k g l : Int} {a : Option Addr} {n cap : Nat} (hE : X.heap[Z.heap.size]? = some (Obj.cells #[x0, x1, x2, x3] 44)) (h : Lft A wq.heap.size o (.agg #[.int .i64 k, .int .i64 g, .int .i64 l, .slice a n cap]) X) (hA : ∀ x ∈ A, x < Z.heap.size) (hq : Z.heap.size < wq.heap.size) (hB : Below Z.heap.size Z X) :
    CutL Z A o (.pointer (some ⟨Z.heap.size, 0, none⟩)) (.bool o.isSome) ((((X.setCell ⟨Z.heap.size, 0, none⟩ (.int .i64 k)).setCell ⟨Z.heap.size, 1, none⟩ (.int .i64 g)).setCell ⟨Z.heap.size, 2, none⟩ (.int .i64 l)).setCell ⟨Z.heap.size, 3, none⟩ (.slice a n cap)) := by
  have h1 : CutL Z A o (.pointer (some ⟨Z.heap.size, 0, none⟩)) (.bool o.isSome) (put4 X Z.heap.size 0 (.int .i64 k) (.int .i64 g) (.int .i64 l) (.slice a n cap)) :=
    ⟨_, _, k, g, l, a, n, cap, rfl, rfl, rfl, Nat.le_refl _, heap_setCell_at (heap_setCell_at (heap_setCell_at (heap_setCell_at hE _) _) _) _, (put4_lft h (fun x hx => by have := hA x hx; omega) hq _ _ _ _).mono (fun _ hx => .inl hx) (by omega), put4_below hB (Nat.le_refl _) _ _ _ _⟩
  simpa only [put4, Nat.zero_add] using h1

/-- The program's composition by depth. -/
def CpiC (n : Nat) : Prop := ∀ (a b : Co) (d d' : Nat) (va vb : Value) (fa fb : List Nat) (w : World), d + d' ≤ n → d ≤ 9 → d' ≤ 9 → shpK d a = true → shpK d' b = true → a.At w va fa → b.At w vb fb →
  Calls Try.prog 37 #[va, vb] w (MadeL w (fa ++ fb) (cmpo n a b))

theorem ci_from {n : Nat} (ih : CpiC n) {W0 w1 : World} (u : Below W0.heap.size W0 w1) {a b : Co} {d d' : Nat} {va vb : Value} {fa fb : List Nat} (h1 : d + d' ≤ n) (h2 : d ≤ 9) (h3 : d' ≤ 9) (h4 : shpK d a = true) (h5 : shpK d' b = true) (h6 : a.At W0 va fa) (h7 : b.At W0 vb fb) :
    Calls Try.prog 37 #[va, vb] w1 fun e w' => MadeL w1 (fa ++ fb) (cmpo n a b) e w' ∧ Below W0.heap.size W0 w1 :=
  (ih a b d d' va vb fa fb w1 h1 h2 h3 h4 h5 (h6.below u) (h7.below u)).mono fun _ _ h => ⟨h, u⟩

/-- Composition of an injection and a projection, and of plain ones. -/
def AcC (n : Nat) : Prop := ∀ (ga la gb lb : Int) (a b : Co) (d d' : Nat) (va vb : Value) (fa fb : List Nat) (w : World), d + d' ≤ n → d ≤ 9 → d' ≤ 9 → shpK d a = true → shpK d' b = true → (Co.mk 4 ga la [a]).At w va fa → (Co.mk 5 gb lb [b]).At w vb fb →
  Calls Try.prog 59 #[va, vb] w (MadeL w (fa ++ fb) (cmpo (n + 1) (.mk 4 ga la [a]) (.mk 5 gb lb [b])))
def PlC (n : Nat) : Prop := ∀ (a b : Co) (d d' : Nat) (va vb : Value) (fa fb : List Nat) (w : World), d + d' ≤ n + 2 → d ≤ 9 → d' ≤ 9 → shpK d a = true → shpK d' b = true → notUnk a → notInj b → a.At w va fa → b.At w vb fb →
  Calls Try.prog 62 #[va, vb] w (MadeL w (fa ++ fb) (cmpo (n + 1) a b))
end Go.Proofs.Ytgekfnodmgkdaaa
