/- What the program's composition hands back: parts of its arguments, or new memory. CoercionTyped of both sides. CoercionIdentity, of the specification and of the program. The height of a coercion: the specification's function and the program's. -/
import Derived.Deep.DeepCutAuto
import Derived.Test.YtolhfcpmhhhjpaaSG3
import Derived.Test.YtolhfcpmhhhjpaaSCi6
import Derived.Test.YtolhfcpmhhhjpaaSCw6
import Derived.Deep.RegionLaw
import Derived.Test.YtolhfcpmhhhjpaaSTpi
import Derived.Test.YtolhfcpmhhhjpaaSG1
import Derived.Test.YtolhfcpmhhhjpaaSPkA
namespace Go.Proofs.Ytolhfcpmhhhjpaa
open Go.RowKit

/-- Where there is a coercion, it reads so, and lies in the blocks A or behind lo. -/
def Lft (A : List Nat) (lo : Nat) (o : Option Co) (v : Value) (wS : World) : Prop := ∀ c, o = some c → ∃ fp, c.At wS v fp ∧ ∀ x ∈ fp, x ∈ A ∨ lo ≤ x

theorem Lft.below {A : List Nat} {lo : Nat} {o : Option Co} {v : Value} {w w' : World} (h : Lft A lo o v w) (hb : Below w.heap.size w w') : Lft A lo o v w' := fun c hc => by
  obtain ⟨fp, h1, h2⟩ := h c hc
  exact ⟨fp, h1.below hb, h2⟩

theorem Lft.mono {A A' : List Nat} {lo lo' : Nat} {o : Option Co} {v : Value} {w : World} (h : Lft A lo o v w) (hA : ∀ x ∈ A, x ∈ A' ∨ lo' ≤ x) (hl : lo' ≤ lo) : Lft A' lo' o v w := fun c hc => by
  obtain ⟨fp, h1, h2⟩ := h c hc
  exact ⟨fp, h1, fun x hx => (h2 x hx).elim (hA x) (fun h => .inr (by omega))⟩

def MadeL (w : World) (A : List Nat) (o : Option Co) (e : Ending) (w' : World) : Prop :=
  ∃ (k g l : Int) (a : Option Addr) (n cap : Nat), e = .returned (.tuple #[.agg #[.int .i64 k, .int .i64 g, .int .i64 l, .slice a n cap], .bool o.isSome]) ∧ Below w.heap.size w w' ∧ Lft A w.heap.size o (.agg #[.int .i64 k, .int .i64 g, .int .i64 l, .slice a n cap]) w'

theorem put4_lft {A : List Nat} {lo M : Nat} {o : Option Co} {v : Value} {w : World} (h : Lft A lo o v w) (hA : ∀ x ∈ A, x ≠ M) (hlo : M < lo) (x0 x1 x2 x3 : Value) : Lft A lo o v (put4 w M 0 x0 x1 x2 x3) := fun c hc => by
  obtain ⟨fp, hat, h2⟩ := h c hc
  have hne : ∀ b ∈ fp, b ≠ M := fun b hb => (h2 b hb).elim (hA b) (fun h => by omega)
  exact ⟨fp, (((hat.setCell (a := ⟨M, 0, none⟩) hne x0).setCell (a := ⟨M, 0 + 1, none⟩) hne x1).setCell (a := ⟨M, 0 + 2, none⟩) hne x2).setCell (a := ⟨M, 0 + 3, none⟩) hne x3, h2⟩

theorem closeL {w wF : World} {M lo : Nat} {A : List Nat} {o : Option Co} {b : Bool} {k g l : Int} {a : Option Addr} {n cap : Nat} (hb : o.isSome = b) (h : Lft A lo o (.agg #[.int .i64 k, .int .i64 g, .int .i64 l, .slice a n cap]) wF) (hA : ∀ x ∈ A, x < w.heap.size) (hM : w.heap.size ≤ M) (hlo : M < lo) (hbw : Below w.heap.size w wF) :
    MadeL w A o (.returned (.tuple #[.agg #[.int .i64 k, .int .i64 g, .int .i64 l, .slice a n cap], .bool b])) (put4 wF M 0 (.int .i64 k) (.int .i64 g) (.int .i64 l) (.slice a n cap)) := by
  subst hb
  exact ⟨k, g, l, a, n, cap, rfl, put4_below hbw hM _ _ _ _, (put4_lft h (fun x hx => by have := hA x hx; omega) hlo _ _ _ _).mono (fun _ hx => .inl hx) (by omega)⟩

/-- A variable that holds what a composition handed back. -/
def CutL (Z : World) (A : List Nat) (o : Option Co) (s q : Value) (wx : World) : Prop :=
  ∃ (b : Nat) (r : Bool) (k g l : Int) (a : Option Addr) (n cap : Nat), s = .pointer (some ⟨b, 0, none⟩) ∧ q = .bool r ∧ o.isSome = r ∧ Z.heap.size ≤ b ∧ wx.heap[b]? = some (Obj.cells #[.int .i64 k, .int .i64 g, .int .i64 l, .slice a n cap] 30) ∧ Lft A Z.heap.size o (.agg #[.int .i64 k, .int .i64 g, .int .i64 l, .slice a n cap]) wx ∧ Below Z.heap.size Z wx

theorem cutL_alloc {Z X wq : World} {A : List Nat} {o : Option Co} {k g l : Int} {a : Option Addr} {n cap : Nat} (h : Lft A wq.heap.size o (.agg #[.int .i64 k, .int .i64 g, .int .i64 l, .slice a n cap]) X) (hq : Z.heap.size ≤ wq.heap.size) (hB : Below Z.heap.size Z X) :
    CutL Z A o (.pointer (some ⟨X.heap.size, 0, none⟩)) (.bool o.isSome) (X.alloc (Obj.cells #[.int .i64 k, .int .i64 g, .int .i64 l, .slice a n cap] 30)) :=
  ⟨_, _, k, g, l, a, n, cap, rfl, rfl, rfl, hB.size, alloc_new _ _, (h.below ((Below.refl X.heap.size X).alloc (Nat.le_refl _) _)).mono (fun _ hx => .inl hx) hq, hB.alloc hB.size _⟩

theorem cutL_stores {Z X wq : World} {A : List Nat} {o : Option Co} {x0 x1 x2 x3 : Value} {k g l : Int} {a : Option Addr} {n cap : Nat} (hE : X.heap[Z.heap.size]? = some (Obj.cells #[x0, x1, x2, x3] 30)) (h : Lft A wq.heap.size o (.agg #[.int .i64 k, .int .i64 g, .int .i64 l, .slice a n cap]) X) (hA : ∀ x ∈ A, x < Z.heap.size) (hq : Z.heap.size < wq.heap.size) (hB : Below Z.heap.size Z X) :
    CutL Z A o (.pointer (some ⟨Z.heap.size, 0, none⟩)) (.bool o.isSome) ((((X.setCell ⟨Z.heap.size, 0, none⟩ (.int .i64 k)).setCell ⟨Z.heap.size, 1, none⟩ (.int .i64 g)).setCell ⟨Z.heap.size, 2, none⟩ (.int .i64 l)).setCell ⟨Z.heap.size, 3, none⟩ (.slice a n cap)) := by
  have h1 : CutL Z A o (.pointer (some ⟨Z.heap.size, 0, none⟩)) (.bool o.isSome) (put4 X Z.heap.size 0 (.int .i64 k) (.int .i64 g) (.int .i64 l) (.slice a n cap)) :=
    ⟨_, _, k, g, l, a, n, cap, rfl, rfl, rfl, Nat.le_refl _, heap_setCell_at (heap_setCell_at (heap_setCell_at (heap_setCell_at hE _) _) _) _, (put4_lft h (fun x hx => by have := hA x hx; omega) hq _ _ _ _).mono (fun _ hx => .inl hx) (by omega), put4_below hB (Nat.le_refl _) _ _ _ _⟩
  simpa only [put4, Nat.zero_add] using h1

/-- The program's composition by depth. -/
def CpiC (n : Nat) : Prop := ∀ (a b : Co) (d d' : Nat) (va vb : Value) (fa fb : List Nat) (w : World), d + d' ≤ n → d ≤ 9 → d' ≤ 9 → shpK d a = true → shpK d' b = true → a.At w va fa → b.At w vb fb →
  Calls Try.prog 59 #[va, vb] w (MadeL w (fa ++ fb) (cmpo n a b))

theorem ci_from {n : Nat} (ih : CpiC n) {W0 w1 : World} (u : Below W0.heap.size W0 w1) {a b : Co} {d d' : Nat} {va vb : Value} {fa fb : List Nat} (h1 : d + d' ≤ n) (h2 : d ≤ 9) (h3 : d' ≤ 9) (h4 : shpK d a = true) (h5 : shpK d' b = true) (h6 : a.At W0 va fa) (h7 : b.At W0 vb fb) :
    Calls Try.prog 59 #[va, vb] w1 fun e w' => MadeL w1 (fa ++ fb) (cmpo n a b) e w' ∧ Below W0.heap.size W0 w1 :=
  (ih a b d d' va vb fa fb w1 h1 h2 h3 h4 h5 (h6.below u) (h7.below u)).mono fun _ _ h => ⟨h, u⟩

/-- Composition of an injection and a projection, and of plain ones. -/
def AcC (n : Nat) : Prop := ∀ (ga la gb lb : Int) (a b : Co) (d d' : Nat) (va vb : Value) (fa fb : List Nat) (w : World), d + d' ≤ n → d ≤ 9 → d' ≤ 9 → shpK d a = true → shpK d' b = true → (Co.mk 4 ga la [a]).At w va fa → (Co.mk 5 gb lb [b]).At w vb fb →
  Calls Try.prog 95 #[va, vb] w (MadeL w (fa ++ fb) (cmpo (n + 1) (.mk 4 ga la [a]) (.mk 5 gb lb [b])))
def PlC (n : Nat) : Prop := ∀ (a b : Co) (d d' : Nat) (va vb : Value) (fa fb : List Nat) (w : World), d + d' ≤ n + 2 → d ≤ 9 → d' ≤ 9 → shpK d a = true → shpK d' b = true → notUnk a → notInj b → a.At w va fa → b.At w vb fb →
  Calls Try.prog 96 #[va, vb] w (MadeL w (fa ++ fb) (cmpo (n + 1) a b))
end Go.Proofs.Ytolhfcpmhhhjpaa

namespace Go.Proofs.Ytolhfcpmhhhjpaa
open Go.RowKit

/-- The document's CoercionTyped. -/
def ctyp (c : Co) (f t : Ty) : Bool := vldK c && (vld f && (vld t && typC 9 c f t))

set_option maxRecDepth 100000 in
set_option maxHeartbeats 4000000 in
theorem implCoercionTyped_any (c : Co) (f t : Ty) (vc vf vt : Value) (fc ff ft : List Nat) (w : World) (hatc : c.At w vc fc) (hatf : f.At w vf ff) (hatt : t.At w vt ft) :
    Calls Try.prog 19 #[vc, vf, vt] w fun e w' => e = .returned (.bool (ctyp c f t)) ∧ Below w.heap.size w w' := by
  obtain ⟨kc, g, l, nc, ac, cc, rfl⟩ := hatc.agg
  obtain ⟨kf, nf, af, cf, rfl⟩ := hatf.agg
  obtain ⟨kt, nt, at', ct, rfl⟩ := hatt.agg
  have hb0 : Below w.heap.size w (((w.alloc (Obj.cells #[.int .i64 kc, .int .i64 g, .int .i64 l, .slice ac nc cc] 30)).alloc (Obj.cells #[.int .i64 kf, .slice af nf cf] 25)).alloc (Obj.cells #[.int .i64 kt, .slice at' nt ct] 25)) := (((Below.refl _ _).alloc (Nat.le_refl _) _).alloc (by simp) _).alloc (by simp; omega) _
  obtain ⟨bC, bF, bT⟩ := three3 (Below.refl ((((w.alloc (Obj.cells #[.int .i64 kc, .int .i64 g, .int .i64 l, .slice ac nc cc] 30)).alloc (Obj.cells #[.int .i64 kf, .slice af nf cf] 25)).alloc (Obj.cells #[.int .i64 kt, .slice at' nt ct] 25))).heap.size (((w.alloc (Obj.cells #[.int .i64 kc, .int .i64 g, .int .i64 l, .slice ac nc cc] 30)).alloc (Obj.cells #[.int .i64 kf, .slice af nf cf] 25)).alloc (Obj.cells #[.int .i64 kt, .slice at' nt ct] 25)))
  have xC0 : ((((w.alloc (Obj.cells #[.int .i64 kc, .int .i64 g, .int .i64 l, .slice ac nc cc] 30)).alloc (Obj.cells #[.int .i64 kf, .slice af nf cf] 25)).alloc (Obj.cells #[.int .i64 kt, .slice at' nt ct] 25))).cell? ⟨w.heap.size, 0, none⟩ = some (.int .i64 kc) := by rw [cell_of_block bC]; rfl
  have xC1 : ((((w.alloc (Obj.cells #[.int .i64 kc, .int .i64 g, .int .i64 l, .slice ac nc cc] 30)).alloc (Obj.cells #[.int .i64 kf, .slice af nf cf] 25)).alloc (Obj.cells #[.int .i64 kt, .slice at' nt ct] 25))).cell? ⟨w.heap.size, 1, none⟩ = some (.int .i64 g) := by rw [cell_of_block bC]; rfl
  have xC2 : ((((w.alloc (Obj.cells #[.int .i64 kc, .int .i64 g, .int .i64 l, .slice ac nc cc] 30)).alloc (Obj.cells #[.int .i64 kf, .slice af nf cf] 25)).alloc (Obj.cells #[.int .i64 kt, .slice at' nt ct] 25))).cell? ⟨w.heap.size, 2, none⟩ = some (.int .i64 l) := by rw [cell_of_block bC]; rfl
  have xC3 : ((((w.alloc (Obj.cells #[.int .i64 kc, .int .i64 g, .int .i64 l, .slice ac nc cc] 30)).alloc (Obj.cells #[.int .i64 kf, .slice af nf cf] 25)).alloc (Obj.cells #[.int .i64 kt, .slice at' nt ct] 25))).cell? ⟨w.heap.size, 3, none⟩ = some (.slice ac nc cc) := by rw [cell_of_block bC]; rfl
  have xF0 : ((((w.alloc (Obj.cells #[.int .i64 kc, .int .i64 g, .int .i64 l, .slice ac nc cc] 30)).alloc (Obj.cells #[.int .i64 kf, .slice af nf cf] 25)).alloc (Obj.cells #[.int .i64 kt, .slice at' nt ct] 25))).cell? ⟨w.heap.size + 1, 0, none⟩ = some (.int .i64 kf) := by rw [cell_of_block bF]; rfl
  have xF1 : ((((w.alloc (Obj.cells #[.int .i64 kc, .int .i64 g, .int .i64 l, .slice ac nc cc] 30)).alloc (Obj.cells #[.int .i64 kf, .slice af nf cf] 25)).alloc (Obj.cells #[.int .i64 kt, .slice at' nt ct] 25))).cell? ⟨w.heap.size + 1, 1, none⟩ = some (.slice af nf cf) := by rw [cell_of_block bF]; rfl
  have xT0 : ((((w.alloc (Obj.cells #[.int .i64 kc, .int .i64 g, .int .i64 l, .slice ac nc cc] 30)).alloc (Obj.cells #[.int .i64 kf, .slice af nf cf] 25)).alloc (Obj.cells #[.int .i64 kt, .slice at' nt ct] 25))).cell? ⟨w.heap.size + 1 + 1, 0, none⟩ = some (.int .i64 kt) := by rw [cell_of_block bT]; rfl
  have xT1 : ((((w.alloc (Obj.cells #[.int .i64 kc, .int .i64 g, .int .i64 l, .slice ac nc cc] 30)).alloc (Obj.cells #[.int .i64 kf, .slice af nf cf] 25)).alloc (Obj.cells #[.int .i64 kt, .slice at' nt ct] 25))).cell? ⟨w.heap.size + 1 + 1, 1, none⟩ = some (.slice at' nt ct) := by rw [cell_of_block bT]; rfl
  clear bC bF bT
  have H := hid (And.intro (hatc.below hb0) (And.intro (hatf.below hb0) (hatt.below hb0)))
  clear hatc hatf hatt
  cases h0 : vldK c with
  | false =>
    have HT := hid (show ctyp c f t = false by simp [ctyp, h0])
    have HV0 := hid h0
    clear h0
    go_enter Try.func19, Try.ntmps19
    go_wp2_with fail
    refine (implCoercionValid_any c _ _ _ (H.out.1.below (Below.refl ((((w.alloc (Obj.cells #[.int .i64 kc, .int .i64 g, .int .i64 l, .slice ac nc cc] 30)).alloc (Obj.cells #[.int .i64 kf, .slice af nf cf] 25)).alloc (Obj.cells #[.int .i64 kt, .slice at' nt ct] 25))).heap.size (((w.alloc (Obj.cells #[.int .i64 kc, .int .i64 g, .int .i64 l, .slice ac nc cc] 30)).alloc (Obj.cells #[.int .i64 kf, .slice af nf cf] 25)).alloc (Obj.cells #[.int .i64 kt, .slice at' nt ct] 25))))).mono ?_
    rw [HV0.out]
    rintro e w1 ⟨rfl, hb1⟩
    have hk0 := below_trans (Below.refl ((((w.alloc (Obj.cells #[.int .i64 kc, .int .i64 g, .int .i64 l, .slice ac nc cc] 30)).alloc (Obj.cells #[.int .i64 kf, .slice af nf cf] 25)).alloc (Obj.cells #[.int .i64 kt, .slice at' nt ct] 25))).heap.size (((w.alloc (Obj.cells #[.int .i64 kc, .int .i64 g, .int .i64 l, .slice ac nc cc] 30)).alloc (Obj.cells #[.int .i64 kf, .slice af nf cf] 25)).alloc (Obj.cells #[.int .i64 kt, .slice at' nt ct] 25))) hb1
    go_wp2_with fail
    go_ret
    exact ⟨ret_b HT.out.symm, below_trans hb0 hk0⟩
  | true =>
    have HV0 := hid h0
    cases h1 : vld f with
    | false =>
      have HT := hid (show ctyp c f t = false by simp [ctyp, h1])
      have HV1 := hid h1
      clear h0 h1
      go_enter Try.func19, Try.ntmps19
      go_wp2_with fail
      refine (implCoercionValid_any c _ _ _ (H.out.1.below (Below.refl ((((w.alloc (Obj.cells #[.int .i64 kc, .int .i64 g, .int .i64 l, .slice ac nc cc] 30)).alloc (Obj.cells #[.int .i64 kf, .slice af nf cf] 25)).alloc (Obj.cells #[.int .i64 kt, .slice at' nt ct] 25))).heap.size (((w.alloc (Obj.cells #[.int .i64 kc, .int .i64 g, .int .i64 l, .slice ac nc cc] 30)).alloc (Obj.cells #[.int .i64 kf, .slice af nf cf] 25)).alloc (Obj.cells #[.int .i64 kt, .slice at' nt ct] 25))))).mono ?_
      rw [HV0.out]
      rintro e w1 ⟨rfl, hb1⟩
      have hk0 := below_trans (Below.refl ((((w.alloc (Obj.cells #[.int .i64 kc, .int .i64 g, .int .i64 l, .slice ac nc cc] 30)).alloc (Obj.cells #[.int .i64 kf, .slice af nf cf] 25)).alloc (Obj.cells #[.int .i64 kt, .slice at' nt ct] 25))).heap.size (((w.alloc (Obj.cells #[.int .i64 kc, .int .i64 g, .int .i64 l, .slice ac nc cc] 30)).alloc (Obj.cells #[.int .i64 kf, .slice af nf cf] 25)).alloc (Obj.cells #[.int .i64 kt, .slice at' nt ct] 25))) hb1
      replace xC0 := cell_keep xC0 hb1
      replace xC1 := cell_keep xC1 hb1
      replace xC2 := cell_keep xC2 hb1
      replace xC3 := cell_keep xC3 hb1
      replace xF0 := cell_keep xF0 hb1
      replace xF1 := cell_keep xF1 hb1
      replace xT0 := cell_keep xT0 hb1
      replace xT1 := cell_keep xT1 hb1
      go_wp2_with fail
      refine (implTypeValid_any f _ _ _ (H.out.2.1.below hk0)).mono ?_
      rw [HV1.out]
      rintro e w2 ⟨rfl, hb2⟩
      have hk1 := below_trans hk0 hb2
      go_wp2_with fail
      go_ret
      exact ⟨ret_b HT.out.symm, below_trans hb0 hk1⟩
    | true =>
      have HV1 := hid h1
      cases h2 : vld t with
      | false =>
        have HT := hid (show ctyp c f t = false by simp [ctyp, h2])
        have HV2 := hid h2
        clear h0 h1 h2
        go_enter Try.func19, Try.ntmps19
        go_wp2_with fail
        refine (implCoercionValid_any c _ _ _ (H.out.1.below (Below.refl ((((w.alloc (Obj.cells #[.int .i64 kc, .int .i64 g, .int .i64 l, .slice ac nc cc] 30)).alloc (Obj.cells #[.int .i64 kf, .slice af nf cf] 25)).alloc (Obj.cells #[.int .i64 kt, .slice at' nt ct] 25))).heap.size (((w.alloc (Obj.cells #[.int .i64 kc, .int .i64 g, .int .i64 l, .slice ac nc cc] 30)).alloc (Obj.cells #[.int .i64 kf, .slice af nf cf] 25)).alloc (Obj.cells #[.int .i64 kt, .slice at' nt ct] 25))))).mono ?_
        rw [HV0.out]
        rintro e w1 ⟨rfl, hb1⟩
        have hk0 := below_trans (Below.refl ((((w.alloc (Obj.cells #[.int .i64 kc, .int .i64 g, .int .i64 l, .slice ac nc cc] 30)).alloc (Obj.cells #[.int .i64 kf, .slice af nf cf] 25)).alloc (Obj.cells #[.int .i64 kt, .slice at' nt ct] 25))).heap.size (((w.alloc (Obj.cells #[.int .i64 kc, .int .i64 g, .int .i64 l, .slice ac nc cc] 30)).alloc (Obj.cells #[.int .i64 kf, .slice af nf cf] 25)).alloc (Obj.cells #[.int .i64 kt, .slice at' nt ct] 25))) hb1
        replace xC0 := cell_keep xC0 hb1
        replace xC1 := cell_keep xC1 hb1
        replace xC2 := cell_keep xC2 hb1
        replace xC3 := cell_keep xC3 hb1
        replace xF0 := cell_keep xF0 hb1
        replace xF1 := cell_keep xF1 hb1
        replace xT0 := cell_keep xT0 hb1
        replace xT1 := cell_keep xT1 hb1
        go_wp2_with fail
        refine (implTypeValid_any f _ _ _ (H.out.2.1.below hk0)).mono ?_
        rw [HV1.out]
        rintro e w2 ⟨rfl, hb2⟩
        have hk1 := below_trans hk0 hb2
        replace xC0 := cell_keep xC0 hb2
        replace xC1 := cell_keep xC1 hb2
        replace xC2 := cell_keep xC2 hb2
        replace xC3 := cell_keep xC3 hb2
        replace xF0 := cell_keep xF0 hb2
        replace xF1 := cell_keep xF1 hb2
        replace xT0 := cell_keep xT0 hb2
        replace xT1 := cell_keep xT1 hb2
        go_wp2_with fail
        refine (implTypeValid_any t _ _ _ (H.out.2.2.below hk1)).mono ?_
        rw [HV2.out]
        rintro e w3 ⟨rfl, hb3⟩
        have hk2 := below_trans hk1 hb3
        go_wp2_with fail
        go_ret
        exact ⟨ret_b HT.out.symm, below_trans hb0 hk2⟩
      | true =>
        have HV2 := hid h2
        have HT := hid (show ctyp c f t = typC 9 c f t by simp [ctyp, h0, h1, h2])
        clear h0 h1 h2
        generalize hr : typC 9 c f t = r at *
        have HV3 := hid hr
        clear hr
        go_enter Try.func19, Try.ntmps19
        go_wp2_with fail
        refine (implCoercionValid_any c _ _ _ (H.out.1.below (Below.refl ((((w.alloc (Obj.cells #[.int .i64 kc, .int .i64 g, .int .i64 l, .slice ac nc cc] 30)).alloc (Obj.cells #[.int .i64 kf, .slice af nf cf] 25)).alloc (Obj.cells #[.int .i64 kt, .slice at' nt ct] 25))).heap.size (((w.alloc (Obj.cells #[.int .i64 kc, .int .i64 g, .int .i64 l, .slice ac nc cc] 30)).alloc (Obj.cells #[.int .i64 kf, .slice af nf cf] 25)).alloc (Obj.cells #[.int .i64 kt, .slice at' nt ct] 25))))).mono ?_
        rw [HV0.out]
        rintro e w1 ⟨rfl, hb1⟩
        have hk0 := below_trans (Below.refl ((((w.alloc (Obj.cells #[.int .i64 kc, .int .i64 g, .int .i64 l, .slice ac nc cc] 30)).alloc (Obj.cells #[.int .i64 kf, .slice af nf cf] 25)).alloc (Obj.cells #[.int .i64 kt, .slice at' nt ct] 25))).heap.size (((w.alloc (Obj.cells #[.int .i64 kc, .int .i64 g, .int .i64 l, .slice ac nc cc] 30)).alloc (Obj.cells #[.int .i64 kf, .slice af nf cf] 25)).alloc (Obj.cells #[.int .i64 kt, .slice at' nt ct] 25))) hb1
        replace xC0 := cell_keep xC0 hb1
        replace xC1 := cell_keep xC1 hb1
        replace xC2 := cell_keep xC2 hb1
        replace xC3 := cell_keep xC3 hb1
        replace xF0 := cell_keep xF0 hb1
        replace xF1 := cell_keep xF1 hb1
        replace xT0 := cell_keep xT0 hb1
        replace xT1 := cell_keep xT1 hb1
        go_wp2_with fail
        refine (implTypeValid_any f _ _ _ (H.out.2.1.below hk0)).mono ?_
        rw [HV1.out]
        rintro e w2 ⟨rfl, hb2⟩
        have hk1 := below_trans hk0 hb2
        replace xC0 := cell_keep xC0 hb2
        replace xC1 := cell_keep xC1 hb2
        replace xC2 := cell_keep xC2 hb2
        replace xC3 := cell_keep xC3 hb2
        replace xF0 := cell_keep xF0 hb2
        replace xF1 := cell_keep xF1 hb2
        replace xT0 := cell_keep xT0 hb2
        replace xT1 := cell_keep xT1 hb2
        go_wp2_with fail
        refine (implTypeValid_any t _ _ _ (H.out.2.2.below hk1)).mono ?_
        rw [HV2.out]
        rintro e w3 ⟨rfl, hb3⟩
        have hk2 := below_trans hk1 hb3
        replace xC0 := cell_keep xC0 hb3
        replace xC1 := cell_keep xC1 hb3
        replace xC2 := cell_keep xC2 hb3
        replace xC3 := cell_keep xC3 hb3
        replace xF0 := cell_keep xF0 hb3
        replace xF1 := cell_keep xF1 hb3
        replace xT0 := cell_keep xT0 hb3
        replace xT1 := cell_keep xT1 hb3
        go_wp2_with fail
        refine (leads_any 9 c f t _ _ _ _ _ _ _ HV0.out HV1.out HV2.out (H.out.1.below hk2) (H.out.2.1.below hk2) (H.out.2.2.below hk2)).mono ?_
        rw [HV3.out]
        rintro e w4 ⟨rfl, hb4⟩
        have hk3 := below_trans hk2 hb4
        go_wp2_with fail
        go_ret
        exact ⟨ret_b HT.out.symm, below_trans hb0 hk3⟩

end Go.Proofs.Ytolhfcpmhhhjpaa

namespace Go.Proofs.Ytolhfcpmhhhjpaa
open Go.RowKit

/-- The document's CoercionIdentity. -/
def idV (t : Co) : Bool := vldK t && idC t

/-- The program's visit. -/
def idStep (r : Bool) : Co → Bool
  | .mk k _ _ _ => r && (k == 1 || (k == 2 || k == 3))

mutual
theorem idN_eq : ∀ (t : Co) (r : Bool), ccN idStep r t = (r && idC t)
  | .mk k g l ts, r => by simp only [ccN, idStep, idC, idL_eq ts, Bool.and_assoc]
theorem idL_eq : ∀ (ts : List Co) (r : Bool), ccL idStep r ts = (r && idL ts)
  | [], r => by simp [ccL, idL]
  | t :: ts, r => by simp only [ccL, idL, idN_eq t, idL_eq ts, Bool.and_assoc]
end

def StB (M : Nat) (r : Bool) (v : Value) (w : World) : Prop := v = .bool r ∧ w.heap[M]? = some (.cells #[.bool r] 4 (0, 0))

theorem callOk_id : CallOkT 52 := fun _ _ => by kernel_rfl

theorem lr_cell {M : Nat} {w w0 : World} {r x : Bool} (hb : Below w.heap.size w w0) (hM : w.heap[M]? = some (.cells #[.bool r] 4 (0, 0))) :
    StB M x (.bool x) (w0.setCell ⟨M, 0, none⟩ (.bool x)) ∧ Lr M w (w0.setCell ⟨M, 0, none⟩ (.bool x)) (.bool r) (.bool x) :=
  ⟨⟨rfl, heap_setCell_at (blk hM hb) _⟩, ⟨⟨hb.os, hb.tape, hb.output, by rw [size_setCell]; exact hb.size⟩, fun k hk hkM _ => (Below.heap_setCell _ _ _ _ hkM).trans (hb.block k hk), .inl rfl⟩⟩

theorem lr_cell2 {M : Nat} {w : World} {o : Obj} {r x : Bool} (hM : w.heap[M]? = some (.cells #[.bool r] 4 (0, 0))) :
    StB M x (.bool x) ((w.setCell ⟨M, 0, none⟩ (.bool x)).alloc o) ∧ Lr M w ((w.setCell ⟨M, 0, none⟩ (.bool x)).alloc o) (.bool r) (.bool x) := by
  have h1 := lr_cell (x := x) (Below.refl _ w) hM
  have hb : Below (w.setCell ⟨M, 0, none⟩ (.bool x)).heap.size (w.setCell ⟨M, 0, none⟩ (.bool x)) ((w.setCell ⟨M, 0, none⟩ (.bool x)).alloc o) := (Below.refl _ _).alloc (Nat.le_refl _) _
  exact ⟨⟨rfl, blk h1.1.2 hb⟩, h1.2.trans (Lr.of_below hb _)⟩

set_option maxHeartbeats 1000000 in
theorem visitId (M : Nat) : CVis 52 #[.pointer (some ⟨M, 0, none⟩)] M (M + 1) (StB M) (fun _ => 0) idStep := by
  intro r v k g l ts a3 c3 fp w hS hat hlt hBw _
  obtain ⟨rfl, hO⟩ := hS
  have hb0 : Below w.heap.size w (w.alloc (Obj.cells #[.int .i64 k, .int .i64 g, .int .i64 l, .slice a3 ts.length c3] 30)) := (Below.refl _ _).alloc (Nat.le_refl _) _
  have HE := hid (show idStep r (.mk k g l ts) = (r && (k == 1 || (k == 2 || k == 3))) from rfl)
  have hat1 := hat.below hb0
  have hMlt : M < w.heap.size := by omega
  have yM0 : w.cell? ⟨M, 0, none⟩ = some (.bool r) := by rw [cell_of_block hO]; rfl
  have yM : ((w.alloc (Obj.cells #[.int .i64 k, .int .i64 g, .int .i64 l, .slice a3 ts.length c3] 30))).cell? ⟨M, 0, none⟩ = some (.bool r) := cell_keep yM0 hb0
  have yz0 : w.frozen? ⟨M, 0, none⟩ = false := frozen_of_block hO
  have HO := hid hO
  clear hat hlt hO
  cases r
  · have HF := hid (fun (x : Bool) => lr_cell2 (o := (Obj.cells #[.int .i64 k, .int .i64 g, .int .i64 l, .slice a3 ts.length c3] 30)) (x := x) HO.out)
    rw [Bool.false_and] at HE
    go_enter Try.func52, Try.ntmps52
    go_wp2_with fail
    first | go_ret | go_end0
    obtain ⟨q1, q2⟩ := HF.out false
    exact ⟨⟨_, rfl⟩, _, by rw [HE.out]; exact q1, q2⟩
  by_cases h1 : k = 1
  · subst h1
    have HF := hid (fun (x : Bool) => lr_cell2 (o := (Obj.cells #[.int .i64 1, .int .i64 g, .int .i64 l, .slice a3 ts.length c3] 30)) (x := x) HO.out)
    go_enter Try.func52, Try.ntmps52
    go_wp2_with fail
    first | go_ret | go_end0
    obtain ⟨q1, q2⟩ := HF.out true
    exact ⟨⟨_, rfl⟩, _, by rw [HE.out]; exact q1, q2⟩
  have e1 : (k == 1) = false := by simpa using h1
  rw [e1, Bool.false_or, Bool.true_and] at HE
  go_enter Try.func52, Try.ntmps52
  go_wp2_with fail
  refine (isFunOrPair_any _ _ _ _ hat1).mono ?_
  rintro e w1 ⟨rfl, hb1⟩
  have hbb := below_trans hb0 hb1
  have HF := hid (fun (x : Bool) => lr_cell (x := x) hbb HO.out)
  have yM1 : w1.cell? ⟨M, 0, none⟩ = some (.bool true) := cell_keep yM hb1
  have hM1 := frozen_of_block (o := 0) (blk HO.out hbb)
  rw [fp_mk, ← HE.out]
  generalize hx : idStep true (.mk k g l ts) = x
  have HX := hid hx
  clear hx HE
  go_wp2_with fail
  first | go_ret | go_end0
  obtain ⟨q1, q2⟩ := HF.out x
  exact ⟨⟨_, rfl⟩, _, by rw [HX.out]; exact q1, q2⟩

set_option maxHeartbeats 1000000 in
theorem implCoercionIdentity (t : Co) (v : Value) (fp : List Nat) (w : World) (hat : t.At w v fp) (hn : t.cnt ≤ 1048576) :
    Calls Try.prog 20 #[v] w fun e w' => e = .returned (.bool (idV t)) ∧ Below w.heap.size w w' := by
  have hlt := hat.lt
  obtain ⟨k, g, l, n, a, cap, rfl⟩ := hat.agg
  have hb0 : Below w.heap.size w (w.alloc (Obj.cells #[.int .i64 k, .int .i64 g, .int .i64 l, .slice a n cap] 30)) := (Below.refl _ _).alloc (Nat.le_refl _) _
  have hat1 := hat.below hb0
  have HV := hid (implCoercionValid_any t _ _ _ hat1)
  have HT := hid (show idV t = (vldK t && idC t) from rfl)
  have HLT := hid hlt
  clear hlt
  generalize vldK t = r at *
  go_enter Try.func20, Try.ntmps20
  go_wp2_with fail
  refine HV.out.mono ?_
  rintro e w1 ⟨rfl, hb1⟩
  cases r
  · go_wp2_with fail
    go_ret
    exact ⟨ret_b (by rw [HT.out, Bool.false_and]), alloc1 hb1⟩
  rw [Bool.true_and] at HT
  have b1 := below_trans hb0 hb1
  obtain ⟨z0, z1, z2, z3⟩ := box4 hb1
  have hal : Below w1.heap.size w1 (w1.alloc (Obj.cells #[.bool true] 4)) := (Below.refl _ _).alloc (Nat.le_refl _) _
  have hs1 : (w1.alloc (Obj.cells #[.bool true] 4)).heap.size = w1.heap.size + 1 := by simp
  replace z0 := cell_keep z0 hal
  replace z1 := cell_keep z1 hal
  replace z2 := cell_keep z2 hal
  replace z3 := cell_keep z3 hal
  have HL := hid (show StB w1.heap.size true (.bool true) (w1.alloc (Obj.cells #[.bool true] 4)) from ⟨rfl, alloc_new _ _⟩)
  have HAT := hid ((hat.below b1).below hal)
  have HLT1 := hid (show ∀ x ∈ fp, x < w1.heap.size from fun x hx => Nat.lt_of_lt_of_le (HLT.out x hx) b1.size)
  have HB1 := hid b1
  have HAL := hid hal
  clear b1 hat hat1
  go_wp2_with fail
  refine (eachCo_any 52 #[.pointer (some ⟨w1.heap.size, 0, none⟩)] w1.heap.size (w1.heap.size + 1) (StB w1.heap.size) (fun _ => 0) idStep callOk_id (Nat.lt_succ_self _) (fun _ _ => by omega)
    (fun r v w w' h hb => ⟨h.1, blk h.2 hb⟩) (fun r v w h b hb => by rw [h.1] at hb; cases hb) (visitId w1.heap.size)
    t true (.bool true) _ fp _ HL.out HAT.out HLT1.out (Nat.le_of_eq hs1.symm) hn (show 0 + 2 * (t.cnt + 1) ≤ 4194300 by omega)).mono ?_
  rintro e w3 ⟨⟨r3, rfl⟩, v3, ⟨rfl, hO3⟩, hr3⟩
  have hc3 : w3.cell? ⟨w1.heap.size, 0, none⟩ = some (.bool (ccN idStep true t)) := by rw [cell_of_block hO3]; rfl
  have HB3 := hid (hr3.below (Nat.lt_succ_self _) (Nat.le_of_eq hs1.symm) (fun b hb => by cases hb))
  rw [idN_eq, Bool.true_and] at hc3
  clear hO3 hr3
  go_wp2_with fail
  go_ret
  exact ⟨ret_b HT.out.symm, HB1.out.trans ((HAL.out.trans HB3.out).mono HB1.out.size)⟩
end Go.Proofs.Ytolhfcpmhhhjpaa

namespace Go.Proofs.Ytolhfcpmhhhjpaa
open Go.RowKit

def HtC (t : Co) : Prop := ∀ (v : Value) (fp : List Nat) (w : World), t.At w v fp → t.cnt ≤ 1048576 →
  Calls Try.prog 67 #[v] w fun e w' => e = .returned (.int .i64 (hgt t)) ∧ Below w.heap.size w w'

set_option maxHeartbeats 1000000 in
theorem heightOf_of (k g l : Int) (ts : List Co) (ih : ∀ t ∈ ts, HtC t) : HtC (.mk k g l ts) := by
  intro v fp w hat hn
  have HIH := hid ih
  clear ih
  obtain ⟨s, rfl, hs⟩ := Co.at_mk.1 hat
  obtain ⟨a, cap, rfl, hc, hm, hget⟩ := hs.open
  have HG := hid hget
  have HN := hid (show ts.length + ccntL ts ≤ 1048576 by simpa only [Co.cnt] using hn)
  clear hget hat hs hn
  go_enter Try.func67, Try.ntmps67
  go_wp2_with fail
  go_loopw [3, 9] (fun n i wr => ∃ (j : Nat) (c : Int), j ≤ ts.length ∧ i = .int .i64 j ∧ n = .int .i64 c ∧ c = hgtL (ts.take j) ∧ 0 ≤ c ∧ c ≤ 1048577 ∧ Below (w.alloc (Obj.cells #[.int .i64 k, .int .i64 g, .int .i64 l, .slice a ts.length cap] 30)).heap.size (w.alloc (Obj.cells #[.int .i64 k, .int .i64 g, .int .i64 l, .slice a ts.length cap] 30)) wr) (fun _ i _ => ts.length - (intOf i).toNat)
  case atStart => exact ⟨0, 0, Nat.zero_le _, rfl, rfl, by simp [hgtL], by omega, by omega, Below.refl _ _⟩
  case round =>
    obtain ⟨j, c, hj, rfl, rfl, hcc, hc0, hc1, hb⟩ := hrel
    have HC := hid hcc
    clear hcc
    obtain ⟨x0, x1, x2, x3⟩ := box4 hb
    by_cases hlk : j < ts.length
    · obtain ⟨b, o, k1, g1, l1, n1, a1, cap1, f1, rfl, hblt, c0, c1, c2, c3, hat, hf⟩ := HG.out j hlk
      have hbw := alloc1 hb
      have d0 := (hbw.cell (p := ⟨b, o + j * 4, none⟩) hblt).trans c0
      have d1 := (hbw.cell (p := ⟨b, o + j * 4 + 1, none⟩) hblt).trans c1
      have d2 := (hbw.cell (p := ⟨b, o + j * 4 + 2, none⟩) hblt).trans c2
      have d3 := (hbw.cell (p := ⟨b, o + j * 4 + 3, none⟩) hblt).trans c3
      clear c0 c1 c2 c3
      have hbd := hgt_bd ts[j]
      have hle := ccnt_mem (List.getElem_mem hlk)
      have hle2 : ts[j].cnt ≤ 1048576 := by have := HN.out; omega
      have HST := hid (show max c (hgt ts[j]) = hgtL (ts.take (j + 1)) by rw [ctake_succ hlk, hgtL_snoc, ← HC.out])
      clear hle
      go_wp2_with fail
      refine (HIH.out _ (List.getElem_mem hlk) _ _ _ (hat.below ?_) hle2).mono ?_
      · exact hbw.alloc (by have := hbw.size; omega) _
      rintro e w1 ⟨rfl, hb1⟩
      have hbb := hb.trans ((alloc1 hb1).mono hb.size)
      clear hb hb1 hat d0 d1 d2 d3 hbw
      generalize hgt ts[j] = r at *
      by_cases hr : c < r
      · go_wp2_with fail
        go_roundw
        case rel => exact ⟨j + 1, r, by omega, by go_num, by first | rfl | (congr 1; omega), by rw [← HST.out]; omega, by omega, by omega, hbb⟩
        case measure => simp [intOf]; omega
      · go_wp2_with fail
        go_roundw
        case rel => exact ⟨j + 1, c, by omega, by go_num, by first | rfl | (congr 1; omega), by rw [← HST.out]; omega, by omega, by omega, hbb⟩
        case measure => simp [intOf]; omega
    · have hcl : c = hgtL ts := by rw [HC.out, List.take_of_length_le (by omega)]
      have HCL := hid hcl
      have hbb := alloc1 hb
      clear hcl
      by_cases q4 : k = 4
      · subst q4
        have HT := hid (show hgt (.mk 4 g l ts) = hgtL ts by simp [hgt])
        go_wp2_with fail
        go_ret
        exact ⟨ret_i (by rw [HT.out, HCL.out]), hbb⟩
      have q41 : (k == 4) = false := by simpa using q4
      by_cases q5 : k = 5
      · subst q5
        have HT := hid (show hgt (.mk 5 g l ts) = hgtL ts by simp [hgt])
        go_wp2_with fail
        go_ret
        exact ⟨ret_i (by rw [HT.out, HCL.out]), hbb⟩
      have q51 : (k == 5) = false := by simpa using q5
      have HT := hid (show hgt (.mk k g l ts) = hgtL ts + 1 by simp [hgt, q4, q5])
      go_wp2_with fail
      go_ret
      exact ⟨ret_i (by rw [HT.out, HCL.out]), hbb⟩

theorem heightOf_any : ∀ t : Co, HtC t := Co.ind heightOf_of

/-- The document's CoercionHeight. -/
def hgtV (t : Co) : Int := if vldK t then hgt t else 0

set_option maxHeartbeats 400000 in
theorem implCoercionHeight (t : Co) (v : Value) (fp : List Nat) (w : World) (hat : t.At w v fp) (hn : t.cnt ≤ 1048576) :
    Calls Try.prog 27 #[v] w fun e w' => e = .returned (.int .i64 (hgtV t)) ∧ Below w.heap.size w w' := by
  obtain ⟨k, g, l, m, a, cap, rfl⟩ := hat.agg
  have hB : Below w.heap.size w (w.alloc (Obj.cells #[.int .i64 k, .int .i64 g, .int .i64 l, .slice a m cap] 30)) := (Below.refl _ _).alloc (Nat.le_refl _) _
  have hat1 := hat.below hB
  cases hv : vldK t with
  | false =>
    have HT := hid (show hgtV t = 0 by simp [hgtV, hv])
    have HV := hid hv
    clear hv
    go_enter Try.func27, Try.ntmps27
    go_wp2_with fail
    refine (implCoercionValid_any t _ _ _ hat1).mono ?_
    rintro e w1 ⟨he, hb⟩
    rw [HV.out] at he
    subst he
    go_wp2_with fail
    go_ret
    exact ⟨ret_i HT.out.symm, alloc1 hb⟩
  | true =>
    have HT := hid (show hgtV t = hgt t by simp [hgtV, hv])
    have HV := hid hv
    clear hv
    go_enter Try.func27, Try.ntmps27
    go_wp2_with fail
    refine (implCoercionValid_any t _ _ _ hat1).mono ?_
    rintro e w1 ⟨he, hb⟩
    rw [HV.out] at he
    subst he
    obtain ⟨x0, x1, x2, x3⟩ := box4 hb
    go_wp2_with fail
    refine (heightOf_any t _ _ _ (hat1.below hb) hn).mono ?_
    rintro e w2 ⟨rfl, hb2⟩
    have hbb := below_trans (alloc1 hb) hb2
    go_wp2_with fail
    go_ret
    exact ⟨ret_i HT.out.symm, hbb⟩

end Go.Proofs.Ytolhfcpmhhhjpaa
