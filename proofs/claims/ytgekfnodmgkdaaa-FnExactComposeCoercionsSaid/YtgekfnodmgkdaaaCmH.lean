/- The specification's l6Two of two functions or of two pairs; composition, by induction. -/
import Derived.Test.YtgekfnodmgkdaaaCmG
import Derived.Deep.DeepCutAuto
namespace Go.Proofs.Ytgekfnodmgkdaaa
open Go.RowKit

/-- A variable that holds what a composition handed back. -/
def VarO (Z : World) (o : Option Co) (b lo : Nat) (k g l : Int) (a : Option Addr) (n cap : Nat) (wS : World) : Prop :=
  wS.heap[b]? = some (Obj.cells #[.int .i64 k, .int .i64 g, .int .i64 l, .slice a n cap] 44) ∧ (∀ c, o = some c → ∃ fp, c.At wS (.agg #[.int .i64 k, .int .i64 g, .int .i64 l, .slice a n cap]) fp ∧ Fresh lo wS fp) ∧ Below Z.heap.size Z wS

/-- What a cut behind such a store says. -/
def CutO (Z : World) (o : Option Co) (s q : Value) (wx : World) : Prop :=
  ∃ (b : Nat) (r : Bool) (k g l : Int) (a : Option Addr) (n cap : Nat), s = .pointer (some ⟨b, 0, none⟩) ∧ q = .bool r ∧ o.isSome = r ∧ Z.heap.size ≤ b ∧ VarO Z o b Z.heap.size k g l a n cap wx

theorem cutO_alloc {Z X wq : World} {o : Option Co} {k g l : Int} {a : Option Addr} {n cap : Nat} (h : ∀ c, o = some c → ∃ fp, c.At X (.agg #[.int .i64 k, .int .i64 g, .int .i64 l, .slice a n cap]) fp ∧ Fresh wq.heap.size X fp) (hq : Z.heap.size ≤ wq.heap.size) (hB : Below Z.heap.size Z X) :
    CutO Z o (.pointer (some ⟨X.heap.size, 0, none⟩)) (.bool o.isSome) (X.alloc (Obj.cells #[.int .i64 k, .int .i64 g, .int .i64 l, .slice a n cap] 44)) := by
  refine ⟨_, _, k, g, l, a, n, cap, rfl, rfl, rfl, hB.size, alloc_new _ _, fun c hc => ?_, hB.alloc hB.size _⟩
  obtain ⟨fp, hat, hf⟩ := h c hc
  have al := (Below.refl X.heap.size X).alloc (Nat.le_refl _) (Obj.cells #[.int .i64 k, .int .i64 g, .int .i64 l, .slice a n cap] 44)
  exact ⟨fp, hat.below al, (hf.below al).mono hq⟩

theorem varO_stores {Z X : World} {b lo : Nat} {o : Option Co} {x0 x1 x2 x3 : Value} {k g l : Int} {a : Option Addr} {n cap : Nat} (hE : X.heap[b]? = some (Obj.cells #[x0, x1, x2, x3] 44)) (h : ∀ c, o = some c → ∃ fp, c.At X (.agg #[.int .i64 k, .int .i64 g, .int .i64 l, .slice a n cap]) fp ∧ Fresh lo X fp) (hlo : b < lo) (hb : Z.heap.size ≤ b) (hB : Below Z.heap.size Z X) :
    VarO Z o b Z.heap.size k g l a n cap ((((X.setCell ⟨b, 0, none⟩ (.int .i64 k)).setCell ⟨b, 1, none⟩ (.int .i64 g)).setCell ⟨b, 2, none⟩ (.int .i64 l)).setCell ⟨b, 3, none⟩ (.slice a n cap)) := by
  have h1 : VarO Z o b Z.heap.size k g l a n cap (put4 X b 0 (.int .i64 k) (.int .i64 g) (.int .i64 l) (.slice a n cap)) := by
    refine ⟨heap_setCell_at (heap_setCell_at (heap_setCell_at (heap_setCell_at hE _) _) _) _, fun c hc => ?_, put4_below hB hb _ _ _ _⟩
    obtain ⟨fp, hat, hf⟩ := h c hc
    exact ⟨fp, hat.above (put4_above hlo _ _ _ _) hf.ge, (hf.above (put4_above hlo _ _ _ _) (Nat.le_refl _)).mono (by omega)⟩
  simpa only [put4, Nat.zero_add] using h1

theorem cutO_stores {Z X wq : World} {o : Option Co} {x0 x1 x2 x3 : Value} {k g l : Int} {a : Option Addr} {n cap : Nat} (hE : X.heap[Z.heap.size]? = some (Obj.cells #[x0, x1, x2, x3] 44)) (h : ∀ c, o = some c → ∃ fp, c.At X (.agg #[.int .i64 k, .int .i64 g, .int .i64 l, .slice a n cap]) fp ∧ Fresh wq.heap.size X fp) (hq : Z.heap.size < wq.heap.size) (hB : Below Z.heap.size Z X) :
    CutO Z o (.pointer (some ⟨Z.heap.size, 0, none⟩)) (.bool o.isSome) ((((X.setCell ⟨Z.heap.size, 0, none⟩ (.int .i64 k)).setCell ⟨Z.heap.size, 1, none⟩ (.int .i64 g)).setCell ⟨Z.heap.size, 2, none⟩ (.int .i64 l)).setCell ⟨Z.heap.size, 3, none⟩ (.slice a n cap)) :=
  ⟨_, _, k, g, l, a, n, cap, rfl, rfl, rfl, Nat.le_refl _, varO_stores hE h hq (Nat.le_refl _) hB⟩

/-- A node of two operands, made of what two compositions handed back. -/
theorem two_rowO {wS : World} {lo : Nat} {c1 c2 : Co} {x0 x1 x2 x3 y0 y1 y2 y3 : Value} {k : Int} {f1 f2 : List Nat} {B' : Nat} {w1 : World} (h1 : c1.At wS (.agg #[x0, x1, x2, x3]) f1) (h2 : c2.At wS (.agg #[y0, y1, y2, y3]) f2) (g1 : Fresh lo w1 f1) (g2 : Fresh B' wS f2) (hB : w1.heap.size ≤ B') (hlo : lo ≤ w1.heap.size) (hb : Below w1.heap.size w1 wS) (hlS : lo ≤ wS.heap.size) :
    ∃ fp, (Co.mk k 0 0 [c1, c2]).At (wS.alloc (Obj.cells #[x0, x1, x2, x3, y0, y1, y2, y3] 44)) (.agg #[.int .i64 k, .int .i64 0, .int .i64 0, .slice (some ⟨wS.heap.size, 0, none⟩) 2 2]) fp ∧ Fresh lo (wS.alloc (Obj.cells #[x0, x1, x2, x3, y0, y1, y2, y3] 44)) fp := by
  have al := (Below.refl wS.heap.size wS).alloc (Nat.le_refl _) (Obj.cells #[x0, x1, x2, x3, y0, y1, y2, y3] 44)
  have fr := g1.append g2 hB (by omega) hb
  exact ⟨_, co_two (alloc_new _ _) (h1.below al) (h2.below al), Fresh.row (fr.below al) (alloc_new _ _) hlS (fun x hx => (fr.2 x hx).2.1)⟩

set_option maxRecDepth 100000 in
set_option maxHeartbeats 4000000 in
theorem l6Two_two2 (n : Nat) (ih : CmC n) (la lb : Int) (a1 a2 b1 b2 : Co) (d d' : Nat) (va vb : Value) (fa fb : List Nat) (w : World) (hd : d + d' ≤ n) (hd1 : d ≤ 9) (hd2 : d' ≤ 9) (hs1 : shpK d a1 = true) (hs2 : shpK d a2 = true) (ht1 : shpK d' b1 = true) (ht2 : shpK d' b2 = true) (hata : (Co.mk 2 0 la [a1, a2]).At w va fa) (hatb : (Co.mk 2 0 lb [b1, b2]).At w vb fb) :
    Calls Try.prog 54 #[va, vb] w (MadeO w (bothC 2 (cmpo n b1 a1) (cmpo n a2 b2))) := by
  obtain ⟨sa, rfl, hsa⟩ := Co.at_mk.1 hata
  obtain ⟨sb, rfl, hsb⟩ := Co.at_mk.1 hatb
  obtain ⟨ba, oa, ca, ka1, ga1, la1, na1, aa1, ca1, ka2, ga2, la2, na2, aa2, ca2, f1, f2, rfl, hba, d0, d1, d2, d3, d4, d5, d6, d7, hA1, hA2, _, hca⟩ := hsa.two
  obtain ⟨bb, ob, cb, kb1, gb1, lb1, nb1, ab1, cb1, kb2, gb2, lb2, nb2, ab2, cb2, g1, g2, rfl, hbb, e0, e1, e2, e3, e4, e5, e6, e7, hB1, hB2, _, hcb⟩ := hsb.two
  have hb0 : Below w.heap.size w (((w.alloc (Obj.cells #[.int .i64 2, .int .i64 0, .int .i64 la, .slice (some ⟨ba, oa, none⟩) 2 ca] 44)).alloc (Obj.cells #[.int .i64 2, .int .i64 0, .int .i64 lb, .slice (some ⟨bb, ob, none⟩) 2 cb] 44)).alloc (Obj.cells #[.int .i64 0, .int .i64 0, .int .i64 0, .slice none 0 0] 44)) := (((Below.refl _ _).alloc (Nat.le_refl _) _).alloc (by simp) _).alloc (by simp; omega) _
  have hs0 : ((((w.alloc (Obj.cells #[.int .i64 2, .int .i64 0, .int .i64 la, .slice (some ⟨ba, oa, none⟩) 2 ca] 44)).alloc (Obj.cells #[.int .i64 2, .int .i64 0, .int .i64 lb, .slice (some ⟨bb, ob, none⟩) 2 cb] 44)).alloc (Obj.cells #[.int .i64 0, .int .i64 0, .int .i64 0, .slice none 0 0] 44))).heap.size = w.heap.size + 1 + 1 + 1 := by simp
  obtain ⟨bA, bB, bZ⟩ := three3 (Below.refl ((((w.alloc (Obj.cells #[.int .i64 2, .int .i64 0, .int .i64 la, .slice (some ⟨ba, oa, none⟩) 2 ca] 44)).alloc (Obj.cells #[.int .i64 2, .int .i64 0, .int .i64 lb, .slice (some ⟨bb, ob, none⟩) 2 cb] 44)).alloc (Obj.cells #[.int .i64 0, .int .i64 0, .int .i64 0, .slice none 0 0] 44))).heap.size (((w.alloc (Obj.cells #[.int .i64 2, .int .i64 0, .int .i64 la, .slice (some ⟨ba, oa, none⟩) 2 ca] 44)).alloc (Obj.cells #[.int .i64 2, .int .i64 0, .int .i64 lb, .slice (some ⟨bb, ob, none⟩) 2 cb] 44)).alloc (Obj.cells #[.int .i64 0, .int .i64 0, .int .i64 0, .slice none 0 0] 44)))
  have x0 : ((((w.alloc (Obj.cells #[.int .i64 2, .int .i64 0, .int .i64 la, .slice (some ⟨ba, oa, none⟩) 2 ca] 44)).alloc (Obj.cells #[.int .i64 2, .int .i64 0, .int .i64 lb, .slice (some ⟨bb, ob, none⟩) 2 cb] 44)).alloc (Obj.cells #[.int .i64 0, .int .i64 0, .int .i64 0, .slice none 0 0] 44))).cell? ⟨w.heap.size, 0, none⟩ = some (.int .i64 2) := by rw [cell_of_block bA]; rfl
  have x1 : ((((w.alloc (Obj.cells #[.int .i64 2, .int .i64 0, .int .i64 la, .slice (some ⟨ba, oa, none⟩) 2 ca] 44)).alloc (Obj.cells #[.int .i64 2, .int .i64 0, .int .i64 lb, .slice (some ⟨bb, ob, none⟩) 2 cb] 44)).alloc (Obj.cells #[.int .i64 0, .int .i64 0, .int .i64 0, .slice none 0 0] 44))).cell? ⟨w.heap.size, 1, none⟩ = some (.int .i64 0) := by rw [cell_of_block bA]; rfl
  have x2 : ((((w.alloc (Obj.cells #[.int .i64 2, .int .i64 0, .int .i64 la, .slice (some ⟨ba, oa, none⟩) 2 ca] 44)).alloc (Obj.cells #[.int .i64 2, .int .i64 0, .int .i64 lb, .slice (some ⟨bb, ob, none⟩) 2 cb] 44)).alloc (Obj.cells #[.int .i64 0, .int .i64 0, .int .i64 0, .slice none 0 0] 44))).cell? ⟨w.heap.size, 2, none⟩ = some (.int .i64 la) := by rw [cell_of_block bA]; rfl
  have x3 : ((((w.alloc (Obj.cells #[.int .i64 2, .int .i64 0, .int .i64 la, .slice (some ⟨ba, oa, none⟩) 2 ca] 44)).alloc (Obj.cells #[.int .i64 2, .int .i64 0, .int .i64 lb, .slice (some ⟨bb, ob, none⟩) 2 cb] 44)).alloc (Obj.cells #[.int .i64 0, .int .i64 0, .int .i64 0, .slice none 0 0] 44))).cell? ⟨w.heap.size, 3, none⟩ = some (.slice (some ⟨ba, oa, none⟩) 2 ca) := by rw [cell_of_block bA]; rfl
  have y0 : ((((w.alloc (Obj.cells #[.int .i64 2, .int .i64 0, .int .i64 la, .slice (some ⟨ba, oa, none⟩) 2 ca] 44)).alloc (Obj.cells #[.int .i64 2, .int .i64 0, .int .i64 lb, .slice (some ⟨bb, ob, none⟩) 2 cb] 44)).alloc (Obj.cells #[.int .i64 0, .int .i64 0, .int .i64 0, .slice none 0 0] 44))).cell? ⟨w.heap.size + 1, 0, none⟩ = some (.int .i64 2) := by rw [cell_of_block bB]; rfl
  have y1 : ((((w.alloc (Obj.cells #[.int .i64 2, .int .i64 0, .int .i64 la, .slice (some ⟨ba, oa, none⟩) 2 ca] 44)).alloc (Obj.cells #[.int .i64 2, .int .i64 0, .int .i64 lb, .slice (some ⟨bb, ob, none⟩) 2 cb] 44)).alloc (Obj.cells #[.int .i64 0, .int .i64 0, .int .i64 0, .slice none 0 0] 44))).cell? ⟨w.heap.size + 1, 1, none⟩ = some (.int .i64 0) := by rw [cell_of_block bB]; rfl
  have y2 : ((((w.alloc (Obj.cells #[.int .i64 2, .int .i64 0, .int .i64 la, .slice (some ⟨ba, oa, none⟩) 2 ca] 44)).alloc (Obj.cells #[.int .i64 2, .int .i64 0, .int .i64 lb, .slice (some ⟨bb, ob, none⟩) 2 cb] 44)).alloc (Obj.cells #[.int .i64 0, .int .i64 0, .int .i64 0, .slice none 0 0] 44))).cell? ⟨w.heap.size + 1, 2, none⟩ = some (.int .i64 lb) := by rw [cell_of_block bB]; rfl
  have y3 : ((((w.alloc (Obj.cells #[.int .i64 2, .int .i64 0, .int .i64 la, .slice (some ⟨ba, oa, none⟩) 2 ca] 44)).alloc (Obj.cells #[.int .i64 2, .int .i64 0, .int .i64 lb, .slice (some ⟨bb, ob, none⟩) 2 cb] 44)).alloc (Obj.cells #[.int .i64 0, .int .i64 0, .int .i64 0, .slice none 0 0] 44))).cell? ⟨w.heap.size + 1, 3, none⟩ = some (.slice (some ⟨bb, ob, none⟩) 2 cb) := by rw [cell_of_block bB]; rfl
  replace d0 := cell_keep d0 hb0
  replace e0 := cell_keep e0 hb0
  replace d1 := cell_keep d1 hb0
  replace e1 := cell_keep e1 hb0
  replace d2 := cell_keep d2 hb0
  replace e2 := cell_keep e2 hb0
  replace d3 := cell_keep d3 hb0
  replace e3 := cell_keep e3 hb0
  replace d4 := cell_keep d4 hb0
  replace e4 := cell_keep e4 hb0
  replace d5 := cell_keep d5 hb0
  replace e5 := cell_keep e5 hb0
  replace d6 := cell_keep d6 hb0
  replace e6 := cell_keep e6 hb0
  replace d7 := cell_keep d7 hb0
  replace e7 := cell_keep e7 hb0
  have hz0 : ((((w.alloc (Obj.cells #[.int .i64 2, .int .i64 0, .int .i64 la, .slice (some ⟨ba, oa, none⟩) 2 ca] 44)).alloc (Obj.cells #[.int .i64 2, .int .i64 0, .int .i64 lb, .slice (some ⟨bb, ob, none⟩) 2 cb] 44)).alloc (Obj.cells #[.int .i64 0, .int .i64 0, .int .i64 0, .slice none 0 0] 44))).cell? ⟨w.heap.size + 1 + 1, 0, none⟩ = some (.int .i64 0) := by rw [cell_of_block bZ]; rfl
  have H0 := hid (And.intro (And.intro (hA1.below hb0) (hA2.below hb0)) (And.intro (hB1.below hb0) (hB2.below hb0)))
  have HP := hid (And.intro hd (And.intro hd1 (And.intro hd2 (And.intro (And.intro hs1 hs2) (And.intro ht1 ht2)))))
  have HIH := hid ih
  have HB0 := hid hb0
  have HBZ := hid bZ
  clear ih hata hatb hsa hsb hA1 hA2 hB1 hB2 hd hd1 hd2 hs1 hs2 ht1 ht2 bA bB bZ hba hbb hca hcb hz0
  go_enter Try.func54, Try.ntmps54
  obtain ⟨Z, hZd⟩ : ∃ Z, Z = (((w.alloc (Obj.cells #[.int .i64 2, .int .i64 0, .int .i64 la, .slice (some ⟨ba, oa, none⟩) 2 ca] 44)).alloc (Obj.cells #[.int .i64 2, .int .i64 0, .int .i64 lb, .slice (some ⟨bb, ob, none⟩) 2 cb] 44)).alloc (Obj.cells #[.int .i64 0, .int .i64 0, .int .i64 0, .slice none 0 0] 44)) := ⟨_, rfl⟩
  rw [← hZd] at hb0 hs0 H0 HB0 HBZ x0 x1 x2 x3 y0 y1 y2 y3 d0 d1 d2 d3 d4 d5 d6 d7 e0 e1 e2 e3 e4 e5 e6 e7
  have HZS := hid hs0
  have hlo : w.heap.size + 1 + 1 + 1 ≤ Z.heap.size := by omega
  clear hb0 hs0
  have HS0 := hid (show ∀ w', Below Z.heap.size Z w' → (fun w' => w'.cell? ⟨w.heap.size, 0, none⟩ = some (.int .i64 2) ∧ w'.cell? ⟨w.heap.size, 1, none⟩ = some (.int .i64 0) ∧ w'.cell? ⟨w.heap.size, 2, none⟩ = some (.int .i64 la) ∧ w'.cell? ⟨w.heap.size, 3, none⟩ = some (.slice (some ⟨ba, oa, none⟩) 2 ca) ∧ w'.cell? ⟨w.heap.size + 1, 0, none⟩ = some (.int .i64 2) ∧ w'.cell? ⟨w.heap.size + 1, 1, none⟩ = some (.int .i64 0) ∧ w'.cell? ⟨w.heap.size + 1, 2, none⟩ = some (.int .i64 lb) ∧ w'.cell? ⟨w.heap.size + 1, 3, none⟩ = some (.slice (some ⟨bb, ob, none⟩) 2 cb) ∧ w'.cell? ⟨ba, oa, none⟩ = some (.int .i64 ka1) ∧ w'.cell? ⟨ba, oa + 1, none⟩ = some (.int .i64 ga1) ∧ w'.cell? ⟨ba, oa + 2, none⟩ = some (.int .i64 la1) ∧ w'.cell? ⟨ba, oa + 3, none⟩ = some (.slice aa1 na1 ca1) ∧ w'.cell? ⟨ba, oa + 4, none⟩ = some (.int .i64 ka2) ∧ w'.cell? ⟨ba, oa + 4 + 1, none⟩ = some (.int .i64 ga2) ∧ w'.cell? ⟨ba, oa + 4 + 2, none⟩ = some (.int .i64 la2) ∧ w'.cell? ⟨ba, oa + 4 + 3, none⟩ = some (.slice aa2 na2 ca2) ∧ w'.cell? ⟨bb, ob, none⟩ = some (.int .i64 kb1) ∧ w'.cell? ⟨bb, ob + 1, none⟩ = some (.int .i64 gb1) ∧ w'.cell? ⟨bb, ob + 2, none⟩ = some (.int .i64 lb1) ∧ w'.cell? ⟨bb, ob + 3, none⟩ = some (.slice ab1 nb1 cb1) ∧ w'.cell? ⟨bb, ob + 4, none⟩ = some (.int .i64 kb2) ∧ w'.cell? ⟨bb, ob + 4 + 1, none⟩ = some (.int .i64 gb2) ∧ w'.cell? ⟨bb, ob + 4 + 2, none⟩ = some (.int .i64 lb2) ∧ w'.cell? ⟨bb, ob + 4 + 3, none⟩ = some (.slice ab2 nb2 cb2)) w' from fun w' h => ⟨cell_keep x0 h, cell_keep x1 h, cell_keep x2 h, cell_keep x3 h, cell_keep y0 h, cell_keep y1 h, cell_keep y2 h, cell_keep y3 h, cell_keep d0 h, cell_keep d1 h, cell_keep d2 h, cell_keep d3 h, cell_keep d4 h, cell_keep d5 h, cell_keep d6 h, cell_keep d7 h, cell_keep e0 h, cell_keep e1 h, cell_keep e2 h, cell_keep e3 h, cell_keep e4 h, cell_keep e5 h, cell_keep e6 h, cell_keep e7 h⟩)
  go_wp2_with fail
  rw [← hZd]
  clear hZd
  go_cut [6, 7] (fun sx sq wx => CutO Z (cmpo n a1 b1) sx sq wx)
  case first =>
    refine regionL (s := 13) (S0 := (fun w' => w'.cell? ⟨w.heap.size, 0, none⟩ = some (.int .i64 2) ∧ w'.cell? ⟨w.heap.size, 1, none⟩ = some (.int .i64 0) ∧ w'.cell? ⟨w.heap.size, 2, none⟩ = some (.int .i64 la) ∧ w'.cell? ⟨w.heap.size, 3, none⟩ = some (.slice (some ⟨ba, oa, none⟩) 2 ca) ∧ w'.cell? ⟨w.heap.size + 1, 0, none⟩ = some (.int .i64 2) ∧ w'.cell? ⟨w.heap.size + 1, 1, none⟩ = some (.int .i64 0) ∧ w'.cell? ⟨w.heap.size + 1, 2, none⟩ = some (.int .i64 lb) ∧ w'.cell? ⟨w.heap.size + 1, 3, none⟩ = some (.slice (some ⟨bb, ob, none⟩) 2 cb) ∧ w'.cell? ⟨ba, oa, none⟩ = some (.int .i64 ka1) ∧ w'.cell? ⟨ba, oa + 1, none⟩ = some (.int .i64 ga1) ∧ w'.cell? ⟨ba, oa + 2, none⟩ = some (.int .i64 la1) ∧ w'.cell? ⟨ba, oa + 3, none⟩ = some (.slice aa1 na1 ca1) ∧ w'.cell? ⟨ba, oa + 4, none⟩ = some (.int .i64 ka2) ∧ w'.cell? ⟨ba, oa + 4 + 1, none⟩ = some (.int .i64 ga2) ∧ w'.cell? ⟨ba, oa + 4 + 2, none⟩ = some (.int .i64 la2) ∧ w'.cell? ⟨ba, oa + 4 + 3, none⟩ = some (.slice aa2 na2 ca2) ∧ w'.cell? ⟨bb, ob, none⟩ = some (.int .i64 kb1) ∧ w'.cell? ⟨bb, ob + 1, none⟩ = some (.int .i64 gb1) ∧ w'.cell? ⟨bb, ob + 2, none⟩ = some (.int .i64 lb1) ∧ w'.cell? ⟨bb, ob + 3, none⟩ = some (.slice ab1 nb1 cb1) ∧ w'.cell? ⟨bb, ob + 4, none⟩ = some (.int .i64 kb2) ∧ w'.cell? ⟨bb, ob + 4 + 1, none⟩ = some (.int .i64 gb2) ∧ w'.cell? ⟨bb, ob + 4 + 2, none⟩ = some (.int .i64 lb2) ∧ w'.cell? ⟨bb, ob + 4 + 3, none⟩ = some (.slice ab2 nb2 cb2))) (S1 := (fun _ => True)) (by kernel_rfl) (HS0.out _ (below_drew _)) (trivial) (fun hS0 => ?_)
    refine takeL0 (i := 0) (v := ?vp1) rfl rfl (by kernel_rfl) (by kernel_rfl) (by kernel_rfl) (by decide) (by kernel_rfl) (by kernel_rfl) (fun _ _ _ h => h) (Or.inl ⟨by rfl, ?hyp1⟩) (by assumption) ?_
    case hyp1 => (intro w hSw; (try dsimp only at hSw); go_simp; (try with_reducible rfl))
    try simp only [Act.put, List.setIfInBounds_toArray, List.set_cons_zero, List.set_cons_succ]
    refine takeL0 (i := 1) (v := ?vp2) rfl rfl (by kernel_rfl) (by kernel_rfl) (by kernel_rfl) (by decide) (by kernel_rfl) (by kernel_rfl) (fun _ _ _ h => h) (Or.inl ⟨by rfl, ?hyp2⟩) (by assumption) ?_
    case hyp2 => (intro w hSw; (try dsimp only at hSw); go_simp; (try with_reducible rfl))
    try simp only [Act.put, List.setIfInBounds_toArray, List.set_cons_zero, List.set_cons_succ]
    refine takeL0 (i := 2) (v := ?vp3) rfl rfl (by kernel_rfl) (by kernel_rfl) (by kernel_rfl) (by decide) (by kernel_rfl) (by kernel_rfl) (fun _ _ _ h => h) (Or.inl ⟨by rfl, ?hyp3⟩) (by assumption) ?_
    case hyp3 => (intro w hSw; (try dsimp only at hSw); go_simp; (try with_reducible rfl))
    try simp only [Act.put, List.setIfInBounds_toArray, List.set_cons_zero, List.set_cons_succ]
    refine takeL0 (i := 3) (v := ?vp4) rfl rfl (by kernel_rfl) (by kernel_rfl) (by kernel_rfl) (by decide) (by kernel_rfl) (by kernel_rfl) (fun _ _ _ h => h) (Or.inl ⟨by rfl, ?hyp4⟩) (by assumption) ?_
    case hyp4 => (intro w hSw; (try dsimp only at hSw); go_simp; (try with_reducible rfl))
    try simp only [Act.put, List.setIfInBounds_toArray, List.set_cons_zero, List.set_cons_succ]
    refine takeL0 (i := 4) (v := ?vp5) rfl rfl (by kernel_rfl) (by kernel_rfl) (by kernel_rfl) (by decide) (by kernel_rfl) (by kernel_rfl) (fun _ _ _ h => h) (Or.inl ⟨by rfl, ?hyp5⟩) (by assumption) ?_
    case hyp5 => (intro w hSw; (try dsimp only at hSw); go_simp; (try with_reducible rfl))
    try simp only [Act.put, List.setIfInBounds_toArray, List.set_cons_zero, List.set_cons_succ]
    refine takeL0 (i := 5) (v := ?vp6) rfl rfl (by kernel_rfl) (by kernel_rfl) (by kernel_rfl) (by decide) (by kernel_rfl) (by kernel_rfl) (fun _ _ _ h => h) (Or.inl ⟨by rfl, ?hyp6⟩) (by assumption) ?_
    case hyp6 => (intro w hSw; (try dsimp only at hSw); go_simp; (try with_reducible rfl))
    try simp only [Act.put, List.setIfInBounds_toArray, List.set_cons_zero, List.set_cons_succ]
    refine takeL0 (i := 6) (v := ?vp7) rfl rfl (by kernel_rfl) (by kernel_rfl) (by kernel_rfl) (by decide) (by kernel_rfl) (by kernel_rfl) (fun _ _ _ h => h) (Or.inl ⟨by rfl, ?hyp7⟩) (by assumption) ?_
    case hyp7 => (intro w hSw; (try dsimp only at hSw); go_simp; (try with_reducible rfl))
    try simp only [Act.put, List.setIfInBounds_toArray, List.set_cons_zero, List.set_cons_succ]
    refine takeL0 (i := 7) (v := ?vp8) rfl rfl (by kernel_rfl) (by kernel_rfl) (by kernel_rfl) (by decide) (by kernel_rfl) (by kernel_rfl) (fun _ _ _ h => h) (Or.inl ⟨by rfl, ?hyp8⟩) (by assumption) ?_
    case hyp8 => (intro w hSw; (try dsimp only at hSw); go_simp; (try with_reducible rfl))
    try simp only [Act.put, List.setIfInBounds_toArray, List.set_cons_zero, List.set_cons_succ]
    refine readyL (rs := [8, 12]) (by kernel_rfl) (by simp) ?_
    refine AllReadyL.cons rfl (fun K hK => ?_) ?_
    · go_simp
      refine (cm_from HIH.out (W0 := Z) (below_drew Z) (by have := HP.out.1; omega) HP.out.2.1 HP.out.2.2.1 HP.out.2.2.2.1.1 HP.out.2.2.2.2.1 H0.out.1.1 H0.out.2.1).mono ?_
      rintro e w1 ⟨⟨p0, p1, p2, pa, pn, pc, rfl, hb1, hO⟩, hU⟩
      have hB1 := below_trans hU hb1
      have hU1 := hU.size
      refine hK.out _ _ ?_ (fun hS1 => ?_)
      · exact ⟨trivial, fun _ => HS0.out _ hB1⟩
      clear hK K hS0
      try simp only [Act.put, List.setIfInBounds_toArray, List.set_cons_zero, List.set_cons_succ]
      refine takeL0 (i := 9) (v := ?vp9) rfl rfl (by kernel_rfl) (by kernel_rfl) (by kernel_rfl) (by decide) (by kernel_rfl) (by kernel_rfl) (fun _ _ _ h => h) (Or.inl ⟨by rfl, ?hyp9⟩) (by assumption) ?_
      case hyp9 => (intro w hSw; (try dsimp only at hSw); go_simp; (try with_reducible rfl))
      try simp only [Act.put, List.setIfInBounds_toArray, List.set_cons_zero, List.set_cons_succ]
      refine readyL (rs := [10, 11, 12]) (by kernel_rfl) (by simp) ?_
      refine AllReadyL.cons rfl (fun K hK => ?_) ?_
      · go_simp
        refine hK.out _ _ ?_ (fun hS2 => ?_)
        · exact ⟨trivial, fun _ => HS0.out _ hB1⟩
        clear hK K hS1
        try simp only [Act.put, List.setIfInBounds_toArray, List.set_cons_zero, List.set_cons_succ]
        refine readyL (rs := [11, 12]) (by kernel_rfl) (by simp) ?_
        refine AllReadyL.cons rfl (fun K hK => ?_) ?_
        · go_simp
          refine hK.out _ _ ?_ (fun hS3 => ?_)
          · exact ⟨trivial, fun _ => HS0.out _ hB1⟩
          clear hK K hS2
          try simp only [Act.put, List.setIfInBounds_toArray, List.set_cons_zero, List.set_cons_succ]
          refine readyL (rs := [12]) (by kernel_rfl) (by simp) ?_
          refine AllReadyL.cons rfl (fun K hK => ?_) AllReadyL.nil
          go_simp
          refine hK.out _ _ ?_ (fun hS4 => ?_)
          · exact ⟨trivial, fun _ => HS0.out _ (hB1.alloc hB1.size _)⟩
          clear hK K hS3
          try simp only [Act.put, List.setIfInBounds_toArray, List.set_cons_zero, List.set_cons_succ]
          refine readyL (rs := [13]) (by kernel_rfl) (by simp) ?_
          refine AllReadyL.cons rfl (fun K hK => ?_) AllReadyL.nil
          go_simp
          refine hK.out _ _ ?_ (fun hS5 => ?_)
          · exact ⟨trivial, fun h => absurd (h.symm.trans (show _ = true by kernel_rfl)) (by decide)⟩
          clear hK K hS4
          try simp only [Act.put, List.setIfInBounds_toArray, List.set_cons_zero, List.set_cons_succ]
          refine readyL (rs := [14]) (by kernel_rfl) (by simp) ?_
          refine AllReadyL.cons rfl (fun K hK => ?_) AllReadyL.nil
          go_simp
          refine hK.out _ _ ?_ (fun hS6 => ?_)
          · exact ⟨trivial, fun h => absurd (h.symm.trans (show _ = true by kernel_rfl)) (by decide)⟩
          clear hK K hS5
          try simp only [Act.put, List.setIfInBounds_toArray, List.set_cons_zero, List.set_cons_succ]
          refine doneL (by kernel_rfl) ?_ _
          go_wp2_with fail
          go_meet
          exact cutO_alloc hO hU1 hB1
        refine AllReadyL.cons rfl (fun K hK => ?_) AllReadyL.nil
        go_simp
        refine hK.out _ _ ?_ (fun hS3 => ?_)
        · exact ⟨trivial, fun _ => HS0.out _ (hB1.alloc hB1.size _)⟩
        clear hK K hS2
        try simp only [Act.put, List.setIfInBounds_toArray, List.set_cons_zero, List.set_cons_succ]
        refine readyL (rs := [11, 13]) (by kernel_rfl) (by simp) ?_
        refine AllReadyL.cons rfl (fun K hK => ?_) ?_
        · go_simp
          refine hK.out _ _ ?_ (fun hS4 => ?_)
          · exact ⟨trivial, fun _ => HS0.out _ (hB1.alloc hB1.size _)⟩
          clear hK K hS3
          try simp only [Act.put, List.setIfInBounds_toArray, List.set_cons_zero, List.set_cons_succ]
          refine readyL (rs := [13]) (by kernel_rfl) (by simp) ?_
          refine AllReadyL.cons rfl (fun K hK => ?_) AllReadyL.nil
          go_simp
          refine hK.out _ _ ?_ (fun hS5 => ?_)
          · exact ⟨trivial, fun h => absurd (h.symm.trans (show _ = true by kernel_rfl)) (by decide)⟩
          clear hK K hS4
          try simp only [Act.put, List.setIfInBounds_toArray, List.set_cons_zero, List.set_cons_succ]
          refine readyL (rs := [14]) (by kernel_rfl) (by simp) ?_
          refine AllReadyL.cons rfl (fun K hK => ?_) AllReadyL.nil
          go_simp
          refine hK.out _ _ ?_ (fun hS6 => ?_)
          · exact ⟨trivial, fun h => absurd (h.symm.trans (show _ = true by kernel_rfl)) (by decide)⟩
          clear hK K hS5
          try simp only [Act.put, List.setIfInBounds_toArray, List.set_cons_zero, List.set_cons_succ]
          refine doneL (by kernel_rfl) ?_ _
          go_wp2_with fail
          go_meet
          exact cutO_alloc hO hU1 hB1
        refine AllReadyL.cons rfl (fun K hK => ?_) AllReadyL.nil
        go_simp
        refine hK.out _ _ ?_ (fun hS4 => ?_)
        · exact ⟨trivial, fun h => absurd (h.symm.trans (show _ = true by kernel_rfl)) (by decide)⟩
        clear hK K hS3
        try simp only [Act.put, List.setIfInBounds_toArray, List.set_cons_zero, List.set_cons_succ]
        refine readyL (rs := [11]) (by kernel_rfl) (by simp) ?_
        refine AllReadyL.cons rfl (fun K hK => ?_) AllReadyL.nil
        go_simp
        refine hK.out _ _ ?_ (fun hS5 => ?_)
        · exact ⟨trivial, fun h => absurd (h.symm.trans (show _ = true by kernel_rfl)) (by decide)⟩
        clear hK K hS4
        try simp only [Act.put, List.setIfInBounds_toArray, List.set_cons_zero, List.set_cons_succ]
        refine readyL (rs := [14]) (by kernel_rfl) (by simp) ?_
        refine AllReadyL.cons rfl (fun K hK => ?_) AllReadyL.nil
        go_simp
        refine hK.out _ _ ?_ (fun hS6 => ?_)
        · exact ⟨trivial, fun h => absurd (h.symm.trans (show _ = true by kernel_rfl)) (by decide)⟩
        clear hK K hS5
        try simp only [Act.put, List.setIfInBounds_toArray, List.set_cons_zero, List.set_cons_succ]
        refine doneL (by kernel_rfl) ?_ _
        go_wp2_with fail
        go_meet
        exact cutO_alloc hO hU1 hB1
      refine AllReadyL.cons rfl (fun K hK => ?_) ?_
      · go_simp
        refine hK.out _ _ ?_ (fun hS2 => ?_)
        · exact ⟨trivial, fun _ => HS0.out _ hB1⟩
        clear hK K hS1
        try simp only [Act.put, List.setIfInBounds_toArray, List.set_cons_zero, List.set_cons_succ]
        refine readyL (rs := [10, 12]) (by kernel_rfl) (by simp) ?_
        refine AllReadyL.cons rfl (fun K hK => ?_) ?_
        · go_simp
          refine hK.out _ _ ?_ (fun hS3 => ?_)
          · exact ⟨trivial, fun _ => HS0.out _ hB1⟩
          clear hK K hS2
          try simp only [Act.put, List.setIfInBounds_toArray, List.set_cons_zero, List.set_cons_succ]
          refine readyL (rs := [12]) (by kernel_rfl) (by simp) ?_
          refine AllReadyL.cons rfl (fun K hK => ?_) AllReadyL.nil
          go_simp
          refine hK.out _ _ ?_ (fun hS4 => ?_)
          · exact ⟨trivial, fun _ => HS0.out _ (hB1.alloc hB1.size _)⟩
          clear hK K hS3
          try simp only [Act.put, List.setIfInBounds_toArray, List.set_cons_zero, List.set_cons_succ]
          refine readyL (rs := [13]) (by kernel_rfl) (by simp) ?_
          refine AllReadyL.cons rfl (fun K hK => ?_) AllReadyL.nil
          go_simp
          refine hK.out _ _ ?_ (fun hS5 => ?_)
          · exact ⟨trivial, fun h => absurd (h.symm.trans (show _ = true by kernel_rfl)) (by decide)⟩
          clear hK K hS4
          try simp only [Act.put, List.setIfInBounds_toArray, List.set_cons_zero, List.set_cons_succ]
          refine readyL (rs := [14]) (by kernel_rfl) (by simp) ?_
          refine AllReadyL.cons rfl (fun K hK => ?_) AllReadyL.nil
          go_simp
          refine hK.out _ _ ?_ (fun hS6 => ?_)
          · exact ⟨trivial, fun h => absurd (h.symm.trans (show _ = true by kernel_rfl)) (by decide)⟩
          clear hK K hS5
          try simp only [Act.put, List.setIfInBounds_toArray, List.set_cons_zero, List.set_cons_succ]
          refine doneL (by kernel_rfl) ?_ _
          go_wp2_with fail
          go_meet
          exact cutO_alloc hO hU1 hB1
        refine AllReadyL.cons rfl (fun K hK => ?_) AllReadyL.nil
        go_simp
        refine hK.out _ _ ?_ (fun hS3 => ?_)
        · exact ⟨trivial, fun _ => HS0.out _ (hB1.alloc hB1.size _)⟩
        clear hK K hS2
        try simp only [Act.put, List.setIfInBounds_toArray, List.set_cons_zero, List.set_cons_succ]
        refine readyL (rs := [10]) (by kernel_rfl) (by simp) ?_
        refine AllReadyL.cons rfl (fun K hK => ?_) AllReadyL.nil
        go_simp
        refine hK.out _ _ ?_ (fun hS4 => ?_)
        · exact ⟨trivial, fun _ => HS0.out _ (hB1.alloc hB1.size _)⟩
        clear hK K hS3
        try simp only [Act.put, List.setIfInBounds_toArray, List.set_cons_zero, List.set_cons_succ]
        refine readyL (rs := [13]) (by kernel_rfl) (by simp) ?_
        refine AllReadyL.cons rfl (fun K hK => ?_) AllReadyL.nil
        go_simp
        refine hK.out _ _ ?_ (fun hS5 => ?_)
        · exact ⟨trivial, fun h => absurd (h.symm.trans (show _ = true by kernel_rfl)) (by decide)⟩
        clear hK K hS4
        try simp only [Act.put, List.setIfInBounds_toArray, List.set_cons_zero, List.set_cons_succ]
        refine readyL (rs := [14]) (by kernel_rfl) (by simp) ?_
        refine AllReadyL.cons rfl (fun K hK => ?_) AllReadyL.nil
        go_simp
        refine hK.out _ _ ?_ (fun hS6 => ?_)
        · exact ⟨trivial, fun h => absurd (h.symm.trans (show _ = true by kernel_rfl)) (by decide)⟩
        clear hK K hS5
        try simp only [Act.put, List.setIfInBounds_toArray, List.set_cons_zero, List.set_cons_succ]
        refine doneL (by kernel_rfl) ?_ _
        go_wp2_with fail
        go_meet
        exact cutO_alloc hO hU1 hB1
      refine AllReadyL.cons rfl (fun K hK => ?_) AllReadyL.nil
      go_simp
      refine hK.out _ _ ?_ (fun hS2 => ?_)
      · exact ⟨trivial, fun _ => HS0.out _ (hB1.alloc hB1.size _)⟩
      clear hK K hS1
      try simp only [Act.put, List.setIfInBounds_toArray, List.set_cons_zero, List.set_cons_succ]
      refine readyL (rs := [10, 11]) (by kernel_rfl) (by simp) ?_
      refine AllReadyL.cons rfl (fun K hK => ?_) ?_
      · go_simp
        refine hK.out _ _ ?_ (fun hS3 => ?_)
        · exact ⟨trivial, fun _ => HS0.out _ (hB1.alloc hB1.size _)⟩
        clear hK K hS2
        try simp only [Act.put, List.setIfInBounds_toArray, List.set_cons_zero, List.set_cons_succ]
        refine readyL (rs := [11, 13]) (by kernel_rfl) (by simp) ?_
        refine AllReadyL.cons rfl (fun K hK => ?_) ?_
        · go_simp
          refine hK.out _ _ ?_ (fun hS4 => ?_)
          · exact ⟨trivial, fun _ => HS0.out _ (hB1.alloc hB1.size _)⟩
          clear hK K hS3
          try simp only [Act.put, List.setIfInBounds_toArray, List.set_cons_zero, List.set_cons_succ]
          refine readyL (rs := [13]) (by kernel_rfl) (by simp) ?_
          refine AllReadyL.cons rfl (fun K hK => ?_) AllReadyL.nil
          go_simp
          refine hK.out _ _ ?_ (fun hS5 => ?_)
          · exact ⟨trivial, fun h => absurd (h.symm.trans (show _ = true by kernel_rfl)) (by decide)⟩
          clear hK K hS4
          try simp only [Act.put, List.setIfInBounds_toArray, List.set_cons_zero, List.set_cons_succ]
          refine readyL (rs := [14]) (by kernel_rfl) (by simp) ?_
          refine AllReadyL.cons rfl (fun K hK => ?_) AllReadyL.nil
          go_simp
          refine hK.out _ _ ?_ (fun hS6 => ?_)
          · exact ⟨trivial, fun h => absurd (h.symm.trans (show _ = true by kernel_rfl)) (by decide)⟩
          clear hK K hS5
          try simp only [Act.put, List.setIfInBounds_toArray, List.set_cons_zero, List.set_cons_succ]
          refine doneL (by kernel_rfl) ?_ _
          go_wp2_with fail
          go_meet
          exact cutO_alloc hO hU1 hB1
        refine AllReadyL.cons rfl (fun K hK => ?_) AllReadyL.nil
        go_simp
        refine hK.out _ _ ?_ (fun hS4 => ?_)
        · exact ⟨trivial, fun h => absurd (h.symm.trans (show _ = true by kernel_rfl)) (by decide)⟩
        clear hK K hS3
        try simp only [Act.put, List.setIfInBounds_toArray, List.set_cons_zero, List.set_cons_succ]
        refine readyL (rs := [11]) (by kernel_rfl) (by simp) ?_
        refine AllReadyL.cons rfl (fun K hK => ?_) AllReadyL.nil
        go_simp
        refine hK.out _ _ ?_ (fun hS5 => ?_)
        · exact ⟨trivial, fun h => absurd (h.symm.trans (show _ = true by kernel_rfl)) (by decide)⟩
        clear hK K hS4
        try simp only [Act.put, List.setIfInBounds_toArray, List.set_cons_zero, List.set_cons_succ]
        refine readyL (rs := [14]) (by kernel_rfl) (by simp) ?_
        refine AllReadyL.cons rfl (fun K hK => ?_) AllReadyL.nil
        go_simp
        refine hK.out _ _ ?_ (fun hS6 => ?_)
        · exact ⟨trivial, fun h => absurd (h.symm.trans (show _ = true by kernel_rfl)) (by decide)⟩
        clear hK K hS5
        try simp only [Act.put, List.setIfInBounds_toArray, List.set_cons_zero, List.set_cons_succ]
        refine doneL (by kernel_rfl) ?_ _
        go_wp2_with fail
        go_meet
        exact cutO_alloc hO hU1 hB1
      refine AllReadyL.cons rfl (fun K hK => ?_) AllReadyL.nil
      go_simp
      refine hK.out _ _ ?_ (fun hS3 => ?_)
      · exact ⟨trivial, fun _ => HS0.out _ (hB1.alloc hB1.size _)⟩
      clear hK K hS2
      try simp only [Act.put, List.setIfInBounds_toArray, List.set_cons_zero, List.set_cons_succ]
      refine readyL (rs := [10]) (by kernel_rfl) (by simp) ?_
      refine AllReadyL.cons rfl (fun K hK => ?_) AllReadyL.nil
      go_simp
      refine hK.out _ _ ?_ (fun hS4 => ?_)
      · exact ⟨trivial, fun _ => HS0.out _ (hB1.alloc hB1.size _)⟩
      clear hK K hS3
      try simp only [Act.put, List.setIfInBounds_toArray, List.set_cons_zero, List.set_cons_succ]
      refine readyL (rs := [13]) (by kernel_rfl) (by simp) ?_
      refine AllReadyL.cons rfl (fun K hK => ?_) AllReadyL.nil
      go_simp
      refine hK.out _ _ ?_ (fun hS5 => ?_)
      · exact ⟨trivial, fun h => absurd (h.symm.trans (show _ = true by kernel_rfl)) (by decide)⟩
      clear hK K hS4
      try simp only [Act.put, List.setIfInBounds_toArray, List.set_cons_zero, List.set_cons_succ]
      refine readyL (rs := [14]) (by kernel_rfl) (by simp) ?_
      refine AllReadyL.cons rfl (fun K hK => ?_) AllReadyL.nil
      go_simp
      refine hK.out _ _ ?_ (fun hS6 => ?_)
      · exact ⟨trivial, fun h => absurd (h.symm.trans (show _ = true by kernel_rfl)) (by decide)⟩
      clear hK K hS5
      try simp only [Act.put, List.setIfInBounds_toArray, List.set_cons_zero, List.set_cons_succ]
      refine doneL (by kernel_rfl) ?_ _
      go_wp2_with fail
      go_meet
      exact cutO_alloc hO hU1 hB1
    refine AllReadyL.cons rfl (fun K hK => ?_) AllReadyL.nil
    go_simp
    refine hK.out _ _ ?_ (fun hS1 => ?_)
    · exact ⟨trivial, fun _ => HS0.out _ ((below_drew _).alloc (by simp) _)⟩
    clear hK K hS0
    try simp only [Act.put, List.setIfInBounds_toArray, List.set_cons_zero, List.set_cons_succ]
    refine readyL (rs := [8]) (by kernel_rfl) (by simp) ?_
    refine AllReadyL.cons rfl (fun K hK => ?_) AllReadyL.nil
    go_simp
    refine (cm_from HIH.out (W0 := Z) (((Below.refl (Z).heap.size Z).alloc (Nat.le_refl _) (Obj.cells #[.int .i64 0, .int .i64 0, .int .i64 0, .slice none 0 0] 44)).drew) (by have := HP.out.1; omega) HP.out.2.1 HP.out.2.2.1 HP.out.2.2.2.1.1 HP.out.2.2.2.2.1 H0.out.1.1 H0.out.2.1).mono ?_
    rintro e w1 ⟨⟨p0, p1, p2, pa, pn, pc, rfl, hb1, hO⟩, hU⟩
    have hB1 := below_trans hU hb1
    have hU1 := hU.size
    refine hK.out _ _ ?_ (fun hS2 => ?_)
    · exact ⟨trivial, fun _ => HS0.out _ hB1⟩
    clear hK K hS1
    try simp only [Act.put, List.setIfInBounds_toArray, List.set_cons_zero, List.set_cons_succ]
    refine takeL0 (i := 9) (v := ?vp10) rfl rfl (by kernel_rfl) (by kernel_rfl) (by kernel_rfl) (by decide) (by kernel_rfl) (by kernel_rfl) (fun _ _ _ h => h) (Or.inl ⟨by rfl, ?hyp10⟩) (by assumption) ?_
    case hyp10 => (intro w hSw; (try dsimp only at hSw); go_simp; (try with_reducible rfl))
    try simp only [Act.put, List.setIfInBounds_toArray, List.set_cons_zero, List.set_cons_succ]
    refine readyL (rs := [10, 11]) (by kernel_rfl) (by simp) ?_
    refine AllReadyL.cons rfl (fun K hK => ?_) ?_
    · go_simp
      refine hK.out _ _ ?_ (fun hS3 => ?_)
      · exact ⟨trivial, fun _ => HS0.out _ hB1⟩
      clear hK K hS2
      try simp only [Act.put, List.setIfInBounds_toArray, List.set_cons_zero, List.set_cons_succ]
      refine readyL (rs := [11, 13]) (by kernel_rfl) (by simp) ?_
      refine AllReadyL.cons rfl (fun K hK => ?_) ?_
      · go_simp
        refine hK.out _ _ ?_ (fun hS4 => ?_)
        · exact ⟨trivial, fun _ => HS0.out _ hB1⟩
        clear hK K hS3
        try simp only [Act.put, List.setIfInBounds_toArray, List.set_cons_zero, List.set_cons_succ]
        refine readyL (rs := [13]) (by kernel_rfl) (by simp) ?_
        refine AllReadyL.cons rfl (fun K hK => ?_) AllReadyL.nil
        have hE1 := (hb1.block _ (by simp [World.drew])).trans (alloc_new Z (Obj.cells #[.int .i64 0, .int .i64 0, .int .i64 0, .slice none 0 0] 44))
        have bM := hE1
        have z0 := (cell_of_block (o := 0) bM).trans (show _ = some (.int .i64 0) from rfl)
        have z1 := (cell_of_block (o := 1) bM).trans (show _ = some (.int .i64 0) from rfl)
        have z2 := (cell_of_block (o := 2) bM).trans (show _ = some (.int .i64 0) from rfl)
        have z3 := (cell_of_block (o := 3) bM).trans (show _ = some (.slice none 0 0) from rfl)
        have yz := fun o => frozen_of_block (o := o) bM
        go_simp
        refine hK.out _ _ ?_ (fun hS5 => ?_)
        · exact ⟨trivial, fun h => absurd (h.symm.trans (show _ = true by kernel_rfl)) (by decide)⟩
        clear hK K hS4
        try simp only [Act.put, List.setIfInBounds_toArray, List.set_cons_zero, List.set_cons_succ]
        refine readyL (rs := [14]) (by kernel_rfl) (by simp) ?_
        refine AllReadyL.cons rfl (fun K hK => ?_) AllReadyL.nil
        go_simp
        refine hK.out _ _ ?_ (fun hS6 => ?_)
        · exact ⟨trivial, fun h => absurd (h.symm.trans (show _ = true by kernel_rfl)) (by decide)⟩
        clear hK K hS5
        try simp only [Act.put, List.setIfInBounds_toArray, List.set_cons_zero, List.set_cons_succ]
        refine doneL (by kernel_rfl) ?_ _
        go_wp2_with fail
        go_meet
        exact cutO_stores hE1 hO (by simp [World.drew] at hU1 ⊢) hB1
      refine AllReadyL.cons rfl (fun K hK => ?_) AllReadyL.nil
      have hE1 := (hb1.block _ (by simp [World.drew])).trans (alloc_new Z (Obj.cells #[.int .i64 0, .int .i64 0, .int .i64 0, .slice none 0 0] 44))
      have bM := hE1
      have z0 := (cell_of_block (o := 0) bM).trans (show _ = some (.int .i64 0) from rfl)
      have z1 := (cell_of_block (o := 1) bM).trans (show _ = some (.int .i64 0) from rfl)
      have z2 := (cell_of_block (o := 2) bM).trans (show _ = some (.int .i64 0) from rfl)
      have z3 := (cell_of_block (o := 3) bM).trans (show _ = some (.slice none 0 0) from rfl)
      have yz := fun o => frozen_of_block (o := o) bM
      go_simp
      refine hK.out _ _ ?_ (fun hS4 => ?_)
      · exact ⟨trivial, fun h => absurd (h.symm.trans (show _ = true by kernel_rfl)) (by decide)⟩
      clear hK K hS3
      try simp only [Act.put, List.setIfInBounds_toArray, List.set_cons_zero, List.set_cons_succ]
      refine readyL (rs := [11]) (by kernel_rfl) (by simp) ?_
      refine AllReadyL.cons rfl (fun K hK => ?_) AllReadyL.nil
      go_simp
      refine hK.out _ _ ?_ (fun hS5 => ?_)
      · exact ⟨trivial, fun h => absurd (h.symm.trans (show _ = true by kernel_rfl)) (by decide)⟩
      clear hK K hS4
      try simp only [Act.put, List.setIfInBounds_toArray, List.set_cons_zero, List.set_cons_succ]
      refine readyL (rs := [14]) (by kernel_rfl) (by simp) ?_
      refine AllReadyL.cons rfl (fun K hK => ?_) AllReadyL.nil
      go_simp
      refine hK.out _ _ ?_ (fun hS6 => ?_)
      · exact ⟨trivial, fun h => absurd (h.symm.trans (show _ = true by kernel_rfl)) (by decide)⟩
      clear hK K hS5
      try simp only [Act.put, List.setIfInBounds_toArray, List.set_cons_zero, List.set_cons_succ]
      refine doneL (by kernel_rfl) ?_ _
      go_wp2_with fail
      go_meet
      exact cutO_stores hE1 hO (by simp [World.drew] at hU1 ⊢) hB1
    refine AllReadyL.cons rfl (fun K hK => ?_) AllReadyL.nil
    go_simp
    refine hK.out _ _ ?_ (fun hS3 => ?_)
    · exact ⟨trivial, fun _ => HS0.out _ hB1⟩
    clear hK K hS2
    try simp only [Act.put, List.setIfInBounds_toArray, List.set_cons_zero, List.set_cons_succ]
    refine readyL (rs := [10]) (by kernel_rfl) (by simp) ?_
    refine AllReadyL.cons rfl (fun K hK => ?_) AllReadyL.nil
    go_simp
    refine hK.out _ _ ?_ (fun hS4 => ?_)
    · exact ⟨trivial, fun _ => HS0.out _ hB1⟩
    clear hK K hS3
    try simp only [Act.put, List.setIfInBounds_toArray, List.set_cons_zero, List.set_cons_succ]
    refine readyL (rs := [13]) (by kernel_rfl) (by simp) ?_
    refine AllReadyL.cons rfl (fun K hK => ?_) AllReadyL.nil
    have hE1 := (hb1.block _ (by simp [World.drew])).trans (alloc_new Z (Obj.cells #[.int .i64 0, .int .i64 0, .int .i64 0, .slice none 0 0] 44))
    have bM := hE1
    have z0 := (cell_of_block (o := 0) bM).trans (show _ = some (.int .i64 0) from rfl)
    have z1 := (cell_of_block (o := 1) bM).trans (show _ = some (.int .i64 0) from rfl)
    have z2 := (cell_of_block (o := 2) bM).trans (show _ = some (.int .i64 0) from rfl)
    have z3 := (cell_of_block (o := 3) bM).trans (show _ = some (.slice none 0 0) from rfl)
    have yz := fun o => frozen_of_block (o := o) bM
    go_simp
    refine hK.out _ _ ?_ (fun hS5 => ?_)
    · exact ⟨trivial, fun h => absurd (h.symm.trans (show _ = true by kernel_rfl)) (by decide)⟩
    clear hK K hS4
    try simp only [Act.put, List.setIfInBounds_toArray, List.set_cons_zero, List.set_cons_succ]
    refine readyL (rs := [14]) (by kernel_rfl) (by simp) ?_
    refine AllReadyL.cons rfl (fun K hK => ?_) AllReadyL.nil
    go_simp
    refine hK.out _ _ ?_ (fun hS6 => ?_)
    · exact ⟨trivial, fun h => absurd (h.symm.trans (show _ = true by kernel_rfl)) (by decide)⟩
    clear hK K hS5
    try simp only [Act.put, List.setIfInBounds_toArray, List.set_cons_zero, List.set_cons_succ]
    refine doneL (by kernel_rfl) ?_ _
    go_wp2_with fail
    go_meet
    exact cutO_stores hE1 hO (by simp [World.drew] at hU1 ⊢) hB1
  case rest =>
  rename World => wA
  obtain ⟨bx, r1, u0, u1', u2, ua, un, uc, rfl, rfl, hr1, hbx, hEx, hOx, hbz⟩ := hcut
  have hSS := HS0.out _ hbz
  clear x0 x1 x2 x3 y0 y1 y2 y3 d0 d1 d2 d3 d4 d5 d6 d7 e0 e1 e2 e3 e4 e5 e6 e7
  obtain ⟨x0, x1, x2, x3, y0, y1, y2, y3, d0, d1, d2, d3, d4, d5, d6, d7, e0, e1, e2, e3, e4, e5, e6, e7⟩ := hSS
  have HS1 := hid (show ∀ w', Below wA.heap.size wA w' → (fun w' => w'.cell? ⟨w.heap.size, 0, none⟩ = some (.int .i64 2) ∧ w'.cell? ⟨w.heap.size, 1, none⟩ = some (.int .i64 0) ∧ w'.cell? ⟨w.heap.size, 2, none⟩ = some (.int .i64 la) ∧ w'.cell? ⟨w.heap.size, 3, none⟩ = some (.slice (some ⟨ba, oa, none⟩) 2 ca) ∧ w'.cell? ⟨w.heap.size + 1, 0, none⟩ = some (.int .i64 2) ∧ w'.cell? ⟨w.heap.size + 1, 1, none⟩ = some (.int .i64 0) ∧ w'.cell? ⟨w.heap.size + 1, 2, none⟩ = some (.int .i64 lb) ∧ w'.cell? ⟨w.heap.size + 1, 3, none⟩ = some (.slice (some ⟨bb, ob, none⟩) 2 cb) ∧ w'.cell? ⟨ba, oa, none⟩ = some (.int .i64 ka1) ∧ w'.cell? ⟨ba, oa + 1, none⟩ = some (.int .i64 ga1) ∧ w'.cell? ⟨ba, oa + 2, none⟩ = some (.int .i64 la1) ∧ w'.cell? ⟨ba, oa + 3, none⟩ = some (.slice aa1 na1 ca1) ∧ w'.cell? ⟨ba, oa + 4, none⟩ = some (.int .i64 ka2) ∧ w'.cell? ⟨ba, oa + 4 + 1, none⟩ = some (.int .i64 ga2) ∧ w'.cell? ⟨ba, oa + 4 + 2, none⟩ = some (.int .i64 la2) ∧ w'.cell? ⟨ba, oa + 4 + 3, none⟩ = some (.slice aa2 na2 ca2) ∧ w'.cell? ⟨bb, ob, none⟩ = some (.int .i64 kb1) ∧ w'.cell? ⟨bb, ob + 1, none⟩ = some (.int .i64 gb1) ∧ w'.cell? ⟨bb, ob + 2, none⟩ = some (.int .i64 lb1) ∧ w'.cell? ⟨bb, ob + 3, none⟩ = some (.slice ab1 nb1 cb1) ∧ w'.cell? ⟨bb, ob + 4, none⟩ = some (.int .i64 kb2) ∧ w'.cell? ⟨bb, ob + 4 + 1, none⟩ = some (.int .i64 gb2) ∧ w'.cell? ⟨bb, ob + 4 + 2, none⟩ = some (.int .i64 lb2) ∧ w'.cell? ⟨bb, ob + 4 + 3, none⟩ = some (.slice ab2 nb2 cb2)) w' from fun w' h => HS0.out _ (below_trans hbz h))
  have s0 : wA.cell? ⟨bx, 0, none⟩ = some (.int .i64 u0) := by rw [cell_of_block hEx]; rfl
  have s1 : wA.cell? ⟨bx, 1, none⟩ = some (.int .i64 u1') := by rw [cell_of_block hEx]; rfl
  have s2 : wA.cell? ⟨bx, 2, none⟩ = some (.int .i64 u2) := by rw [cell_of_block hEx]; rfl
  have s3 : wA.cell? ⟨bx, 3, none⟩ = some (.slice ua un uc) := by rw [cell_of_block hEx]; rfl
  have HEX := hid hEx
  have HBX := hid hbx
  have HBC := hid hbz
  clear hEx hOx hr1
  go_wp2_with fail
  go_cut [6, 7] (fun sx sq wx => ∃ (r : Bool) (k g l : Int) (a : Option Addr) (nn cap : Nat), sx = .pointer (some ⟨bx, 0, none⟩) ∧ sq = .bool r ∧ (cmpo n b1 a1).isSome = r ∧ VarO Z (cmpo n b1 a1) bx Z.heap.size k g l a nn cap wx)
  case first =>
    refine regionL (s := 12) (S0 := (fun w' => w'.cell? ⟨w.heap.size, 0, none⟩ = some (.int .i64 2) ∧ w'.cell? ⟨w.heap.size, 1, none⟩ = some (.int .i64 0) ∧ w'.cell? ⟨w.heap.size, 2, none⟩ = some (.int .i64 la) ∧ w'.cell? ⟨w.heap.size, 3, none⟩ = some (.slice (some ⟨ba, oa, none⟩) 2 ca) ∧ w'.cell? ⟨w.heap.size + 1, 0, none⟩ = some (.int .i64 2) ∧ w'.cell? ⟨w.heap.size + 1, 1, none⟩ = some (.int .i64 0) ∧ w'.cell? ⟨w.heap.size + 1, 2, none⟩ = some (.int .i64 lb) ∧ w'.cell? ⟨w.heap.size + 1, 3, none⟩ = some (.slice (some ⟨bb, ob, none⟩) 2 cb) ∧ w'.cell? ⟨ba, oa, none⟩ = some (.int .i64 ka1) ∧ w'.cell? ⟨ba, oa + 1, none⟩ = some (.int .i64 ga1) ∧ w'.cell? ⟨ba, oa + 2, none⟩ = some (.int .i64 la1) ∧ w'.cell? ⟨ba, oa + 3, none⟩ = some (.slice aa1 na1 ca1) ∧ w'.cell? ⟨ba, oa + 4, none⟩ = some (.int .i64 ka2) ∧ w'.cell? ⟨ba, oa + 4 + 1, none⟩ = some (.int .i64 ga2) ∧ w'.cell? ⟨ba, oa + 4 + 2, none⟩ = some (.int .i64 la2) ∧ w'.cell? ⟨ba, oa + 4 + 3, none⟩ = some (.slice aa2 na2 ca2) ∧ w'.cell? ⟨bb, ob, none⟩ = some (.int .i64 kb1) ∧ w'.cell? ⟨bb, ob + 1, none⟩ = some (.int .i64 gb1) ∧ w'.cell? ⟨bb, ob + 2, none⟩ = some (.int .i64 lb1) ∧ w'.cell? ⟨bb, ob + 3, none⟩ = some (.slice ab1 nb1 cb1) ∧ w'.cell? ⟨bb, ob + 4, none⟩ = some (.int .i64 kb2) ∧ w'.cell? ⟨bb, ob + 4 + 1, none⟩ = some (.int .i64 gb2) ∧ w'.cell? ⟨bb, ob + 4 + 2, none⟩ = some (.int .i64 lb2) ∧ w'.cell? ⟨bb, ob + 4 + 3, none⟩ = some (.slice ab2 nb2 cb2))) (S1 := (fun _ => True)) (by kernel_rfl) (HS1.out _ (below_drew _)) (trivial) (fun hS0 => ?_)
    refine takeL0 (i := 0) (v := ?vq1) rfl rfl (by kernel_rfl) (by kernel_rfl) (by kernel_rfl) (by decide) (by kernel_rfl) (by kernel_rfl) (fun _ _ _ h => h) (Or.inl ⟨by rfl, ?hyq1⟩) (by assumption) ?_
    case hyq1 => (intro w hSw; (try dsimp only at hSw); go_simp; (try with_reducible rfl))
    try simp only [Act.put, List.setIfInBounds_toArray, List.set_cons_zero, List.set_cons_succ]
    refine takeL0 (i := 1) (v := ?vq2) rfl rfl (by kernel_rfl) (by kernel_rfl) (by kernel_rfl) (by decide) (by kernel_rfl) (by kernel_rfl) (fun _ _ _ h => h) (Or.inl ⟨by rfl, ?hyq2⟩) (by assumption) ?_
    case hyq2 => (intro w hSw; (try dsimp only at hSw); go_simp; (try with_reducible rfl))
    try simp only [Act.put, List.setIfInBounds_toArray, List.set_cons_zero, List.set_cons_succ]
    refine takeL0 (i := 2) (v := ?vq3) rfl rfl (by kernel_rfl) (by kernel_rfl) (by kernel_rfl) (by decide) (by kernel_rfl) (by kernel_rfl) (fun _ _ _ h => h) (Or.inl ⟨by rfl, ?hyq3⟩) (by assumption) ?_
    case hyq3 => (intro w hSw; (try dsimp only at hSw); go_simp; (try with_reducible rfl))
    try simp only [Act.put, List.setIfInBounds_toArray, List.set_cons_zero, List.set_cons_succ]
    refine takeL0 (i := 3) (v := ?vq4) rfl rfl (by kernel_rfl) (by kernel_rfl) (by kernel_rfl) (by decide) (by kernel_rfl) (by kernel_rfl) (fun _ _ _ h => h) (Or.inl ⟨by rfl, ?hyq4⟩) (by assumption) ?_
    case hyq4 => (intro w hSw; (try dsimp only at hSw); go_simp; (try with_reducible rfl))
    try simp only [Act.put, List.setIfInBounds_toArray, List.set_cons_zero, List.set_cons_succ]
    refine takeL0 (i := 4) (v := ?vq5) rfl rfl (by kernel_rfl) (by kernel_rfl) (by kernel_rfl) (by decide) (by kernel_rfl) (by kernel_rfl) (fun _ _ _ h => h) (Or.inl ⟨by rfl, ?hyq5⟩) (by assumption) ?_
    case hyq5 => (intro w hSw; (try dsimp only at hSw); go_simp; (try with_reducible rfl))
    try simp only [Act.put, List.setIfInBounds_toArray, List.set_cons_zero, List.set_cons_succ]
    refine takeL0 (i := 5) (v := ?vq6) rfl rfl (by kernel_rfl) (by kernel_rfl) (by kernel_rfl) (by decide) (by kernel_rfl) (by kernel_rfl) (fun _ _ _ h => h) (Or.inl ⟨by rfl, ?hyq6⟩) (by assumption) ?_
    case hyq6 => (intro w hSw; (try dsimp only at hSw); go_simp; (try with_reducible rfl))
    try simp only [Act.put, List.setIfInBounds_toArray, List.set_cons_zero, List.set_cons_succ]
    refine takeL0 (i := 6) (v := ?vq7) rfl rfl (by kernel_rfl) (by kernel_rfl) (by kernel_rfl) (by decide) (by kernel_rfl) (by kernel_rfl) (fun _ _ _ h => h) (Or.inl ⟨by rfl, ?hyq7⟩) (by assumption) ?_
    case hyq7 => (intro w hSw; (try dsimp only at hSw); go_simp; (try with_reducible rfl))
    try simp only [Act.put, List.setIfInBounds_toArray, List.set_cons_zero, List.set_cons_succ]
    refine takeL0 (i := 7) (v := ?vq8) rfl rfl (by kernel_rfl) (by kernel_rfl) (by kernel_rfl) (by decide) (by kernel_rfl) (by kernel_rfl) (fun _ _ _ h => h) (Or.inl ⟨by rfl, ?hyq8⟩) (by assumption) ?_
    case hyq8 => (intro w hSw; (try dsimp only at hSw); go_simp; (try with_reducible rfl))
    try simp only [Act.put, List.setIfInBounds_toArray, List.set_cons_zero, List.set_cons_succ]
    refine readyL (rs := [8]) (by kernel_rfl) (by simp) ?_
    refine AllReadyL.cons rfl (fun K hK => ?_) AllReadyL.nil
    go_simp
    refine (cm_from HIH.out (W0 := wA) (below_drew wA) (by have := HP.out.1; omega) HP.out.2.2.1 HP.out.2.1 HP.out.2.2.2.2.1 HP.out.2.2.2.1.1 (H0.out.2.1.below hbz) (H0.out.1.1.below hbz)).mono ?_
    rintro e w1 ⟨⟨p0, p1, p2, pa, pn, pc, rfl, hb1, hO⟩, hU⟩
    have hB1 := below_trans hU hb1
    have hE1 := (hB1.block _ (lt_of_block HEX.out)).trans HEX.out
    refine hK.out _ _ ?_ (fun hS1 => ?_)
    · exact ⟨trivial, fun _ => HS1.out _ hB1⟩
    clear hK K hS0
    try simp only [Act.put, List.setIfInBounds_toArray, List.set_cons_zero, List.set_cons_succ]
    refine takeL0 (i := 9) (v := ?vq9) rfl rfl (by kernel_rfl) (by kernel_rfl) (by kernel_rfl) (by decide) (by kernel_rfl) (by kernel_rfl) (fun _ _ _ h => h) (Or.inl ⟨by rfl, ?hyq9⟩) (by assumption) ?_
    case hyq9 => (intro w hSw; (try dsimp only at hSw); go_simp; (try with_reducible rfl))
    try simp only [Act.put, List.setIfInBounds_toArray, List.set_cons_zero, List.set_cons_succ]
    refine readyL (rs := [10, 11]) (by kernel_rfl) (by simp) ?_
    refine AllReadyL.cons rfl (fun K hK => ?_) ?_
    · go_simp
      refine hK.out _ _ ?_ (fun hS2 => ?_)
      · exact ⟨trivial, fun _ => HS1.out _ hB1⟩
      clear hK K hS1
      try simp only [Act.put, List.setIfInBounds_toArray, List.set_cons_zero, List.set_cons_succ]
      refine readyL (rs := [11, 12]) (by kernel_rfl) (by simp) ?_
      refine AllReadyL.cons rfl (fun K hK => ?_) ?_
      · go_simp
        refine hK.out _ _ ?_ (fun hS3 => ?_)
        · exact ⟨trivial, fun _ => HS1.out _ hB1⟩
        clear hK K hS2
        try simp only [Act.put, List.setIfInBounds_toArray, List.set_cons_zero, List.set_cons_succ]
        refine readyL (rs := [12]) (by kernel_rfl) (by simp) ?_
        refine AllReadyL.cons rfl (fun K hK => ?_) AllReadyL.nil
        have z0 := (cell_of_block (o := 0) hE1)
        have z1 := (cell_of_block (o := 1) hE1)
        have z2 := (cell_of_block (o := 2) hE1)
        have z3 := (cell_of_block (o := 3) hE1)
        have yz := fun o => frozen_of_block (o := o) hE1
        simp at z0 z1 z2 z3
        go_simp
        refine hK.out _ _ ?_ (fun hS4 => ?_)
        · exact ⟨trivial, fun h => absurd (h.symm.trans (show _ = true by kernel_rfl)) (by decide)⟩
        clear hK K hS3
        try simp only [Act.put, List.setIfInBounds_toArray, List.set_cons_zero, List.set_cons_succ]
        refine readyL (rs := [13]) (by kernel_rfl) (by simp) ?_
        refine AllReadyL.cons rfl (fun K hK => ?_) AllReadyL.nil
        go_simp
        refine hK.out _ _ ?_ (fun hS5 => ?_)
        · exact ⟨trivial, fun h => absurd (h.symm.trans (show _ = true by kernel_rfl)) (by decide)⟩
        clear hK K hS4
        try simp only [Act.put, List.setIfInBounds_toArray, List.set_cons_zero, List.set_cons_succ]
        refine doneL (by kernel_rfl) ?_ _
        go_wp2_with fail
        go_meet
        exact ⟨_, _, _, _, _, _, _, rfl, rfl, rfl, varO_stores hE1 hO (show bx < wA.heap.size from lt_of_block HEX.out) HBX.out (HBC.out.trans (hB1.mono HBC.out.size))⟩
      refine AllReadyL.cons rfl (fun K hK => ?_) AllReadyL.nil
      have z0 := (cell_of_block (o := 0) hE1)
      have z1 := (cell_of_block (o := 1) hE1)
      have z2 := (cell_of_block (o := 2) hE1)
      have z3 := (cell_of_block (o := 3) hE1)
      have yz := fun o => frozen_of_block (o := o) hE1
      simp at z0 z1 z2 z3
      go_simp
      refine hK.out _ _ ?_ (fun hS3 => ?_)
      · exact ⟨trivial, fun h => absurd (h.symm.trans (show _ = true by kernel_rfl)) (by decide)⟩
      clear hK K hS2
      try simp only [Act.put, List.setIfInBounds_toArray, List.set_cons_zero, List.set_cons_succ]
      refine readyL (rs := [11]) (by kernel_rfl) (by simp) ?_
      refine AllReadyL.cons rfl (fun K hK => ?_) AllReadyL.nil
      go_simp
      refine hK.out _ _ ?_ (fun hS4 => ?_)
      · exact ⟨trivial, fun h => absurd (h.symm.trans (show _ = true by kernel_rfl)) (by decide)⟩
      clear hK K hS3
      try simp only [Act.put, List.setIfInBounds_toArray, List.set_cons_zero, List.set_cons_succ]
      refine readyL (rs := [13]) (by kernel_rfl) (by simp) ?_
      refine AllReadyL.cons rfl (fun K hK => ?_) AllReadyL.nil
      go_simp
      refine hK.out _ _ ?_ (fun hS5 => ?_)
      · exact ⟨trivial, fun h => absurd (h.symm.trans (show _ = true by kernel_rfl)) (by decide)⟩
      clear hK K hS4
      try simp only [Act.put, List.setIfInBounds_toArray, List.set_cons_zero, List.set_cons_succ]
      refine doneL (by kernel_rfl) ?_ _
      go_wp2_with fail
      go_meet
      exact ⟨_, _, _, _, _, _, _, rfl, rfl, rfl, varO_stores hE1 hO (show bx < wA.heap.size from lt_of_block HEX.out) HBX.out (HBC.out.trans (hB1.mono HBC.out.size))⟩
    refine AllReadyL.cons rfl (fun K hK => ?_) AllReadyL.nil
    go_simp
    refine hK.out _ _ ?_ (fun hS2 => ?_)
    · exact ⟨trivial, fun _ => HS1.out _ hB1⟩
    clear hK K hS1
    try simp only [Act.put, List.setIfInBounds_toArray, List.set_cons_zero, List.set_cons_succ]
    refine readyL (rs := [10]) (by kernel_rfl) (by simp) ?_
    refine AllReadyL.cons rfl (fun K hK => ?_) AllReadyL.nil
    go_simp
    refine hK.out _ _ ?_ (fun hS3 => ?_)
    · exact ⟨trivial, fun _ => HS1.out _ hB1⟩
    clear hK K hS2
    try simp only [Act.put, List.setIfInBounds_toArray, List.set_cons_zero, List.set_cons_succ]
    refine readyL (rs := [12]) (by kernel_rfl) (by simp) ?_
    refine AllReadyL.cons rfl (fun K hK => ?_) AllReadyL.nil
    have z0 := (cell_of_block (o := 0) hE1)
    have z1 := (cell_of_block (o := 1) hE1)
    have z2 := (cell_of_block (o := 2) hE1)
    have z3 := (cell_of_block (o := 3) hE1)
    have yz := fun o => frozen_of_block (o := o) hE1
    simp at z0 z1 z2 z3
    go_simp
    refine hK.out _ _ ?_ (fun hS4 => ?_)
    · exact ⟨trivial, fun h => absurd (h.symm.trans (show _ = true by kernel_rfl)) (by decide)⟩
    clear hK K hS3
    try simp only [Act.put, List.setIfInBounds_toArray, List.set_cons_zero, List.set_cons_succ]
    refine readyL (rs := [13]) (by kernel_rfl) (by simp) ?_
    refine AllReadyL.cons rfl (fun K hK => ?_) AllReadyL.nil
    go_simp
    refine hK.out _ _ ?_ (fun hS5 => ?_)
    · exact ⟨trivial, fun h => absurd (h.symm.trans (show _ = true by kernel_rfl)) (by decide)⟩
    clear hK K hS4
    try simp only [Act.put, List.setIfInBounds_toArray, List.set_cons_zero, List.set_cons_succ]
    refine doneL (by kernel_rfl) ?_ _
    go_wp2_with fail
    go_meet
    exact ⟨_, _, _, _, _, _, _, rfl, rfl, rfl, varO_stores hE1 hO (show bx < wA.heap.size from lt_of_block HEX.out) HBX.out (HBC.out.trans (hB1.mono HBC.out.size))⟩
  case rest =>
  rename World => Y
  obtain ⟨r1, u0, u1', u2, ua, un, uc, rfl, rfl, hr1, hEx, hOx, hbz⟩ := hcut
  have hbx := HBX.out
  have hSS := HS0.out _ hbz
  clear HS1 x0 x1 x2 x3 y0 y1 y2 y3 d0 d1 d2 d3 d4 d5 d6 d7 e0 e1 e2 e3 e4 e5 e6 e7 s0 s1 s2 s3
  obtain ⟨x0, x1, x2, x3, y0, y1, y2, y3, d0, d1, d2, d3, d4, d5, d6, d7, e0, e1, e2, e3, e4, e5, e6, e7⟩ := hSS
  have HS1 := hid (show ∀ w', Below Y.heap.size Y w' → (fun w' => w'.cell? ⟨w.heap.size, 0, none⟩ = some (.int .i64 2) ∧ w'.cell? ⟨w.heap.size, 1, none⟩ = some (.int .i64 0) ∧ w'.cell? ⟨w.heap.size, 2, none⟩ = some (.int .i64 la) ∧ w'.cell? ⟨w.heap.size, 3, none⟩ = some (.slice (some ⟨ba, oa, none⟩) 2 ca) ∧ w'.cell? ⟨w.heap.size + 1, 0, none⟩ = some (.int .i64 2) ∧ w'.cell? ⟨w.heap.size + 1, 1, none⟩ = some (.int .i64 0) ∧ w'.cell? ⟨w.heap.size + 1, 2, none⟩ = some (.int .i64 lb) ∧ w'.cell? ⟨w.heap.size + 1, 3, none⟩ = some (.slice (some ⟨bb, ob, none⟩) 2 cb) ∧ w'.cell? ⟨ba, oa, none⟩ = some (.int .i64 ka1) ∧ w'.cell? ⟨ba, oa + 1, none⟩ = some (.int .i64 ga1) ∧ w'.cell? ⟨ba, oa + 2, none⟩ = some (.int .i64 la1) ∧ w'.cell? ⟨ba, oa + 3, none⟩ = some (.slice aa1 na1 ca1) ∧ w'.cell? ⟨ba, oa + 4, none⟩ = some (.int .i64 ka2) ∧ w'.cell? ⟨ba, oa + 4 + 1, none⟩ = some (.int .i64 ga2) ∧ w'.cell? ⟨ba, oa + 4 + 2, none⟩ = some (.int .i64 la2) ∧ w'.cell? ⟨ba, oa + 4 + 3, none⟩ = some (.slice aa2 na2 ca2) ∧ w'.cell? ⟨bb, ob, none⟩ = some (.int .i64 kb1) ∧ w'.cell? ⟨bb, ob + 1, none⟩ = some (.int .i64 gb1) ∧ w'.cell? ⟨bb, ob + 2, none⟩ = some (.int .i64 lb1) ∧ w'.cell? ⟨bb, ob + 3, none⟩ = some (.slice ab1 nb1 cb1) ∧ w'.cell? ⟨bb, ob + 4, none⟩ = some (.int .i64 kb2) ∧ w'.cell? ⟨bb, ob + 4 + 1, none⟩ = some (.int .i64 gb2) ∧ w'.cell? ⟨bb, ob + 4 + 2, none⟩ = some (.int .i64 lb2) ∧ w'.cell? ⟨bb, ob + 4 + 3, none⟩ = some (.slice ab2 nb2 cb2)) w' from fun w' h => HS0.out _ (below_trans hbz h))
  have s0 : Y.cell? ⟨bx, 0, none⟩ = some (.int .i64 u0) := by rw [cell_of_block hEx]; rfl
  have s1 : Y.cell? ⟨bx, 1, none⟩ = some (.int .i64 u1') := by rw [cell_of_block hEx]; rfl
  have s2 : Y.cell? ⟨bx, 2, none⟩ = some (.int .i64 u2) := by rw [cell_of_block hEx]; rfl
  have s3 : Y.cell? ⟨bx, 3, none⟩ = some (.slice ua un uc) := by rw [cell_of_block hEx]; rfl
  have HO1 := hid hOx
  have HBY := hid hbz
  have HR1 := hid hr1
  have HX := hid (And.intro hEx hbx)
  have HS1b := hid (fun (w' : World) (h : Below Y.heap.size Y w') => show w'.cell? ⟨bx, 0, none⟩ = some (.int .i64 u0) ∧ w'.cell? ⟨bx, 1, none⟩ = some (.int .i64 u1') ∧ w'.cell? ⟨bx, 2, none⟩ = some (.int .i64 u2) ∧ w'.cell? ⟨bx, 3, none⟩ = some (.slice ua un uc) from ⟨cell_keep s0 h, cell_keep s1 h, cell_keep s2 h, cell_keep s3 h⟩)
  clear hEx hOx hbz hr1 s0 s1 s2 s3
  go_wp2_with fail
  go_cut [8, 9] (fun sx sq wx => CutO Y (cmpo n a2 b2) sx sq wx)
  case first =>
    refine regionL (s := 13) (S0 := (fun w' => w'.cell? ⟨w.heap.size, 0, none⟩ = some (.int .i64 2) ∧ w'.cell? ⟨w.heap.size, 1, none⟩ = some (.int .i64 0) ∧ w'.cell? ⟨w.heap.size, 2, none⟩ = some (.int .i64 la) ∧ w'.cell? ⟨w.heap.size, 3, none⟩ = some (.slice (some ⟨ba, oa, none⟩) 2 ca) ∧ w'.cell? ⟨w.heap.size + 1, 0, none⟩ = some (.int .i64 2) ∧ w'.cell? ⟨w.heap.size + 1, 1, none⟩ = some (.int .i64 0) ∧ w'.cell? ⟨w.heap.size + 1, 2, none⟩ = some (.int .i64 lb) ∧ w'.cell? ⟨w.heap.size + 1, 3, none⟩ = some (.slice (some ⟨bb, ob, none⟩) 2 cb) ∧ w'.cell? ⟨ba, oa, none⟩ = some (.int .i64 ka1) ∧ w'.cell? ⟨ba, oa + 1, none⟩ = some (.int .i64 ga1) ∧ w'.cell? ⟨ba, oa + 2, none⟩ = some (.int .i64 la1) ∧ w'.cell? ⟨ba, oa + 3, none⟩ = some (.slice aa1 na1 ca1) ∧ w'.cell? ⟨ba, oa + 4, none⟩ = some (.int .i64 ka2) ∧ w'.cell? ⟨ba, oa + 4 + 1, none⟩ = some (.int .i64 ga2) ∧ w'.cell? ⟨ba, oa + 4 + 2, none⟩ = some (.int .i64 la2) ∧ w'.cell? ⟨ba, oa + 4 + 3, none⟩ = some (.slice aa2 na2 ca2) ∧ w'.cell? ⟨bb, ob, none⟩ = some (.int .i64 kb1) ∧ w'.cell? ⟨bb, ob + 1, none⟩ = some (.int .i64 gb1) ∧ w'.cell? ⟨bb, ob + 2, none⟩ = some (.int .i64 lb1) ∧ w'.cell? ⟨bb, ob + 3, none⟩ = some (.slice ab1 nb1 cb1) ∧ w'.cell? ⟨bb, ob + 4, none⟩ = some (.int .i64 kb2) ∧ w'.cell? ⟨bb, ob + 4 + 1, none⟩ = some (.int .i64 gb2) ∧ w'.cell? ⟨bb, ob + 4 + 2, none⟩ = some (.int .i64 lb2) ∧ w'.cell? ⟨bb, ob + 4 + 3, none⟩ = some (.slice ab2 nb2 cb2))) (S1 := (fun _ => True)) (by kernel_rfl) (HS1.out _ (below_drew _)) (trivial) (fun hS0 => ?_)
    refine takeL0 (i := 0) (v := ?vr1) rfl rfl (by kernel_rfl) (by kernel_rfl) (by kernel_rfl) (by decide) (by kernel_rfl) (by kernel_rfl) (fun _ _ _ h => h) (Or.inl ⟨by rfl, ?hyr1⟩) (by assumption) ?_
    case hyr1 => (intro w hSw; (try dsimp only at hSw); go_simp; (try with_reducible rfl))
    try simp only [Act.put, List.setIfInBounds_toArray, List.set_cons_zero, List.set_cons_succ]
    refine takeL0 (i := 1) (v := ?vr2) rfl rfl (by kernel_rfl) (by kernel_rfl) (by kernel_rfl) (by decide) (by kernel_rfl) (by kernel_rfl) (fun _ _ _ h => h) (Or.inl ⟨by rfl, ?hyr2⟩) (by assumption) ?_
    case hyr2 => (intro w hSw; (try dsimp only at hSw); go_simp; (try with_reducible rfl))
    try simp only [Act.put, List.setIfInBounds_toArray, List.set_cons_zero, List.set_cons_succ]
    refine takeL0 (i := 2) (v := ?vr3) rfl rfl (by kernel_rfl) (by kernel_rfl) (by kernel_rfl) (by decide) (by kernel_rfl) (by kernel_rfl) (fun _ _ _ h => h) (Or.inl ⟨by rfl, ?hyr3⟩) (by assumption) ?_
    case hyr3 => (intro w hSw; (try dsimp only at hSw); go_simp; (try with_reducible rfl))
    try simp only [Act.put, List.setIfInBounds_toArray, List.set_cons_zero, List.set_cons_succ]
    refine takeL0 (i := 3) (v := ?vr4) rfl rfl (by kernel_rfl) (by kernel_rfl) (by kernel_rfl) (by decide) (by kernel_rfl) (by kernel_rfl) (fun _ _ _ h => h) (Or.inl ⟨by rfl, ?hyr4⟩) (by assumption) ?_
    case hyr4 => (intro w hSw; (try dsimp only at hSw); go_simp; (try with_reducible rfl))
    try simp only [Act.put, List.setIfInBounds_toArray, List.set_cons_zero, List.set_cons_succ]
    refine takeL0 (i := 4) (v := ?vr5) rfl rfl (by kernel_rfl) (by kernel_rfl) (by kernel_rfl) (by decide) (by kernel_rfl) (by kernel_rfl) (fun _ _ _ h => h) (Or.inl ⟨by rfl, ?hyr5⟩) (by assumption) ?_
    case hyr5 => (intro w hSw; (try dsimp only at hSw); go_simp; (try with_reducible rfl))
    try simp only [Act.put, List.setIfInBounds_toArray, List.set_cons_zero, List.set_cons_succ]
    refine takeL0 (i := 5) (v := ?vr6) rfl rfl (by kernel_rfl) (by kernel_rfl) (by kernel_rfl) (by decide) (by kernel_rfl) (by kernel_rfl) (fun _ _ _ h => h) (Or.inl ⟨by rfl, ?hyr6⟩) (by assumption) ?_
    case hyr6 => (intro w hSw; (try dsimp only at hSw); go_simp; (try with_reducible rfl))
    try simp only [Act.put, List.setIfInBounds_toArray, List.set_cons_zero, List.set_cons_succ]
    refine takeL0 (i := 6) (v := ?vr7) rfl rfl (by kernel_rfl) (by kernel_rfl) (by kernel_rfl) (by decide) (by kernel_rfl) (by kernel_rfl) (fun _ _ _ h => h) (Or.inl ⟨by rfl, ?hyr7⟩) (by assumption) ?_
    case hyr7 => (intro w hSw; (try dsimp only at hSw); go_simp; (try with_reducible rfl))
    try simp only [Act.put, List.setIfInBounds_toArray, List.set_cons_zero, List.set_cons_succ]
    refine takeL0 (i := 7) (v := ?vr8) rfl rfl (by kernel_rfl) (by kernel_rfl) (by kernel_rfl) (by decide) (by kernel_rfl) (by kernel_rfl) (fun _ _ _ h => h) (Or.inl ⟨by rfl, ?hyr8⟩) (by assumption) ?_
    case hyr8 => (intro w hSw; (try dsimp only at hSw); go_simp; (try with_reducible rfl))
    try simp only [Act.put, List.setIfInBounds_toArray, List.set_cons_zero, List.set_cons_succ]
    refine readyL (rs := [8, 12]) (by kernel_rfl) (by simp) ?_
    refine AllReadyL.cons rfl (fun K hK => ?_) ?_
    · go_simp
      refine (cm_from HIH.out (W0 := Y) (below_drew Y) (by have := HP.out.1; omega) HP.out.2.1 HP.out.2.2.1 HP.out.2.2.2.1.2 HP.out.2.2.2.2.2 (H0.out.1.2.below HBY.out) (H0.out.2.2.below HBY.out)).mono ?_
      rintro e w1 ⟨⟨p0, p1, p2, pa, pn, pc, rfl, hb1, hO⟩, hU⟩
      have hB1 := below_trans hU hb1
      have hU1 := hU.size
      refine hK.out _ _ ?_ (fun hS1 => ?_)
      · exact ⟨trivial, fun _ => HS1.out _ hB1⟩
      clear hK K hS0
      try simp only [Act.put, List.setIfInBounds_toArray, List.set_cons_zero, List.set_cons_succ]
      refine takeL0 (i := 9) (v := ?vr9) rfl rfl (by kernel_rfl) (by kernel_rfl) (by kernel_rfl) (by decide) (by kernel_rfl) (by kernel_rfl) (fun _ _ _ h => h) (Or.inl ⟨by rfl, ?hyr9⟩) (by assumption) ?_
      case hyr9 => (intro w hSw; (try dsimp only at hSw); go_simp; (try with_reducible rfl))
      try simp only [Act.put, List.setIfInBounds_toArray, List.set_cons_zero, List.set_cons_succ]
      refine readyL (rs := [10, 11, 12]) (by kernel_rfl) (by simp) ?_
      refine AllReadyL.cons rfl (fun K hK => ?_) ?_
      · go_simp
        refine hK.out _ _ ?_ (fun hS2 => ?_)
        · exact ⟨trivial, fun _ => HS1.out _ hB1⟩
        clear hK K hS1
        try simp only [Act.put, List.setIfInBounds_toArray, List.set_cons_zero, List.set_cons_succ]
        refine readyL (rs := [11, 12]) (by kernel_rfl) (by simp) ?_
        refine AllReadyL.cons rfl (fun K hK => ?_) ?_
        · go_simp
          refine hK.out _ _ ?_ (fun hS3 => ?_)
          · exact ⟨trivial, fun _ => HS1.out _ hB1⟩
          clear hK K hS2
          try simp only [Act.put, List.setIfInBounds_toArray, List.set_cons_zero, List.set_cons_succ]
          refine readyL (rs := [12]) (by kernel_rfl) (by simp) ?_
          refine AllReadyL.cons rfl (fun K hK => ?_) AllReadyL.nil
          go_simp
          refine hK.out _ _ ?_ (fun hS4 => ?_)
          · exact ⟨trivial, fun _ => HS1.out _ (hB1.alloc hB1.size _)⟩
          clear hK K hS3
          try simp only [Act.put, List.setIfInBounds_toArray, List.set_cons_zero, List.set_cons_succ]
          refine readyL (rs := [13]) (by kernel_rfl) (by simp) ?_
          refine AllReadyL.cons rfl (fun K hK => ?_) AllReadyL.nil
          go_simp
          refine hK.out _ _ ?_ (fun hS5 => ?_)
          · exact ⟨trivial, fun h => absurd (h.symm.trans (show _ = true by kernel_rfl)) (by decide)⟩
          clear hK K hS4
          try simp only [Act.put, List.setIfInBounds_toArray, List.set_cons_zero, List.set_cons_succ]
          refine readyL (rs := [14]) (by kernel_rfl) (by simp) ?_
          refine AllReadyL.cons rfl (fun K hK => ?_) AllReadyL.nil
          go_simp
          refine hK.out _ _ ?_ (fun hS6 => ?_)
          · exact ⟨trivial, fun h => absurd (h.symm.trans (show _ = true by kernel_rfl)) (by decide)⟩
          clear hK K hS5
          try simp only [Act.put, List.setIfInBounds_toArray, List.set_cons_zero, List.set_cons_succ]
          refine doneL (by kernel_rfl) ?_ _
          go_wp2_with fail
          go_meet
          exact cutO_alloc hO hU1 hB1
        refine AllReadyL.cons rfl (fun K hK => ?_) AllReadyL.nil
        go_simp
        refine hK.out _ _ ?_ (fun hS3 => ?_)
        · exact ⟨trivial, fun _ => HS1.out _ (hB1.alloc hB1.size _)⟩
        clear hK K hS2
        try simp only [Act.put, List.setIfInBounds_toArray, List.set_cons_zero, List.set_cons_succ]
        refine readyL (rs := [11, 13]) (by kernel_rfl) (by simp) ?_
        refine AllReadyL.cons rfl (fun K hK => ?_) ?_
        · go_simp
          refine hK.out _ _ ?_ (fun hS4 => ?_)
          · exact ⟨trivial, fun _ => HS1.out _ (hB1.alloc hB1.size _)⟩
          clear hK K hS3
          try simp only [Act.put, List.setIfInBounds_toArray, List.set_cons_zero, List.set_cons_succ]
          refine readyL (rs := [13]) (by kernel_rfl) (by simp) ?_
          refine AllReadyL.cons rfl (fun K hK => ?_) AllReadyL.nil
          go_simp
          refine hK.out _ _ ?_ (fun hS5 => ?_)
          · exact ⟨trivial, fun h => absurd (h.symm.trans (show _ = true by kernel_rfl)) (by decide)⟩
          clear hK K hS4
          try simp only [Act.put, List.setIfInBounds_toArray, List.set_cons_zero, List.set_cons_succ]
          refine readyL (rs := [14]) (by kernel_rfl) (by simp) ?_
          refine AllReadyL.cons rfl (fun K hK => ?_) AllReadyL.nil
          go_simp
          refine hK.out _ _ ?_ (fun hS6 => ?_)
          · exact ⟨trivial, fun h => absurd (h.symm.trans (show _ = true by kernel_rfl)) (by decide)⟩
          clear hK K hS5
          try simp only [Act.put, List.setIfInBounds_toArray, List.set_cons_zero, List.set_cons_succ]
          refine doneL (by kernel_rfl) ?_ _
          go_wp2_with fail
          go_meet
          exact cutO_alloc hO hU1 hB1
        refine AllReadyL.cons rfl (fun K hK => ?_) AllReadyL.nil
        go_simp
        refine hK.out _ _ ?_ (fun hS4 => ?_)
        · exact ⟨trivial, fun h => absurd (h.symm.trans (show _ = true by kernel_rfl)) (by decide)⟩
        clear hK K hS3
        try simp only [Act.put, List.setIfInBounds_toArray, List.set_cons_zero, List.set_cons_succ]
        refine readyL (rs := [11]) (by kernel_rfl) (by simp) ?_
        refine AllReadyL.cons rfl (fun K hK => ?_) AllReadyL.nil
        go_simp
        refine hK.out _ _ ?_ (fun hS5 => ?_)
        · exact ⟨trivial, fun h => absurd (h.symm.trans (show _ = true by kernel_rfl)) (by decide)⟩
        clear hK K hS4
        try simp only [Act.put, List.setIfInBounds_toArray, List.set_cons_zero, List.set_cons_succ]
        refine readyL (rs := [14]) (by kernel_rfl) (by simp) ?_
        refine AllReadyL.cons rfl (fun K hK => ?_) AllReadyL.nil
        go_simp
        refine hK.out _ _ ?_ (fun hS6 => ?_)
        · exact ⟨trivial, fun h => absurd (h.symm.trans (show _ = true by kernel_rfl)) (by decide)⟩
        clear hK K hS5
        try simp only [Act.put, List.setIfInBounds_toArray, List.set_cons_zero, List.set_cons_succ]
        refine doneL (by kernel_rfl) ?_ _
        go_wp2_with fail
        go_meet
        exact cutO_alloc hO hU1 hB1
      refine AllReadyL.cons rfl (fun K hK => ?_) ?_
      · go_simp
        refine hK.out _ _ ?_ (fun hS2 => ?_)
        · exact ⟨trivial, fun _ => HS1.out _ hB1⟩
        clear hK K hS1
        try simp only [Act.put, List.setIfInBounds_toArray, List.set_cons_zero, List.set_cons_succ]
        refine readyL (rs := [10, 12]) (by kernel_rfl) (by simp) ?_
        refine AllReadyL.cons rfl (fun K hK => ?_) ?_
        · go_simp
          refine hK.out _ _ ?_ (fun hS3 => ?_)
          · exact ⟨trivial, fun _ => HS1.out _ hB1⟩
          clear hK K hS2
          try simp only [Act.put, List.setIfInBounds_toArray, List.set_cons_zero, List.set_cons_succ]
          refine readyL (rs := [12]) (by kernel_rfl) (by simp) ?_
          refine AllReadyL.cons rfl (fun K hK => ?_) AllReadyL.nil
          go_simp
          refine hK.out _ _ ?_ (fun hS4 => ?_)
          · exact ⟨trivial, fun _ => HS1.out _ (hB1.alloc hB1.size _)⟩
          clear hK K hS3
          try simp only [Act.put, List.setIfInBounds_toArray, List.set_cons_zero, List.set_cons_succ]
          refine readyL (rs := [13]) (by kernel_rfl) (by simp) ?_
          refine AllReadyL.cons rfl (fun K hK => ?_) AllReadyL.nil
          go_simp
          refine hK.out _ _ ?_ (fun hS5 => ?_)
          · exact ⟨trivial, fun h => absurd (h.symm.trans (show _ = true by kernel_rfl)) (by decide)⟩
          clear hK K hS4
          try simp only [Act.put, List.setIfInBounds_toArray, List.set_cons_zero, List.set_cons_succ]
          refine readyL (rs := [14]) (by kernel_rfl) (by simp) ?_
          refine AllReadyL.cons rfl (fun K hK => ?_) AllReadyL.nil
          go_simp
          refine hK.out _ _ ?_ (fun hS6 => ?_)
          · exact ⟨trivial, fun h => absurd (h.symm.trans (show _ = true by kernel_rfl)) (by decide)⟩
          clear hK K hS5
          try simp only [Act.put, List.setIfInBounds_toArray, List.set_cons_zero, List.set_cons_succ]
          refine doneL (by kernel_rfl) ?_ _
          go_wp2_with fail
          go_meet
          exact cutO_alloc hO hU1 hB1
        refine AllReadyL.cons rfl (fun K hK => ?_) AllReadyL.nil
        go_simp
        refine hK.out _ _ ?_ (fun hS3 => ?_)
        · exact ⟨trivial, fun _ => HS1.out _ (hB1.alloc hB1.size _)⟩
        clear hK K hS2
        try simp only [Act.put, List.setIfInBounds_toArray, List.set_cons_zero, List.set_cons_succ]
        refine readyL (rs := [10]) (by kernel_rfl) (by simp) ?_
        refine AllReadyL.cons rfl (fun K hK => ?_) AllReadyL.nil
        go_simp
        refine hK.out _ _ ?_ (fun hS4 => ?_)
        · exact ⟨trivial, fun _ => HS1.out _ (hB1.alloc hB1.size _)⟩
        clear hK K hS3
        try simp only [Act.put, List.setIfInBounds_toArray, List.set_cons_zero, List.set_cons_succ]
        refine readyL (rs := [13]) (by kernel_rfl) (by simp) ?_
        refine AllReadyL.cons rfl (fun K hK => ?_) AllReadyL.nil
        go_simp
        refine hK.out _ _ ?_ (fun hS5 => ?_)
        · exact ⟨trivial, fun h => absurd (h.symm.trans (show _ = true by kernel_rfl)) (by decide)⟩
        clear hK K hS4
        try simp only [Act.put, List.setIfInBounds_toArray, List.set_cons_zero, List.set_cons_succ]
        refine readyL (rs := [14]) (by kernel_rfl) (by simp) ?_
        refine AllReadyL.cons rfl (fun K hK => ?_) AllReadyL.nil
        go_simp
        refine hK.out _ _ ?_ (fun hS6 => ?_)
        · exact ⟨trivial, fun h => absurd (h.symm.trans (show _ = true by kernel_rfl)) (by decide)⟩
        clear hK K hS5
        try simp only [Act.put, List.setIfInBounds_toArray, List.set_cons_zero, List.set_cons_succ]
        refine doneL (by kernel_rfl) ?_ _
        go_wp2_with fail
        go_meet
        exact cutO_alloc hO hU1 hB1
      refine AllReadyL.cons rfl (fun K hK => ?_) AllReadyL.nil
      go_simp
      refine hK.out _ _ ?_ (fun hS2 => ?_)
      · exact ⟨trivial, fun _ => HS1.out _ (hB1.alloc hB1.size _)⟩
      clear hK K hS1
      try simp only [Act.put, List.setIfInBounds_toArray, List.set_cons_zero, List.set_cons_succ]
      refine readyL (rs := [10, 11]) (by kernel_rfl) (by simp) ?_
      refine AllReadyL.cons rfl (fun K hK => ?_) ?_
      · go_simp
        refine hK.out _ _ ?_ (fun hS3 => ?_)
        · exact ⟨trivial, fun _ => HS1.out _ (hB1.alloc hB1.size _)⟩
        clear hK K hS2
        try simp only [Act.put, List.setIfInBounds_toArray, List.set_cons_zero, List.set_cons_succ]
        refine readyL (rs := [11, 13]) (by kernel_rfl) (by simp) ?_
        refine AllReadyL.cons rfl (fun K hK => ?_) ?_
        · go_simp
          refine hK.out _ _ ?_ (fun hS4 => ?_)
          · exact ⟨trivial, fun _ => HS1.out _ (hB1.alloc hB1.size _)⟩
          clear hK K hS3
          try simp only [Act.put, List.setIfInBounds_toArray, List.set_cons_zero, List.set_cons_succ]
          refine readyL (rs := [13]) (by kernel_rfl) (by simp) ?_
          refine AllReadyL.cons rfl (fun K hK => ?_) AllReadyL.nil
          go_simp
          refine hK.out _ _ ?_ (fun hS5 => ?_)
          · exact ⟨trivial, fun h => absurd (h.symm.trans (show _ = true by kernel_rfl)) (by decide)⟩
          clear hK K hS4
          try simp only [Act.put, List.setIfInBounds_toArray, List.set_cons_zero, List.set_cons_succ]
          refine readyL (rs := [14]) (by kernel_rfl) (by simp) ?_
          refine AllReadyL.cons rfl (fun K hK => ?_) AllReadyL.nil
          go_simp
          refine hK.out _ _ ?_ (fun hS6 => ?_)
          · exact ⟨trivial, fun h => absurd (h.symm.trans (show _ = true by kernel_rfl)) (by decide)⟩
          clear hK K hS5
          try simp only [Act.put, List.setIfInBounds_toArray, List.set_cons_zero, List.set_cons_succ]
          refine doneL (by kernel_rfl) ?_ _
          go_wp2_with fail
          go_meet
          exact cutO_alloc hO hU1 hB1
        refine AllReadyL.cons rfl (fun K hK => ?_) AllReadyL.nil
        go_simp
        refine hK.out _ _ ?_ (fun hS4 => ?_)
        · exact ⟨trivial, fun h => absurd (h.symm.trans (show _ = true by kernel_rfl)) (by decide)⟩
        clear hK K hS3
        try simp only [Act.put, List.setIfInBounds_toArray, List.set_cons_zero, List.set_cons_succ]
        refine readyL (rs := [11]) (by kernel_rfl) (by simp) ?_
        refine AllReadyL.cons rfl (fun K hK => ?_) AllReadyL.nil
        go_simp
        refine hK.out _ _ ?_ (fun hS5 => ?_)
        · exact ⟨trivial, fun h => absurd (h.symm.trans (show _ = true by kernel_rfl)) (by decide)⟩
        clear hK K hS4
        try simp only [Act.put, List.setIfInBounds_toArray, List.set_cons_zero, List.set_cons_succ]
        refine readyL (rs := [14]) (by kernel_rfl) (by simp) ?_
        refine AllReadyL.cons rfl (fun K hK => ?_) AllReadyL.nil
        go_simp
        refine hK.out _ _ ?_ (fun hS6 => ?_)
        · exact ⟨trivial, fun h => absurd (h.symm.trans (show _ = true by kernel_rfl)) (by decide)⟩
        clear hK K hS5
        try simp only [Act.put, List.setIfInBounds_toArray, List.set_cons_zero, List.set_cons_succ]
        refine doneL (by kernel_rfl) ?_ _
        go_wp2_with fail
        go_meet
        exact cutO_alloc hO hU1 hB1
      refine AllReadyL.cons rfl (fun K hK => ?_) AllReadyL.nil
      go_simp
      refine hK.out _ _ ?_ (fun hS3 => ?_)
      · exact ⟨trivial, fun _ => HS1.out _ (hB1.alloc hB1.size _)⟩
      clear hK K hS2
      try simp only [Act.put, List.setIfInBounds_toArray, List.set_cons_zero, List.set_cons_succ]
      refine readyL (rs := [10]) (by kernel_rfl) (by simp) ?_
      refine AllReadyL.cons rfl (fun K hK => ?_) AllReadyL.nil
      go_simp
      refine hK.out _ _ ?_ (fun hS4 => ?_)
      · exact ⟨trivial, fun _ => HS1.out _ (hB1.alloc hB1.size _)⟩
      clear hK K hS3
      try simp only [Act.put, List.setIfInBounds_toArray, List.set_cons_zero, List.set_cons_succ]
      refine readyL (rs := [13]) (by kernel_rfl) (by simp) ?_
      refine AllReadyL.cons rfl (fun K hK => ?_) AllReadyL.nil
      go_simp
      refine hK.out _ _ ?_ (fun hS5 => ?_)
      · exact ⟨trivial, fun h => absurd (h.symm.trans (show _ = true by kernel_rfl)) (by decide)⟩
      clear hK K hS4
      try simp only [Act.put, List.setIfInBounds_toArray, List.set_cons_zero, List.set_cons_succ]
      refine readyL (rs := [14]) (by kernel_rfl) (by simp) ?_
      refine AllReadyL.cons rfl (fun K hK => ?_) AllReadyL.nil
      go_simp
      refine hK.out _ _ ?_ (fun hS6 => ?_)
      · exact ⟨trivial, fun h => absurd (h.symm.trans (show _ = true by kernel_rfl)) (by decide)⟩
      clear hK K hS5
      try simp only [Act.put, List.setIfInBounds_toArray, List.set_cons_zero, List.set_cons_succ]
      refine doneL (by kernel_rfl) ?_ _
      go_wp2_with fail
      go_meet
      exact cutO_alloc hO hU1 hB1
    refine AllReadyL.cons rfl (fun K hK => ?_) AllReadyL.nil
    go_simp
    refine hK.out _ _ ?_ (fun hS1 => ?_)
    · exact ⟨trivial, fun _ => HS1.out _ ((below_drew _).alloc (by simp) _)⟩
    clear hK K hS0
    try simp only [Act.put, List.setIfInBounds_toArray, List.set_cons_zero, List.set_cons_succ]
    refine readyL (rs := [8]) (by kernel_rfl) (by simp) ?_
    refine AllReadyL.cons rfl (fun K hK => ?_) AllReadyL.nil
    go_simp
    refine (cm_from HIH.out (W0 := Y) (((Below.refl (Y).heap.size Y).alloc (Nat.le_refl _) (Obj.cells #[.int .i64 0, .int .i64 0, .int .i64 0, .slice none 0 0] 44)).drew) (by have := HP.out.1; omega) HP.out.2.1 HP.out.2.2.1 HP.out.2.2.2.1.2 HP.out.2.2.2.2.2 (H0.out.1.2.below HBY.out) (H0.out.2.2.below HBY.out)).mono ?_
    rintro e w1 ⟨⟨p0, p1, p2, pa, pn, pc, rfl, hb1, hO⟩, hU⟩
    have hB1 := below_trans hU hb1
    have hU1 := hU.size
    refine hK.out _ _ ?_ (fun hS2 => ?_)
    · exact ⟨trivial, fun _ => HS1.out _ hB1⟩
    clear hK K hS1
    try simp only [Act.put, List.setIfInBounds_toArray, List.set_cons_zero, List.set_cons_succ]
    refine takeL0 (i := 9) (v := ?vr10) rfl rfl (by kernel_rfl) (by kernel_rfl) (by kernel_rfl) (by decide) (by kernel_rfl) (by kernel_rfl) (fun _ _ _ h => h) (Or.inl ⟨by rfl, ?hyr10⟩) (by assumption) ?_
    case hyr10 => (intro w hSw; (try dsimp only at hSw); go_simp; (try with_reducible rfl))
    try simp only [Act.put, List.setIfInBounds_toArray, List.set_cons_zero, List.set_cons_succ]
    refine readyL (rs := [10, 11]) (by kernel_rfl) (by simp) ?_
    refine AllReadyL.cons rfl (fun K hK => ?_) ?_
    · go_simp
      refine hK.out _ _ ?_ (fun hS3 => ?_)
      · exact ⟨trivial, fun _ => HS1.out _ hB1⟩
      clear hK K hS2
      try simp only [Act.put, List.setIfInBounds_toArray, List.set_cons_zero, List.set_cons_succ]
      refine readyL (rs := [11, 13]) (by kernel_rfl) (by simp) ?_
      refine AllReadyL.cons rfl (fun K hK => ?_) ?_
      · go_simp
        refine hK.out _ _ ?_ (fun hS4 => ?_)
        · exact ⟨trivial, fun _ => HS1.out _ hB1⟩
        clear hK K hS3
        try simp only [Act.put, List.setIfInBounds_toArray, List.set_cons_zero, List.set_cons_succ]
        refine readyL (rs := [13]) (by kernel_rfl) (by simp) ?_
        refine AllReadyL.cons rfl (fun K hK => ?_) AllReadyL.nil
        have hE1 := (hb1.block _ (by simp [World.drew])).trans (alloc_new Y (Obj.cells #[.int .i64 0, .int .i64 0, .int .i64 0, .slice none 0 0] 44))
        have bM := hE1
        have z0 := (cell_of_block (o := 0) bM).trans (show _ = some (.int .i64 0) from rfl)
        have z1 := (cell_of_block (o := 1) bM).trans (show _ = some (.int .i64 0) from rfl)
        have z2 := (cell_of_block (o := 2) bM).trans (show _ = some (.int .i64 0) from rfl)
        have z3 := (cell_of_block (o := 3) bM).trans (show _ = some (.slice none 0 0) from rfl)
        have yz := fun o => frozen_of_block (o := o) bM
        go_simp
        refine hK.out _ _ ?_ (fun hS5 => ?_)
        · exact ⟨trivial, fun h => absurd (h.symm.trans (show _ = true by kernel_rfl)) (by decide)⟩
        clear hK K hS4
        try simp only [Act.put, List.setIfInBounds_toArray, List.set_cons_zero, List.set_cons_succ]
        refine readyL (rs := [14]) (by kernel_rfl) (by simp) ?_
        refine AllReadyL.cons rfl (fun K hK => ?_) AllReadyL.nil
        go_simp
        refine hK.out _ _ ?_ (fun hS6 => ?_)
        · exact ⟨trivial, fun h => absurd (h.symm.trans (show _ = true by kernel_rfl)) (by decide)⟩
        clear hK K hS5
        try simp only [Act.put, List.setIfInBounds_toArray, List.set_cons_zero, List.set_cons_succ]
        refine doneL (by kernel_rfl) ?_ _
        go_wp2_with fail
        go_meet
        exact cutO_stores hE1 hO (by simp [World.drew] at hU1 ⊢) hB1
      refine AllReadyL.cons rfl (fun K hK => ?_) AllReadyL.nil
      have hE1 := (hb1.block _ (by simp [World.drew])).trans (alloc_new Y (Obj.cells #[.int .i64 0, .int .i64 0, .int .i64 0, .slice none 0 0] 44))
      have bM := hE1
      have z0 := (cell_of_block (o := 0) bM).trans (show _ = some (.int .i64 0) from rfl)
      have z1 := (cell_of_block (o := 1) bM).trans (show _ = some (.int .i64 0) from rfl)
      have z2 := (cell_of_block (o := 2) bM).trans (show _ = some (.int .i64 0) from rfl)
      have z3 := (cell_of_block (o := 3) bM).trans (show _ = some (.slice none 0 0) from rfl)
      have yz := fun o => frozen_of_block (o := o) bM
      go_simp
      refine hK.out _ _ ?_ (fun hS4 => ?_)
      · exact ⟨trivial, fun h => absurd (h.symm.trans (show _ = true by kernel_rfl)) (by decide)⟩
      clear hK K hS3
      try simp only [Act.put, List.setIfInBounds_toArray, List.set_cons_zero, List.set_cons_succ]
      refine readyL (rs := [11]) (by kernel_rfl) (by simp) ?_
      refine AllReadyL.cons rfl (fun K hK => ?_) AllReadyL.nil
      go_simp
      refine hK.out _ _ ?_ (fun hS5 => ?_)
      · exact ⟨trivial, fun h => absurd (h.symm.trans (show _ = true by kernel_rfl)) (by decide)⟩
      clear hK K hS4
      try simp only [Act.put, List.setIfInBounds_toArray, List.set_cons_zero, List.set_cons_succ]
      refine readyL (rs := [14]) (by kernel_rfl) (by simp) ?_
      refine AllReadyL.cons rfl (fun K hK => ?_) AllReadyL.nil
      go_simp
      refine hK.out _ _ ?_ (fun hS6 => ?_)
      · exact ⟨trivial, fun h => absurd (h.symm.trans (show _ = true by kernel_rfl)) (by decide)⟩
      clear hK K hS5
      try simp only [Act.put, List.setIfInBounds_toArray, List.set_cons_zero, List.set_cons_succ]
      refine doneL (by kernel_rfl) ?_ _
      go_wp2_with fail
      go_meet
      exact cutO_stores hE1 hO (by simp [World.drew] at hU1 ⊢) hB1
    refine AllReadyL.cons rfl (fun K hK => ?_) AllReadyL.nil
    go_simp
    refine hK.out _ _ ?_ (fun hS3 => ?_)
    · exact ⟨trivial, fun _ => HS1.out _ hB1⟩
    clear hK K hS2
    try simp only [Act.put, List.setIfInBounds_toArray, List.set_cons_zero, List.set_cons_succ]
    refine readyL (rs := [10]) (by kernel_rfl) (by simp) ?_
    refine AllReadyL.cons rfl (fun K hK => ?_) AllReadyL.nil
    go_simp
    refine hK.out _ _ ?_ (fun hS4 => ?_)
    · exact ⟨trivial, fun _ => HS1.out _ hB1⟩
    clear hK K hS3
    try simp only [Act.put, List.setIfInBounds_toArray, List.set_cons_zero, List.set_cons_succ]
    refine readyL (rs := [13]) (by kernel_rfl) (by simp) ?_
    refine AllReadyL.cons rfl (fun K hK => ?_) AllReadyL.nil
    have hE1 := (hb1.block _ (by simp [World.drew])).trans (alloc_new Y (Obj.cells #[.int .i64 0, .int .i64 0, .int .i64 0, .slice none 0 0] 44))
    have bM := hE1
    have z0 := (cell_of_block (o := 0) bM).trans (show _ = some (.int .i64 0) from rfl)
    have z1 := (cell_of_block (o := 1) bM).trans (show _ = some (.int .i64 0) from rfl)
    have z2 := (cell_of_block (o := 2) bM).trans (show _ = some (.int .i64 0) from rfl)
    have z3 := (cell_of_block (o := 3) bM).trans (show _ = some (.slice none 0 0) from rfl)
    have yz := fun o => frozen_of_block (o := o) bM
    go_simp
    refine hK.out _ _ ?_ (fun hS5 => ?_)
    · exact ⟨trivial, fun h => absurd (h.symm.trans (show _ = true by kernel_rfl)) (by decide)⟩
    clear hK K hS4
    try simp only [Act.put, List.setIfInBounds_toArray, List.set_cons_zero, List.set_cons_succ]
    refine readyL (rs := [14]) (by kernel_rfl) (by simp) ?_
    refine AllReadyL.cons rfl (fun K hK => ?_) AllReadyL.nil
    go_simp
    refine hK.out _ _ ?_ (fun hS6 => ?_)
    · exact ⟨trivial, fun h => absurd (h.symm.trans (show _ = true by kernel_rfl)) (by decide)⟩
    clear hK K hS5
    try simp only [Act.put, List.setIfInBounds_toArray, List.set_cons_zero, List.set_cons_succ]
    refine doneL (by kernel_rfl) ?_ _
    go_wp2_with fail
    go_meet
    exact cutO_stores hE1 hO (by simp [World.drew] at hU1 ⊢) hB1
  case rest =>
  rename World => V
  obtain ⟨by', r2, v0, v1, v2, vb, vn, vc, rfl, rfl, hr2, hby, hEy, hOy, hby2⟩ := hcut
  have hSS := HS1.out _ hby2
  clear x0 x1 x2 x3 y0 y1 y2 y3 d0 d1 d2 d3 d4 d5 d6 d7 e0 e1 e2 e3 e4 e5 e6 e7
  obtain ⟨x0, x1, x2, x3, y0, y1, y2, y3, d0, d1, d2, d3, d4, d5, d6, d7, e0, e1, e2, e3, e4, e5, e6, e7⟩ := hSS
  obtain ⟨s0, s1, s2, s3⟩ := HS1b.out _ hby2
  have t0 : V.cell? ⟨by', 0, none⟩ = some (.int .i64 v0) := by rw [cell_of_block hEy]; rfl
  have t1 : V.cell? ⟨by', 1, none⟩ = some (.int .i64 v1) := by rw [cell_of_block hEy]; rfl
  have t2 : V.cell? ⟨by', 2, none⟩ = some (.int .i64 v2) := by rw [cell_of_block hEy]; rfl
  have t3 : V.cell? ⟨by', 3, none⟩ = some (.slice vb vn vc) := by rw [cell_of_block hEy]; rfl
  have hBV := below_trans HBY.out hby2
  have hZV := hBV.size
  have hMV : V.heap[w.heap.size + 1 + 1]? = some (Obj.cells #[.int .i64 0, .int .i64 0, .int .i64 0, .slice none 0 0] 44) := (hBV.block _ (by omega)).trans HBZ.out
  have hbwV := below_trans HB0.out hBV
  have hwV := hbwV.size
  have HSZ := hid (show Z.heap.size ≤ Y.heap.size from HBY.out.size)
  have hal : Below V.heap.size V (V.alloc (Obj.cells #[.int .i64 u0, .int .i64 u1', .int .i64 u2, .slice ua un uc, .int .i64 v0, .int .i64 v1, .int .i64 v2, .slice vb vn vc] 44)) := (Below.refl _ _).alloc (Nat.le_refl _) _
  have bM := ((hal.block _ (lt_of_block hMV)).trans hMV)
  have z0 := (cell_of_block (o := 0) bM).trans (show _ = some (.int .i64 0) from rfl)
  have z1 := (cell_of_block (o := 1) bM).trans (show _ = some (.int .i64 0) from rfl)
  have z2 := (cell_of_block (o := 2) bM).trans (show _ = some (.int .i64 0) from rfl)
  have z3 := (cell_of_block (o := 3) bM).trans (show _ = some (.slice none 0 0) from rfl)
  have yz := fun o => frozen_of_block (o := o) bM
  have FIN : MadeO w (bothC 2 (cmpo n b1 a1) (cmpo n a2 b2)) (.returned (.tuple #[.agg #[.int .i64 2, .int .i64 0, .int .i64 0, .slice (some ⟨V.heap.size, 0, none⟩) 2 2], .bool (if r1 then r2 else false)])) (put4 (V.alloc (Obj.cells #[.int .i64 u0, .int .i64 u1', .int .i64 u2, .slice ua un uc, .int .i64 v0, .int .i64 v1, .int .i64 v2, .slice vb vn vc] 44)) (w.heap.size + 1 + 1) 0 (.int .i64 2) (.int .i64 0) (.int .i64 0) (.slice (some ⟨V.heap.size, 0, none⟩) 2 2)) := by
    refine closeO (lo := w.heap.size + 1 + 1 + 1) ?_ ?_ (by omega) (by omega) (below_trans hbwV hal)
    · rw [← HR1.out, ← hr2]
      cases cmpo n b1 a1 <;> cases cmpo n a2 b2 <;> rfl
    · intro c hc
      cases h1 : cmpo n b1 a1 with
      | none => rw [h1] at hc; cases hc
      | some c1 =>
        cases h2 : cmpo n a2 b2 with
        | none => rw [h1, h2] at hc; cases hc
        | some c2 =>
          rw [h1, h2] at hc
          obtain rfl : Co.mk 2 0 0 [c1, c2] = c := by simpa [bothC] using hc
          obtain ⟨f1, hat1, hf1⟩ := HO1.out c1 h1
          obtain ⟨f2, hat2, hf2⟩ := hOy c2 h2
          obtain ⟨fp, h3, h4⟩ := two_rowO (k := 2) (lo := Z.heap.size) (hat1.below hby2) hat2 hf1 hf2 (Nat.le_refl _) HSZ.out hby2 hZV
          exact ⟨fp, h3, h4.mono hlo⟩
  have HFIN := hid FIN
  have HR2 := hid hr2
  clear FIN hr2 hEy hOy hby2 hBV hMV hbwV hal bM
  cases r1
  all_goals
    have F2 := HFIN.out
    simp only [put4, Nat.zero_add, if_true, Bool.false_eq_true, if_false] at F2
    go_wp2_with fail
    first
      | exact bodyPost_ret (v := .tuple #[.agg #[.int .i64 2, .int .i64 0, .int .i64 0, .slice (some ⟨V.heap.size, 0, none⟩) 2 2], .bool false]) (by simp [results, Try.results54, go_sem, z0, z1, z2, z3]) rfl F2
      | exact bodyPost_ret (v := .tuple #[.agg #[.int .i64 2, .int .i64 0, .int .i64 0, .slice (some ⟨V.heap.size, 0, none⟩) 2 2], .bool r2]) (by simp [results, Try.results54, go_sem, z0, z1, z2, z3]) rfl F2

set_option maxRecDepth 100000 in
set_option maxHeartbeats 4000000 in
theorem l6Two_two3 (n : Nat) (ih : CmC n) (la lb : Int) (a1 a2 b1 b2 : Co) (d d' : Nat) (va vb : Value) (fa fb : List Nat) (w : World) (hd : d + d' ≤ n) (hd1 : d ≤ 9) (hd2 : d' ≤ 9) (hs1 : shpK d a1 = true) (hs2 : shpK d a2 = true) (ht1 : shpK d' b1 = true) (ht2 : shpK d' b2 = true) (hata : (Co.mk 3 0 la [a1, a2]).At w va fa) (hatb : (Co.mk 3 0 lb [b1, b2]).At w vb fb) :
    Calls Try.prog 54 #[va, vb] w (MadeO w (bothC 3 (cmpo n a1 b1) (cmpo n a2 b2))) := by
  obtain ⟨sa, rfl, hsa⟩ := Co.at_mk.1 hata
  obtain ⟨sb, rfl, hsb⟩ := Co.at_mk.1 hatb
  obtain ⟨ba, oa, ca, ka1, ga1, la1, na1, aa1, ca1, ka2, ga2, la2, na2, aa2, ca2, f1, f2, rfl, hba, d0, d1, d2, d3, d4, d5, d6, d7, hA1, hA2, _, hca⟩ := hsa.two
  obtain ⟨bb, ob, cb, kb1, gb1, lb1, nb1, ab1, cb1, kb2, gb2, lb2, nb2, ab2, cb2, g1, g2, rfl, hbb, e0, e1, e2, e3, e4, e5, e6, e7, hB1, hB2, _, hcb⟩ := hsb.two
  have hb0 : Below w.heap.size w (((w.alloc (Obj.cells #[.int .i64 3, .int .i64 0, .int .i64 la, .slice (some ⟨ba, oa, none⟩) 2 ca] 44)).alloc (Obj.cells #[.int .i64 3, .int .i64 0, .int .i64 lb, .slice (some ⟨bb, ob, none⟩) 2 cb] 44)).alloc (Obj.cells #[.int .i64 0, .int .i64 0, .int .i64 0, .slice none 0 0] 44)) := (((Below.refl _ _).alloc (Nat.le_refl _) _).alloc (by simp) _).alloc (by simp; omega) _
  have hs0 : ((((w.alloc (Obj.cells #[.int .i64 3, .int .i64 0, .int .i64 la, .slice (some ⟨ba, oa, none⟩) 2 ca] 44)).alloc (Obj.cells #[.int .i64 3, .int .i64 0, .int .i64 lb, .slice (some ⟨bb, ob, none⟩) 2 cb] 44)).alloc (Obj.cells #[.int .i64 0, .int .i64 0, .int .i64 0, .slice none 0 0] 44))).heap.size = w.heap.size + 1 + 1 + 1 := by simp
  obtain ⟨bA, bB, bZ⟩ := three3 (Below.refl ((((w.alloc (Obj.cells #[.int .i64 3, .int .i64 0, .int .i64 la, .slice (some ⟨ba, oa, none⟩) 2 ca] 44)).alloc (Obj.cells #[.int .i64 3, .int .i64 0, .int .i64 lb, .slice (some ⟨bb, ob, none⟩) 2 cb] 44)).alloc (Obj.cells #[.int .i64 0, .int .i64 0, .int .i64 0, .slice none 0 0] 44))).heap.size (((w.alloc (Obj.cells #[.int .i64 3, .int .i64 0, .int .i64 la, .slice (some ⟨ba, oa, none⟩) 2 ca] 44)).alloc (Obj.cells #[.int .i64 3, .int .i64 0, .int .i64 lb, .slice (some ⟨bb, ob, none⟩) 2 cb] 44)).alloc (Obj.cells #[.int .i64 0, .int .i64 0, .int .i64 0, .slice none 0 0] 44)))
  have x0 : ((((w.alloc (Obj.cells #[.int .i64 3, .int .i64 0, .int .i64 la, .slice (some ⟨ba, oa, none⟩) 2 ca] 44)).alloc (Obj.cells #[.int .i64 3, .int .i64 0, .int .i64 lb, .slice (some ⟨bb, ob, none⟩) 2 cb] 44)).alloc (Obj.cells #[.int .i64 0, .int .i64 0, .int .i64 0, .slice none 0 0] 44))).cell? ⟨w.heap.size, 0, none⟩ = some (.int .i64 3) := by rw [cell_of_block bA]; rfl
  have x1 : ((((w.alloc (Obj.cells #[.int .i64 3, .int .i64 0, .int .i64 la, .slice (some ⟨ba, oa, none⟩) 2 ca] 44)).alloc (Obj.cells #[.int .i64 3, .int .i64 0, .int .i64 lb, .slice (some ⟨bb, ob, none⟩) 2 cb] 44)).alloc (Obj.cells #[.int .i64 0, .int .i64 0, .int .i64 0, .slice none 0 0] 44))).cell? ⟨w.heap.size, 1, none⟩ = some (.int .i64 0) := by rw [cell_of_block bA]; rfl
  have x2 : ((((w.alloc (Obj.cells #[.int .i64 3, .int .i64 0, .int .i64 la, .slice (some ⟨ba, oa, none⟩) 2 ca] 44)).alloc (Obj.cells #[.int .i64 3, .int .i64 0, .int .i64 lb, .slice (some ⟨bb, ob, none⟩) 2 cb] 44)).alloc (Obj.cells #[.int .i64 0, .int .i64 0, .int .i64 0, .slice none 0 0] 44))).cell? ⟨w.heap.size, 2, none⟩ = some (.int .i64 la) := by rw [cell_of_block bA]; rfl
  have x3 : ((((w.alloc (Obj.cells #[.int .i64 3, .int .i64 0, .int .i64 la, .slice (some ⟨ba, oa, none⟩) 2 ca] 44)).alloc (Obj.cells #[.int .i64 3, .int .i64 0, .int .i64 lb, .slice (some ⟨bb, ob, none⟩) 2 cb] 44)).alloc (Obj.cells #[.int .i64 0, .int .i64 0, .int .i64 0, .slice none 0 0] 44))).cell? ⟨w.heap.size, 3, none⟩ = some (.slice (some ⟨ba, oa, none⟩) 2 ca) := by rw [cell_of_block bA]; rfl
  have y0 : ((((w.alloc (Obj.cells #[.int .i64 3, .int .i64 0, .int .i64 la, .slice (some ⟨ba, oa, none⟩) 2 ca] 44)).alloc (Obj.cells #[.int .i64 3, .int .i64 0, .int .i64 lb, .slice (some ⟨bb, ob, none⟩) 2 cb] 44)).alloc (Obj.cells #[.int .i64 0, .int .i64 0, .int .i64 0, .slice none 0 0] 44))).cell? ⟨w.heap.size + 1, 0, none⟩ = some (.int .i64 3) := by rw [cell_of_block bB]; rfl
  have y1 : ((((w.alloc (Obj.cells #[.int .i64 3, .int .i64 0, .int .i64 la, .slice (some ⟨ba, oa, none⟩) 2 ca] 44)).alloc (Obj.cells #[.int .i64 3, .int .i64 0, .int .i64 lb, .slice (some ⟨bb, ob, none⟩) 2 cb] 44)).alloc (Obj.cells #[.int .i64 0, .int .i64 0, .int .i64 0, .slice none 0 0] 44))).cell? ⟨w.heap.size + 1, 1, none⟩ = some (.int .i64 0) := by rw [cell_of_block bB]; rfl
  have y2 : ((((w.alloc (Obj.cells #[.int .i64 3, .int .i64 0, .int .i64 la, .slice (some ⟨ba, oa, none⟩) 2 ca] 44)).alloc (Obj.cells #[.int .i64 3, .int .i64 0, .int .i64 lb, .slice (some ⟨bb, ob, none⟩) 2 cb] 44)).alloc (Obj.cells #[.int .i64 0, .int .i64 0, .int .i64 0, .slice none 0 0] 44))).cell? ⟨w.heap.size + 1, 2, none⟩ = some (.int .i64 lb) := by rw [cell_of_block bB]; rfl
  have y3 : ((((w.alloc (Obj.cells #[.int .i64 3, .int .i64 0, .int .i64 la, .slice (some ⟨ba, oa, none⟩) 2 ca] 44)).alloc (Obj.cells #[.int .i64 3, .int .i64 0, .int .i64 lb, .slice (some ⟨bb, ob, none⟩) 2 cb] 44)).alloc (Obj.cells #[.int .i64 0, .int .i64 0, .int .i64 0, .slice none 0 0] 44))).cell? ⟨w.heap.size + 1, 3, none⟩ = some (.slice (some ⟨bb, ob, none⟩) 2 cb) := by rw [cell_of_block bB]; rfl
  replace d0 := cell_keep d0 hb0
  replace e0 := cell_keep e0 hb0
  replace d1 := cell_keep d1 hb0
  replace e1 := cell_keep e1 hb0
  replace d2 := cell_keep d2 hb0
  replace e2 := cell_keep e2 hb0
  replace d3 := cell_keep d3 hb0
  replace e3 := cell_keep e3 hb0
  replace d4 := cell_keep d4 hb0
  replace e4 := cell_keep e4 hb0
  replace d5 := cell_keep d5 hb0
  replace e5 := cell_keep e5 hb0
  replace d6 := cell_keep d6 hb0
  replace e6 := cell_keep e6 hb0
  replace d7 := cell_keep d7 hb0
  replace e7 := cell_keep e7 hb0
  have hz0 : ((((w.alloc (Obj.cells #[.int .i64 3, .int .i64 0, .int .i64 la, .slice (some ⟨ba, oa, none⟩) 2 ca] 44)).alloc (Obj.cells #[.int .i64 3, .int .i64 0, .int .i64 lb, .slice (some ⟨bb, ob, none⟩) 2 cb] 44)).alloc (Obj.cells #[.int .i64 0, .int .i64 0, .int .i64 0, .slice none 0 0] 44))).cell? ⟨w.heap.size + 1 + 1, 0, none⟩ = some (.int .i64 0) := by rw [cell_of_block bZ]; rfl
  have H0 := hid (And.intro (And.intro (hA1.below hb0) (hA2.below hb0)) (And.intro (hB1.below hb0) (hB2.below hb0)))
  have HP := hid (And.intro hd (And.intro hd1 (And.intro hd2 (And.intro (And.intro hs1 hs2) (And.intro ht1 ht2)))))
  have HIH := hid ih
  have HB0 := hid hb0
  have HBZ := hid bZ
  clear ih hata hatb hsa hsb hA1 hA2 hB1 hB2 hd hd1 hd2 hs1 hs2 ht1 ht2 bA bB bZ hba hbb hca hcb hz0
  go_enter Try.func54, Try.ntmps54
  obtain ⟨Z, hZd⟩ : ∃ Z, Z = (((w.alloc (Obj.cells #[.int .i64 3, .int .i64 0, .int .i64 la, .slice (some ⟨ba, oa, none⟩) 2 ca] 44)).alloc (Obj.cells #[.int .i64 3, .int .i64 0, .int .i64 lb, .slice (some ⟨bb, ob, none⟩) 2 cb] 44)).alloc (Obj.cells #[.int .i64 0, .int .i64 0, .int .i64 0, .slice none 0 0] 44)) := ⟨_, rfl⟩
  rw [← hZd] at hb0 hs0 H0 HB0 HBZ x0 x1 x2 x3 y0 y1 y2 y3 d0 d1 d2 d3 d4 d5 d6 d7 e0 e1 e2 e3 e4 e5 e6 e7
  have HZS := hid hs0
  have hlo : w.heap.size + 1 + 1 + 1 ≤ Z.heap.size := by omega
  clear hb0 hs0
  have HS0 := hid (show ∀ w', Below Z.heap.size Z w' → (fun w' => w'.cell? ⟨w.heap.size, 0, none⟩ = some (.int .i64 3) ∧ w'.cell? ⟨w.heap.size, 1, none⟩ = some (.int .i64 0) ∧ w'.cell? ⟨w.heap.size, 2, none⟩ = some (.int .i64 la) ∧ w'.cell? ⟨w.heap.size, 3, none⟩ = some (.slice (some ⟨ba, oa, none⟩) 2 ca) ∧ w'.cell? ⟨w.heap.size + 1, 0, none⟩ = some (.int .i64 3) ∧ w'.cell? ⟨w.heap.size + 1, 1, none⟩ = some (.int .i64 0) ∧ w'.cell? ⟨w.heap.size + 1, 2, none⟩ = some (.int .i64 lb) ∧ w'.cell? ⟨w.heap.size + 1, 3, none⟩ = some (.slice (some ⟨bb, ob, none⟩) 2 cb) ∧ w'.cell? ⟨ba, oa, none⟩ = some (.int .i64 ka1) ∧ w'.cell? ⟨ba, oa + 1, none⟩ = some (.int .i64 ga1) ∧ w'.cell? ⟨ba, oa + 2, none⟩ = some (.int .i64 la1) ∧ w'.cell? ⟨ba, oa + 3, none⟩ = some (.slice aa1 na1 ca1) ∧ w'.cell? ⟨ba, oa + 4, none⟩ = some (.int .i64 ka2) ∧ w'.cell? ⟨ba, oa + 4 + 1, none⟩ = some (.int .i64 ga2) ∧ w'.cell? ⟨ba, oa + 4 + 2, none⟩ = some (.int .i64 la2) ∧ w'.cell? ⟨ba, oa + 4 + 3, none⟩ = some (.slice aa2 na2 ca2) ∧ w'.cell? ⟨bb, ob, none⟩ = some (.int .i64 kb1) ∧ w'.cell? ⟨bb, ob + 1, none⟩ = some (.int .i64 gb1) ∧ w'.cell? ⟨bb, ob + 2, none⟩ = some (.int .i64 lb1) ∧ w'.cell? ⟨bb, ob + 3, none⟩ = some (.slice ab1 nb1 cb1) ∧ w'.cell? ⟨bb, ob + 4, none⟩ = some (.int .i64 kb2) ∧ w'.cell? ⟨bb, ob + 4 + 1, none⟩ = some (.int .i64 gb2) ∧ w'.cell? ⟨bb, ob + 4 + 2, none⟩ = some (.int .i64 lb2) ∧ w'.cell? ⟨bb, ob + 4 + 3, none⟩ = some (.slice ab2 nb2 cb2)) w' from fun w' h => ⟨cell_keep x0 h, cell_keep x1 h, cell_keep x2 h, cell_keep x3 h, cell_keep y0 h, cell_keep y1 h, cell_keep y2 h, cell_keep y3 h, cell_keep d0 h, cell_keep d1 h, cell_keep d2 h, cell_keep d3 h, cell_keep d4 h, cell_keep d5 h, cell_keep d6 h, cell_keep d7 h, cell_keep e0 h, cell_keep e1 h, cell_keep e2 h, cell_keep e3 h, cell_keep e4 h, cell_keep e5 h, cell_keep e6 h, cell_keep e7 h⟩)
  go_wp2_with fail
  rw [← hZd]
  clear hZd
  go_cut [6, 7] (fun sx sq wx => CutO Z (cmpo n a1 b1) sx sq wx)
  case first =>
    refine regionL (s := 13) (S0 := (fun w' => w'.cell? ⟨w.heap.size, 0, none⟩ = some (.int .i64 3) ∧ w'.cell? ⟨w.heap.size, 1, none⟩ = some (.int .i64 0) ∧ w'.cell? ⟨w.heap.size, 2, none⟩ = some (.int .i64 la) ∧ w'.cell? ⟨w.heap.size, 3, none⟩ = some (.slice (some ⟨ba, oa, none⟩) 2 ca) ∧ w'.cell? ⟨w.heap.size + 1, 0, none⟩ = some (.int .i64 3) ∧ w'.cell? ⟨w.heap.size + 1, 1, none⟩ = some (.int .i64 0) ∧ w'.cell? ⟨w.heap.size + 1, 2, none⟩ = some (.int .i64 lb) ∧ w'.cell? ⟨w.heap.size + 1, 3, none⟩ = some (.slice (some ⟨bb, ob, none⟩) 2 cb) ∧ w'.cell? ⟨ba, oa, none⟩ = some (.int .i64 ka1) ∧ w'.cell? ⟨ba, oa + 1, none⟩ = some (.int .i64 ga1) ∧ w'.cell? ⟨ba, oa + 2, none⟩ = some (.int .i64 la1) ∧ w'.cell? ⟨ba, oa + 3, none⟩ = some (.slice aa1 na1 ca1) ∧ w'.cell? ⟨ba, oa + 4, none⟩ = some (.int .i64 ka2) ∧ w'.cell? ⟨ba, oa + 4 + 1, none⟩ = some (.int .i64 ga2) ∧ w'.cell? ⟨ba, oa + 4 + 2, none⟩ = some (.int .i64 la2) ∧ w'.cell? ⟨ba, oa + 4 + 3, none⟩ = some (.slice aa2 na2 ca2) ∧ w'.cell? ⟨bb, ob, none⟩ = some (.int .i64 kb1) ∧ w'.cell? ⟨bb, ob + 1, none⟩ = some (.int .i64 gb1) ∧ w'.cell? ⟨bb, ob + 2, none⟩ = some (.int .i64 lb1) ∧ w'.cell? ⟨bb, ob + 3, none⟩ = some (.slice ab1 nb1 cb1) ∧ w'.cell? ⟨bb, ob + 4, none⟩ = some (.int .i64 kb2) ∧ w'.cell? ⟨bb, ob + 4 + 1, none⟩ = some (.int .i64 gb2) ∧ w'.cell? ⟨bb, ob + 4 + 2, none⟩ = some (.int .i64 lb2) ∧ w'.cell? ⟨bb, ob + 4 + 3, none⟩ = some (.slice ab2 nb2 cb2))) (S1 := (fun _ => True)) (by kernel_rfl) (HS0.out _ (below_drew _)) (trivial) (fun hS0 => ?_)
    refine takeL0 (i := 0) (v := ?vp1) rfl rfl (by kernel_rfl) (by kernel_rfl) (by kernel_rfl) (by decide) (by kernel_rfl) (by kernel_rfl) (fun _ _ _ h => h) (Or.inl ⟨by rfl, ?hyp1⟩) (by assumption) ?_
    case hyp1 => (intro w hSw; (try dsimp only at hSw); go_simp; (try with_reducible rfl))
    try simp only [Act.put, List.setIfInBounds_toArray, List.set_cons_zero, List.set_cons_succ]
    refine takeL0 (i := 1) (v := ?vp2) rfl rfl (by kernel_rfl) (by kernel_rfl) (by kernel_rfl) (by decide) (by kernel_rfl) (by kernel_rfl) (fun _ _ _ h => h) (Or.inl ⟨by rfl, ?hyp2⟩) (by assumption) ?_
    case hyp2 => (intro w hSw; (try dsimp only at hSw); go_simp; (try with_reducible rfl))
    try simp only [Act.put, List.setIfInBounds_toArray, List.set_cons_zero, List.set_cons_succ]
    refine takeL0 (i := 2) (v := ?vp3) rfl rfl (by kernel_rfl) (by kernel_rfl) (by kernel_rfl) (by decide) (by kernel_rfl) (by kernel_rfl) (fun _ _ _ h => h) (Or.inl ⟨by rfl, ?hyp3⟩) (by assumption) ?_
    case hyp3 => (intro w hSw; (try dsimp only at hSw); go_simp; (try with_reducible rfl))
    try simp only [Act.put, List.setIfInBounds_toArray, List.set_cons_zero, List.set_cons_succ]
    refine takeL0 (i := 3) (v := ?vp4) rfl rfl (by kernel_rfl) (by kernel_rfl) (by kernel_rfl) (by decide) (by kernel_rfl) (by kernel_rfl) (fun _ _ _ h => h) (Or.inl ⟨by rfl, ?hyp4⟩) (by assumption) ?_
    case hyp4 => (intro w hSw; (try dsimp only at hSw); go_simp; (try with_reducible rfl))
    try simp only [Act.put, List.setIfInBounds_toArray, List.set_cons_zero, List.set_cons_succ]
    refine takeL0 (i := 4) (v := ?vp5) rfl rfl (by kernel_rfl) (by kernel_rfl) (by kernel_rfl) (by decide) (by kernel_rfl) (by kernel_rfl) (fun _ _ _ h => h) (Or.inl ⟨by rfl, ?hyp5⟩) (by assumption) ?_
    case hyp5 => (intro w hSw; (try dsimp only at hSw); go_simp; (try with_reducible rfl))
    try simp only [Act.put, List.setIfInBounds_toArray, List.set_cons_zero, List.set_cons_succ]
    refine takeL0 (i := 5) (v := ?vp6) rfl rfl (by kernel_rfl) (by kernel_rfl) (by kernel_rfl) (by decide) (by kernel_rfl) (by kernel_rfl) (fun _ _ _ h => h) (Or.inl ⟨by rfl, ?hyp6⟩) (by assumption) ?_
    case hyp6 => (intro w hSw; (try dsimp only at hSw); go_simp; (try with_reducible rfl))
    try simp only [Act.put, List.setIfInBounds_toArray, List.set_cons_zero, List.set_cons_succ]
    refine takeL0 (i := 6) (v := ?vp7) rfl rfl (by kernel_rfl) (by kernel_rfl) (by kernel_rfl) (by decide) (by kernel_rfl) (by kernel_rfl) (fun _ _ _ h => h) (Or.inl ⟨by rfl, ?hyp7⟩) (by assumption) ?_
    case hyp7 => (intro w hSw; (try dsimp only at hSw); go_simp; (try with_reducible rfl))
    try simp only [Act.put, List.setIfInBounds_toArray, List.set_cons_zero, List.set_cons_succ]
    refine takeL0 (i := 7) (v := ?vp8) rfl rfl (by kernel_rfl) (by kernel_rfl) (by kernel_rfl) (by decide) (by kernel_rfl) (by kernel_rfl) (fun _ _ _ h => h) (Or.inl ⟨by rfl, ?hyp8⟩) (by assumption) ?_
    case hyp8 => (intro w hSw; (try dsimp only at hSw); go_simp; (try with_reducible rfl))
    try simp only [Act.put, List.setIfInBounds_toArray, List.set_cons_zero, List.set_cons_succ]
    refine readyL (rs := [8, 12]) (by kernel_rfl) (by simp) ?_
    refine AllReadyL.cons rfl (fun K hK => ?_) ?_
    · go_simp
      refine (cm_from HIH.out (W0 := Z) (below_drew Z) (by have := HP.out.1; omega) HP.out.2.1 HP.out.2.2.1 HP.out.2.2.2.1.1 HP.out.2.2.2.2.1 H0.out.1.1 H0.out.2.1).mono ?_
      rintro e w1 ⟨⟨p0, p1, p2, pa, pn, pc, rfl, hb1, hO⟩, hU⟩
      have hB1 := below_trans hU hb1
      have hU1 := hU.size
      refine hK.out _ _ ?_ (fun hS1 => ?_)
      · exact ⟨trivial, fun _ => HS0.out _ hB1⟩
      clear hK K hS0
      try simp only [Act.put, List.setIfInBounds_toArray, List.set_cons_zero, List.set_cons_succ]
      refine takeL0 (i := 9) (v := ?vp9) rfl rfl (by kernel_rfl) (by kernel_rfl) (by kernel_rfl) (by decide) (by kernel_rfl) (by kernel_rfl) (fun _ _ _ h => h) (Or.inl ⟨by rfl, ?hyp9⟩) (by assumption) ?_
      case hyp9 => (intro w hSw; (try dsimp only at hSw); go_simp; (try with_reducible rfl))
      try simp only [Act.put, List.setIfInBounds_toArray, List.set_cons_zero, List.set_cons_succ]
      refine readyL (rs := [10, 11, 12]) (by kernel_rfl) (by simp) ?_
      refine AllReadyL.cons rfl (fun K hK => ?_) ?_
      · go_simp
        refine hK.out _ _ ?_ (fun hS2 => ?_)
        · exact ⟨trivial, fun _ => HS0.out _ hB1⟩
        clear hK K hS1
        try simp only [Act.put, List.setIfInBounds_toArray, List.set_cons_zero, List.set_cons_succ]
        refine readyL (rs := [11, 12]) (by kernel_rfl) (by simp) ?_
        refine AllReadyL.cons rfl (fun K hK => ?_) ?_
        · go_simp
          refine hK.out _ _ ?_ (fun hS3 => ?_)
          · exact ⟨trivial, fun _ => HS0.out _ hB1⟩
          clear hK K hS2
          try simp only [Act.put, List.setIfInBounds_toArray, List.set_cons_zero, List.set_cons_succ]
          refine readyL (rs := [12]) (by kernel_rfl) (by simp) ?_
          refine AllReadyL.cons rfl (fun K hK => ?_) AllReadyL.nil
          go_simp
          refine hK.out _ _ ?_ (fun hS4 => ?_)
          · exact ⟨trivial, fun _ => HS0.out _ (hB1.alloc hB1.size _)⟩
          clear hK K hS3
          try simp only [Act.put, List.setIfInBounds_toArray, List.set_cons_zero, List.set_cons_succ]
          refine readyL (rs := [13]) (by kernel_rfl) (by simp) ?_
          refine AllReadyL.cons rfl (fun K hK => ?_) AllReadyL.nil
          go_simp
          refine hK.out _ _ ?_ (fun hS5 => ?_)
          · exact ⟨trivial, fun h => absurd (h.symm.trans (show _ = true by kernel_rfl)) (by decide)⟩
          clear hK K hS4
          try simp only [Act.put, List.setIfInBounds_toArray, List.set_cons_zero, List.set_cons_succ]
          refine readyL (rs := [14]) (by kernel_rfl) (by simp) ?_
          refine AllReadyL.cons rfl (fun K hK => ?_) AllReadyL.nil
          go_simp
          refine hK.out _ _ ?_ (fun hS6 => ?_)
          · exact ⟨trivial, fun h => absurd (h.symm.trans (show _ = true by kernel_rfl)) (by decide)⟩
          clear hK K hS5
          try simp only [Act.put, List.setIfInBounds_toArray, List.set_cons_zero, List.set_cons_succ]
          refine doneL (by kernel_rfl) ?_ _
          go_wp2_with fail
          go_meet
          exact cutO_alloc hO hU1 hB1
        refine AllReadyL.cons rfl (fun K hK => ?_) AllReadyL.nil
        go_simp
        refine hK.out _ _ ?_ (fun hS3 => ?_)
        · exact ⟨trivial, fun _ => HS0.out _ (hB1.alloc hB1.size _)⟩
        clear hK K hS2
        try simp only [Act.put, List.setIfInBounds_toArray, List.set_cons_zero, List.set_cons_succ]
        refine readyL (rs := [11, 13]) (by kernel_rfl) (by simp) ?_
        refine AllReadyL.cons rfl (fun K hK => ?_) ?_
        · go_simp
          refine hK.out _ _ ?_ (fun hS4 => ?_)
          · exact ⟨trivial, fun _ => HS0.out _ (hB1.alloc hB1.size _)⟩
          clear hK K hS3
          try simp only [Act.put, List.setIfInBounds_toArray, List.set_cons_zero, List.set_cons_succ]
          refine readyL (rs := [13]) (by kernel_rfl) (by simp) ?_
          refine AllReadyL.cons rfl (fun K hK => ?_) AllReadyL.nil
          go_simp
          refine hK.out _ _ ?_ (fun hS5 => ?_)
          · exact ⟨trivial, fun h => absurd (h.symm.trans (show _ = true by kernel_rfl)) (by decide)⟩
          clear hK K hS4
          try simp only [Act.put, List.setIfInBounds_toArray, List.set_cons_zero, List.set_cons_succ]
          refine readyL (rs := [14]) (by kernel_rfl) (by simp) ?_
          refine AllReadyL.cons rfl (fun K hK => ?_) AllReadyL.nil
          go_simp
          refine hK.out _ _ ?_ (fun hS6 => ?_)
          · exact ⟨trivial, fun h => absurd (h.symm.trans (show _ = true by kernel_rfl)) (by decide)⟩
          clear hK K hS5
          try simp only [Act.put, List.setIfInBounds_toArray, List.set_cons_zero, List.set_cons_succ]
          refine doneL (by kernel_rfl) ?_ _
          go_wp2_with fail
          go_meet
          exact cutO_alloc hO hU1 hB1
        refine AllReadyL.cons rfl (fun K hK => ?_) AllReadyL.nil
        go_simp
        refine hK.out _ _ ?_ (fun hS4 => ?_)
        · exact ⟨trivial, fun h => absurd (h.symm.trans (show _ = true by kernel_rfl)) (by decide)⟩
        clear hK K hS3
        try simp only [Act.put, List.setIfInBounds_toArray, List.set_cons_zero, List.set_cons_succ]
        refine readyL (rs := [11]) (by kernel_rfl) (by simp) ?_
        refine AllReadyL.cons rfl (fun K hK => ?_) AllReadyL.nil
        go_simp
        refine hK.out _ _ ?_ (fun hS5 => ?_)
        · exact ⟨trivial, fun h => absurd (h.symm.trans (show _ = true by kernel_rfl)) (by decide)⟩
        clear hK K hS4
        try simp only [Act.put, List.setIfInBounds_toArray, List.set_cons_zero, List.set_cons_succ]
        refine readyL (rs := [14]) (by kernel_rfl) (by simp) ?_
        refine AllReadyL.cons rfl (fun K hK => ?_) AllReadyL.nil
        go_simp
        refine hK.out _ _ ?_ (fun hS6 => ?_)
        · exact ⟨trivial, fun h => absurd (h.symm.trans (show _ = true by kernel_rfl)) (by decide)⟩
        clear hK K hS5
        try simp only [Act.put, List.setIfInBounds_toArray, List.set_cons_zero, List.set_cons_succ]
        refine doneL (by kernel_rfl) ?_ _
        go_wp2_with fail
        go_meet
        exact cutO_alloc hO hU1 hB1
      refine AllReadyL.cons rfl (fun K hK => ?_) ?_
      · go_simp
        refine hK.out _ _ ?_ (fun hS2 => ?_)
        · exact ⟨trivial, fun _ => HS0.out _ hB1⟩
        clear hK K hS1
        try simp only [Act.put, List.setIfInBounds_toArray, List.set_cons_zero, List.set_cons_succ]
        refine readyL (rs := [10, 12]) (by kernel_rfl) (by simp) ?_
        refine AllReadyL.cons rfl (fun K hK => ?_) ?_
        · go_simp
          refine hK.out _ _ ?_ (fun hS3 => ?_)
          · exact ⟨trivial, fun _ => HS0.out _ hB1⟩
          clear hK K hS2
          try simp only [Act.put, List.setIfInBounds_toArray, List.set_cons_zero, List.set_cons_succ]
          refine readyL (rs := [12]) (by kernel_rfl) (by simp) ?_
          refine AllReadyL.cons rfl (fun K hK => ?_) AllReadyL.nil
          go_simp
          refine hK.out _ _ ?_ (fun hS4 => ?_)
          · exact ⟨trivial, fun _ => HS0.out _ (hB1.alloc hB1.size _)⟩
          clear hK K hS3
          try simp only [Act.put, List.setIfInBounds_toArray, List.set_cons_zero, List.set_cons_succ]
          refine readyL (rs := [13]) (by kernel_rfl) (by simp) ?_
          refine AllReadyL.cons rfl (fun K hK => ?_) AllReadyL.nil
          go_simp
          refine hK.out _ _ ?_ (fun hS5 => ?_)
          · exact ⟨trivial, fun h => absurd (h.symm.trans (show _ = true by kernel_rfl)) (by decide)⟩
          clear hK K hS4
          try simp only [Act.put, List.setIfInBounds_toArray, List.set_cons_zero, List.set_cons_succ]
          refine readyL (rs := [14]) (by kernel_rfl) (by simp) ?_
          refine AllReadyL.cons rfl (fun K hK => ?_) AllReadyL.nil
          go_simp
          refine hK.out _ _ ?_ (fun hS6 => ?_)
          · exact ⟨trivial, fun h => absurd (h.symm.trans (show _ = true by kernel_rfl)) (by decide)⟩
          clear hK K hS5
          try simp only [Act.put, List.setIfInBounds_toArray, List.set_cons_zero, List.set_cons_succ]
          refine doneL (by kernel_rfl) ?_ _
          go_wp2_with fail
          go_meet
          exact cutO_alloc hO hU1 hB1
        refine AllReadyL.cons rfl (fun K hK => ?_) AllReadyL.nil
        go_simp
        refine hK.out _ _ ?_ (fun hS3 => ?_)
        · exact ⟨trivial, fun _ => HS0.out _ (hB1.alloc hB1.size _)⟩
        clear hK K hS2
        try simp only [Act.put, List.setIfInBounds_toArray, List.set_cons_zero, List.set_cons_succ]
        refine readyL (rs := [10]) (by kernel_rfl) (by simp) ?_
        refine AllReadyL.cons rfl (fun K hK => ?_) AllReadyL.nil
        go_simp
        refine hK.out _ _ ?_ (fun hS4 => ?_)
        · exact ⟨trivial, fun _ => HS0.out _ (hB1.alloc hB1.size _)⟩
        clear hK K hS3
        try simp only [Act.put, List.setIfInBounds_toArray, List.set_cons_zero, List.set_cons_succ]
        refine readyL (rs := [13]) (by kernel_rfl) (by simp) ?_
        refine AllReadyL.cons rfl (fun K hK => ?_) AllReadyL.nil
        go_simp
        refine hK.out _ _ ?_ (fun hS5 => ?_)
        · exact ⟨trivial, fun h => absurd (h.symm.trans (show _ = true by kernel_rfl)) (by decide)⟩
        clear hK K hS4
        try simp only [Act.put, List.setIfInBounds_toArray, List.set_cons_zero, List.set_cons_succ]
        refine readyL (rs := [14]) (by kernel_rfl) (by simp) ?_
        refine AllReadyL.cons rfl (fun K hK => ?_) AllReadyL.nil
        go_simp
        refine hK.out _ _ ?_ (fun hS6 => ?_)
        · exact ⟨trivial, fun h => absurd (h.symm.trans (show _ = true by kernel_rfl)) (by decide)⟩
        clear hK K hS5
        try simp only [Act.put, List.setIfInBounds_toArray, List.set_cons_zero, List.set_cons_succ]
        refine doneL (by kernel_rfl) ?_ _
        go_wp2_with fail
        go_meet
        exact cutO_alloc hO hU1 hB1
      refine AllReadyL.cons rfl (fun K hK => ?_) AllReadyL.nil
      go_simp
      refine hK.out _ _ ?_ (fun hS2 => ?_)
      · exact ⟨trivial, fun _ => HS0.out _ (hB1.alloc hB1.size _)⟩
      clear hK K hS1
      try simp only [Act.put, List.setIfInBounds_toArray, List.set_cons_zero, List.set_cons_succ]
      refine readyL (rs := [10, 11]) (by kernel_rfl) (by simp) ?_
      refine AllReadyL.cons rfl (fun K hK => ?_) ?_
      · go_simp
        refine hK.out _ _ ?_ (fun hS3 => ?_)
        · exact ⟨trivial, fun _ => HS0.out _ (hB1.alloc hB1.size _)⟩
        clear hK K hS2
        try simp only [Act.put, List.setIfInBounds_toArray, List.set_cons_zero, List.set_cons_succ]
        refine readyL (rs := [11, 13]) (by kernel_rfl) (by simp) ?_
        refine AllReadyL.cons rfl (fun K hK => ?_) ?_
        · go_simp
          refine hK.out _ _ ?_ (fun hS4 => ?_)
          · exact ⟨trivial, fun _ => HS0.out _ (hB1.alloc hB1.size _)⟩
          clear hK K hS3
          try simp only [Act.put, List.setIfInBounds_toArray, List.set_cons_zero, List.set_cons_succ]
          refine readyL (rs := [13]) (by kernel_rfl) (by simp) ?_
          refine AllReadyL.cons rfl (fun K hK => ?_) AllReadyL.nil
          go_simp
          refine hK.out _ _ ?_ (fun hS5 => ?_)
          · exact ⟨trivial, fun h => absurd (h.symm.trans (show _ = true by kernel_rfl)) (by decide)⟩
          clear hK K hS4
          try simp only [Act.put, List.setIfInBounds_toArray, List.set_cons_zero, List.set_cons_succ]
          refine readyL (rs := [14]) (by kernel_rfl) (by simp) ?_
          refine AllReadyL.cons rfl (fun K hK => ?_) AllReadyL.nil
          go_simp
          refine hK.out _ _ ?_ (fun hS6 => ?_)
          · exact ⟨trivial, fun h => absurd (h.symm.trans (show _ = true by kernel_rfl)) (by decide)⟩
          clear hK K hS5
          try simp only [Act.put, List.setIfInBounds_toArray, List.set_cons_zero, List.set_cons_succ]
          refine doneL (by kernel_rfl) ?_ _
          go_wp2_with fail
          go_meet
          exact cutO_alloc hO hU1 hB1
        refine AllReadyL.cons rfl (fun K hK => ?_) AllReadyL.nil
        go_simp
        refine hK.out _ _ ?_ (fun hS4 => ?_)
        · exact ⟨trivial, fun h => absurd (h.symm.trans (show _ = true by kernel_rfl)) (by decide)⟩
        clear hK K hS3
        try simp only [Act.put, List.setIfInBounds_toArray, List.set_cons_zero, List.set_cons_succ]
        refine readyL (rs := [11]) (by kernel_rfl) (by simp) ?_
        refine AllReadyL.cons rfl (fun K hK => ?_) AllReadyL.nil
        go_simp
        refine hK.out _ _ ?_ (fun hS5 => ?_)
        · exact ⟨trivial, fun h => absurd (h.symm.trans (show _ = true by kernel_rfl)) (by decide)⟩
        clear hK K hS4
        try simp only [Act.put, List.setIfInBounds_toArray, List.set_cons_zero, List.set_cons_succ]
        refine readyL (rs := [14]) (by kernel_rfl) (by simp) ?_
        refine AllReadyL.cons rfl (fun K hK => ?_) AllReadyL.nil
        go_simp
        refine hK.out _ _ ?_ (fun hS6 => ?_)
        · exact ⟨trivial, fun h => absurd (h.symm.trans (show _ = true by kernel_rfl)) (by decide)⟩
        clear hK K hS5
        try simp only [Act.put, List.setIfInBounds_toArray, List.set_cons_zero, List.set_cons_succ]
        refine doneL (by kernel_rfl) ?_ _
        go_wp2_with fail
        go_meet
        exact cutO_alloc hO hU1 hB1
      refine AllReadyL.cons rfl (fun K hK => ?_) AllReadyL.nil
      go_simp
      refine hK.out _ _ ?_ (fun hS3 => ?_)
      · exact ⟨trivial, fun _ => HS0.out _ (hB1.alloc hB1.size _)⟩
      clear hK K hS2
      try simp only [Act.put, List.setIfInBounds_toArray, List.set_cons_zero, List.set_cons_succ]
      refine readyL (rs := [10]) (by kernel_rfl) (by simp) ?_
      refine AllReadyL.cons rfl (fun K hK => ?_) AllReadyL.nil
      go_simp
      refine hK.out _ _ ?_ (fun hS4 => ?_)
      · exact ⟨trivial, fun _ => HS0.out _ (hB1.alloc hB1.size _)⟩
      clear hK K hS3
      try simp only [Act.put, List.setIfInBounds_toArray, List.set_cons_zero, List.set_cons_succ]
      refine readyL (rs := [13]) (by kernel_rfl) (by simp) ?_
      refine AllReadyL.cons rfl (fun K hK => ?_) AllReadyL.nil
      go_simp
      refine hK.out _ _ ?_ (fun hS5 => ?_)
      · exact ⟨trivial, fun h => absurd (h.symm.trans (show _ = true by kernel_rfl)) (by decide)⟩
      clear hK K hS4
      try simp only [Act.put, List.setIfInBounds_toArray, List.set_cons_zero, List.set_cons_succ]
      refine readyL (rs := [14]) (by kernel_rfl) (by simp) ?_
      refine AllReadyL.cons rfl (fun K hK => ?_) AllReadyL.nil
      go_simp
      refine hK.out _ _ ?_ (fun hS6 => ?_)
      · exact ⟨trivial, fun h => absurd (h.symm.trans (show _ = true by kernel_rfl)) (by decide)⟩
      clear hK K hS5
      try simp only [Act.put, List.setIfInBounds_toArray, List.set_cons_zero, List.set_cons_succ]
      refine doneL (by kernel_rfl) ?_ _
      go_wp2_with fail
      go_meet
      exact cutO_alloc hO hU1 hB1
    refine AllReadyL.cons rfl (fun K hK => ?_) AllReadyL.nil
    go_simp
    refine hK.out _ _ ?_ (fun hS1 => ?_)
    · exact ⟨trivial, fun _ => HS0.out _ ((below_drew _).alloc (by simp) _)⟩
    clear hK K hS0
    try simp only [Act.put, List.setIfInBounds_toArray, List.set_cons_zero, List.set_cons_succ]
    refine readyL (rs := [8]) (by kernel_rfl) (by simp) ?_
    refine AllReadyL.cons rfl (fun K hK => ?_) AllReadyL.nil
    go_simp
    refine (cm_from HIH.out (W0 := Z) (((Below.refl (Z).heap.size Z).alloc (Nat.le_refl _) (Obj.cells #[.int .i64 0, .int .i64 0, .int .i64 0, .slice none 0 0] 44)).drew) (by have := HP.out.1; omega) HP.out.2.1 HP.out.2.2.1 HP.out.2.2.2.1.1 HP.out.2.2.2.2.1 H0.out.1.1 H0.out.2.1).mono ?_
    rintro e w1 ⟨⟨p0, p1, p2, pa, pn, pc, rfl, hb1, hO⟩, hU⟩
    have hB1 := below_trans hU hb1
    have hU1 := hU.size
    refine hK.out _ _ ?_ (fun hS2 => ?_)
    · exact ⟨trivial, fun _ => HS0.out _ hB1⟩
    clear hK K hS1
    try simp only [Act.put, List.setIfInBounds_toArray, List.set_cons_zero, List.set_cons_succ]
    refine takeL0 (i := 9) (v := ?vp10) rfl rfl (by kernel_rfl) (by kernel_rfl) (by kernel_rfl) (by decide) (by kernel_rfl) (by kernel_rfl) (fun _ _ _ h => h) (Or.inl ⟨by rfl, ?hyp10⟩) (by assumption) ?_
    case hyp10 => (intro w hSw; (try dsimp only at hSw); go_simp; (try with_reducible rfl))
    try simp only [Act.put, List.setIfInBounds_toArray, List.set_cons_zero, List.set_cons_succ]
    refine readyL (rs := [10, 11]) (by kernel_rfl) (by simp) ?_
    refine AllReadyL.cons rfl (fun K hK => ?_) ?_
    · go_simp
      refine hK.out _ _ ?_ (fun hS3 => ?_)
      · exact ⟨trivial, fun _ => HS0.out _ hB1⟩
      clear hK K hS2
      try simp only [Act.put, List.setIfInBounds_toArray, List.set_cons_zero, List.set_cons_succ]
      refine readyL (rs := [11, 13]) (by kernel_rfl) (by simp) ?_
      refine AllReadyL.cons rfl (fun K hK => ?_) ?_
      · go_simp
        refine hK.out _ _ ?_ (fun hS4 => ?_)
        · exact ⟨trivial, fun _ => HS0.out _ hB1⟩
        clear hK K hS3
        try simp only [Act.put, List.setIfInBounds_toArray, List.set_cons_zero, List.set_cons_succ]
        refine readyL (rs := [13]) (by kernel_rfl) (by simp) ?_
        refine AllReadyL.cons rfl (fun K hK => ?_) AllReadyL.nil
        have hE1 := (hb1.block _ (by simp [World.drew])).trans (alloc_new Z (Obj.cells #[.int .i64 0, .int .i64 0, .int .i64 0, .slice none 0 0] 44))
        have bM := hE1
        have z0 := (cell_of_block (o := 0) bM).trans (show _ = some (.int .i64 0) from rfl)
        have z1 := (cell_of_block (o := 1) bM).trans (show _ = some (.int .i64 0) from rfl)
        have z2 := (cell_of_block (o := 2) bM).trans (show _ = some (.int .i64 0) from rfl)
        have z3 := (cell_of_block (o := 3) bM).trans (show _ = some (.slice none 0 0) from rfl)
        have yz := fun o => frozen_of_block (o := o) bM
        go_simp
        refine hK.out _ _ ?_ (fun hS5 => ?_)
        · exact ⟨trivial, fun h => absurd (h.symm.trans (show _ = true by kernel_rfl)) (by decide)⟩
        clear hK K hS4
        try simp only [Act.put, List.setIfInBounds_toArray, List.set_cons_zero, List.set_cons_succ]
        refine readyL (rs := [14]) (by kernel_rfl) (by simp) ?_
        refine AllReadyL.cons rfl (fun K hK => ?_) AllReadyL.nil
        go_simp
        refine hK.out _ _ ?_ (fun hS6 => ?_)
        · exact ⟨trivial, fun h => absurd (h.symm.trans (show _ = true by kernel_rfl)) (by decide)⟩
        clear hK K hS5
        try simp only [Act.put, List.setIfInBounds_toArray, List.set_cons_zero, List.set_cons_succ]
        refine doneL (by kernel_rfl) ?_ _
        go_wp2_with fail
        go_meet
        exact cutO_stores hE1 hO (by simp [World.drew] at hU1 ⊢) hB1
      refine AllReadyL.cons rfl (fun K hK => ?_) AllReadyL.nil
      have hE1 := (hb1.block _ (by simp [World.drew])).trans (alloc_new Z (Obj.cells #[.int .i64 0, .int .i64 0, .int .i64 0, .slice none 0 0] 44))
      have bM := hE1
      have z0 := (cell_of_block (o := 0) bM).trans (show _ = some (.int .i64 0) from rfl)
      have z1 := (cell_of_block (o := 1) bM).trans (show _ = some (.int .i64 0) from rfl)
      have z2 := (cell_of_block (o := 2) bM).trans (show _ = some (.int .i64 0) from rfl)
      have z3 := (cell_of_block (o := 3) bM).trans (show _ = some (.slice none 0 0) from rfl)
      have yz := fun o => frozen_of_block (o := o) bM
      go_simp
      refine hK.out _ _ ?_ (fun hS4 => ?_)
      · exact ⟨trivial, fun h => absurd (h.symm.trans (show _ = true by kernel_rfl)) (by decide)⟩
      clear hK K hS3
      try simp only [Act.put, List.setIfInBounds_toArray, List.set_cons_zero, List.set_cons_succ]
      refine readyL (rs := [11]) (by kernel_rfl) (by simp) ?_
      refine AllReadyL.cons rfl (fun K hK => ?_) AllReadyL.nil
      go_simp
      refine hK.out _ _ ?_ (fun hS5 => ?_)
      · exact ⟨trivial, fun h => absurd (h.symm.trans (show _ = true by kernel_rfl)) (by decide)⟩
      clear hK K hS4
      try simp only [Act.put, List.setIfInBounds_toArray, List.set_cons_zero, List.set_cons_succ]
      refine readyL (rs := [14]) (by kernel_rfl) (by simp) ?_
      refine AllReadyL.cons rfl (fun K hK => ?_) AllReadyL.nil
      go_simp
      refine hK.out _ _ ?_ (fun hS6 => ?_)
      · exact ⟨trivial, fun h => absurd (h.symm.trans (show _ = true by kernel_rfl)) (by decide)⟩
      clear hK K hS5
      try simp only [Act.put, List.setIfInBounds_toArray, List.set_cons_zero, List.set_cons_succ]
      refine doneL (by kernel_rfl) ?_ _
      go_wp2_with fail
      go_meet
      exact cutO_stores hE1 hO (by simp [World.drew] at hU1 ⊢) hB1
    refine AllReadyL.cons rfl (fun K hK => ?_) AllReadyL.nil
    go_simp
    refine hK.out _ _ ?_ (fun hS3 => ?_)
    · exact ⟨trivial, fun _ => HS0.out _ hB1⟩
    clear hK K hS2
    try simp only [Act.put, List.setIfInBounds_toArray, List.set_cons_zero, List.set_cons_succ]
    refine readyL (rs := [10]) (by kernel_rfl) (by simp) ?_
    refine AllReadyL.cons rfl (fun K hK => ?_) AllReadyL.nil
    go_simp
    refine hK.out _ _ ?_ (fun hS4 => ?_)
    · exact ⟨trivial, fun _ => HS0.out _ hB1⟩
    clear hK K hS3
    try simp only [Act.put, List.setIfInBounds_toArray, List.set_cons_zero, List.set_cons_succ]
    refine readyL (rs := [13]) (by kernel_rfl) (by simp) ?_
    refine AllReadyL.cons rfl (fun K hK => ?_) AllReadyL.nil
    have hE1 := (hb1.block _ (by simp [World.drew])).trans (alloc_new Z (Obj.cells #[.int .i64 0, .int .i64 0, .int .i64 0, .slice none 0 0] 44))
    have bM := hE1
    have z0 := (cell_of_block (o := 0) bM).trans (show _ = some (.int .i64 0) from rfl)
    have z1 := (cell_of_block (o := 1) bM).trans (show _ = some (.int .i64 0) from rfl)
    have z2 := (cell_of_block (o := 2) bM).trans (show _ = some (.int .i64 0) from rfl)
    have z3 := (cell_of_block (o := 3) bM).trans (show _ = some (.slice none 0 0) from rfl)
    have yz := fun o => frozen_of_block (o := o) bM
    go_simp
    refine hK.out _ _ ?_ (fun hS5 => ?_)
    · exact ⟨trivial, fun h => absurd (h.symm.trans (show _ = true by kernel_rfl)) (by decide)⟩
    clear hK K hS4
    try simp only [Act.put, List.setIfInBounds_toArray, List.set_cons_zero, List.set_cons_succ]
    refine readyL (rs := [14]) (by kernel_rfl) (by simp) ?_
    refine AllReadyL.cons rfl (fun K hK => ?_) AllReadyL.nil
    go_simp
    refine hK.out _ _ ?_ (fun hS6 => ?_)
    · exact ⟨trivial, fun h => absurd (h.symm.trans (show _ = true by kernel_rfl)) (by decide)⟩
    clear hK K hS5
    try simp only [Act.put, List.setIfInBounds_toArray, List.set_cons_zero, List.set_cons_succ]
    refine doneL (by kernel_rfl) ?_ _
    go_wp2_with fail
    go_meet
    exact cutO_stores hE1 hO (by simp [World.drew] at hU1 ⊢) hB1
  case rest =>
  rename World => Y
  obtain ⟨bx, r1, u0, u1', u2, ua, un, uc, rfl, rfl, hr1, hbx, hEx, hOx, hbz⟩ := hcut
  have hSS := HS0.out _ hbz
  clear x0 x1 x2 x3 y0 y1 y2 y3 d0 d1 d2 d3 d4 d5 d6 d7 e0 e1 e2 e3 e4 e5 e6 e7
  obtain ⟨x0, x1, x2, x3, y0, y1, y2, y3, d0, d1, d2, d3, d4, d5, d6, d7, e0, e1, e2, e3, e4, e5, e6, e7⟩ := hSS
  have HS1 := hid (show ∀ w', Below Y.heap.size Y w' → (fun w' => w'.cell? ⟨w.heap.size, 0, none⟩ = some (.int .i64 3) ∧ w'.cell? ⟨w.heap.size, 1, none⟩ = some (.int .i64 0) ∧ w'.cell? ⟨w.heap.size, 2, none⟩ = some (.int .i64 la) ∧ w'.cell? ⟨w.heap.size, 3, none⟩ = some (.slice (some ⟨ba, oa, none⟩) 2 ca) ∧ w'.cell? ⟨w.heap.size + 1, 0, none⟩ = some (.int .i64 3) ∧ w'.cell? ⟨w.heap.size + 1, 1, none⟩ = some (.int .i64 0) ∧ w'.cell? ⟨w.heap.size + 1, 2, none⟩ = some (.int .i64 lb) ∧ w'.cell? ⟨w.heap.size + 1, 3, none⟩ = some (.slice (some ⟨bb, ob, none⟩) 2 cb) ∧ w'.cell? ⟨ba, oa, none⟩ = some (.int .i64 ka1) ∧ w'.cell? ⟨ba, oa + 1, none⟩ = some (.int .i64 ga1) ∧ w'.cell? ⟨ba, oa + 2, none⟩ = some (.int .i64 la1) ∧ w'.cell? ⟨ba, oa + 3, none⟩ = some (.slice aa1 na1 ca1) ∧ w'.cell? ⟨ba, oa + 4, none⟩ = some (.int .i64 ka2) ∧ w'.cell? ⟨ba, oa + 4 + 1, none⟩ = some (.int .i64 ga2) ∧ w'.cell? ⟨ba, oa + 4 + 2, none⟩ = some (.int .i64 la2) ∧ w'.cell? ⟨ba, oa + 4 + 3, none⟩ = some (.slice aa2 na2 ca2) ∧ w'.cell? ⟨bb, ob, none⟩ = some (.int .i64 kb1) ∧ w'.cell? ⟨bb, ob + 1, none⟩ = some (.int .i64 gb1) ∧ w'.cell? ⟨bb, ob + 2, none⟩ = some (.int .i64 lb1) ∧ w'.cell? ⟨bb, ob + 3, none⟩ = some (.slice ab1 nb1 cb1) ∧ w'.cell? ⟨bb, ob + 4, none⟩ = some (.int .i64 kb2) ∧ w'.cell? ⟨bb, ob + 4 + 1, none⟩ = some (.int .i64 gb2) ∧ w'.cell? ⟨bb, ob + 4 + 2, none⟩ = some (.int .i64 lb2) ∧ w'.cell? ⟨bb, ob + 4 + 3, none⟩ = some (.slice ab2 nb2 cb2)) w' from fun w' h => HS0.out _ (below_trans hbz h))
  have s0 : Y.cell? ⟨bx, 0, none⟩ = some (.int .i64 u0) := by rw [cell_of_block hEx]; rfl
  have s1 : Y.cell? ⟨bx, 1, none⟩ = some (.int .i64 u1') := by rw [cell_of_block hEx]; rfl
  have s2 : Y.cell? ⟨bx, 2, none⟩ = some (.int .i64 u2) := by rw [cell_of_block hEx]; rfl
  have s3 : Y.cell? ⟨bx, 3, none⟩ = some (.slice ua un uc) := by rw [cell_of_block hEx]; rfl
  have HO1 := hid hOx
  have HBY := hid hbz
  have HR1 := hid hr1
  have HX := hid (And.intro hEx hbx)
  have HS1b := hid (fun (w' : World) (h : Below Y.heap.size Y w') => show w'.cell? ⟨bx, 0, none⟩ = some (.int .i64 u0) ∧ w'.cell? ⟨bx, 1, none⟩ = some (.int .i64 u1') ∧ w'.cell? ⟨bx, 2, none⟩ = some (.int .i64 u2) ∧ w'.cell? ⟨bx, 3, none⟩ = some (.slice ua un uc) from ⟨cell_keep s0 h, cell_keep s1 h, cell_keep s2 h, cell_keep s3 h⟩)
  clear hEx hOx hbz hr1 s0 s1 s2 s3
  go_wp2_with fail
  go_cut [8, 9] (fun sx sq wx => CutO Y (cmpo n a2 b2) sx sq wx)
  case first =>
    refine regionL (s := 13) (S0 := (fun w' => w'.cell? ⟨w.heap.size, 0, none⟩ = some (.int .i64 3) ∧ w'.cell? ⟨w.heap.size, 1, none⟩ = some (.int .i64 0) ∧ w'.cell? ⟨w.heap.size, 2, none⟩ = some (.int .i64 la) ∧ w'.cell? ⟨w.heap.size, 3, none⟩ = some (.slice (some ⟨ba, oa, none⟩) 2 ca) ∧ w'.cell? ⟨w.heap.size + 1, 0, none⟩ = some (.int .i64 3) ∧ w'.cell? ⟨w.heap.size + 1, 1, none⟩ = some (.int .i64 0) ∧ w'.cell? ⟨w.heap.size + 1, 2, none⟩ = some (.int .i64 lb) ∧ w'.cell? ⟨w.heap.size + 1, 3, none⟩ = some (.slice (some ⟨bb, ob, none⟩) 2 cb) ∧ w'.cell? ⟨ba, oa, none⟩ = some (.int .i64 ka1) ∧ w'.cell? ⟨ba, oa + 1, none⟩ = some (.int .i64 ga1) ∧ w'.cell? ⟨ba, oa + 2, none⟩ = some (.int .i64 la1) ∧ w'.cell? ⟨ba, oa + 3, none⟩ = some (.slice aa1 na1 ca1) ∧ w'.cell? ⟨ba, oa + 4, none⟩ = some (.int .i64 ka2) ∧ w'.cell? ⟨ba, oa + 4 + 1, none⟩ = some (.int .i64 ga2) ∧ w'.cell? ⟨ba, oa + 4 + 2, none⟩ = some (.int .i64 la2) ∧ w'.cell? ⟨ba, oa + 4 + 3, none⟩ = some (.slice aa2 na2 ca2) ∧ w'.cell? ⟨bb, ob, none⟩ = some (.int .i64 kb1) ∧ w'.cell? ⟨bb, ob + 1, none⟩ = some (.int .i64 gb1) ∧ w'.cell? ⟨bb, ob + 2, none⟩ = some (.int .i64 lb1) ∧ w'.cell? ⟨bb, ob + 3, none⟩ = some (.slice ab1 nb1 cb1) ∧ w'.cell? ⟨bb, ob + 4, none⟩ = some (.int .i64 kb2) ∧ w'.cell? ⟨bb, ob + 4 + 1, none⟩ = some (.int .i64 gb2) ∧ w'.cell? ⟨bb, ob + 4 + 2, none⟩ = some (.int .i64 lb2) ∧ w'.cell? ⟨bb, ob + 4 + 3, none⟩ = some (.slice ab2 nb2 cb2))) (S1 := (fun _ => True)) (by kernel_rfl) (HS1.out _ (below_drew _)) (trivial) (fun hS0 => ?_)
    refine takeL0 (i := 0) (v := ?vr1) rfl rfl (by kernel_rfl) (by kernel_rfl) (by kernel_rfl) (by decide) (by kernel_rfl) (by kernel_rfl) (fun _ _ _ h => h) (Or.inl ⟨by rfl, ?hyr1⟩) (by assumption) ?_
    case hyr1 => (intro w hSw; (try dsimp only at hSw); go_simp; (try with_reducible rfl))
    try simp only [Act.put, List.setIfInBounds_toArray, List.set_cons_zero, List.set_cons_succ]
    refine takeL0 (i := 1) (v := ?vr2) rfl rfl (by kernel_rfl) (by kernel_rfl) (by kernel_rfl) (by decide) (by kernel_rfl) (by kernel_rfl) (fun _ _ _ h => h) (Or.inl ⟨by rfl, ?hyr2⟩) (by assumption) ?_
    case hyr2 => (intro w hSw; (try dsimp only at hSw); go_simp; (try with_reducible rfl))
    try simp only [Act.put, List.setIfInBounds_toArray, List.set_cons_zero, List.set_cons_succ]
    refine takeL0 (i := 2) (v := ?vr3) rfl rfl (by kernel_rfl) (by kernel_rfl) (by kernel_rfl) (by decide) (by kernel_rfl) (by kernel_rfl) (fun _ _ _ h => h) (Or.inl ⟨by rfl, ?hyr3⟩) (by assumption) ?_
    case hyr3 => (intro w hSw; (try dsimp only at hSw); go_simp; (try with_reducible rfl))
    try simp only [Act.put, List.setIfInBounds_toArray, List.set_cons_zero, List.set_cons_succ]
    refine takeL0 (i := 3) (v := ?vr4) rfl rfl (by kernel_rfl) (by kernel_rfl) (by kernel_rfl) (by decide) (by kernel_rfl) (by kernel_rfl) (fun _ _ _ h => h) (Or.inl ⟨by rfl, ?hyr4⟩) (by assumption) ?_
    case hyr4 => (intro w hSw; (try dsimp only at hSw); go_simp; (try with_reducible rfl))
    try simp only [Act.put, List.setIfInBounds_toArray, List.set_cons_zero, List.set_cons_succ]
    refine takeL0 (i := 4) (v := ?vr5) rfl rfl (by kernel_rfl) (by kernel_rfl) (by kernel_rfl) (by decide) (by kernel_rfl) (by kernel_rfl) (fun _ _ _ h => h) (Or.inl ⟨by rfl, ?hyr5⟩) (by assumption) ?_
    case hyr5 => (intro w hSw; (try dsimp only at hSw); go_simp; (try with_reducible rfl))
    try simp only [Act.put, List.setIfInBounds_toArray, List.set_cons_zero, List.set_cons_succ]
    refine takeL0 (i := 5) (v := ?vr6) rfl rfl (by kernel_rfl) (by kernel_rfl) (by kernel_rfl) (by decide) (by kernel_rfl) (by kernel_rfl) (fun _ _ _ h => h) (Or.inl ⟨by rfl, ?hyr6⟩) (by assumption) ?_
    case hyr6 => (intro w hSw; (try dsimp only at hSw); go_simp; (try with_reducible rfl))
    try simp only [Act.put, List.setIfInBounds_toArray, List.set_cons_zero, List.set_cons_succ]
    refine takeL0 (i := 6) (v := ?vr7) rfl rfl (by kernel_rfl) (by kernel_rfl) (by kernel_rfl) (by decide) (by kernel_rfl) (by kernel_rfl) (fun _ _ _ h => h) (Or.inl ⟨by rfl, ?hyr7⟩) (by assumption) ?_
    case hyr7 => (intro w hSw; (try dsimp only at hSw); go_simp; (try with_reducible rfl))
    try simp only [Act.put, List.setIfInBounds_toArray, List.set_cons_zero, List.set_cons_succ]
    refine takeL0 (i := 7) (v := ?vr8) rfl rfl (by kernel_rfl) (by kernel_rfl) (by kernel_rfl) (by decide) (by kernel_rfl) (by kernel_rfl) (fun _ _ _ h => h) (Or.inl ⟨by rfl, ?hyr8⟩) (by assumption) ?_
    case hyr8 => (intro w hSw; (try dsimp only at hSw); go_simp; (try with_reducible rfl))
    try simp only [Act.put, List.setIfInBounds_toArray, List.set_cons_zero, List.set_cons_succ]
    refine readyL (rs := [8, 12]) (by kernel_rfl) (by simp) ?_
    refine AllReadyL.cons rfl (fun K hK => ?_) ?_
    · go_simp
      refine (cm_from HIH.out (W0 := Y) (below_drew Y) (by have := HP.out.1; omega) HP.out.2.1 HP.out.2.2.1 HP.out.2.2.2.1.2 HP.out.2.2.2.2.2 (H0.out.1.2.below HBY.out) (H0.out.2.2.below HBY.out)).mono ?_
      rintro e w1 ⟨⟨p0, p1, p2, pa, pn, pc, rfl, hb1, hO⟩, hU⟩
      have hB1 := below_trans hU hb1
      have hU1 := hU.size
      refine hK.out _ _ ?_ (fun hS1 => ?_)
      · exact ⟨trivial, fun _ => HS1.out _ hB1⟩
      clear hK K hS0
      try simp only [Act.put, List.setIfInBounds_toArray, List.set_cons_zero, List.set_cons_succ]
      refine takeL0 (i := 9) (v := ?vr9) rfl rfl (by kernel_rfl) (by kernel_rfl) (by kernel_rfl) (by decide) (by kernel_rfl) (by kernel_rfl) (fun _ _ _ h => h) (Or.inl ⟨by rfl, ?hyr9⟩) (by assumption) ?_
      case hyr9 => (intro w hSw; (try dsimp only at hSw); go_simp; (try with_reducible rfl))
      try simp only [Act.put, List.setIfInBounds_toArray, List.set_cons_zero, List.set_cons_succ]
      refine readyL (rs := [10, 11, 12]) (by kernel_rfl) (by simp) ?_
      refine AllReadyL.cons rfl (fun K hK => ?_) ?_
      · go_simp
        refine hK.out _ _ ?_ (fun hS2 => ?_)
        · exact ⟨trivial, fun _ => HS1.out _ hB1⟩
        clear hK K hS1
        try simp only [Act.put, List.setIfInBounds_toArray, List.set_cons_zero, List.set_cons_succ]
        refine readyL (rs := [11, 12]) (by kernel_rfl) (by simp) ?_
        refine AllReadyL.cons rfl (fun K hK => ?_) ?_
        · go_simp
          refine hK.out _ _ ?_ (fun hS3 => ?_)
          · exact ⟨trivial, fun _ => HS1.out _ hB1⟩
          clear hK K hS2
          try simp only [Act.put, List.setIfInBounds_toArray, List.set_cons_zero, List.set_cons_succ]
          refine readyL (rs := [12]) (by kernel_rfl) (by simp) ?_
          refine AllReadyL.cons rfl (fun K hK => ?_) AllReadyL.nil
          go_simp
          refine hK.out _ _ ?_ (fun hS4 => ?_)
          · exact ⟨trivial, fun _ => HS1.out _ (hB1.alloc hB1.size _)⟩
          clear hK K hS3
          try simp only [Act.put, List.setIfInBounds_toArray, List.set_cons_zero, List.set_cons_succ]
          refine readyL (rs := [13]) (by kernel_rfl) (by simp) ?_
          refine AllReadyL.cons rfl (fun K hK => ?_) AllReadyL.nil
          go_simp
          refine hK.out _ _ ?_ (fun hS5 => ?_)
          · exact ⟨trivial, fun h => absurd (h.symm.trans (show _ = true by kernel_rfl)) (by decide)⟩
          clear hK K hS4
          try simp only [Act.put, List.setIfInBounds_toArray, List.set_cons_zero, List.set_cons_succ]
          refine readyL (rs := [14]) (by kernel_rfl) (by simp) ?_
          refine AllReadyL.cons rfl (fun K hK => ?_) AllReadyL.nil
          go_simp
          refine hK.out _ _ ?_ (fun hS6 => ?_)
          · exact ⟨trivial, fun h => absurd (h.symm.trans (show _ = true by kernel_rfl)) (by decide)⟩
          clear hK K hS5
          try simp only [Act.put, List.setIfInBounds_toArray, List.set_cons_zero, List.set_cons_succ]
          refine doneL (by kernel_rfl) ?_ _
          go_wp2_with fail
          go_meet
          exact cutO_alloc hO hU1 hB1
        refine AllReadyL.cons rfl (fun K hK => ?_) AllReadyL.nil
        go_simp
        refine hK.out _ _ ?_ (fun hS3 => ?_)
        · exact ⟨trivial, fun _ => HS1.out _ (hB1.alloc hB1.size _)⟩
        clear hK K hS2
        try simp only [Act.put, List.setIfInBounds_toArray, List.set_cons_zero, List.set_cons_succ]
        refine readyL (rs := [11, 13]) (by kernel_rfl) (by simp) ?_
        refine AllReadyL.cons rfl (fun K hK => ?_) ?_
        · go_simp
          refine hK.out _ _ ?_ (fun hS4 => ?_)
          · exact ⟨trivial, fun _ => HS1.out _ (hB1.alloc hB1.size _)⟩
          clear hK K hS3
          try simp only [Act.put, List.setIfInBounds_toArray, List.set_cons_zero, List.set_cons_succ]
          refine readyL (rs := [13]) (by kernel_rfl) (by simp) ?_
          refine AllReadyL.cons rfl (fun K hK => ?_) AllReadyL.nil
          go_simp
          refine hK.out _ _ ?_ (fun hS5 => ?_)
          · exact ⟨trivial, fun h => absurd (h.symm.trans (show _ = true by kernel_rfl)) (by decide)⟩
          clear hK K hS4
          try simp only [Act.put, List.setIfInBounds_toArray, List.set_cons_zero, List.set_cons_succ]
          refine readyL (rs := [14]) (by kernel_rfl) (by simp) ?_
          refine AllReadyL.cons rfl (fun K hK => ?_) AllReadyL.nil
          go_simp
          refine hK.out _ _ ?_ (fun hS6 => ?_)
          · exact ⟨trivial, fun h => absurd (h.symm.trans (show _ = true by kernel_rfl)) (by decide)⟩
          clear hK K hS5
          try simp only [Act.put, List.setIfInBounds_toArray, List.set_cons_zero, List.set_cons_succ]
          refine doneL (by kernel_rfl) ?_ _
          go_wp2_with fail
          go_meet
          exact cutO_alloc hO hU1 hB1
        refine AllReadyL.cons rfl (fun K hK => ?_) AllReadyL.nil
        go_simp
        refine hK.out _ _ ?_ (fun hS4 => ?_)
        · exact ⟨trivial, fun h => absurd (h.symm.trans (show _ = true by kernel_rfl)) (by decide)⟩
        clear hK K hS3
        try simp only [Act.put, List.setIfInBounds_toArray, List.set_cons_zero, List.set_cons_succ]
        refine readyL (rs := [11]) (by kernel_rfl) (by simp) ?_
        refine AllReadyL.cons rfl (fun K hK => ?_) AllReadyL.nil
        go_simp
        refine hK.out _ _ ?_ (fun hS5 => ?_)
        · exact ⟨trivial, fun h => absurd (h.symm.trans (show _ = true by kernel_rfl)) (by decide)⟩
        clear hK K hS4
        try simp only [Act.put, List.setIfInBounds_toArray, List.set_cons_zero, List.set_cons_succ]
        refine readyL (rs := [14]) (by kernel_rfl) (by simp) ?_
        refine AllReadyL.cons rfl (fun K hK => ?_) AllReadyL.nil
        go_simp
        refine hK.out _ _ ?_ (fun hS6 => ?_)
        · exact ⟨trivial, fun h => absurd (h.symm.trans (show _ = true by kernel_rfl)) (by decide)⟩
        clear hK K hS5
        try simp only [Act.put, List.setIfInBounds_toArray, List.set_cons_zero, List.set_cons_succ]
        refine doneL (by kernel_rfl) ?_ _
        go_wp2_with fail
        go_meet
        exact cutO_alloc hO hU1 hB1
      refine AllReadyL.cons rfl (fun K hK => ?_) ?_
      · go_simp
        refine hK.out _ _ ?_ (fun hS2 => ?_)
        · exact ⟨trivial, fun _ => HS1.out _ hB1⟩
        clear hK K hS1
        try simp only [Act.put, List.setIfInBounds_toArray, List.set_cons_zero, List.set_cons_succ]
        refine readyL (rs := [10, 12]) (by kernel_rfl) (by simp) ?_
        refine AllReadyL.cons rfl (fun K hK => ?_) ?_
        · go_simp
          refine hK.out _ _ ?_ (fun hS3 => ?_)
          · exact ⟨trivial, fun _ => HS1.out _ hB1⟩
          clear hK K hS2
          try simp only [Act.put, List.setIfInBounds_toArray, List.set_cons_zero, List.set_cons_succ]
          refine readyL (rs := [12]) (by kernel_rfl) (by simp) ?_
          refine AllReadyL.cons rfl (fun K hK => ?_) AllReadyL.nil
          go_simp
          refine hK.out _ _ ?_ (fun hS4 => ?_)
          · exact ⟨trivial, fun _ => HS1.out _ (hB1.alloc hB1.size _)⟩
          clear hK K hS3
          try simp only [Act.put, List.setIfInBounds_toArray, List.set_cons_zero, List.set_cons_succ]
          refine readyL (rs := [13]) (by kernel_rfl) (by simp) ?_
          refine AllReadyL.cons rfl (fun K hK => ?_) AllReadyL.nil
          go_simp
          refine hK.out _ _ ?_ (fun hS5 => ?_)
          · exact ⟨trivial, fun h => absurd (h.symm.trans (show _ = true by kernel_rfl)) (by decide)⟩
          clear hK K hS4
          try simp only [Act.put, List.setIfInBounds_toArray, List.set_cons_zero, List.set_cons_succ]
          refine readyL (rs := [14]) (by kernel_rfl) (by simp) ?_
          refine AllReadyL.cons rfl (fun K hK => ?_) AllReadyL.nil
          go_simp
          refine hK.out _ _ ?_ (fun hS6 => ?_)
          · exact ⟨trivial, fun h => absurd (h.symm.trans (show _ = true by kernel_rfl)) (by decide)⟩
          clear hK K hS5
          try simp only [Act.put, List.setIfInBounds_toArray, List.set_cons_zero, List.set_cons_succ]
          refine doneL (by kernel_rfl) ?_ _
          go_wp2_with fail
          go_meet
          exact cutO_alloc hO hU1 hB1
        refine AllReadyL.cons rfl (fun K hK => ?_) AllReadyL.nil
        go_simp
        refine hK.out _ _ ?_ (fun hS3 => ?_)
        · exact ⟨trivial, fun _ => HS1.out _ (hB1.alloc hB1.size _)⟩
        clear hK K hS2
        try simp only [Act.put, List.setIfInBounds_toArray, List.set_cons_zero, List.set_cons_succ]
        refine readyL (rs := [10]) (by kernel_rfl) (by simp) ?_
        refine AllReadyL.cons rfl (fun K hK => ?_) AllReadyL.nil
        go_simp
        refine hK.out _ _ ?_ (fun hS4 => ?_)
        · exact ⟨trivial, fun _ => HS1.out _ (hB1.alloc hB1.size _)⟩
        clear hK K hS3
        try simp only [Act.put, List.setIfInBounds_toArray, List.set_cons_zero, List.set_cons_succ]
        refine readyL (rs := [13]) (by kernel_rfl) (by simp) ?_
        refine AllReadyL.cons rfl (fun K hK => ?_) AllReadyL.nil
        go_simp
        refine hK.out _ _ ?_ (fun hS5 => ?_)
        · exact ⟨trivial, fun h => absurd (h.symm.trans (show _ = true by kernel_rfl)) (by decide)⟩
        clear hK K hS4
        try simp only [Act.put, List.setIfInBounds_toArray, List.set_cons_zero, List.set_cons_succ]
        refine readyL (rs := [14]) (by kernel_rfl) (by simp) ?_
        refine AllReadyL.cons rfl (fun K hK => ?_) AllReadyL.nil
        go_simp
        refine hK.out _ _ ?_ (fun hS6 => ?_)
        · exact ⟨trivial, fun h => absurd (h.symm.trans (show _ = true by kernel_rfl)) (by decide)⟩
        clear hK K hS5
        try simp only [Act.put, List.setIfInBounds_toArray, List.set_cons_zero, List.set_cons_succ]
        refine doneL (by kernel_rfl) ?_ _
        go_wp2_with fail
        go_meet
        exact cutO_alloc hO hU1 hB1
      refine AllReadyL.cons rfl (fun K hK => ?_) AllReadyL.nil
      go_simp
      refine hK.out _ _ ?_ (fun hS2 => ?_)
      · exact ⟨trivial, fun _ => HS1.out _ (hB1.alloc hB1.size _)⟩
      clear hK K hS1
      try simp only [Act.put, List.setIfInBounds_toArray, List.set_cons_zero, List.set_cons_succ]
      refine readyL (rs := [10, 11]) (by kernel_rfl) (by simp) ?_
      refine AllReadyL.cons rfl (fun K hK => ?_) ?_
      · go_simp
        refine hK.out _ _ ?_ (fun hS3 => ?_)
        · exact ⟨trivial, fun _ => HS1.out _ (hB1.alloc hB1.size _)⟩
        clear hK K hS2
        try simp only [Act.put, List.setIfInBounds_toArray, List.set_cons_zero, List.set_cons_succ]
        refine readyL (rs := [11, 13]) (by kernel_rfl) (by simp) ?_
        refine AllReadyL.cons rfl (fun K hK => ?_) ?_
        · go_simp
          refine hK.out _ _ ?_ (fun hS4 => ?_)
          · exact ⟨trivial, fun _ => HS1.out _ (hB1.alloc hB1.size _)⟩
          clear hK K hS3
          try simp only [Act.put, List.setIfInBounds_toArray, List.set_cons_zero, List.set_cons_succ]
          refine readyL (rs := [13]) (by kernel_rfl) (by simp) ?_
          refine AllReadyL.cons rfl (fun K hK => ?_) AllReadyL.nil
          go_simp
          refine hK.out _ _ ?_ (fun hS5 => ?_)
          · exact ⟨trivial, fun h => absurd (h.symm.trans (show _ = true by kernel_rfl)) (by decide)⟩
          clear hK K hS4
          try simp only [Act.put, List.setIfInBounds_toArray, List.set_cons_zero, List.set_cons_succ]
          refine readyL (rs := [14]) (by kernel_rfl) (by simp) ?_
          refine AllReadyL.cons rfl (fun K hK => ?_) AllReadyL.nil
          go_simp
          refine hK.out _ _ ?_ (fun hS6 => ?_)
          · exact ⟨trivial, fun h => absurd (h.symm.trans (show _ = true by kernel_rfl)) (by decide)⟩
          clear hK K hS5
          try simp only [Act.put, List.setIfInBounds_toArray, List.set_cons_zero, List.set_cons_succ]
          refine doneL (by kernel_rfl) ?_ _
          go_wp2_with fail
          go_meet
          exact cutO_alloc hO hU1 hB1
        refine AllReadyL.cons rfl (fun K hK => ?_) AllReadyL.nil
        go_simp
        refine hK.out _ _ ?_ (fun hS4 => ?_)
        · exact ⟨trivial, fun h => absurd (h.symm.trans (show _ = true by kernel_rfl)) (by decide)⟩
        clear hK K hS3
        try simp only [Act.put, List.setIfInBounds_toArray, List.set_cons_zero, List.set_cons_succ]
        refine readyL (rs := [11]) (by kernel_rfl) (by simp) ?_
        refine AllReadyL.cons rfl (fun K hK => ?_) AllReadyL.nil
        go_simp
        refine hK.out _ _ ?_ (fun hS5 => ?_)
        · exact ⟨trivial, fun h => absurd (h.symm.trans (show _ = true by kernel_rfl)) (by decide)⟩
        clear hK K hS4
        try simp only [Act.put, List.setIfInBounds_toArray, List.set_cons_zero, List.set_cons_succ]
        refine readyL (rs := [14]) (by kernel_rfl) (by simp) ?_
        refine AllReadyL.cons rfl (fun K hK => ?_) AllReadyL.nil
        go_simp
        refine hK.out _ _ ?_ (fun hS6 => ?_)
        · exact ⟨trivial, fun h => absurd (h.symm.trans (show _ = true by kernel_rfl)) (by decide)⟩
        clear hK K hS5
        try simp only [Act.put, List.setIfInBounds_toArray, List.set_cons_zero, List.set_cons_succ]
        refine doneL (by kernel_rfl) ?_ _
        go_wp2_with fail
        go_meet
        exact cutO_alloc hO hU1 hB1
      refine AllReadyL.cons rfl (fun K hK => ?_) AllReadyL.nil
      go_simp
      refine hK.out _ _ ?_ (fun hS3 => ?_)
      · exact ⟨trivial, fun _ => HS1.out _ (hB1.alloc hB1.size _)⟩
      clear hK K hS2
      try simp only [Act.put, List.setIfInBounds_toArray, List.set_cons_zero, List.set_cons_succ]
      refine readyL (rs := [10]) (by kernel_rfl) (by simp) ?_
      refine AllReadyL.cons rfl (fun K hK => ?_) AllReadyL.nil
      go_simp
      refine hK.out _ _ ?_ (fun hS4 => ?_)
      · exact ⟨trivial, fun _ => HS1.out _ (hB1.alloc hB1.size _)⟩
      clear hK K hS3
      try simp only [Act.put, List.setIfInBounds_toArray, List.set_cons_zero, List.set_cons_succ]
      refine readyL (rs := [13]) (by kernel_rfl) (by simp) ?_
      refine AllReadyL.cons rfl (fun K hK => ?_) AllReadyL.nil
      go_simp
      refine hK.out _ _ ?_ (fun hS5 => ?_)
      · exact ⟨trivial, fun h => absurd (h.symm.trans (show _ = true by kernel_rfl)) (by decide)⟩
      clear hK K hS4
      try simp only [Act.put, List.setIfInBounds_toArray, List.set_cons_zero, List.set_cons_succ]
      refine readyL (rs := [14]) (by kernel_rfl) (by simp) ?_
      refine AllReadyL.cons rfl (fun K hK => ?_) AllReadyL.nil
      go_simp
      refine hK.out _ _ ?_ (fun hS6 => ?_)
      · exact ⟨trivial, fun h => absurd (h.symm.trans (show _ = true by kernel_rfl)) (by decide)⟩
      clear hK K hS5
      try simp only [Act.put, List.setIfInBounds_toArray, List.set_cons_zero, List.set_cons_succ]
      refine doneL (by kernel_rfl) ?_ _
      go_wp2_with fail
      go_meet
      exact cutO_alloc hO hU1 hB1
    refine AllReadyL.cons rfl (fun K hK => ?_) AllReadyL.nil
    go_simp
    refine hK.out _ _ ?_ (fun hS1 => ?_)
    · exact ⟨trivial, fun _ => HS1.out _ ((below_drew _).alloc (by simp) _)⟩
    clear hK K hS0
    try simp only [Act.put, List.setIfInBounds_toArray, List.set_cons_zero, List.set_cons_succ]
    refine readyL (rs := [8]) (by kernel_rfl) (by simp) ?_
    refine AllReadyL.cons rfl (fun K hK => ?_) AllReadyL.nil
    go_simp
    refine (cm_from HIH.out (W0 := Y) (((Below.refl (Y).heap.size Y).alloc (Nat.le_refl _) (Obj.cells #[.int .i64 0, .int .i64 0, .int .i64 0, .slice none 0 0] 44)).drew) (by have := HP.out.1; omega) HP.out.2.1 HP.out.2.2.1 HP.out.2.2.2.1.2 HP.out.2.2.2.2.2 (H0.out.1.2.below HBY.out) (H0.out.2.2.below HBY.out)).mono ?_
    rintro e w1 ⟨⟨p0, p1, p2, pa, pn, pc, rfl, hb1, hO⟩, hU⟩
    have hB1 := below_trans hU hb1
    have hU1 := hU.size
    refine hK.out _ _ ?_ (fun hS2 => ?_)
    · exact ⟨trivial, fun _ => HS1.out _ hB1⟩
    clear hK K hS1
    try simp only [Act.put, List.setIfInBounds_toArray, List.set_cons_zero, List.set_cons_succ]
    refine takeL0 (i := 9) (v := ?vr10) rfl rfl (by kernel_rfl) (by kernel_rfl) (by kernel_rfl) (by decide) (by kernel_rfl) (by kernel_rfl) (fun _ _ _ h => h) (Or.inl ⟨by rfl, ?hyr10⟩) (by assumption) ?_
    case hyr10 => (intro w hSw; (try dsimp only at hSw); go_simp; (try with_reducible rfl))
    try simp only [Act.put, List.setIfInBounds_toArray, List.set_cons_zero, List.set_cons_succ]
    refine readyL (rs := [10, 11]) (by kernel_rfl) (by simp) ?_
    refine AllReadyL.cons rfl (fun K hK => ?_) ?_
    · go_simp
      refine hK.out _ _ ?_ (fun hS3 => ?_)
      · exact ⟨trivial, fun _ => HS1.out _ hB1⟩
      clear hK K hS2
      try simp only [Act.put, List.setIfInBounds_toArray, List.set_cons_zero, List.set_cons_succ]
      refine readyL (rs := [11, 13]) (by kernel_rfl) (by simp) ?_
      refine AllReadyL.cons rfl (fun K hK => ?_) ?_
      · go_simp
        refine hK.out _ _ ?_ (fun hS4 => ?_)
        · exact ⟨trivial, fun _ => HS1.out _ hB1⟩
        clear hK K hS3
        try simp only [Act.put, List.setIfInBounds_toArray, List.set_cons_zero, List.set_cons_succ]
        refine readyL (rs := [13]) (by kernel_rfl) (by simp) ?_
        refine AllReadyL.cons rfl (fun K hK => ?_) AllReadyL.nil
        have hE1 := (hb1.block _ (by simp [World.drew])).trans (alloc_new Y (Obj.cells #[.int .i64 0, .int .i64 0, .int .i64 0, .slice none 0 0] 44))
        have bM := hE1
        have z0 := (cell_of_block (o := 0) bM).trans (show _ = some (.int .i64 0) from rfl)
        have z1 := (cell_of_block (o := 1) bM).trans (show _ = some (.int .i64 0) from rfl)
        have z2 := (cell_of_block (o := 2) bM).trans (show _ = some (.int .i64 0) from rfl)
        have z3 := (cell_of_block (o := 3) bM).trans (show _ = some (.slice none 0 0) from rfl)
        have yz := fun o => frozen_of_block (o := o) bM
        go_simp
        refine hK.out _ _ ?_ (fun hS5 => ?_)
        · exact ⟨trivial, fun h => absurd (h.symm.trans (show _ = true by kernel_rfl)) (by decide)⟩
        clear hK K hS4
        try simp only [Act.put, List.setIfInBounds_toArray, List.set_cons_zero, List.set_cons_succ]
        refine readyL (rs := [14]) (by kernel_rfl) (by simp) ?_
        refine AllReadyL.cons rfl (fun K hK => ?_) AllReadyL.nil
        go_simp
        refine hK.out _ _ ?_ (fun hS6 => ?_)
        · exact ⟨trivial, fun h => absurd (h.symm.trans (show _ = true by kernel_rfl)) (by decide)⟩
        clear hK K hS5
        try simp only [Act.put, List.setIfInBounds_toArray, List.set_cons_zero, List.set_cons_succ]
        refine doneL (by kernel_rfl) ?_ _
        go_wp2_with fail
        go_meet
        exact cutO_stores hE1 hO (by simp [World.drew] at hU1 ⊢) hB1
      refine AllReadyL.cons rfl (fun K hK => ?_) AllReadyL.nil
      have hE1 := (hb1.block _ (by simp [World.drew])).trans (alloc_new Y (Obj.cells #[.int .i64 0, .int .i64 0, .int .i64 0, .slice none 0 0] 44))
      have bM := hE1
      have z0 := (cell_of_block (o := 0) bM).trans (show _ = some (.int .i64 0) from rfl)
      have z1 := (cell_of_block (o := 1) bM).trans (show _ = some (.int .i64 0) from rfl)
      have z2 := (cell_of_block (o := 2) bM).trans (show _ = some (.int .i64 0) from rfl)
      have z3 := (cell_of_block (o := 3) bM).trans (show _ = some (.slice none 0 0) from rfl)
      have yz := fun o => frozen_of_block (o := o) bM
      go_simp
      refine hK.out _ _ ?_ (fun hS4 => ?_)
      · exact ⟨trivial, fun h => absurd (h.symm.trans (show _ = true by kernel_rfl)) (by decide)⟩
      clear hK K hS3
      try simp only [Act.put, List.setIfInBounds_toArray, List.set_cons_zero, List.set_cons_succ]
      refine readyL (rs := [11]) (by kernel_rfl) (by simp) ?_
      refine AllReadyL.cons rfl (fun K hK => ?_) AllReadyL.nil
      go_simp
      refine hK.out _ _ ?_ (fun hS5 => ?_)
      · exact ⟨trivial, fun h => absurd (h.symm.trans (show _ = true by kernel_rfl)) (by decide)⟩
      clear hK K hS4
      try simp only [Act.put, List.setIfInBounds_toArray, List.set_cons_zero, List.set_cons_succ]
      refine readyL (rs := [14]) (by kernel_rfl) (by simp) ?_
      refine AllReadyL.cons rfl (fun K hK => ?_) AllReadyL.nil
      go_simp
      refine hK.out _ _ ?_ (fun hS6 => ?_)
      · exact ⟨trivial, fun h => absurd (h.symm.trans (show _ = true by kernel_rfl)) (by decide)⟩
      clear hK K hS5
      try simp only [Act.put, List.setIfInBounds_toArray, List.set_cons_zero, List.set_cons_succ]
      refine doneL (by kernel_rfl) ?_ _
      go_wp2_with fail
      go_meet
      exact cutO_stores hE1 hO (by simp [World.drew] at hU1 ⊢) hB1
    refine AllReadyL.cons rfl (fun K hK => ?_) AllReadyL.nil
    go_simp
    refine hK.out _ _ ?_ (fun hS3 => ?_)
    · exact ⟨trivial, fun _ => HS1.out _ hB1⟩
    clear hK K hS2
    try simp only [Act.put, List.setIfInBounds_toArray, List.set_cons_zero, List.set_cons_succ]
    refine readyL (rs := [10]) (by kernel_rfl) (by simp) ?_
    refine AllReadyL.cons rfl (fun K hK => ?_) AllReadyL.nil
    go_simp
    refine hK.out _ _ ?_ (fun hS4 => ?_)
    · exact ⟨trivial, fun _ => HS1.out _ hB1⟩
    clear hK K hS3
    try simp only [Act.put, List.setIfInBounds_toArray, List.set_cons_zero, List.set_cons_succ]
    refine readyL (rs := [13]) (by kernel_rfl) (by simp) ?_
    refine AllReadyL.cons rfl (fun K hK => ?_) AllReadyL.nil
    have hE1 := (hb1.block _ (by simp [World.drew])).trans (alloc_new Y (Obj.cells #[.int .i64 0, .int .i64 0, .int .i64 0, .slice none 0 0] 44))
    have bM := hE1
    have z0 := (cell_of_block (o := 0) bM).trans (show _ = some (.int .i64 0) from rfl)
    have z1 := (cell_of_block (o := 1) bM).trans (show _ = some (.int .i64 0) from rfl)
    have z2 := (cell_of_block (o := 2) bM).trans (show _ = some (.int .i64 0) from rfl)
    have z3 := (cell_of_block (o := 3) bM).trans (show _ = some (.slice none 0 0) from rfl)
    have yz := fun o => frozen_of_block (o := o) bM
    go_simp
    refine hK.out _ _ ?_ (fun hS5 => ?_)
    · exact ⟨trivial, fun h => absurd (h.symm.trans (show _ = true by kernel_rfl)) (by decide)⟩
    clear hK K hS4
    try simp only [Act.put, List.setIfInBounds_toArray, List.set_cons_zero, List.set_cons_succ]
    refine readyL (rs := [14]) (by kernel_rfl) (by simp) ?_
    refine AllReadyL.cons rfl (fun K hK => ?_) AllReadyL.nil
    go_simp
    refine hK.out _ _ ?_ (fun hS6 => ?_)
    · exact ⟨trivial, fun h => absurd (h.symm.trans (show _ = true by kernel_rfl)) (by decide)⟩
    clear hK K hS5
    try simp only [Act.put, List.setIfInBounds_toArray, List.set_cons_zero, List.set_cons_succ]
    refine doneL (by kernel_rfl) ?_ _
    go_wp2_with fail
    go_meet
    exact cutO_stores hE1 hO (by simp [World.drew] at hU1 ⊢) hB1
  case rest =>
  rename World => V
  obtain ⟨by', r2, v0, v1, v2, vb, vn, vc, rfl, rfl, hr2, hby, hEy, hOy, hby2⟩ := hcut
  have hSS := HS1.out _ hby2
  clear x0 x1 x2 x3 y0 y1 y2 y3 d0 d1 d2 d3 d4 d5 d6 d7 e0 e1 e2 e3 e4 e5 e6 e7
  obtain ⟨x0, x1, x2, x3, y0, y1, y2, y3, d0, d1, d2, d3, d4, d5, d6, d7, e0, e1, e2, e3, e4, e5, e6, e7⟩ := hSS
  obtain ⟨s0, s1, s2, s3⟩ := HS1b.out _ hby2
  have t0 : V.cell? ⟨by', 0, none⟩ = some (.int .i64 v0) := by rw [cell_of_block hEy]; rfl
  have t1 : V.cell? ⟨by', 1, none⟩ = some (.int .i64 v1) := by rw [cell_of_block hEy]; rfl
  have t2 : V.cell? ⟨by', 2, none⟩ = some (.int .i64 v2) := by rw [cell_of_block hEy]; rfl
  have t3 : V.cell? ⟨by', 3, none⟩ = some (.slice vb vn vc) := by rw [cell_of_block hEy]; rfl
  have hBV := below_trans HBY.out hby2
  have hZV := hBV.size
  have hMV : V.heap[w.heap.size + 1 + 1]? = some (Obj.cells #[.int .i64 0, .int .i64 0, .int .i64 0, .slice none 0 0] 44) := (hBV.block _ (by omega)).trans HBZ.out
  have hbwV := below_trans HB0.out hBV
  have hwV := hbwV.size
  have HSZ := hid (show Z.heap.size ≤ Y.heap.size from HBY.out.size)
  have hal : Below V.heap.size V (V.alloc (Obj.cells #[.int .i64 u0, .int .i64 u1', .int .i64 u2, .slice ua un uc, .int .i64 v0, .int .i64 v1, .int .i64 v2, .slice vb vn vc] 44)) := (Below.refl _ _).alloc (Nat.le_refl _) _
  have bM := ((hal.block _ (lt_of_block hMV)).trans hMV)
  have z0 := (cell_of_block (o := 0) bM).trans (show _ = some (.int .i64 0) from rfl)
  have z1 := (cell_of_block (o := 1) bM).trans (show _ = some (.int .i64 0) from rfl)
  have z2 := (cell_of_block (o := 2) bM).trans (show _ = some (.int .i64 0) from rfl)
  have z3 := (cell_of_block (o := 3) bM).trans (show _ = some (.slice none 0 0) from rfl)
  have yz := fun o => frozen_of_block (o := o) bM
  have FIN : MadeO w (bothC 3 (cmpo n a1 b1) (cmpo n a2 b2)) (.returned (.tuple #[.agg #[.int .i64 3, .int .i64 0, .int .i64 0, .slice (some ⟨V.heap.size, 0, none⟩) 2 2], .bool (if r1 then r2 else false)])) (put4 (V.alloc (Obj.cells #[.int .i64 u0, .int .i64 u1', .int .i64 u2, .slice ua un uc, .int .i64 v0, .int .i64 v1, .int .i64 v2, .slice vb vn vc] 44)) (w.heap.size + 1 + 1) 0 (.int .i64 3) (.int .i64 0) (.int .i64 0) (.slice (some ⟨V.heap.size, 0, none⟩) 2 2)) := by
    refine closeO (lo := w.heap.size + 1 + 1 + 1) ?_ ?_ (by omega) (by omega) (below_trans hbwV hal)
    · rw [← HR1.out, ← hr2]
      cases cmpo n a1 b1 <;> cases cmpo n a2 b2 <;> rfl
    · intro c hc
      cases h1 : cmpo n a1 b1 with
      | none => rw [h1] at hc; cases hc
      | some c1 =>
        cases h2 : cmpo n a2 b2 with
        | none => rw [h1, h2] at hc; cases hc
        | some c2 =>
          rw [h1, h2] at hc
          obtain rfl : Co.mk 3 0 0 [c1, c2] = c := by simpa [bothC] using hc
          obtain ⟨f1, hat1, hf1⟩ := HO1.out c1 h1
          obtain ⟨f2, hat2, hf2⟩ := hOy c2 h2
          obtain ⟨fp, h3, h4⟩ := two_rowO (k := 3) (lo := Z.heap.size) (hat1.below hby2) hat2 hf1 hf2 (Nat.le_refl _) HSZ.out hby2 hZV
          exact ⟨fp, h3, h4.mono hlo⟩
  have HFIN := hid FIN
  have HR2 := hid hr2
  clear FIN hr2 hEy hOy hby2 hBV hMV hbwV hal bM
  cases r1
  all_goals
    have F2 := HFIN.out
    simp only [put4, Nat.zero_add, if_true, Bool.false_eq_true, if_false] at F2
    go_wp2_with fail
    first
      | exact bodyPost_ret (v := .tuple #[.agg #[.int .i64 3, .int .i64 0, .int .i64 0, .slice (some ⟨V.heap.size, 0, none⟩) 2 2], .bool false]) (by simp [results, Try.results54, go_sem, z0, z1, z2, z3]) rfl F2
      | exact bodyPost_ret (v := .tuple #[.agg #[.int .i64 3, .int .i64 0, .int .i64 0, .slice (some ⟨V.heap.size, 0, none⟩) 2 2], .bool r2]) (by simp [results, Try.results54, go_sem, z0, z1, z2, z3]) rfl F2

theorem l6Two_succ (n : Nat) (ih : CmC n) : TwoC (n + 1) := by
  intro a b d d' va vb fa fb w hd hd1 hd2 hsa hsb hua hub hata hatb
  obtain ⟨ka, ga, la, ts, rfl⟩ := a.shape
  obtain ⟨kb, gb, lb, us, rfl⟩ := b.shape
  cases d with
  | zero => simp [shpK] at hsa
  | succ d =>
  cases d' with
  | zero => simp [shpK] at hsb
  | succ d' =>
  obtain ⟨hna, hka⟩ := shpK_node hsa
  obtain ⟨hnb, hkb⟩ := shpK_node hsb
  obtain ⟨h4, h5, h6, h1⟩ := id hua
  obtain ⟨g4, g6⟩ := id hub
  by_cases hk : ka = kb
  case neg =>
    refine l6Two_diff ka ga kb gb la lb ts us va vb fa fb w hk _ ?_ hata hatb
    simp only [cmpo, cmpN]
    rw [if_neg h1, if_neg h5, if_neg h6, if_neg h4, if_neg g6, if_neg g4, if_neg (fun h => hk h.1)]
  subst hk
  rcases nodeC_cases hna with ⟨rfl, rfl, rfl, ha1, ha2⟩ | ⟨rfl, rfl, rfl, a1, a2, rfl⟩ | ⟨rfl, rfl, rfl, a1, a2, rfl⟩ | ⟨rfl, _⟩ | ⟨rfl, _⟩ | ⟨rfl, _⟩
  · exact l6Two_id n ga gb 0 lb [] us va vb fa fb w (fun h => h1 ⟨rfl, h⟩) rfl rfl hata hatb
  · rcases nodeC_cases hnb with ⟨h, _⟩ | ⟨_, rfl, rfl, b1, b2, rfl⟩ | ⟨h, _⟩ | ⟨h, _⟩ | ⟨h, _⟩ | ⟨h, _⟩
    · omega
    · have hr : cmpo (n + 1) (.mk 2 0 0 [a1, a2]) (.mk 2 0 0 [b1, b2]) = bothC 2 (cmpo n b1 a1) (cmpo n a2 b2) := by simp [cmpo, cmpN]
      rw [hr]
      exact l6Two_two2 n ih 0 0 a1 a2 b1 b2 d d' va vb fa fb w (by omega) (by omega) (by omega) (hka a1 (by simp)) (hka a2 (by simp)) (hkb b1 (by simp)) (hkb b2 (by simp)) hata hatb
    all_goals omega
  · rcases nodeC_cases hnb with ⟨h, _⟩ | ⟨h, _⟩ | ⟨_, rfl, rfl, b1, b2, rfl⟩ | ⟨h, _⟩ | ⟨h, _⟩ | ⟨h, _⟩
    · omega
    · omega
    · have hr : cmpo (n + 1) (.mk 3 0 0 [a1, a2]) (.mk 3 0 0 [b1, b2]) = bothC 3 (cmpo n a1 b1) (cmpo n a2 b2) := by simp [cmpo, cmpN]
      rw [hr]
      exact l6Two_two3 n ih 0 0 a1 a2 b1 b2 d d' va vb fa fb w (by omega) (by omega) (by omega) (hka a1 (by simp)) (hka a2 (by simp)) (hkb b1 (by simp)) (hkb b2 (by simp)) hata hatb
    all_goals omega
  · exact absurd rfl h4
  · exact absurd rfl h5
  · exact absurd rfl h6

theorem l6Both_any : ∀ n, CmC n ∧ TwoC n
  | 0 => ⟨fun a b d d' va vb fa fb w hd _ _ hsa => by
      exfalso
      have : d = 0 := by omega
      subst this
      simp [shpK] at hsa, fun a b d d' va vb fa fb w hd _ _ hsa => by
      exfalso
      have : d = 0 := by omega
      subst this
      simp [shpK] at hsa⟩
  | n + 1 => ⟨l6Compose_succ n (l6Both_any n).1 (l6Both_any n).2 (l6Two_succ n (l6Both_any n).1), l6Two_succ n (l6Both_any n).1⟩

theorem l6Compose_any (n : Nat) : CmC n := (l6Both_any n).1
end Go.Proofs.Ytgekfnodmgkdaaa
