/- The specification's l6Compose, behind a projection. -/
import Derived.Test.YtgekfnodmgkdaaaCmA
namespace Go.Proofs.Ytgekfnodmgkdaaa
open Go.RowKit

/-- What a composition handed back, stored into a variable of its own. -/
theorem sec_closeO {W X : World} {b lo : Nat} {o : Option Co} {x0 x1 x2 x3 : Value} (hE : X.heap[b]? = some (Obj.cells #[.int .i64 0, .int .i64 0, .int .i64 0, .slice none 0 0] 44)) (h : ∀ c, o = some c → ∃ fp, c.At X (.agg #[x0, x1, x2, x3]) fp ∧ Fresh lo X fp) (hlo : b < lo) (hb : W.heap.size ≤ b) (hB : Below W.heap.size W X) :
    ∃ wS, wS = put4 X b 0 x0 x1 x2 x3 ∧ wS.heap[b]? = some (Obj.cells #[x0, x1, x2, x3] 44) ∧ (∀ c, o = some c → ∃ fp, c.At wS (.agg #[x0, x1, x2, x3]) fp ∧ Fresh lo wS fp) ∧ Below W.heap.size W wS := by
  refine ⟨_, rfl, heap_setCell_at (heap_setCell_at (heap_setCell_at (heap_setCell_at hE x0) x1) x2) x3, fun c hc => ?_, put4_below hB hb _ _ _ _⟩
  obtain ⟨fp, hat, hf⟩ := h c hc
  exact ⟨fp, hat.above (put4_above hlo _ _ _ _) hf.ge, hf.above (put4_above hlo _ _ _ _) (Nat.le_refl _)⟩

theorem sec_allocO {W X : World} {lo : Nat} {o : Option Co} {x0 x1 x2 x3 : Value} (h : ∀ c, o = some c → ∃ fp, c.At X (.agg #[x0, x1, x2, x3]) fp ∧ Fresh lo X fp) (hB : Below W.heap.size W X) :
    ∃ wS, wS = X.alloc (Obj.cells #[x0, x1, x2, x3] 44) ∧ wS.heap[X.heap.size]? = some (Obj.cells #[x0, x1, x2, x3] 44) ∧ (∀ c, o = some c → ∃ fp, c.At wS (.agg #[x0, x1, x2, x3]) fp ∧ Fresh lo wS fp) ∧ Below W.heap.size W wS := by
  refine ⟨_, rfl, alloc_new _ _, fun c hc => ?_, hB.alloc hB.size _⟩
  obtain ⟨fp, hat, hf⟩ := h c hc
  have al := (Below.refl X.heap.size X).alloc (Nat.le_refl _) (Obj.cells #[x0, x1, x2, x3] 44)
  exact ⟨fp, hat.below al, hf.below al⟩

theorem cm_from {n : Nat} (ih : CmC n) {W0 w1 : World} (u : Below W0.heap.size W0 w1) {a b : Co} {d d' : Nat} {va vb : Value} {fa fb : List Nat} (h1 : d + d' ≤ n) (h2 : d ≤ 9) (h3 : d' ≤ 9) (h4 : shpK d a = true) (h5 : shpK d' b = true) (h6 : a.At W0 va fa) (h7 : b.At W0 vb fb) :
    Calls Try.prog 34 #[va, vb] w1 fun e w' => MadeO w1 (cmpo n a b) e w' ∧ Below W0.heap.size W0 w1 :=
  (ih a b d d' va vb fa fb w1 h1 h2 h3 h4 h5 (h6.below u) (h7.below u)).mono fun _ _ h => ⟨h, u⟩

/-- A node of one operand, made of what a composition handed back. -/
theorem one_rowO {wS : World} {lo : Nat} {o : Option Co} {x0 x1 x2 x3 : Value} {k l : Int} (h : ∀ c, o = some c → ∃ fp, c.At wS (.agg #[x0, x1, x2, x3]) fp ∧ Fresh lo wS fp) (hlo : lo ≤ wS.heap.size) :
    ∀ c, (o.map fun c => Co.mk k 0 l [c]) = some c → ∃ fp, c.At (wS.alloc (Obj.cells #[x0, x1, x2, x3] 44)) (.agg #[.int .i64 k, .int .i64 0, .int .i64 l, .slice (some ⟨wS.heap.size, 0, none⟩) 1 1]) fp ∧ Fresh lo (wS.alloc (Obj.cells #[x0, x1, x2, x3] 44)) fp := by
  intro c hc
  obtain ⟨c', hc', rfl⟩ := Option.map_eq_some_iff.1 hc
  obtain ⟨fp, hat, hf⟩ := h c' hc'
  have al := (Below.refl wS.heap.size wS).alloc (Nat.le_refl _) (Obj.cells #[x0, x1, x2, x3] 44)
  exact ⟨_, co_one (alloc_new _ _) (hat.below al), Fresh.row (hf.below al) (alloc_new _ _) hlo (fun x hx => (hf.2 x hx).2.1)⟩

set_option maxRecDepth 100000 in
set_option maxHeartbeats 4000000 in
theorem l6Compose_prj (n : Nat) (ih : CmC n) (ga la : Int) (a b : Co) (d d' : Nat) (va vb : Value) (fa fb : List Nat) (w : World) (hd : d + d' ≤ n) (hd1 : d ≤ 9) (hd2 : d' ≤ 9) (hsa : shpK d a = true) (hsb : shpK d' b = true) (hata : (Co.mk 5 ga la [a]).At w va fa) (hatb : b.At w vb fb) :
    Calls Try.prog 34 #[va, vb] w (MadeO w (cmpo (n + 1) (.mk 5 ga la [a]) b)) := by
  obtain ⟨kb, gb, lb, us, rfl⟩ := b.shape
  have hr : cmpo (n + 1) (.mk 5 ga la [a]) (.mk kb gb lb us) = (cmpo n a (.mk kb gb lb us)).map fun c => .mk 5 0 la [c] := by simp [cmpo, cmpN]
  have hatb0 := hatb
  obtain ⟨sa, rfl, hsl⟩ := Co.at_mk.1 hata
  obtain ⟨bc, oc, cc, k1, g1, l1, n1, a1, c1, f1, rfl, hbc, d0, d1, d2, d3, hA, _, hcc⟩ := hsl.one
  obtain ⟨sb, rfl, hsr⟩ := Co.at_mk.1 hatb
  obtain ⟨ab, cb, rfl⟩ := hsr.shape
  generalize hlb : us.length = nb at *
  have hb0 : Below w.heap.size w (((w.alloc (Obj.cells #[.int .i64 5, .int .i64 ga, .int .i64 la, .slice (some ⟨bc, oc, none⟩) 1 cc] 44)).alloc (Obj.cells #[.int .i64 kb, .int .i64 gb, .int .i64 lb, .slice ab nb cb] 44)).alloc (Obj.cells #[.int .i64 0, .int .i64 0, .int .i64 0, .slice none 0 0] 44)) := (((Below.refl _ _).alloc (Nat.le_refl _) _).alloc (by simp) _).alloc (by simp; omega) _
  have hs0 : ((((w.alloc (Obj.cells #[.int .i64 5, .int .i64 ga, .int .i64 la, .slice (some ⟨bc, oc, none⟩) 1 cc] 44)).alloc (Obj.cells #[.int .i64 kb, .int .i64 gb, .int .i64 lb, .slice ab nb cb] 44)).alloc (Obj.cells #[.int .i64 0, .int .i64 0, .int .i64 0, .slice none 0 0] 44))).heap.size = w.heap.size + 1 + 1 + 1 := by simp
  obtain ⟨bA, bB, bZ⟩ := three3 (Below.refl ((((w.alloc (Obj.cells #[.int .i64 5, .int .i64 ga, .int .i64 la, .slice (some ⟨bc, oc, none⟩) 1 cc] 44)).alloc (Obj.cells #[.int .i64 kb, .int .i64 gb, .int .i64 lb, .slice ab nb cb] 44)).alloc (Obj.cells #[.int .i64 0, .int .i64 0, .int .i64 0, .slice none 0 0] 44))).heap.size (((w.alloc (Obj.cells #[.int .i64 5, .int .i64 ga, .int .i64 la, .slice (some ⟨bc, oc, none⟩) 1 cc] 44)).alloc (Obj.cells #[.int .i64 kb, .int .i64 gb, .int .i64 lb, .slice ab nb cb] 44)).alloc (Obj.cells #[.int .i64 0, .int .i64 0, .int .i64 0, .slice none 0 0] 44)))
  have x0 : ((((w.alloc (Obj.cells #[.int .i64 5, .int .i64 ga, .int .i64 la, .slice (some ⟨bc, oc, none⟩) 1 cc] 44)).alloc (Obj.cells #[.int .i64 kb, .int .i64 gb, .int .i64 lb, .slice ab nb cb] 44)).alloc (Obj.cells #[.int .i64 0, .int .i64 0, .int .i64 0, .slice none 0 0] 44))).cell? ⟨w.heap.size, 0, none⟩ = some (.int .i64 5) := by rw [cell_of_block bA]; rfl
  have x1 : ((((w.alloc (Obj.cells #[.int .i64 5, .int .i64 ga, .int .i64 la, .slice (some ⟨bc, oc, none⟩) 1 cc] 44)).alloc (Obj.cells #[.int .i64 kb, .int .i64 gb, .int .i64 lb, .slice ab nb cb] 44)).alloc (Obj.cells #[.int .i64 0, .int .i64 0, .int .i64 0, .slice none 0 0] 44))).cell? ⟨w.heap.size, 1, none⟩ = some (.int .i64 ga) := by rw [cell_of_block bA]; rfl
  have x2 : ((((w.alloc (Obj.cells #[.int .i64 5, .int .i64 ga, .int .i64 la, .slice (some ⟨bc, oc, none⟩) 1 cc] 44)).alloc (Obj.cells #[.int .i64 kb, .int .i64 gb, .int .i64 lb, .slice ab nb cb] 44)).alloc (Obj.cells #[.int .i64 0, .int .i64 0, .int .i64 0, .slice none 0 0] 44))).cell? ⟨w.heap.size, 2, none⟩ = some (.int .i64 la) := by rw [cell_of_block bA]; rfl
  have x3 : ((((w.alloc (Obj.cells #[.int .i64 5, .int .i64 ga, .int .i64 la, .slice (some ⟨bc, oc, none⟩) 1 cc] 44)).alloc (Obj.cells #[.int .i64 kb, .int .i64 gb, .int .i64 lb, .slice ab nb cb] 44)).alloc (Obj.cells #[.int .i64 0, .int .i64 0, .int .i64 0, .slice none 0 0] 44))).cell? ⟨w.heap.size, 3, none⟩ = some (.slice (some ⟨bc, oc, none⟩) 1 cc) := by rw [cell_of_block bA]; rfl
  have y0 : ((((w.alloc (Obj.cells #[.int .i64 5, .int .i64 ga, .int .i64 la, .slice (some ⟨bc, oc, none⟩) 1 cc] 44)).alloc (Obj.cells #[.int .i64 kb, .int .i64 gb, .int .i64 lb, .slice ab nb cb] 44)).alloc (Obj.cells #[.int .i64 0, .int .i64 0, .int .i64 0, .slice none 0 0] 44))).cell? ⟨w.heap.size + 1, 0, none⟩ = some (.int .i64 kb) := by rw [cell_of_block bB]; rfl
  have y1 : ((((w.alloc (Obj.cells #[.int .i64 5, .int .i64 ga, .int .i64 la, .slice (some ⟨bc, oc, none⟩) 1 cc] 44)).alloc (Obj.cells #[.int .i64 kb, .int .i64 gb, .int .i64 lb, .slice ab nb cb] 44)).alloc (Obj.cells #[.int .i64 0, .int .i64 0, .int .i64 0, .slice none 0 0] 44))).cell? ⟨w.heap.size + 1, 1, none⟩ = some (.int .i64 gb) := by rw [cell_of_block bB]; rfl
  have y2 : ((((w.alloc (Obj.cells #[.int .i64 5, .int .i64 ga, .int .i64 la, .slice (some ⟨bc, oc, none⟩) 1 cc] 44)).alloc (Obj.cells #[.int .i64 kb, .int .i64 gb, .int .i64 lb, .slice ab nb cb] 44)).alloc (Obj.cells #[.int .i64 0, .int .i64 0, .int .i64 0, .slice none 0 0] 44))).cell? ⟨w.heap.size + 1, 2, none⟩ = some (.int .i64 lb) := by rw [cell_of_block bB]; rfl
  have y3 : ((((w.alloc (Obj.cells #[.int .i64 5, .int .i64 ga, .int .i64 la, .slice (some ⟨bc, oc, none⟩) 1 cc] 44)).alloc (Obj.cells #[.int .i64 kb, .int .i64 gb, .int .i64 lb, .slice ab nb cb] 44)).alloc (Obj.cells #[.int .i64 0, .int .i64 0, .int .i64 0, .slice none 0 0] 44))).cell? ⟨w.heap.size + 1, 3, none⟩ = some (.slice ab nb cb) := by rw [cell_of_block bB]; rfl
  replace d0 := cell_keep d0 hb0
  replace d1 := cell_keep d1 hb0
  replace d2 := cell_keep d2 hb0
  replace d3 := cell_keep d3 hb0
  have HM := hid (fun (w' : World) (h : Below ((((w.alloc (Obj.cells #[.int .i64 5, .int .i64 ga, .int .i64 la, .slice (some ⟨bc, oc, none⟩) 1 cc] 44)).alloc (Obj.cells #[.int .i64 kb, .int .i64 gb, .int .i64 lb, .slice ab nb cb] 44)).alloc (Obj.cells #[.int .i64 0, .int .i64 0, .int .i64 0, .slice none 0 0] 44))).heap.size (((w.alloc (Obj.cells #[.int .i64 5, .int .i64 ga, .int .i64 la, .slice (some ⟨bc, oc, none⟩) 1 cc] 44)).alloc (Obj.cells #[.int .i64 kb, .int .i64 gb, .int .i64 lb, .slice ab nb cb] 44)).alloc (Obj.cells #[.int .i64 0, .int .i64 0, .int .i64 0, .slice none 0 0] 44)) w') => (h.block (w.heap.size + 1 + 1) (by omega)).trans bZ)
  have HB := hid hb0
  have HZ0 := hid hs0
  have HS0 := hid (show ∀ w', Below ((((w.alloc (Obj.cells #[.int .i64 5, .int .i64 ga, .int .i64 la, .slice (some ⟨bc, oc, none⟩) 1 cc] 44)).alloc (Obj.cells #[.int .i64 kb, .int .i64 gb, .int .i64 lb, .slice ab nb cb] 44)).alloc (Obj.cells #[.int .i64 0, .int .i64 0, .int .i64 0, .slice none 0 0] 44))).heap.size (((w.alloc (Obj.cells #[.int .i64 5, .int .i64 ga, .int .i64 la, .slice (some ⟨bc, oc, none⟩) 1 cc] 44)).alloc (Obj.cells #[.int .i64 kb, .int .i64 gb, .int .i64 lb, .slice ab nb cb] 44)).alloc (Obj.cells #[.int .i64 0, .int .i64 0, .int .i64 0, .slice none 0 0] 44)) w' → (fun w' => w'.cell? ⟨w.heap.size, 0, none⟩ = some (.int .i64 5) ∧ w'.cell? ⟨w.heap.size, 1, none⟩ = some (.int .i64 ga) ∧ w'.cell? ⟨w.heap.size, 2, none⟩ = some (.int .i64 la) ∧ w'.cell? ⟨w.heap.size, 3, none⟩ = some (.slice (some ⟨bc, oc, none⟩) 1 cc) ∧ w'.cell? ⟨w.heap.size + 1, 0, none⟩ = some (.int .i64 kb) ∧ w'.cell? ⟨w.heap.size + 1, 1, none⟩ = some (.int .i64 gb) ∧ w'.cell? ⟨w.heap.size + 1, 2, none⟩ = some (.int .i64 lb) ∧ w'.cell? ⟨w.heap.size + 1, 3, none⟩ = some (.slice ab nb cb) ∧ w'.cell? ⟨bc, oc, none⟩ = some (.int .i64 k1) ∧ w'.cell? ⟨bc, oc + 1, none⟩ = some (.int .i64 g1) ∧ w'.cell? ⟨bc, oc + 2, none⟩ = some (.int .i64 l1) ∧ w'.cell? ⟨bc, oc + 3, none⟩ = some (.slice a1 n1 c1)) w' from fun w' h => ⟨cell_keep x0 h, cell_keep x1 h, cell_keep x2 h, cell_keep x3 h, cell_keep y0 h, cell_keep y1 h, cell_keep y2 h, cell_keep y3 h, cell_keep d0 h, cell_keep d1 h, cell_keep d2 h, cell_keep d3 h⟩)
  have H := hid (And.intro (hA.below hb0) (hatb0.below hb0))
  have HP := hid (And.intro hd (And.intro hsa hsb))
  have HIH := hid ih
  have HR := hid hr
  clear ih hb0 hs0 bA bB bZ hata hatb hatb0 hsl hsr hA hsa hsb hr hd hlb
  by_cases h0 : kb = 5
  case pos =>
    have q0 : (kb == 5) = true := by first | (rw [beq_iff_eq]; omega) | (rw [beq_eq_false_iff_ne]; omega)
    clear h0
    go_enter Try.func34, Try.ntmps34
    go_wp2_with fail
    refine regionL (s := 10) (S0 := (fun w' => w'.cell? ⟨w.heap.size, 0, none⟩ = some (.int .i64 5) ∧ w'.cell? ⟨w.heap.size, 1, none⟩ = some (.int .i64 ga) ∧ w'.cell? ⟨w.heap.size, 2, none⟩ = some (.int .i64 la) ∧ w'.cell? ⟨w.heap.size, 3, none⟩ = some (.slice (some ⟨bc, oc, none⟩) 1 cc) ∧ w'.cell? ⟨w.heap.size + 1, 0, none⟩ = some (.int .i64 kb) ∧ w'.cell? ⟨w.heap.size + 1, 1, none⟩ = some (.int .i64 gb) ∧ w'.cell? ⟨w.heap.size + 1, 2, none⟩ = some (.int .i64 lb) ∧ w'.cell? ⟨w.heap.size + 1, 3, none⟩ = some (.slice ab nb cb) ∧ w'.cell? ⟨bc, oc, none⟩ = some (.int .i64 k1) ∧ w'.cell? ⟨bc, oc + 1, none⟩ = some (.int .i64 g1) ∧ w'.cell? ⟨bc, oc + 2, none⟩ = some (.int .i64 l1) ∧ w'.cell? ⟨bc, oc + 3, none⟩ = some (.slice a1 n1 c1))) (S1 := (fun _ => True)) (by kernel_rfl) (HS0.out _ (below_drew _)) (trivial) (fun hS0 => ?_)
    refine takeL0 (i := 0) (v := ?va1) rfl rfl (by kernel_rfl) (by kernel_rfl) (by kernel_rfl) (by decide) (by kernel_rfl) (by kernel_rfl) (fun _ _ _ h => h) (Or.inl ⟨by rfl, ?hya1⟩) (by assumption) ?_
    case hya1 => (intro w hSw; (try dsimp only at hSw); go_simp; (try with_reducible rfl))
    try simp only [Act.put, List.setIfInBounds_toArray, List.set_cons_zero, List.set_cons_succ]
    refine takeL0 (i := 1) (v := ?va2) rfl rfl (by kernel_rfl) (by kernel_rfl) (by kernel_rfl) (by decide) (by kernel_rfl) (by kernel_rfl) (fun _ _ _ h => h) (Or.inl ⟨by rfl, ?hya2⟩) (by assumption) ?_
    case hya2 => (intro w hSw; (try dsimp only at hSw); go_simp; (try with_reducible rfl))
    try simp only [Act.put, List.setIfInBounds_toArray, List.set_cons_zero, List.set_cons_succ]
    refine takeL0 (i := 2) (v := ?va3) rfl rfl (by kernel_rfl) (by kernel_rfl) (by kernel_rfl) (by decide) (by kernel_rfl) (by kernel_rfl) (fun _ _ _ h => h) (Or.inl ⟨by rfl, ?hya3⟩) (by assumption) ?_
    case hya3 => (intro w hSw; (try dsimp only at hSw); go_simp; (try with_reducible rfl))
    try simp only [Act.put, List.setIfInBounds_toArray, List.set_cons_zero, List.set_cons_succ]
    refine takeL0 (i := 3) (v := ?va4) rfl rfl (by kernel_rfl) (by kernel_rfl) (by kernel_rfl) (by decide) (by kernel_rfl) (by kernel_rfl) (fun _ _ _ h => h) (Or.inl ⟨by rfl, ?hya4⟩) (by assumption) ?_
    case hya4 => (intro w hSw; (try dsimp only at hSw); go_simp; (try with_reducible rfl))
    try simp only [Act.put, List.setIfInBounds_toArray, List.set_cons_zero, List.set_cons_succ]
    refine takeL0 (i := 4) (v := ?va5) rfl rfl (by kernel_rfl) (by kernel_rfl) (by kernel_rfl) (by decide) (by kernel_rfl) (by kernel_rfl) (fun _ _ _ h => h) (Or.inl ⟨by rfl, ?hya5⟩) (by assumption) ?_
    case hya5 => (intro w hSw; (try dsimp only at hSw); go_simp; (try with_reducible rfl))
    try simp only [Act.put, List.setIfInBounds_toArray, List.set_cons_zero, List.set_cons_succ]
    refine readyL (rs := [5, 9]) (by kernel_rfl) (by simp) ?_
    refine AllReadyL.cons rfl (fun K hK => ?_) ?_
    · go_simp
      refine (cm_from HIH.out (W0 := (((w.alloc (Obj.cells #[.int .i64 5, .int .i64 ga, .int .i64 la, .slice (some ⟨bc, oc, none⟩) 1 cc] 44)).alloc (Obj.cells #[.int .i64 kb, .int .i64 gb, .int .i64 lb, .slice ab nb cb] 44)).alloc (Obj.cells #[.int .i64 0, .int .i64 0, .int .i64 0, .slice none 0 0] 44))) (below_drew _) HP.out.1 hd1 hd2 HP.out.2.1 HP.out.2.2 H.out.1 H.out.2).mono ?_
      rintro e w1 ⟨⟨p0, p1, p2, pa, pn, pc, rfl, hb1, hO⟩, hU⟩
      have hB1 := below_trans hU hb1
      have hU1 := hU.size
      refine hK.out _ _ ?_ (fun hS1 => ?_)
      · exact ⟨trivial, fun _ => HS0.out _ hB1⟩
      clear hK K hS0
      try simp only [Act.put, List.setIfInBounds_toArray, List.set_cons_zero, List.set_cons_succ]
      refine takeL0 (i := 6) (v := ?va6) rfl rfl (by kernel_rfl) (by kernel_rfl) (by kernel_rfl) (by decide) (by kernel_rfl) (by kernel_rfl) (fun _ _ _ h => h) (Or.inl ⟨by rfl, ?hya6⟩) (by assumption) ?_
      case hya6 => (intro w hSw; (try dsimp only at hSw); go_simp; (try with_reducible rfl))
      try simp only [Act.put, List.setIfInBounds_toArray, List.set_cons_zero, List.set_cons_succ]
      refine readyL (rs := [7, 8, 9]) (by kernel_rfl) (by simp) ?_
      refine AllReadyL.cons rfl (fun K hK => ?_) ?_
      · go_simp
        refine hK.out _ _ ?_ (fun hS2 => ?_)
        · exact ⟨trivial, fun _ => HS0.out _ hB1⟩
        clear hK K hS1
        try simp only [Act.put, List.setIfInBounds_toArray, List.set_cons_zero, List.set_cons_succ]
        refine readyL (rs := [8, 9]) (by kernel_rfl) (by simp) ?_
        refine AllReadyL.cons rfl (fun K hK => ?_) ?_
        · go_simp
          refine hK.out _ _ ?_ (fun hS3 => ?_)
          · exact ⟨trivial, fun _ => HS0.out _ hB1⟩
          clear hK K hS2
          try simp only [Act.put, List.setIfInBounds_toArray, List.set_cons_zero, List.set_cons_succ]
          refine readyL (rs := [9]) (by kernel_rfl) (by simp) ?_
          refine AllReadyL.cons rfl (fun K hK => ?_) AllReadyL.nil
          go_simp
          refine hK.out _ _ ?_ (fun hS4 => ?_)
          · exact ⟨trivial, fun _ => HS0.out _ (hB1.alloc hB1.size _)⟩
          clear hK K hS3
          try simp only [Act.put, List.setIfInBounds_toArray, List.set_cons_zero, List.set_cons_succ]
          refine readyL (rs := [10]) (by kernel_rfl) (by simp) ?_
          refine AllReadyL.cons rfl (fun K hK => ?_) AllReadyL.nil
          go_simp
          refine hK.out _ _ ?_ (fun hS5 => ?_)
          · exact ⟨trivial, fun h => absurd (h.symm.trans (show _ = true by kernel_rfl)) (by decide)⟩
          clear hK K hS4
          try simp only [Act.put, List.setIfInBounds_toArray, List.set_cons_zero, List.set_cons_succ]
          refine readyL (rs := [11]) (by kernel_rfl) (by simp) ?_
          refine AllReadyL.cons rfl (fun K hK => ?_) AllReadyL.nil
          go_simp
          refine hK.out _ _ ?_ (fun hS6 => ?_)
          · exact ⟨trivial, fun h => absurd (h.symm.trans (show _ = true by kernel_rfl)) (by decide)⟩
          clear hK K hS5
          try simp only [Act.put, List.setIfInBounds_toArray, List.set_cons_zero, List.set_cons_succ]
          refine doneL (by kernel_rfl) ?_ _
          obtain ⟨wS, hW, hES, hOS, hBS⟩ := sec_allocO (W := (((w.alloc (Obj.cells #[.int .i64 5, .int .i64 ga, .int .i64 la, .slice (some ⟨bc, oc, none⟩) 1 cc] 44)).alloc (Obj.cells #[.int .i64 kb, .int .i64 gb, .int .i64 lb, .slice ab nb cb] 44)).alloc (Obj.cells #[.int .i64 0, .int .i64 0, .int .i64 0, .slice none 0 0] 44))) (lo := w.heap.size + 1 + 1 + 1) (fun c hc => by obtain ⟨fp, h1, h2⟩ := hO c hc; exact ⟨fp, h1, h2.mono (by have h3 := HZ0.out; omega)⟩) hB1
          rw [← hW]
          clear hW hO
          have s0 : wS.cell? ⟨w1.heap.size, 0, none⟩ = some (.int .i64 p0) := by rw [cell_of_block hES]; rfl
          have s1 : wS.cell? ⟨w1.heap.size, 1, none⟩ = some (.int .i64 p1) := by rw [cell_of_block hES]; rfl
          have s2 : wS.cell? ⟨w1.heap.size, 2, none⟩ = some (.int .i64 p2) := by rw [cell_of_block hES]; rfl
          have s3 : wS.cell? ⟨w1.heap.size, 3, none⟩ = some (.slice pa pn pc) := by rw [cell_of_block hES]; rfl
          have hSS := HS0.out _ hBS
          clear hES x0 x1 x2 x3 y0 y1 y2 y3 d0 d1 d2 d3
          obtain ⟨x0, x1, x2, x3, y0, y1, y2, y3, d0, d1, d2, d3⟩ := hSS
          have bM := HM.out _ (hBS.alloc hBS.size (Obj.cells #[.int .i64 p0, .int .i64 p1, .int .i64 p2, .slice pa pn pc] 44))
          have z0 := (cell_of_block (o := 0) bM).trans (show _ = some (.int .i64 0) from rfl)
          have z1 := (cell_of_block (o := 1) bM).trans (show _ = some (.int .i64 0) from rfl)
          have z2 := (cell_of_block (o := 2) bM).trans (show _ = some (.int .i64 0) from rfl)
          have z3 := (cell_of_block (o := 3) bM).trans (show _ = some (.slice none 0 0) from rfl)
          have yz := fun o => frozen_of_block (o := o) bM
          have FIN := closeO (w := w) (wF := wS.alloc (Obj.cells #[.int .i64 p0, .int .i64 p1, .int .i64 p2, .slice pa pn pc] 44)) (M := w.heap.size + 1 + 1) (lo := w.heap.size + 1 + 1 + 1) (o := (cmpo n a (.mk kb gb lb us)).map fun c => Co.mk 5 0 la [c]) (b := (cmpo n a (.mk kb gb lb us)).isSome) (by rw [Option.isSome_map]) (one_rowO (fun c hc => by obtain ⟨fp, h1, h2⟩ := hOS c hc; exact ⟨fp, h1, h2.mono (by omega)⟩) (by have := HZ0.out; have := hBS.size; omega)) (by omega) (by omega) (below_trans HB.out (hBS.alloc hBS.size (Obj.cells #[.int .i64 p0, .int .i64 p1, .int .i64 p2, .slice pa pn pc] 44)))
          rw [← HR.out] at FIN
          generalize (cmpo n a (.mk kb gb lb us)).isSome = r at *
          simp only [put4, Nat.zero_add] at FIN
          go_wp2_with fail
          exact bodyPost_ret (v := .tuple #[.agg #[.int .i64 5, .int .i64 0, .int .i64 la, .slice (some ⟨wS.heap.size, 0, none⟩) 1 1], .bool r]) (by simp [results, Try.results34, go_sem, z0, z1, z2, z3]) rfl FIN
        refine AllReadyL.cons rfl (fun K hK => ?_) AllReadyL.nil
        go_simp
        refine hK.out _ _ ?_ (fun hS3 => ?_)
        · exact ⟨trivial, fun _ => HS0.out _ (hB1.alloc hB1.size _)⟩
        clear hK K hS2
        try simp only [Act.put, List.setIfInBounds_toArray, List.set_cons_zero, List.set_cons_succ]
        refine readyL (rs := [8, 10]) (by kernel_rfl) (by simp) ?_
        refine AllReadyL.cons rfl (fun K hK => ?_) ?_
        · go_simp
          refine hK.out _ _ ?_ (fun hS4 => ?_)
          · exact ⟨trivial, fun _ => HS0.out _ (hB1.alloc hB1.size _)⟩
          clear hK K hS3
          try simp only [Act.put, List.setIfInBounds_toArray, List.set_cons_zero, List.set_cons_succ]
          refine readyL (rs := [10]) (by kernel_rfl) (by simp) ?_
          refine AllReadyL.cons rfl (fun K hK => ?_) AllReadyL.nil
          go_simp
          refine hK.out _ _ ?_ (fun hS5 => ?_)
          · exact ⟨trivial, fun h => absurd (h.symm.trans (show _ = true by kernel_rfl)) (by decide)⟩
          clear hK K hS4
          try simp only [Act.put, List.setIfInBounds_toArray, List.set_cons_zero, List.set_cons_succ]
          refine readyL (rs := [11]) (by kernel_rfl) (by simp) ?_
          refine AllReadyL.cons rfl (fun K hK => ?_) AllReadyL.nil
          go_simp
          refine hK.out _ _ ?_ (fun hS6 => ?_)
          · exact ⟨trivial, fun h => absurd (h.symm.trans (show _ = true by kernel_rfl)) (by decide)⟩
          clear hK K hS5
          try simp only [Act.put, List.setIfInBounds_toArray, List.set_cons_zero, List.set_cons_succ]
          refine doneL (by kernel_rfl) ?_ _
          obtain ⟨wS, hW, hES, hOS, hBS⟩ := sec_allocO (W := (((w.alloc (Obj.cells #[.int .i64 5, .int .i64 ga, .int .i64 la, .slice (some ⟨bc, oc, none⟩) 1 cc] 44)).alloc (Obj.cells #[.int .i64 kb, .int .i64 gb, .int .i64 lb, .slice ab nb cb] 44)).alloc (Obj.cells #[.int .i64 0, .int .i64 0, .int .i64 0, .slice none 0 0] 44))) (lo := w.heap.size + 1 + 1 + 1) (fun c hc => by obtain ⟨fp, h1, h2⟩ := hO c hc; exact ⟨fp, h1, h2.mono (by have h3 := HZ0.out; omega)⟩) hB1
          rw [← hW]
          clear hW hO
          have s0 : wS.cell? ⟨w1.heap.size, 0, none⟩ = some (.int .i64 p0) := by rw [cell_of_block hES]; rfl
          have s1 : wS.cell? ⟨w1.heap.size, 1, none⟩ = some (.int .i64 p1) := by rw [cell_of_block hES]; rfl
          have s2 : wS.cell? ⟨w1.heap.size, 2, none⟩ = some (.int .i64 p2) := by rw [cell_of_block hES]; rfl
          have s3 : wS.cell? ⟨w1.heap.size, 3, none⟩ = some (.slice pa pn pc) := by rw [cell_of_block hES]; rfl
          have hSS := HS0.out _ hBS
          clear hES x0 x1 x2 x3 y0 y1 y2 y3 d0 d1 d2 d3
          obtain ⟨x0, x1, x2, x3, y0, y1, y2, y3, d0, d1, d2, d3⟩ := hSS
          have bM := HM.out _ (hBS.alloc hBS.size (Obj.cells #[.int .i64 p0, .int .i64 p1, .int .i64 p2, .slice pa pn pc] 44))
          have z0 := (cell_of_block (o := 0) bM).trans (show _ = some (.int .i64 0) from rfl)
          have z1 := (cell_of_block (o := 1) bM).trans (show _ = some (.int .i64 0) from rfl)
          have z2 := (cell_of_block (o := 2) bM).trans (show _ = some (.int .i64 0) from rfl)
          have z3 := (cell_of_block (o := 3) bM).trans (show _ = some (.slice none 0 0) from rfl)
          have yz := fun o => frozen_of_block (o := o) bM
          have FIN := closeO (w := w) (wF := wS.alloc (Obj.cells #[.int .i64 p0, .int .i64 p1, .int .i64 p2, .slice pa pn pc] 44)) (M := w.heap.size + 1 + 1) (lo := w.heap.size + 1 + 1 + 1) (o := (cmpo n a (.mk kb gb lb us)).map fun c => Co.mk 5 0 la [c]) (b := (cmpo n a (.mk kb gb lb us)).isSome) (by rw [Option.isSome_map]) (one_rowO (fun c hc => by obtain ⟨fp, h1, h2⟩ := hOS c hc; exact ⟨fp, h1, h2.mono (by omega)⟩) (by have := HZ0.out; have := hBS.size; omega)) (by omega) (by omega) (below_trans HB.out (hBS.alloc hBS.size (Obj.cells #[.int .i64 p0, .int .i64 p1, .int .i64 p2, .slice pa pn pc] 44)))
          rw [← HR.out] at FIN
          generalize (cmpo n a (.mk kb gb lb us)).isSome = r at *
          simp only [put4, Nat.zero_add] at FIN
          go_wp2_with fail
          exact bodyPost_ret (v := .tuple #[.agg #[.int .i64 5, .int .i64 0, .int .i64 la, .slice (some ⟨wS.heap.size, 0, none⟩) 1 1], .bool r]) (by simp [results, Try.results34, go_sem, z0, z1, z2, z3]) rfl FIN
        refine AllReadyL.cons rfl (fun K hK => ?_) AllReadyL.nil
        go_simp
        refine hK.out _ _ ?_ (fun hS4 => ?_)
        · exact ⟨trivial, fun h => absurd (h.symm.trans (show _ = true by kernel_rfl)) (by decide)⟩
        clear hK K hS3
        try simp only [Act.put, List.setIfInBounds_toArray, List.set_cons_zero, List.set_cons_succ]
        refine readyL (rs := [8]) (by kernel_rfl) (by simp) ?_
        refine AllReadyL.cons rfl (fun K hK => ?_) AllReadyL.nil
        go_simp
        refine hK.out _ _ ?_ (fun hS5 => ?_)
        · exact ⟨trivial, fun h => absurd (h.symm.trans (show _ = true by kernel_rfl)) (by decide)⟩
        clear hK K hS4
        try simp only [Act.put, List.setIfInBounds_toArray, List.set_cons_zero, List.set_cons_succ]
        refine readyL (rs := [11]) (by kernel_rfl) (by simp) ?_
        refine AllReadyL.cons rfl (fun K hK => ?_) AllReadyL.nil
        go_simp
        refine hK.out _ _ ?_ (fun hS6 => ?_)
        · exact ⟨trivial, fun h => absurd (h.symm.trans (show _ = true by kernel_rfl)) (by decide)⟩
        clear hK K hS5
        try simp only [Act.put, List.setIfInBounds_toArray, List.set_cons_zero, List.set_cons_succ]
        refine doneL (by kernel_rfl) ?_ _
        obtain ⟨wS, hW, hES, hOS, hBS⟩ := sec_allocO (W := (((w.alloc (Obj.cells #[.int .i64 5, .int .i64 ga, .int .i64 la, .slice (some ⟨bc, oc, none⟩) 1 cc] 44)).alloc (Obj.cells #[.int .i64 kb, .int .i64 gb, .int .i64 lb, .slice ab nb cb] 44)).alloc (Obj.cells #[.int .i64 0, .int .i64 0, .int .i64 0, .slice none 0 0] 44))) (lo := w.heap.size + 1 + 1 + 1) (fun c hc => by obtain ⟨fp, h1, h2⟩ := hO c hc; exact ⟨fp, h1, h2.mono (by have h3 := HZ0.out; omega)⟩) hB1
        rw [← hW]
        clear hW hO
        have s0 : wS.cell? ⟨w1.heap.size, 0, none⟩ = some (.int .i64 p0) := by rw [cell_of_block hES]; rfl
        have s1 : wS.cell? ⟨w1.heap.size, 1, none⟩ = some (.int .i64 p1) := by rw [cell_of_block hES]; rfl
        have s2 : wS.cell? ⟨w1.heap.size, 2, none⟩ = some (.int .i64 p2) := by rw [cell_of_block hES]; rfl
        have s3 : wS.cell? ⟨w1.heap.size, 3, none⟩ = some (.slice pa pn pc) := by rw [cell_of_block hES]; rfl
        have hSS := HS0.out _ hBS
        clear hES x0 x1 x2 x3 y0 y1 y2 y3 d0 d1 d2 d3
        obtain ⟨x0, x1, x2, x3, y0, y1, y2, y3, d0, d1, d2, d3⟩ := hSS
        have bM := HM.out _ (hBS.alloc hBS.size (Obj.cells #[.int .i64 p0, .int .i64 p1, .int .i64 p2, .slice pa pn pc] 44))
        have z0 := (cell_of_block (o := 0) bM).trans (show _ = some (.int .i64 0) from rfl)
        have z1 := (cell_of_block (o := 1) bM).trans (show _ = some (.int .i64 0) from rfl)
        have z2 := (cell_of_block (o := 2) bM).trans (show _ = some (.int .i64 0) from rfl)
        have z3 := (cell_of_block (o := 3) bM).trans (show _ = some (.slice none 0 0) from rfl)
        have yz := fun o => frozen_of_block (o := o) bM
        have FIN := closeO (w := w) (wF := wS.alloc (Obj.cells #[.int .i64 p0, .int .i64 p1, .int .i64 p2, .slice pa pn pc] 44)) (M := w.heap.size + 1 + 1) (lo := w.heap.size + 1 + 1 + 1) (o := (cmpo n a (.mk kb gb lb us)).map fun c => Co.mk 5 0 la [c]) (b := (cmpo n a (.mk kb gb lb us)).isSome) (by rw [Option.isSome_map]) (one_rowO (fun c hc => by obtain ⟨fp, h1, h2⟩ := hOS c hc; exact ⟨fp, h1, h2.mono (by omega)⟩) (by have := HZ0.out; have := hBS.size; omega)) (by omega) (by omega) (below_trans HB.out (hBS.alloc hBS.size (Obj.cells #[.int .i64 p0, .int .i64 p1, .int .i64 p2, .slice pa pn pc] 44)))
        rw [← HR.out] at FIN
        generalize (cmpo n a (.mk kb gb lb us)).isSome = r at *
        simp only [put4, Nat.zero_add] at FIN
        go_wp2_with fail
        exact bodyPost_ret (v := .tuple #[.agg #[.int .i64 5, .int .i64 0, .int .i64 la, .slice (some ⟨wS.heap.size, 0, none⟩) 1 1], .bool r]) (by simp [results, Try.results34, go_sem, z0, z1, z2, z3]) rfl FIN
      refine AllReadyL.cons rfl (fun K hK => ?_) ?_
      · go_simp
        refine hK.out _ _ ?_ (fun hS2 => ?_)
        · exact ⟨trivial, fun _ => HS0.out _ hB1⟩
        clear hK K hS1
        try simp only [Act.put, List.setIfInBounds_toArray, List.set_cons_zero, List.set_cons_succ]
        refine readyL (rs := [7, 9]) (by kernel_rfl) (by simp) ?_
        refine AllReadyL.cons rfl (fun K hK => ?_) ?_
        · go_simp
          refine hK.out _ _ ?_ (fun hS3 => ?_)
          · exact ⟨trivial, fun _ => HS0.out _ hB1⟩
          clear hK K hS2
          try simp only [Act.put, List.setIfInBounds_toArray, List.set_cons_zero, List.set_cons_succ]
          refine readyL (rs := [9]) (by kernel_rfl) (by simp) ?_
          refine AllReadyL.cons rfl (fun K hK => ?_) AllReadyL.nil
          go_simp
          refine hK.out _ _ ?_ (fun hS4 => ?_)
          · exact ⟨trivial, fun _ => HS0.out _ (hB1.alloc hB1.size _)⟩
          clear hK K hS3
          try simp only [Act.put, List.setIfInBounds_toArray, List.set_cons_zero, List.set_cons_succ]
          refine readyL (rs := [10]) (by kernel_rfl) (by simp) ?_
          refine AllReadyL.cons rfl (fun K hK => ?_) AllReadyL.nil
          go_simp
          refine hK.out _ _ ?_ (fun hS5 => ?_)
          · exact ⟨trivial, fun h => absurd (h.symm.trans (show _ = true by kernel_rfl)) (by decide)⟩
          clear hK K hS4
          try simp only [Act.put, List.setIfInBounds_toArray, List.set_cons_zero, List.set_cons_succ]
          refine readyL (rs := [11]) (by kernel_rfl) (by simp) ?_
          refine AllReadyL.cons rfl (fun K hK => ?_) AllReadyL.nil
          go_simp
          refine hK.out _ _ ?_ (fun hS6 => ?_)
          · exact ⟨trivial, fun h => absurd (h.symm.trans (show _ = true by kernel_rfl)) (by decide)⟩
          clear hK K hS5
          try simp only [Act.put, List.setIfInBounds_toArray, List.set_cons_zero, List.set_cons_succ]
          refine doneL (by kernel_rfl) ?_ _
          obtain ⟨wS, hW, hES, hOS, hBS⟩ := sec_allocO (W := (((w.alloc (Obj.cells #[.int .i64 5, .int .i64 ga, .int .i64 la, .slice (some ⟨bc, oc, none⟩) 1 cc] 44)).alloc (Obj.cells #[.int .i64 kb, .int .i64 gb, .int .i64 lb, .slice ab nb cb] 44)).alloc (Obj.cells #[.int .i64 0, .int .i64 0, .int .i64 0, .slice none 0 0] 44))) (lo := w.heap.size + 1 + 1 + 1) (fun c hc => by obtain ⟨fp, h1, h2⟩ := hO c hc; exact ⟨fp, h1, h2.mono (by have h3 := HZ0.out; omega)⟩) hB1
          rw [← hW]
          clear hW hO
          have s0 : wS.cell? ⟨w1.heap.size, 0, none⟩ = some (.int .i64 p0) := by rw [cell_of_block hES]; rfl
          have s1 : wS.cell? ⟨w1.heap.size, 1, none⟩ = some (.int .i64 p1) := by rw [cell_of_block hES]; rfl
          have s2 : wS.cell? ⟨w1.heap.size, 2, none⟩ = some (.int .i64 p2) := by rw [cell_of_block hES]; rfl
          have s3 : wS.cell? ⟨w1.heap.size, 3, none⟩ = some (.slice pa pn pc) := by rw [cell_of_block hES]; rfl
          have hSS := HS0.out _ hBS
          clear hES x0 x1 x2 x3 y0 y1 y2 y3 d0 d1 d2 d3
          obtain ⟨x0, x1, x2, x3, y0, y1, y2, y3, d0, d1, d2, d3⟩ := hSS
          have bM := HM.out _ (hBS.alloc hBS.size (Obj.cells #[.int .i64 p0, .int .i64 p1, .int .i64 p2, .slice pa pn pc] 44))
          have z0 := (cell_of_block (o := 0) bM).trans (show _ = some (.int .i64 0) from rfl)
          have z1 := (cell_of_block (o := 1) bM).trans (show _ = some (.int .i64 0) from rfl)
          have z2 := (cell_of_block (o := 2) bM).trans (show _ = some (.int .i64 0) from rfl)
          have z3 := (cell_of_block (o := 3) bM).trans (show _ = some (.slice none 0 0) from rfl)
          have yz := fun o => frozen_of_block (o := o) bM
          have FIN := closeO (w := w) (wF := wS.alloc (Obj.cells #[.int .i64 p0, .int .i64 p1, .int .i64 p2, .slice pa pn pc] 44)) (M := w.heap.size + 1 + 1) (lo := w.heap.size + 1 + 1 + 1) (o := (cmpo n a (.mk kb gb lb us)).map fun c => Co.mk 5 0 la [c]) (b := (cmpo n a (.mk kb gb lb us)).isSome) (by rw [Option.isSome_map]) (one_rowO (fun c hc => by obtain ⟨fp, h1, h2⟩ := hOS c hc; exact ⟨fp, h1, h2.mono (by omega)⟩) (by have := HZ0.out; have := hBS.size; omega)) (by omega) (by omega) (below_trans HB.out (hBS.alloc hBS.size (Obj.cells #[.int .i64 p0, .int .i64 p1, .int .i64 p2, .slice pa pn pc] 44)))
          rw [← HR.out] at FIN
          generalize (cmpo n a (.mk kb gb lb us)).isSome = r at *
          simp only [put4, Nat.zero_add] at FIN
          go_wp2_with fail
          exact bodyPost_ret (v := .tuple #[.agg #[.int .i64 5, .int .i64 0, .int .i64 la, .slice (some ⟨wS.heap.size, 0, none⟩) 1 1], .bool r]) (by simp [results, Try.results34, go_sem, z0, z1, z2, z3]) rfl FIN
        refine AllReadyL.cons rfl (fun K hK => ?_) AllReadyL.nil
        go_simp
        refine hK.out _ _ ?_ (fun hS3 => ?_)
        · exact ⟨trivial, fun _ => HS0.out _ (hB1.alloc hB1.size _)⟩
        clear hK K hS2
        try simp only [Act.put, List.setIfInBounds_toArray, List.set_cons_zero, List.set_cons_succ]
        refine readyL (rs := [7]) (by kernel_rfl) (by simp) ?_
        refine AllReadyL.cons rfl (fun K hK => ?_) AllReadyL.nil
        go_simp
        refine hK.out _ _ ?_ (fun hS4 => ?_)
        · exact ⟨trivial, fun _ => HS0.out _ (hB1.alloc hB1.size _)⟩
        clear hK K hS3
        try simp only [Act.put, List.setIfInBounds_toArray, List.set_cons_zero, List.set_cons_succ]
        refine readyL (rs := [10]) (by kernel_rfl) (by simp) ?_
        refine AllReadyL.cons rfl (fun K hK => ?_) AllReadyL.nil
        go_simp
        refine hK.out _ _ ?_ (fun hS5 => ?_)
        · exact ⟨trivial, fun h => absurd (h.symm.trans (show _ = true by kernel_rfl)) (by decide)⟩
        clear hK K hS4
        try simp only [Act.put, List.setIfInBounds_toArray, List.set_cons_zero, List.set_cons_succ]
        refine readyL (rs := [11]) (by kernel_rfl) (by simp) ?_
        refine AllReadyL.cons rfl (fun K hK => ?_) AllReadyL.nil
        go_simp
        refine hK.out _ _ ?_ (fun hS6 => ?_)
        · exact ⟨trivial, fun h => absurd (h.symm.trans (show _ = true by kernel_rfl)) (by decide)⟩
        clear hK K hS5
        try simp only [Act.put, List.setIfInBounds_toArray, List.set_cons_zero, List.set_cons_succ]
        refine doneL (by kernel_rfl) ?_ _
        obtain ⟨wS, hW, hES, hOS, hBS⟩ := sec_allocO (W := (((w.alloc (Obj.cells #[.int .i64 5, .int .i64 ga, .int .i64 la, .slice (some ⟨bc, oc, none⟩) 1 cc] 44)).alloc (Obj.cells #[.int .i64 kb, .int .i64 gb, .int .i64 lb, .slice ab nb cb] 44)).alloc (Obj.cells #[.int .i64 0, .int .i64 0, .int .i64 0, .slice none 0 0] 44))) (lo := w.heap.size + 1 + 1 + 1) (fun c hc => by obtain ⟨fp, h1, h2⟩ := hO c hc; exact ⟨fp, h1, h2.mono (by have h3 := HZ0.out; omega)⟩) hB1
        rw [← hW]
        clear hW hO
        have s0 : wS.cell? ⟨w1.heap.size, 0, none⟩ = some (.int .i64 p0) := by rw [cell_of_block hES]; rfl
        have s1 : wS.cell? ⟨w1.heap.size, 1, none⟩ = some (.int .i64 p1) := by rw [cell_of_block hES]; rfl
        have s2 : wS.cell? ⟨w1.heap.size, 2, none⟩ = some (.int .i64 p2) := by rw [cell_of_block hES]; rfl
        have s3 : wS.cell? ⟨w1.heap.size, 3, none⟩ = some (.slice pa pn pc) := by rw [cell_of_block hES]; rfl
        have hSS := HS0.out _ hBS
        clear hES x0 x1 x2 x3 y0 y1 y2 y3 d0 d1 d2 d3
        obtain ⟨x0, x1, x2, x3, y0, y1, y2, y3, d0, d1, d2, d3⟩ := hSS
        have bM := HM.out _ (hBS.alloc hBS.size (Obj.cells #[.int .i64 p0, .int .i64 p1, .int .i64 p2, .slice pa pn pc] 44))
        have z0 := (cell_of_block (o := 0) bM).trans (show _ = some (.int .i64 0) from rfl)
        have z1 := (cell_of_block (o := 1) bM).trans (show _ = some (.int .i64 0) from rfl)
        have z2 := (cell_of_block (o := 2) bM).trans (show _ = some (.int .i64 0) from rfl)
        have z3 := (cell_of_block (o := 3) bM).trans (show _ = some (.slice none 0 0) from rfl)
        have yz := fun o => frozen_of_block (o := o) bM
        have FIN := closeO (w := w) (wF := wS.alloc (Obj.cells #[.int .i64 p0, .int .i64 p1, .int .i64 p2, .slice pa pn pc] 44)) (M := w.heap.size + 1 + 1) (lo := w.heap.size + 1 + 1 + 1) (o := (cmpo n a (.mk kb gb lb us)).map fun c => Co.mk 5 0 la [c]) (b := (cmpo n a (.mk kb gb lb us)).isSome) (by rw [Option.isSome_map]) (one_rowO (fun c hc => by obtain ⟨fp, h1, h2⟩ := hOS c hc; exact ⟨fp, h1, h2.mono (by omega)⟩) (by have := HZ0.out; have := hBS.size; omega)) (by omega) (by omega) (below_trans HB.out (hBS.alloc hBS.size (Obj.cells #[.int .i64 p0, .int .i64 p1, .int .i64 p2, .slice pa pn pc] 44)))
        rw [← HR.out] at FIN
        generalize (cmpo n a (.mk kb gb lb us)).isSome = r at *
        simp only [put4, Nat.zero_add] at FIN
        go_wp2_with fail
        exact bodyPost_ret (v := .tuple #[.agg #[.int .i64 5, .int .i64 0, .int .i64 la, .slice (some ⟨wS.heap.size, 0, none⟩) 1 1], .bool r]) (by simp [results, Try.results34, go_sem, z0, z1, z2, z3]) rfl FIN
      refine AllReadyL.cons rfl (fun K hK => ?_) AllReadyL.nil
      go_simp
      refine hK.out _ _ ?_ (fun hS2 => ?_)
      · exact ⟨trivial, fun _ => HS0.out _ (hB1.alloc hB1.size _)⟩
      clear hK K hS1
      try simp only [Act.put, List.setIfInBounds_toArray, List.set_cons_zero, List.set_cons_succ]
      refine readyL (rs := [7, 8]) (by kernel_rfl) (by simp) ?_
      refine AllReadyL.cons rfl (fun K hK => ?_) ?_
      · go_simp
        refine hK.out _ _ ?_ (fun hS3 => ?_)
        · exact ⟨trivial, fun _ => HS0.out _ (hB1.alloc hB1.size _)⟩
        clear hK K hS2
        try simp only [Act.put, List.setIfInBounds_toArray, List.set_cons_zero, List.set_cons_succ]
        refine readyL (rs := [8, 10]) (by kernel_rfl) (by simp) ?_
        refine AllReadyL.cons rfl (fun K hK => ?_) ?_
        · go_simp
          refine hK.out _ _ ?_ (fun hS4 => ?_)
          · exact ⟨trivial, fun _ => HS0.out _ (hB1.alloc hB1.size _)⟩
          clear hK K hS3
          try simp only [Act.put, List.setIfInBounds_toArray, List.set_cons_zero, List.set_cons_succ]
          refine readyL (rs := [10]) (by kernel_rfl) (by simp) ?_
          refine AllReadyL.cons rfl (fun K hK => ?_) AllReadyL.nil
          go_simp
          refine hK.out _ _ ?_ (fun hS5 => ?_)
          · exact ⟨trivial, fun h => absurd (h.symm.trans (show _ = true by kernel_rfl)) (by decide)⟩
          clear hK K hS4
          try simp only [Act.put, List.setIfInBounds_toArray, List.set_cons_zero, List.set_cons_succ]
          refine readyL (rs := [11]) (by kernel_rfl) (by simp) ?_
          refine AllReadyL.cons rfl (fun K hK => ?_) AllReadyL.nil
          go_simp
          refine hK.out _ _ ?_ (fun hS6 => ?_)
          · exact ⟨trivial, fun h => absurd (h.symm.trans (show _ = true by kernel_rfl)) (by decide)⟩
          clear hK K hS5
          try simp only [Act.put, List.setIfInBounds_toArray, List.set_cons_zero, List.set_cons_succ]
          refine doneL (by kernel_rfl) ?_ _
          obtain ⟨wS, hW, hES, hOS, hBS⟩ := sec_allocO (W := (((w.alloc (Obj.cells #[.int .i64 5, .int .i64 ga, .int .i64 la, .slice (some ⟨bc, oc, none⟩) 1 cc] 44)).alloc (Obj.cells #[.int .i64 kb, .int .i64 gb, .int .i64 lb, .slice ab nb cb] 44)).alloc (Obj.cells #[.int .i64 0, .int .i64 0, .int .i64 0, .slice none 0 0] 44))) (lo := w.heap.size + 1 + 1 + 1) (fun c hc => by obtain ⟨fp, h1, h2⟩ := hO c hc; exact ⟨fp, h1, h2.mono (by have h3 := HZ0.out; omega)⟩) hB1
          rw [← hW]
          clear hW hO
          have s0 : wS.cell? ⟨w1.heap.size, 0, none⟩ = some (.int .i64 p0) := by rw [cell_of_block hES]; rfl
          have s1 : wS.cell? ⟨w1.heap.size, 1, none⟩ = some (.int .i64 p1) := by rw [cell_of_block hES]; rfl
          have s2 : wS.cell? ⟨w1.heap.size, 2, none⟩ = some (.int .i64 p2) := by rw [cell_of_block hES]; rfl
          have s3 : wS.cell? ⟨w1.heap.size, 3, none⟩ = some (.slice pa pn pc) := by rw [cell_of_block hES]; rfl
          have hSS := HS0.out _ hBS
          clear hES x0 x1 x2 x3 y0 y1 y2 y3 d0 d1 d2 d3
          obtain ⟨x0, x1, x2, x3, y0, y1, y2, y3, d0, d1, d2, d3⟩ := hSS
          have bM := HM.out _ (hBS.alloc hBS.size (Obj.cells #[.int .i64 p0, .int .i64 p1, .int .i64 p2, .slice pa pn pc] 44))
          have z0 := (cell_of_block (o := 0) bM).trans (show _ = some (.int .i64 0) from rfl)
          have z1 := (cell_of_block (o := 1) bM).trans (show _ = some (.int .i64 0) from rfl)
          have z2 := (cell_of_block (o := 2) bM).trans (show _ = some (.int .i64 0) from rfl)
          have z3 := (cell_of_block (o := 3) bM).trans (show _ = some (.slice none 0 0) from rfl)
          have yz := fun o => frozen_of_block (o := o) bM
          have FIN := closeO (w := w) (wF := wS.alloc (Obj.cells #[.int .i64 p0, .int .i64 p1, .int .i64 p2, .slice pa pn pc] 44)) (M := w.heap.size + 1 + 1) (lo := w.heap.size + 1 + 1 + 1) (o := (cmpo n a (.mk kb gb lb us)).map fun c => Co.mk 5 0 la [c]) (b := (cmpo n a (.mk kb gb lb us)).isSome) (by rw [Option.isSome_map]) (one_rowO (fun c hc => by obtain ⟨fp, h1, h2⟩ := hOS c hc; exact ⟨fp, h1, h2.mono (by omega)⟩) (by have := HZ0.out; have := hBS.size; omega)) (by omega) (by omega) (below_trans HB.out (hBS.alloc hBS.size (Obj.cells #[.int .i64 p0, .int .i64 p1, .int .i64 p2, .slice pa pn pc] 44)))
          rw [← HR.out] at FIN
          generalize (cmpo n a (.mk kb gb lb us)).isSome = r at *
          simp only [put4, Nat.zero_add] at FIN
          go_wp2_with fail
          exact bodyPost_ret (v := .tuple #[.agg #[.int .i64 5, .int .i64 0, .int .i64 la, .slice (some ⟨wS.heap.size, 0, none⟩) 1 1], .bool r]) (by simp [results, Try.results34, go_sem, z0, z1, z2, z3]) rfl FIN
        refine AllReadyL.cons rfl (fun K hK => ?_) AllReadyL.nil
        go_simp
        refine hK.out _ _ ?_ (fun hS4 => ?_)
        · exact ⟨trivial, fun h => absurd (h.symm.trans (show _ = true by kernel_rfl)) (by decide)⟩
        clear hK K hS3
        try simp only [Act.put, List.setIfInBounds_toArray, List.set_cons_zero, List.set_cons_succ]
        refine readyL (rs := [8]) (by kernel_rfl) (by simp) ?_
        refine AllReadyL.cons rfl (fun K hK => ?_) AllReadyL.nil
        go_simp
        refine hK.out _ _ ?_ (fun hS5 => ?_)
        · exact ⟨trivial, fun h => absurd (h.symm.trans (show _ = true by kernel_rfl)) (by decide)⟩
        clear hK K hS4
        try simp only [Act.put, List.setIfInBounds_toArray, List.set_cons_zero, List.set_cons_succ]
        refine readyL (rs := [11]) (by kernel_rfl) (by simp) ?_
        refine AllReadyL.cons rfl (fun K hK => ?_) AllReadyL.nil
        go_simp
        refine hK.out _ _ ?_ (fun hS6 => ?_)
        · exact ⟨trivial, fun h => absurd (h.symm.trans (show _ = true by kernel_rfl)) (by decide)⟩
        clear hK K hS5
        try simp only [Act.put, List.setIfInBounds_toArray, List.set_cons_zero, List.set_cons_succ]
        refine doneL (by kernel_rfl) ?_ _
        obtain ⟨wS, hW, hES, hOS, hBS⟩ := sec_allocO (W := (((w.alloc (Obj.cells #[.int .i64 5, .int .i64 ga, .int .i64 la, .slice (some ⟨bc, oc, none⟩) 1 cc] 44)).alloc (Obj.cells #[.int .i64 kb, .int .i64 gb, .int .i64 lb, .slice ab nb cb] 44)).alloc (Obj.cells #[.int .i64 0, .int .i64 0, .int .i64 0, .slice none 0 0] 44))) (lo := w.heap.size + 1 + 1 + 1) (fun c hc => by obtain ⟨fp, h1, h2⟩ := hO c hc; exact ⟨fp, h1, h2.mono (by have h3 := HZ0.out; omega)⟩) hB1
        rw [← hW]
        clear hW hO
        have s0 : wS.cell? ⟨w1.heap.size, 0, none⟩ = some (.int .i64 p0) := by rw [cell_of_block hES]; rfl
        have s1 : wS.cell? ⟨w1.heap.size, 1, none⟩ = some (.int .i64 p1) := by rw [cell_of_block hES]; rfl
        have s2 : wS.cell? ⟨w1.heap.size, 2, none⟩ = some (.int .i64 p2) := by rw [cell_of_block hES]; rfl
        have s3 : wS.cell? ⟨w1.heap.size, 3, none⟩ = some (.slice pa pn pc) := by rw [cell_of_block hES]; rfl
        have hSS := HS0.out _ hBS
        clear hES x0 x1 x2 x3 y0 y1 y2 y3 d0 d1 d2 d3
        obtain ⟨x0, x1, x2, x3, y0, y1, y2, y3, d0, d1, d2, d3⟩ := hSS
        have bM := HM.out _ (hBS.alloc hBS.size (Obj.cells #[.int .i64 p0, .int .i64 p1, .int .i64 p2, .slice pa pn pc] 44))
        have z0 := (cell_of_block (o := 0) bM).trans (show _ = some (.int .i64 0) from rfl)
        have z1 := (cell_of_block (o := 1) bM).trans (show _ = some (.int .i64 0) from rfl)
        have z2 := (cell_of_block (o := 2) bM).trans (show _ = some (.int .i64 0) from rfl)
        have z3 := (cell_of_block (o := 3) bM).trans (show _ = some (.slice none 0 0) from rfl)
        have yz := fun o => frozen_of_block (o := o) bM
        have FIN := closeO (w := w) (wF := wS.alloc (Obj.cells #[.int .i64 p0, .int .i64 p1, .int .i64 p2, .slice pa pn pc] 44)) (M := w.heap.size + 1 + 1) (lo := w.heap.size + 1 + 1 + 1) (o := (cmpo n a (.mk kb gb lb us)).map fun c => Co.mk 5 0 la [c]) (b := (cmpo n a (.mk kb gb lb us)).isSome) (by rw [Option.isSome_map]) (one_rowO (fun c hc => by obtain ⟨fp, h1, h2⟩ := hOS c hc; exact ⟨fp, h1, h2.mono (by omega)⟩) (by have := HZ0.out; have := hBS.size; omega)) (by omega) (by omega) (below_trans HB.out (hBS.alloc hBS.size (Obj.cells #[.int .i64 p0, .int .i64 p1, .int .i64 p2, .slice pa pn pc] 44)))
        rw [← HR.out] at FIN
        generalize (cmpo n a (.mk kb gb lb us)).isSome = r at *
        simp only [put4, Nat.zero_add] at FIN
        go_wp2_with fail
        exact bodyPost_ret (v := .tuple #[.agg #[.int .i64 5, .int .i64 0, .int .i64 la, .slice (some ⟨wS.heap.size, 0, none⟩) 1 1], .bool r]) (by simp [results, Try.results34, go_sem, z0, z1, z2, z3]) rfl FIN
      refine AllReadyL.cons rfl (fun K hK => ?_) AllReadyL.nil
      go_simp
      refine hK.out _ _ ?_ (fun hS3 => ?_)
      · exact ⟨trivial, fun _ => HS0.out _ (hB1.alloc hB1.size _)⟩
      clear hK K hS2
      try simp only [Act.put, List.setIfInBounds_toArray, List.set_cons_zero, List.set_cons_succ]
      refine readyL (rs := [7]) (by kernel_rfl) (by simp) ?_
      refine AllReadyL.cons rfl (fun K hK => ?_) AllReadyL.nil
      go_simp
      refine hK.out _ _ ?_ (fun hS4 => ?_)
      · exact ⟨trivial, fun _ => HS0.out _ (hB1.alloc hB1.size _)⟩
      clear hK K hS3
      try simp only [Act.put, List.setIfInBounds_toArray, List.set_cons_zero, List.set_cons_succ]
      refine readyL (rs := [10]) (by kernel_rfl) (by simp) ?_
      refine AllReadyL.cons rfl (fun K hK => ?_) AllReadyL.nil
      go_simp
      refine hK.out _ _ ?_ (fun hS5 => ?_)
      · exact ⟨trivial, fun h => absurd (h.symm.trans (show _ = true by kernel_rfl)) (by decide)⟩
      clear hK K hS4
      try simp only [Act.put, List.setIfInBounds_toArray, List.set_cons_zero, List.set_cons_succ]
      refine readyL (rs := [11]) (by kernel_rfl) (by simp) ?_
      refine AllReadyL.cons rfl (fun K hK => ?_) AllReadyL.nil
      go_simp
      refine hK.out _ _ ?_ (fun hS6 => ?_)
      · exact ⟨trivial, fun h => absurd (h.symm.trans (show _ = true by kernel_rfl)) (by decide)⟩
      clear hK K hS5
      try simp only [Act.put, List.setIfInBounds_toArray, List.set_cons_zero, List.set_cons_succ]
      refine doneL (by kernel_rfl) ?_ _
      obtain ⟨wS, hW, hES, hOS, hBS⟩ := sec_allocO (W := (((w.alloc (Obj.cells #[.int .i64 5, .int .i64 ga, .int .i64 la, .slice (some ⟨bc, oc, none⟩) 1 cc] 44)).alloc (Obj.cells #[.int .i64 kb, .int .i64 gb, .int .i64 lb, .slice ab nb cb] 44)).alloc (Obj.cells #[.int .i64 0, .int .i64 0, .int .i64 0, .slice none 0 0] 44))) (lo := w.heap.size + 1 + 1 + 1) (fun c hc => by obtain ⟨fp, h1, h2⟩ := hO c hc; exact ⟨fp, h1, h2.mono (by have h3 := HZ0.out; omega)⟩) hB1
      rw [← hW]
      clear hW hO
      have s0 : wS.cell? ⟨w1.heap.size, 0, none⟩ = some (.int .i64 p0) := by rw [cell_of_block hES]; rfl
      have s1 : wS.cell? ⟨w1.heap.size, 1, none⟩ = some (.int .i64 p1) := by rw [cell_of_block hES]; rfl
      have s2 : wS.cell? ⟨w1.heap.size, 2, none⟩ = some (.int .i64 p2) := by rw [cell_of_block hES]; rfl
      have s3 : wS.cell? ⟨w1.heap.size, 3, none⟩ = some (.slice pa pn pc) := by rw [cell_of_block hES]; rfl
      have hSS := HS0.out _ hBS
      clear hES x0 x1 x2 x3 y0 y1 y2 y3 d0 d1 d2 d3
      obtain ⟨x0, x1, x2, x3, y0, y1, y2, y3, d0, d1, d2, d3⟩ := hSS
      have bM := HM.out _ (hBS.alloc hBS.size (Obj.cells #[.int .i64 p0, .int .i64 p1, .int .i64 p2, .slice pa pn pc] 44))
      have z0 := (cell_of_block (o := 0) bM).trans (show _ = some (.int .i64 0) from rfl)
      have z1 := (cell_of_block (o := 1) bM).trans (show _ = some (.int .i64 0) from rfl)
      have z2 := (cell_of_block (o := 2) bM).trans (show _ = some (.int .i64 0) from rfl)
      have z3 := (cell_of_block (o := 3) bM).trans (show _ = some (.slice none 0 0) from rfl)
      have yz := fun o => frozen_of_block (o := o) bM
      have FIN := closeO (w := w) (wF := wS.alloc (Obj.cells #[.int .i64 p0, .int .i64 p1, .int .i64 p2, .slice pa pn pc] 44)) (M := w.heap.size + 1 + 1) (lo := w.heap.size + 1 + 1 + 1) (o := (cmpo n a (.mk kb gb lb us)).map fun c => Co.mk 5 0 la [c]) (b := (cmpo n a (.mk kb gb lb us)).isSome) (by rw [Option.isSome_map]) (one_rowO (fun c hc => by obtain ⟨fp, h1, h2⟩ := hOS c hc; exact ⟨fp, h1, h2.mono (by omega)⟩) (by have := HZ0.out; have := hBS.size; omega)) (by omega) (by omega) (below_trans HB.out (hBS.alloc hBS.size (Obj.cells #[.int .i64 p0, .int .i64 p1, .int .i64 p2, .slice pa pn pc] 44)))
      rw [← HR.out] at FIN
      generalize (cmpo n a (.mk kb gb lb us)).isSome = r at *
      simp only [put4, Nat.zero_add] at FIN
      go_wp2_with fail
      exact bodyPost_ret (v := .tuple #[.agg #[.int .i64 5, .int .i64 0, .int .i64 la, .slice (some ⟨wS.heap.size, 0, none⟩) 1 1], .bool r]) (by simp [results, Try.results34, go_sem, z0, z1, z2, z3]) rfl FIN
    refine AllReadyL.cons rfl (fun K hK => ?_) AllReadyL.nil
    go_simp
    refine hK.out _ _ ?_ (fun hS1 => ?_)
    · exact ⟨trivial, fun _ => HS0.out _ ((below_drew _).alloc (by simp) _)⟩
    clear hK K hS0
    try simp only [Act.put, List.setIfInBounds_toArray, List.set_cons_zero, List.set_cons_succ]
    refine readyL (rs := [5]) (by kernel_rfl) (by simp) ?_
    refine AllReadyL.cons rfl (fun K hK => ?_) AllReadyL.nil
    go_simp
    refine (cm_from HIH.out (W0 := (((w.alloc (Obj.cells #[.int .i64 5, .int .i64 ga, .int .i64 la, .slice (some ⟨bc, oc, none⟩) 1 cc] 44)).alloc (Obj.cells #[.int .i64 kb, .int .i64 gb, .int .i64 lb, .slice ab nb cb] 44)).alloc (Obj.cells #[.int .i64 0, .int .i64 0, .int .i64 0, .slice none 0 0] 44))) (((Below.refl ((((w.alloc (Obj.cells #[.int .i64 5, .int .i64 ga, .int .i64 la, .slice (some ⟨bc, oc, none⟩) 1 cc] 44)).alloc (Obj.cells #[.int .i64 kb, .int .i64 gb, .int .i64 lb, .slice ab nb cb] 44)).alloc (Obj.cells #[.int .i64 0, .int .i64 0, .int .i64 0, .slice none 0 0] 44))).heap.size (((w.alloc (Obj.cells #[.int .i64 5, .int .i64 ga, .int .i64 la, .slice (some ⟨bc, oc, none⟩) 1 cc] 44)).alloc (Obj.cells #[.int .i64 kb, .int .i64 gb, .int .i64 lb, .slice ab nb cb] 44)).alloc (Obj.cells #[.int .i64 0, .int .i64 0, .int .i64 0, .slice none 0 0] 44))).alloc (Nat.le_refl _) (Obj.cells #[.int .i64 0, .int .i64 0, .int .i64 0, .slice none 0 0] 44)).drew) HP.out.1 hd1 hd2 HP.out.2.1 HP.out.2.2 H.out.1 H.out.2).mono ?_
    rintro e w1 ⟨⟨p0, p1, p2, pa, pn, pc, rfl, hb1, hO⟩, hU⟩
    have hB1 := below_trans hU hb1
    have hU1 := hU.size
    refine hK.out _ _ ?_ (fun hS2 => ?_)
    · exact ⟨trivial, fun _ => HS0.out _ hB1⟩
    clear hK K hS1
    try simp only [Act.put, List.setIfInBounds_toArray, List.set_cons_zero, List.set_cons_succ]
    refine takeL0 (i := 6) (v := ?va7) rfl rfl (by kernel_rfl) (by kernel_rfl) (by kernel_rfl) (by decide) (by kernel_rfl) (by kernel_rfl) (fun _ _ _ h => h) (Or.inl ⟨by rfl, ?hya7⟩) (by assumption) ?_
    case hya7 => (intro w hSw; (try dsimp only at hSw); go_simp; (try with_reducible rfl))
    try simp only [Act.put, List.setIfInBounds_toArray, List.set_cons_zero, List.set_cons_succ]
    refine readyL (rs := [7, 8]) (by kernel_rfl) (by simp) ?_
    refine AllReadyL.cons rfl (fun K hK => ?_) ?_
    · go_simp
      refine hK.out _ _ ?_ (fun hS3 => ?_)
      · exact ⟨trivial, fun _ => HS0.out _ hB1⟩
      clear hK K hS2
      try simp only [Act.put, List.setIfInBounds_toArray, List.set_cons_zero, List.set_cons_succ]
      refine readyL (rs := [8, 10]) (by kernel_rfl) (by simp) ?_
      refine AllReadyL.cons rfl (fun K hK => ?_) ?_
      · go_simp
        refine hK.out _ _ ?_ (fun hS4 => ?_)
        · exact ⟨trivial, fun _ => HS0.out _ hB1⟩
        clear hK K hS3
        try simp only [Act.put, List.setIfInBounds_toArray, List.set_cons_zero, List.set_cons_succ]
        refine readyL (rs := [10]) (by kernel_rfl) (by simp) ?_
        refine AllReadyL.cons rfl (fun K hK => ?_) AllReadyL.nil
        have hE0 := alloc_new ((((w.alloc (Obj.cells #[.int .i64 5, .int .i64 ga, .int .i64 la, .slice (some ⟨bc, oc, none⟩) 1 cc] 44)).alloc (Obj.cells #[.int .i64 kb, .int .i64 gb, .int .i64 lb, .slice ab nb cb] 44)).alloc (Obj.cells #[.int .i64 0, .int .i64 0, .int .i64 0, .slice none 0 0] 44))) (Obj.cells #[.int .i64 0, .int .i64 0, .int .i64 0, .slice none 0 0] 44)
        rw [HZ0.out] at hE0
        have hE1 := (hb1.block _ (lt_of_block hE0)).trans hE0
        have bM := hE1
        have z0 := (cell_of_block (o := 0) bM).trans (show _ = some (.int .i64 0) from rfl)
        have z1 := (cell_of_block (o := 1) bM).trans (show _ = some (.int .i64 0) from rfl)
        have z2 := (cell_of_block (o := 2) bM).trans (show _ = some (.int .i64 0) from rfl)
        have z3 := (cell_of_block (o := 3) bM).trans (show _ = some (.slice none 0 0) from rfl)
        have yz := fun o => frozen_of_block (o := o) bM
        go_simp
        clear z0 z1 z2 z3 yz bM
        refine hK.out _ _ ?_ (fun hS5 => ?_)
        · exact ⟨trivial, fun h => absurd (h.symm.trans (show _ = true by kernel_rfl)) (by decide)⟩
        clear hK K hS4
        try simp only [Act.put, List.setIfInBounds_toArray, List.set_cons_zero, List.set_cons_succ]
        refine readyL (rs := [11]) (by kernel_rfl) (by simp) ?_
        refine AllReadyL.cons rfl (fun K hK => ?_) AllReadyL.nil
        go_simp
        refine hK.out _ _ ?_ (fun hS6 => ?_)
        · exact ⟨trivial, fun h => absurd (h.symm.trans (show _ = true by kernel_rfl)) (by decide)⟩
        clear hK K hS5
        try simp only [Act.put, List.setIfInBounds_toArray, List.set_cons_zero, List.set_cons_succ]
        refine doneL (by kernel_rfl) ?_ _
        obtain ⟨wS, hW, hES, hOS, hBS⟩ := sec_closeO (W := (((w.alloc (Obj.cells #[.int .i64 5, .int .i64 ga, .int .i64 la, .slice (some ⟨bc, oc, none⟩) 1 cc] 44)).alloc (Obj.cells #[.int .i64 kb, .int .i64 gb, .int .i64 lb, .slice ab nb cb] 44)).alloc (Obj.cells #[.int .i64 0, .int .i64 0, .int .i64 0, .slice none 0 0] 44))) (lo := w.heap.size + 1 + 1 + 1 + 1) hE1 (fun c hc => by obtain ⟨fp, h1, h2⟩ := hO c hc; exact ⟨fp, h1, h2.mono (by have h3 := HZ0.out; simp [World.drew] at hU1 ⊢; try omega)⟩) (by omega) (by have := HZ0.out; omega) hB1
        simp only [put4, Nat.zero_add] at hW
        rw [← hW]
        clear hW hO
        have s0 : wS.cell? ⟨w.heap.size + 1 + 1 + 1, 0, none⟩ = some (.int .i64 p0) := by rw [cell_of_block hES]; rfl
        have s1 : wS.cell? ⟨w.heap.size + 1 + 1 + 1, 1, none⟩ = some (.int .i64 p1) := by rw [cell_of_block hES]; rfl
        have s2 : wS.cell? ⟨w.heap.size + 1 + 1 + 1, 2, none⟩ = some (.int .i64 p2) := by rw [cell_of_block hES]; rfl
        have s3 : wS.cell? ⟨w.heap.size + 1 + 1 + 1, 3, none⟩ = some (.slice pa pn pc) := by rw [cell_of_block hES]; rfl
        have hSS := HS0.out _ hBS
        clear hES x0 x1 x2 x3 y0 y1 y2 y3 d0 d1 d2 d3
        obtain ⟨x0, x1, x2, x3, y0, y1, y2, y3, d0, d1, d2, d3⟩ := hSS
        have bM := HM.out _ (hBS.alloc hBS.size (Obj.cells #[.int .i64 p0, .int .i64 p1, .int .i64 p2, .slice pa pn pc] 44))
        have z0 := (cell_of_block (o := 0) bM).trans (show _ = some (.int .i64 0) from rfl)
        have z1 := (cell_of_block (o := 1) bM).trans (show _ = some (.int .i64 0) from rfl)
        have z2 := (cell_of_block (o := 2) bM).trans (show _ = some (.int .i64 0) from rfl)
        have z3 := (cell_of_block (o := 3) bM).trans (show _ = some (.slice none 0 0) from rfl)
        have yz := fun o => frozen_of_block (o := o) bM
        have FIN := closeO (w := w) (wF := wS.alloc (Obj.cells #[.int .i64 p0, .int .i64 p1, .int .i64 p2, .slice pa pn pc] 44)) (M := w.heap.size + 1 + 1) (lo := w.heap.size + 1 + 1 + 1) (o := (cmpo n a (.mk kb gb lb us)).map fun c => Co.mk 5 0 la [c]) (b := (cmpo n a (.mk kb gb lb us)).isSome) (by rw [Option.isSome_map]) (one_rowO (fun c hc => by obtain ⟨fp, h1, h2⟩ := hOS c hc; exact ⟨fp, h1, h2.mono (by omega)⟩) (by have := HZ0.out; have := hBS.size; omega)) (by omega) (by omega) (below_trans HB.out (hBS.alloc hBS.size (Obj.cells #[.int .i64 p0, .int .i64 p1, .int .i64 p2, .slice pa pn pc] 44)))
        rw [← HR.out] at FIN
        generalize (cmpo n a (.mk kb gb lb us)).isSome = r at *
        simp only [put4, Nat.zero_add] at FIN
        go_wp2_with fail
        exact bodyPost_ret (v := .tuple #[.agg #[.int .i64 5, .int .i64 0, .int .i64 la, .slice (some ⟨wS.heap.size, 0, none⟩) 1 1], .bool r]) (by simp [results, Try.results34, go_sem, z0, z1, z2, z3]) rfl FIN
      refine AllReadyL.cons rfl (fun K hK => ?_) AllReadyL.nil
      have hE0 := alloc_new ((((w.alloc (Obj.cells #[.int .i64 5, .int .i64 ga, .int .i64 la, .slice (some ⟨bc, oc, none⟩) 1 cc] 44)).alloc (Obj.cells #[.int .i64 kb, .int .i64 gb, .int .i64 lb, .slice ab nb cb] 44)).alloc (Obj.cells #[.int .i64 0, .int .i64 0, .int .i64 0, .slice none 0 0] 44))) (Obj.cells #[.int .i64 0, .int .i64 0, .int .i64 0, .slice none 0 0] 44)
      rw [HZ0.out] at hE0
      have hE1 := (hb1.block _ (lt_of_block hE0)).trans hE0
      have bM := hE1
      have z0 := (cell_of_block (o := 0) bM).trans (show _ = some (.int .i64 0) from rfl)
      have z1 := (cell_of_block (o := 1) bM).trans (show _ = some (.int .i64 0) from rfl)
      have z2 := (cell_of_block (o := 2) bM).trans (show _ = some (.int .i64 0) from rfl)
      have z3 := (cell_of_block (o := 3) bM).trans (show _ = some (.slice none 0 0) from rfl)
      have yz := fun o => frozen_of_block (o := o) bM
      go_simp
      clear z0 z1 z2 z3 yz bM
      refine hK.out _ _ ?_ (fun hS4 => ?_)
      · exact ⟨trivial, fun h => absurd (h.symm.trans (show _ = true by kernel_rfl)) (by decide)⟩
      clear hK K hS3
      try simp only [Act.put, List.setIfInBounds_toArray, List.set_cons_zero, List.set_cons_succ]
      refine readyL (rs := [8]) (by kernel_rfl) (by simp) ?_
      refine AllReadyL.cons rfl (fun K hK => ?_) AllReadyL.nil
      go_simp
      refine hK.out _ _ ?_ (fun hS5 => ?_)
      · exact ⟨trivial, fun h => absurd (h.symm.trans (show _ = true by kernel_rfl)) (by decide)⟩
      clear hK K hS4
      try simp only [Act.put, List.setIfInBounds_toArray, List.set_cons_zero, List.set_cons_succ]
      refine readyL (rs := [11]) (by kernel_rfl) (by simp) ?_
      refine AllReadyL.cons rfl (fun K hK => ?_) AllReadyL.nil
      go_simp
      refine hK.out _ _ ?_ (fun hS6 => ?_)
      · exact ⟨trivial, fun h => absurd (h.symm.trans (show _ = true by kernel_rfl)) (by decide)⟩
      clear hK K hS5
      try simp only [Act.put, List.setIfInBounds_toArray, List.set_cons_zero, List.set_cons_succ]
      refine doneL (by kernel_rfl) ?_ _
      obtain ⟨wS, hW, hES, hOS, hBS⟩ := sec_closeO (W := (((w.alloc (Obj.cells #[.int .i64 5, .int .i64 ga, .int .i64 la, .slice (some ⟨bc, oc, none⟩) 1 cc] 44)).alloc (Obj.cells #[.int .i64 kb, .int .i64 gb, .int .i64 lb, .slice ab nb cb] 44)).alloc (Obj.cells #[.int .i64 0, .int .i64 0, .int .i64 0, .slice none 0 0] 44))) (lo := w.heap.size + 1 + 1 + 1 + 1) hE1 (fun c hc => by obtain ⟨fp, h1, h2⟩ := hO c hc; exact ⟨fp, h1, h2.mono (by have h3 := HZ0.out; simp [World.drew] at hU1 ⊢; try omega)⟩) (by omega) (by have := HZ0.out; omega) hB1
      simp only [put4, Nat.zero_add] at hW
      rw [← hW]
      clear hW hO
      have s0 : wS.cell? ⟨w.heap.size + 1 + 1 + 1, 0, none⟩ = some (.int .i64 p0) := by rw [cell_of_block hES]; rfl
      have s1 : wS.cell? ⟨w.heap.size + 1 + 1 + 1, 1, none⟩ = some (.int .i64 p1) := by rw [cell_of_block hES]; rfl
      have s2 : wS.cell? ⟨w.heap.size + 1 + 1 + 1, 2, none⟩ = some (.int .i64 p2) := by rw [cell_of_block hES]; rfl
      have s3 : wS.cell? ⟨w.heap.size + 1 + 1 + 1, 3, none⟩ = some (.slice pa pn pc) := by rw [cell_of_block hES]; rfl
      have hSS := HS0.out _ hBS
      clear hES x0 x1 x2 x3 y0 y1 y2 y3 d0 d1 d2 d3
      obtain ⟨x0, x1, x2, x3, y0, y1, y2, y3, d0, d1, d2, d3⟩ := hSS
      have bM := HM.out _ (hBS.alloc hBS.size (Obj.cells #[.int .i64 p0, .int .i64 p1, .int .i64 p2, .slice pa pn pc] 44))
      have z0 := (cell_of_block (o := 0) bM).trans (show _ = some (.int .i64 0) from rfl)
      have z1 := (cell_of_block (o := 1) bM).trans (show _ = some (.int .i64 0) from rfl)
      have z2 := (cell_of_block (o := 2) bM).trans (show _ = some (.int .i64 0) from rfl)
      have z3 := (cell_of_block (o := 3) bM).trans (show _ = some (.slice none 0 0) from rfl)
      have yz := fun o => frozen_of_block (o := o) bM
      have FIN := closeO (w := w) (wF := wS.alloc (Obj.cells #[.int .i64 p0, .int .i64 p1, .int .i64 p2, .slice pa pn pc] 44)) (M := w.heap.size + 1 + 1) (lo := w.heap.size + 1 + 1 + 1) (o := (cmpo n a (.mk kb gb lb us)).map fun c => Co.mk 5 0 la [c]) (b := (cmpo n a (.mk kb gb lb us)).isSome) (by rw [Option.isSome_map]) (one_rowO (fun c hc => by obtain ⟨fp, h1, h2⟩ := hOS c hc; exact ⟨fp, h1, h2.mono (by omega)⟩) (by have := HZ0.out; have := hBS.size; omega)) (by omega) (by omega) (below_trans HB.out (hBS.alloc hBS.size (Obj.cells #[.int .i64 p0, .int .i64 p1, .int .i64 p2, .slice pa pn pc] 44)))
      rw [← HR.out] at FIN
      generalize (cmpo n a (.mk kb gb lb us)).isSome = r at *
      simp only [put4, Nat.zero_add] at FIN
      go_wp2_with fail
      exact bodyPost_ret (v := .tuple #[.agg #[.int .i64 5, .int .i64 0, .int .i64 la, .slice (some ⟨wS.heap.size, 0, none⟩) 1 1], .bool r]) (by simp [results, Try.results34, go_sem, z0, z1, z2, z3]) rfl FIN
    refine AllReadyL.cons rfl (fun K hK => ?_) AllReadyL.nil
    go_simp
    refine hK.out _ _ ?_ (fun hS3 => ?_)
    · exact ⟨trivial, fun _ => HS0.out _ hB1⟩
    clear hK K hS2
    try simp only [Act.put, List.setIfInBounds_toArray, List.set_cons_zero, List.set_cons_succ]
    refine readyL (rs := [7]) (by kernel_rfl) (by simp) ?_
    refine AllReadyL.cons rfl (fun K hK => ?_) AllReadyL.nil
    go_simp
    refine hK.out _ _ ?_ (fun hS4 => ?_)
    · exact ⟨trivial, fun _ => HS0.out _ hB1⟩
    clear hK K hS3
    try simp only [Act.put, List.setIfInBounds_toArray, List.set_cons_zero, List.set_cons_succ]
    refine readyL (rs := [10]) (by kernel_rfl) (by simp) ?_
    refine AllReadyL.cons rfl (fun K hK => ?_) AllReadyL.nil
    have hE0 := alloc_new ((((w.alloc (Obj.cells #[.int .i64 5, .int .i64 ga, .int .i64 la, .slice (some ⟨bc, oc, none⟩) 1 cc] 44)).alloc (Obj.cells #[.int .i64 kb, .int .i64 gb, .int .i64 lb, .slice ab nb cb] 44)).alloc (Obj.cells #[.int .i64 0, .int .i64 0, .int .i64 0, .slice none 0 0] 44))) (Obj.cells #[.int .i64 0, .int .i64 0, .int .i64 0, .slice none 0 0] 44)
    rw [HZ0.out] at hE0
    have hE1 := (hb1.block _ (lt_of_block hE0)).trans hE0
    have bM := hE1
    have z0 := (cell_of_block (o := 0) bM).trans (show _ = some (.int .i64 0) from rfl)
    have z1 := (cell_of_block (o := 1) bM).trans (show _ = some (.int .i64 0) from rfl)
    have z2 := (cell_of_block (o := 2) bM).trans (show _ = some (.int .i64 0) from rfl)
    have z3 := (cell_of_block (o := 3) bM).trans (show _ = some (.slice none 0 0) from rfl)
    have yz := fun o => frozen_of_block (o := o) bM
    go_simp
    clear z0 z1 z2 z3 yz bM
    refine hK.out _ _ ?_ (fun hS5 => ?_)
    · exact ⟨trivial, fun h => absurd (h.symm.trans (show _ = true by kernel_rfl)) (by decide)⟩
    clear hK K hS4
    try simp only [Act.put, List.setIfInBounds_toArray, List.set_cons_zero, List.set_cons_succ]
    refine readyL (rs := [11]) (by kernel_rfl) (by simp) ?_
    refine AllReadyL.cons rfl (fun K hK => ?_) AllReadyL.nil
    go_simp
    refine hK.out _ _ ?_ (fun hS6 => ?_)
    · exact ⟨trivial, fun h => absurd (h.symm.trans (show _ = true by kernel_rfl)) (by decide)⟩
    clear hK K hS5
    try simp only [Act.put, List.setIfInBounds_toArray, List.set_cons_zero, List.set_cons_succ]
    refine doneL (by kernel_rfl) ?_ _
    obtain ⟨wS, hW, hES, hOS, hBS⟩ := sec_closeO (W := (((w.alloc (Obj.cells #[.int .i64 5, .int .i64 ga, .int .i64 la, .slice (some ⟨bc, oc, none⟩) 1 cc] 44)).alloc (Obj.cells #[.int .i64 kb, .int .i64 gb, .int .i64 lb, .slice ab nb cb] 44)).alloc (Obj.cells #[.int .i64 0, .int .i64 0, .int .i64 0, .slice none 0 0] 44))) (lo := w.heap.size + 1 + 1 + 1 + 1) hE1 (fun c hc => by obtain ⟨fp, h1, h2⟩ := hO c hc; exact ⟨fp, h1, h2.mono (by have h3 := HZ0.out; simp [World.drew] at hU1 ⊢; try omega)⟩) (by omega) (by have := HZ0.out; omega) hB1
    simp only [put4, Nat.zero_add] at hW
    rw [← hW]
    clear hW hO
    have s0 : wS.cell? ⟨w.heap.size + 1 + 1 + 1, 0, none⟩ = some (.int .i64 p0) := by rw [cell_of_block hES]; rfl
    have s1 : wS.cell? ⟨w.heap.size + 1 + 1 + 1, 1, none⟩ = some (.int .i64 p1) := by rw [cell_of_block hES]; rfl
    have s2 : wS.cell? ⟨w.heap.size + 1 + 1 + 1, 2, none⟩ = some (.int .i64 p2) := by rw [cell_of_block hES]; rfl
    have s3 : wS.cell? ⟨w.heap.size + 1 + 1 + 1, 3, none⟩ = some (.slice pa pn pc) := by rw [cell_of_block hES]; rfl
    have hSS := HS0.out _ hBS
    clear hES x0 x1 x2 x3 y0 y1 y2 y3 d0 d1 d2 d3
    obtain ⟨x0, x1, x2, x3, y0, y1, y2, y3, d0, d1, d2, d3⟩ := hSS
    have bM := HM.out _ (hBS.alloc hBS.size (Obj.cells #[.int .i64 p0, .int .i64 p1, .int .i64 p2, .slice pa pn pc] 44))
    have z0 := (cell_of_block (o := 0) bM).trans (show _ = some (.int .i64 0) from rfl)
    have z1 := (cell_of_block (o := 1) bM).trans (show _ = some (.int .i64 0) from rfl)
    have z2 := (cell_of_block (o := 2) bM).trans (show _ = some (.int .i64 0) from rfl)
    have z3 := (cell_of_block (o := 3) bM).trans (show _ = some (.slice none 0 0) from rfl)
    have yz := fun o => frozen_of_block (o := o) bM
    have FIN := closeO (w := w) (wF := wS.alloc (Obj.cells #[.int .i64 p0, .int .i64 p1, .int .i64 p2, .slice pa pn pc] 44)) (M := w.heap.size + 1 + 1) (lo := w.heap.size + 1 + 1 + 1) (o := (cmpo n a (.mk kb gb lb us)).map fun c => Co.mk 5 0 la [c]) (b := (cmpo n a (.mk kb gb lb us)).isSome) (by rw [Option.isSome_map]) (one_rowO (fun c hc => by obtain ⟨fp, h1, h2⟩ := hOS c hc; exact ⟨fp, h1, h2.mono (by omega)⟩) (by have := HZ0.out; have := hBS.size; omega)) (by omega) (by omega) (below_trans HB.out (hBS.alloc hBS.size (Obj.cells #[.int .i64 p0, .int .i64 p1, .int .i64 p2, .slice pa pn pc] 44)))
    rw [← HR.out] at FIN
    generalize (cmpo n a (.mk kb gb lb us)).isSome = r at *
    simp only [put4, Nat.zero_add] at FIN
    go_wp2_with fail
    exact bodyPost_ret (v := .tuple #[.agg #[.int .i64 5, .int .i64 0, .int .i64 la, .slice (some ⟨wS.heap.size, 0, none⟩) 1 1], .bool r]) (by simp [results, Try.results34, go_sem, z0, z1, z2, z3]) rfl FIN
  by_cases h1 : kb = 1
  case pos =>
    have q0 : (kb == 5) = false := by first | (rw [beq_iff_eq]; omega) | (rw [beq_eq_false_iff_ne]; omega)
    have q1 : (kb == 1) = true := by first | (rw [beq_iff_eq]; omega) | (rw [beq_eq_false_iff_ne]; omega)
    clear h0 h1
    go_enter Try.func34, Try.ntmps34
    go_wp2_with fail
    refine regionL (s := 10) (S0 := (fun w' => w'.cell? ⟨w.heap.size, 0, none⟩ = some (.int .i64 5) ∧ w'.cell? ⟨w.heap.size, 1, none⟩ = some (.int .i64 ga) ∧ w'.cell? ⟨w.heap.size, 2, none⟩ = some (.int .i64 la) ∧ w'.cell? ⟨w.heap.size, 3, none⟩ = some (.slice (some ⟨bc, oc, none⟩) 1 cc) ∧ w'.cell? ⟨w.heap.size + 1, 0, none⟩ = some (.int .i64 kb) ∧ w'.cell? ⟨w.heap.size + 1, 1, none⟩ = some (.int .i64 gb) ∧ w'.cell? ⟨w.heap.size + 1, 2, none⟩ = some (.int .i64 lb) ∧ w'.cell? ⟨w.heap.size + 1, 3, none⟩ = some (.slice ab nb cb) ∧ w'.cell? ⟨bc, oc, none⟩ = some (.int .i64 k1) ∧ w'.cell? ⟨bc, oc + 1, none⟩ = some (.int .i64 g1) ∧ w'.cell? ⟨bc, oc + 2, none⟩ = some (.int .i64 l1) ∧ w'.cell? ⟨bc, oc + 3, none⟩ = some (.slice a1 n1 c1))) (S1 := (fun _ => True)) (by kernel_rfl) (HS0.out _ (below_drew _)) (trivial) (fun hS0 => ?_)
    refine takeL0 (i := 0) (v := ?vb1) rfl rfl (by kernel_rfl) (by kernel_rfl) (by kernel_rfl) (by decide) (by kernel_rfl) (by kernel_rfl) (fun _ _ _ h => h) (Or.inl ⟨by rfl, ?hyb1⟩) (by assumption) ?_
    case hyb1 => (intro w hSw; (try dsimp only at hSw); go_simp; (try with_reducible rfl))
    try simp only [Act.put, List.setIfInBounds_toArray, List.set_cons_zero, List.set_cons_succ]
    refine takeL0 (i := 1) (v := ?vb2) rfl rfl (by kernel_rfl) (by kernel_rfl) (by kernel_rfl) (by decide) (by kernel_rfl) (by kernel_rfl) (fun _ _ _ h => h) (Or.inl ⟨by rfl, ?hyb2⟩) (by assumption) ?_
    case hyb2 => (intro w hSw; (try dsimp only at hSw); go_simp; (try with_reducible rfl))
    try simp only [Act.put, List.setIfInBounds_toArray, List.set_cons_zero, List.set_cons_succ]
    refine takeL0 (i := 2) (v := ?vb3) rfl rfl (by kernel_rfl) (by kernel_rfl) (by kernel_rfl) (by decide) (by kernel_rfl) (by kernel_rfl) (fun _ _ _ h => h) (Or.inl ⟨by rfl, ?hyb3⟩) (by assumption) ?_
    case hyb3 => (intro w hSw; (try dsimp only at hSw); go_simp; (try with_reducible rfl))
    try simp only [Act.put, List.setIfInBounds_toArray, List.set_cons_zero, List.set_cons_succ]
    refine takeL0 (i := 3) (v := ?vb4) rfl rfl (by kernel_rfl) (by kernel_rfl) (by kernel_rfl) (by decide) (by kernel_rfl) (by kernel_rfl) (fun _ _ _ h => h) (Or.inl ⟨by rfl, ?hyb4⟩) (by assumption) ?_
    case hyb4 => (intro w hSw; (try dsimp only at hSw); go_simp; (try with_reducible rfl))
    try simp only [Act.put, List.setIfInBounds_toArray, List.set_cons_zero, List.set_cons_succ]
    refine takeL0 (i := 4) (v := ?vb5) rfl rfl (by kernel_rfl) (by kernel_rfl) (by kernel_rfl) (by decide) (by kernel_rfl) (by kernel_rfl) (fun _ _ _ h => h) (Or.inl ⟨by rfl, ?hyb5⟩) (by assumption) ?_
    case hyb5 => (intro w hSw; (try dsimp only at hSw); go_simp; (try with_reducible rfl))
    try simp only [Act.put, List.setIfInBounds_toArray, List.set_cons_zero, List.set_cons_succ]
    refine readyL (rs := [5, 9]) (by kernel_rfl) (by simp) ?_
    refine AllReadyL.cons rfl (fun K hK => ?_) ?_
    · go_simp
      refine (cm_from HIH.out (W0 := (((w.alloc (Obj.cells #[.int .i64 5, .int .i64 ga, .int .i64 la, .slice (some ⟨bc, oc, none⟩) 1 cc] 44)).alloc (Obj.cells #[.int .i64 kb, .int .i64 gb, .int .i64 lb, .slice ab nb cb] 44)).alloc (Obj.cells #[.int .i64 0, .int .i64 0, .int .i64 0, .slice none 0 0] 44))) (below_drew _) HP.out.1 hd1 hd2 HP.out.2.1 HP.out.2.2 H.out.1 H.out.2).mono ?_
      rintro e w1 ⟨⟨p0, p1, p2, pa, pn, pc, rfl, hb1, hO⟩, hU⟩
      have hB1 := below_trans hU hb1
      have hU1 := hU.size
      refine hK.out _ _ ?_ (fun hS1 => ?_)
      · exact ⟨trivial, fun _ => HS0.out _ hB1⟩
      clear hK K hS0
      try simp only [Act.put, List.setIfInBounds_toArray, List.set_cons_zero, List.set_cons_succ]
      refine takeL0 (i := 6) (v := ?vb6) rfl rfl (by kernel_rfl) (by kernel_rfl) (by kernel_rfl) (by decide) (by kernel_rfl) (by kernel_rfl) (fun _ _ _ h => h) (Or.inl ⟨by rfl, ?hyb6⟩) (by assumption) ?_
      case hyb6 => (intro w hSw; (try dsimp only at hSw); go_simp; (try with_reducible rfl))
      try simp only [Act.put, List.setIfInBounds_toArray, List.set_cons_zero, List.set_cons_succ]
      refine readyL (rs := [7, 8, 9]) (by kernel_rfl) (by simp) ?_
      refine AllReadyL.cons rfl (fun K hK => ?_) ?_
      · go_simp
        refine hK.out _ _ ?_ (fun hS2 => ?_)
        · exact ⟨trivial, fun _ => HS0.out _ hB1⟩
        clear hK K hS1
        try simp only [Act.put, List.setIfInBounds_toArray, List.set_cons_zero, List.set_cons_succ]
        refine readyL (rs := [8, 9]) (by kernel_rfl) (by simp) ?_
        refine AllReadyL.cons rfl (fun K hK => ?_) ?_
        · go_simp
          refine hK.out _ _ ?_ (fun hS3 => ?_)
          · exact ⟨trivial, fun _ => HS0.out _ hB1⟩
          clear hK K hS2
          try simp only [Act.put, List.setIfInBounds_toArray, List.set_cons_zero, List.set_cons_succ]
          refine readyL (rs := [9]) (by kernel_rfl) (by simp) ?_
          refine AllReadyL.cons rfl (fun K hK => ?_) AllReadyL.nil
          go_simp
          refine hK.out _ _ ?_ (fun hS4 => ?_)
          · exact ⟨trivial, fun _ => HS0.out _ (hB1.alloc hB1.size _)⟩
          clear hK K hS3
          try simp only [Act.put, List.setIfInBounds_toArray, List.set_cons_zero, List.set_cons_succ]
          refine readyL (rs := [10]) (by kernel_rfl) (by simp) ?_
          refine AllReadyL.cons rfl (fun K hK => ?_) AllReadyL.nil
          go_simp
          refine hK.out _ _ ?_ (fun hS5 => ?_)
          · exact ⟨trivial, fun h => absurd (h.symm.trans (show _ = true by kernel_rfl)) (by decide)⟩
          clear hK K hS4
          try simp only [Act.put, List.setIfInBounds_toArray, List.set_cons_zero, List.set_cons_succ]
          refine readyL (rs := [11]) (by kernel_rfl) (by simp) ?_
          refine AllReadyL.cons rfl (fun K hK => ?_) AllReadyL.nil
          go_simp
          refine hK.out _ _ ?_ (fun hS6 => ?_)
          · exact ⟨trivial, fun h => absurd (h.symm.trans (show _ = true by kernel_rfl)) (by decide)⟩
          clear hK K hS5
          try simp only [Act.put, List.setIfInBounds_toArray, List.set_cons_zero, List.set_cons_succ]
          refine doneL (by kernel_rfl) ?_ _
          obtain ⟨wS, hW, hES, hOS, hBS⟩ := sec_allocO (W := (((w.alloc (Obj.cells #[.int .i64 5, .int .i64 ga, .int .i64 la, .slice (some ⟨bc, oc, none⟩) 1 cc] 44)).alloc (Obj.cells #[.int .i64 kb, .int .i64 gb, .int .i64 lb, .slice ab nb cb] 44)).alloc (Obj.cells #[.int .i64 0, .int .i64 0, .int .i64 0, .slice none 0 0] 44))) (lo := w.heap.size + 1 + 1 + 1) (fun c hc => by obtain ⟨fp, h1, h2⟩ := hO c hc; exact ⟨fp, h1, h2.mono (by have h3 := HZ0.out; omega)⟩) hB1
          rw [← hW]
          clear hW hO
          have s0 : wS.cell? ⟨w1.heap.size, 0, none⟩ = some (.int .i64 p0) := by rw [cell_of_block hES]; rfl
          have s1 : wS.cell? ⟨w1.heap.size, 1, none⟩ = some (.int .i64 p1) := by rw [cell_of_block hES]; rfl
          have s2 : wS.cell? ⟨w1.heap.size, 2, none⟩ = some (.int .i64 p2) := by rw [cell_of_block hES]; rfl
          have s3 : wS.cell? ⟨w1.heap.size, 3, none⟩ = some (.slice pa pn pc) := by rw [cell_of_block hES]; rfl
          have hSS := HS0.out _ hBS
          clear hES x0 x1 x2 x3 y0 y1 y2 y3 d0 d1 d2 d3
          obtain ⟨x0, x1, x2, x3, y0, y1, y2, y3, d0, d1, d2, d3⟩ := hSS
          have bM := HM.out _ (hBS.alloc hBS.size (Obj.cells #[.int .i64 p0, .int .i64 p1, .int .i64 p2, .slice pa pn pc] 44))
          have z0 := (cell_of_block (o := 0) bM).trans (show _ = some (.int .i64 0) from rfl)
          have z1 := (cell_of_block (o := 1) bM).trans (show _ = some (.int .i64 0) from rfl)
          have z2 := (cell_of_block (o := 2) bM).trans (show _ = some (.int .i64 0) from rfl)
          have z3 := (cell_of_block (o := 3) bM).trans (show _ = some (.slice none 0 0) from rfl)
          have yz := fun o => frozen_of_block (o := o) bM
          have FIN := closeO (w := w) (wF := wS.alloc (Obj.cells #[.int .i64 p0, .int .i64 p1, .int .i64 p2, .slice pa pn pc] 44)) (M := w.heap.size + 1 + 1) (lo := w.heap.size + 1 + 1 + 1) (o := (cmpo n a (.mk kb gb lb us)).map fun c => Co.mk 5 0 la [c]) (b := (cmpo n a (.mk kb gb lb us)).isSome) (by rw [Option.isSome_map]) (one_rowO (fun c hc => by obtain ⟨fp, h1, h2⟩ := hOS c hc; exact ⟨fp, h1, h2.mono (by omega)⟩) (by have := HZ0.out; have := hBS.size; omega)) (by omega) (by omega) (below_trans HB.out (hBS.alloc hBS.size (Obj.cells #[.int .i64 p0, .int .i64 p1, .int .i64 p2, .slice pa pn pc] 44)))
          rw [← HR.out] at FIN
          generalize (cmpo n a (.mk kb gb lb us)).isSome = r at *
          simp only [put4, Nat.zero_add] at FIN
          go_wp2_with fail
          exact bodyPost_ret (v := .tuple #[.agg #[.int .i64 5, .int .i64 0, .int .i64 la, .slice (some ⟨wS.heap.size, 0, none⟩) 1 1], .bool r]) (by simp [results, Try.results34, go_sem, z0, z1, z2, z3]) rfl FIN
        refine AllReadyL.cons rfl (fun K hK => ?_) AllReadyL.nil
        go_simp
        refine hK.out _ _ ?_ (fun hS3 => ?_)
        · exact ⟨trivial, fun _ => HS0.out _ (hB1.alloc hB1.size _)⟩
        clear hK K hS2
        try simp only [Act.put, List.setIfInBounds_toArray, List.set_cons_zero, List.set_cons_succ]
        refine readyL (rs := [8, 10]) (by kernel_rfl) (by simp) ?_
        refine AllReadyL.cons rfl (fun K hK => ?_) ?_
        · go_simp
          refine hK.out _ _ ?_ (fun hS4 => ?_)
          · exact ⟨trivial, fun _ => HS0.out _ (hB1.alloc hB1.size _)⟩
          clear hK K hS3
          try simp only [Act.put, List.setIfInBounds_toArray, List.set_cons_zero, List.set_cons_succ]
          refine readyL (rs := [10]) (by kernel_rfl) (by simp) ?_
          refine AllReadyL.cons rfl (fun K hK => ?_) AllReadyL.nil
          go_simp
          refine hK.out _ _ ?_ (fun hS5 => ?_)
          · exact ⟨trivial, fun h => absurd (h.symm.trans (show _ = true by kernel_rfl)) (by decide)⟩
          clear hK K hS4
          try simp only [Act.put, List.setIfInBounds_toArray, List.set_cons_zero, List.set_cons_succ]
          refine readyL (rs := [11]) (by kernel_rfl) (by simp) ?_
          refine AllReadyL.cons rfl (fun K hK => ?_) AllReadyL.nil
          go_simp
          refine hK.out _ _ ?_ (fun hS6 => ?_)
          · exact ⟨trivial, fun h => absurd (h.symm.trans (show _ = true by kernel_rfl)) (by decide)⟩
          clear hK K hS5
          try simp only [Act.put, List.setIfInBounds_toArray, List.set_cons_zero, List.set_cons_succ]
          refine doneL (by kernel_rfl) ?_ _
          obtain ⟨wS, hW, hES, hOS, hBS⟩ := sec_allocO (W := (((w.alloc (Obj.cells #[.int .i64 5, .int .i64 ga, .int .i64 la, .slice (some ⟨bc, oc, none⟩) 1 cc] 44)).alloc (Obj.cells #[.int .i64 kb, .int .i64 gb, .int .i64 lb, .slice ab nb cb] 44)).alloc (Obj.cells #[.int .i64 0, .int .i64 0, .int .i64 0, .slice none 0 0] 44))) (lo := w.heap.size + 1 + 1 + 1) (fun c hc => by obtain ⟨fp, h1, h2⟩ := hO c hc; exact ⟨fp, h1, h2.mono (by have h3 := HZ0.out; omega)⟩) hB1
          rw [← hW]
          clear hW hO
          have s0 : wS.cell? ⟨w1.heap.size, 0, none⟩ = some (.int .i64 p0) := by rw [cell_of_block hES]; rfl
          have s1 : wS.cell? ⟨w1.heap.size, 1, none⟩ = some (.int .i64 p1) := by rw [cell_of_block hES]; rfl
          have s2 : wS.cell? ⟨w1.heap.size, 2, none⟩ = some (.int .i64 p2) := by rw [cell_of_block hES]; rfl
          have s3 : wS.cell? ⟨w1.heap.size, 3, none⟩ = some (.slice pa pn pc) := by rw [cell_of_block hES]; rfl
          have hSS := HS0.out _ hBS
          clear hES x0 x1 x2 x3 y0 y1 y2 y3 d0 d1 d2 d3
          obtain ⟨x0, x1, x2, x3, y0, y1, y2, y3, d0, d1, d2, d3⟩ := hSS
          have bM := HM.out _ (hBS.alloc hBS.size (Obj.cells #[.int .i64 p0, .int .i64 p1, .int .i64 p2, .slice pa pn pc] 44))
          have z0 := (cell_of_block (o := 0) bM).trans (show _ = some (.int .i64 0) from rfl)
          have z1 := (cell_of_block (o := 1) bM).trans (show _ = some (.int .i64 0) from rfl)
          have z2 := (cell_of_block (o := 2) bM).trans (show _ = some (.int .i64 0) from rfl)
          have z3 := (cell_of_block (o := 3) bM).trans (show _ = some (.slice none 0 0) from rfl)
          have yz := fun o => frozen_of_block (o := o) bM
          have FIN := closeO (w := w) (wF := wS.alloc (Obj.cells #[.int .i64 p0, .int .i64 p1, .int .i64 p2, .slice pa pn pc] 44)) (M := w.heap.size + 1 + 1) (lo := w.heap.size + 1 + 1 + 1) (o := (cmpo n a (.mk kb gb lb us)).map fun c => Co.mk 5 0 la [c]) (b := (cmpo n a (.mk kb gb lb us)).isSome) (by rw [Option.isSome_map]) (one_rowO (fun c hc => by obtain ⟨fp, h1, h2⟩ := hOS c hc; exact ⟨fp, h1, h2.mono (by omega)⟩) (by have := HZ0.out; have := hBS.size; omega)) (by omega) (by omega) (below_trans HB.out (hBS.alloc hBS.size (Obj.cells #[.int .i64 p0, .int .i64 p1, .int .i64 p2, .slice pa pn pc] 44)))
          rw [← HR.out] at FIN
          generalize (cmpo n a (.mk kb gb lb us)).isSome = r at *
          simp only [put4, Nat.zero_add] at FIN
          go_wp2_with fail
          exact bodyPost_ret (v := .tuple #[.agg #[.int .i64 5, .int .i64 0, .int .i64 la, .slice (some ⟨wS.heap.size, 0, none⟩) 1 1], .bool r]) (by simp [results, Try.results34, go_sem, z0, z1, z2, z3]) rfl FIN
        refine AllReadyL.cons rfl (fun K hK => ?_) AllReadyL.nil
        go_simp
        refine hK.out _ _ ?_ (fun hS4 => ?_)
        · exact ⟨trivial, fun h => absurd (h.symm.trans (show _ = true by kernel_rfl)) (by decide)⟩
        clear hK K hS3
        try simp only [Act.put, List.setIfInBounds_toArray, List.set_cons_zero, List.set_cons_succ]
        refine readyL (rs := [8]) (by kernel_rfl) (by simp) ?_
        refine AllReadyL.cons rfl (fun K hK => ?_) AllReadyL.nil
        go_simp
        refine hK.out _ _ ?_ (fun hS5 => ?_)
        · exact ⟨trivial, fun h => absurd (h.symm.trans (show _ = true by kernel_rfl)) (by decide)⟩
        clear hK K hS4
        try simp only [Act.put, List.setIfInBounds_toArray, List.set_cons_zero, List.set_cons_succ]
        refine readyL (rs := [11]) (by kernel_rfl) (by simp) ?_
        refine AllReadyL.cons rfl (fun K hK => ?_) AllReadyL.nil
        go_simp
        refine hK.out _ _ ?_ (fun hS6 => ?_)
        · exact ⟨trivial, fun h => absurd (h.symm.trans (show _ = true by kernel_rfl)) (by decide)⟩
        clear hK K hS5
        try simp only [Act.put, List.setIfInBounds_toArray, List.set_cons_zero, List.set_cons_succ]
        refine doneL (by kernel_rfl) ?_ _
        obtain ⟨wS, hW, hES, hOS, hBS⟩ := sec_allocO (W := (((w.alloc (Obj.cells #[.int .i64 5, .int .i64 ga, .int .i64 la, .slice (some ⟨bc, oc, none⟩) 1 cc] 44)).alloc (Obj.cells #[.int .i64 kb, .int .i64 gb, .int .i64 lb, .slice ab nb cb] 44)).alloc (Obj.cells #[.int .i64 0, .int .i64 0, .int .i64 0, .slice none 0 0] 44))) (lo := w.heap.size + 1 + 1 + 1) (fun c hc => by obtain ⟨fp, h1, h2⟩ := hO c hc; exact ⟨fp, h1, h2.mono (by have h3 := HZ0.out; omega)⟩) hB1
        rw [← hW]
        clear hW hO
        have s0 : wS.cell? ⟨w1.heap.size, 0, none⟩ = some (.int .i64 p0) := by rw [cell_of_block hES]; rfl
        have s1 : wS.cell? ⟨w1.heap.size, 1, none⟩ = some (.int .i64 p1) := by rw [cell_of_block hES]; rfl
        have s2 : wS.cell? ⟨w1.heap.size, 2, none⟩ = some (.int .i64 p2) := by rw [cell_of_block hES]; rfl
        have s3 : wS.cell? ⟨w1.heap.size, 3, none⟩ = some (.slice pa pn pc) := by rw [cell_of_block hES]; rfl
        have hSS := HS0.out _ hBS
        clear hES x0 x1 x2 x3 y0 y1 y2 y3 d0 d1 d2 d3
        obtain ⟨x0, x1, x2, x3, y0, y1, y2, y3, d0, d1, d2, d3⟩ := hSS
        have bM := HM.out _ (hBS.alloc hBS.size (Obj.cells #[.int .i64 p0, .int .i64 p1, .int .i64 p2, .slice pa pn pc] 44))
        have z0 := (cell_of_block (o := 0) bM).trans (show _ = some (.int .i64 0) from rfl)
        have z1 := (cell_of_block (o := 1) bM).trans (show _ = some (.int .i64 0) from rfl)
        have z2 := (cell_of_block (o := 2) bM).trans (show _ = some (.int .i64 0) from rfl)
        have z3 := (cell_of_block (o := 3) bM).trans (show _ = some (.slice none 0 0) from rfl)
        have yz := fun o => frozen_of_block (o := o) bM
        have FIN := closeO (w := w) (wF := wS.alloc (Obj.cells #[.int .i64 p0, .int .i64 p1, .int .i64 p2, .slice pa pn pc] 44)) (M := w.heap.size + 1 + 1) (lo := w.heap.size + 1 + 1 + 1) (o := (cmpo n a (.mk kb gb lb us)).map fun c => Co.mk 5 0 la [c]) (b := (cmpo n a (.mk kb gb lb us)).isSome) (by rw [Option.isSome_map]) (one_rowO (fun c hc => by obtain ⟨fp, h1, h2⟩ := hOS c hc; exact ⟨fp, h1, h2.mono (by omega)⟩) (by have := HZ0.out; have := hBS.size; omega)) (by omega) (by omega) (below_trans HB.out (hBS.alloc hBS.size (Obj.cells #[.int .i64 p0, .int .i64 p1, .int .i64 p2, .slice pa pn pc] 44)))
        rw [← HR.out] at FIN
        generalize (cmpo n a (.mk kb gb lb us)).isSome = r at *
        simp only [put4, Nat.zero_add] at FIN
        go_wp2_with fail
        exact bodyPost_ret (v := .tuple #[.agg #[.int .i64 5, .int .i64 0, .int .i64 la, .slice (some ⟨wS.heap.size, 0, none⟩) 1 1], .bool r]) (by simp [results, Try.results34, go_sem, z0, z1, z2, z3]) rfl FIN
      refine AllReadyL.cons rfl (fun K hK => ?_) ?_
      · go_simp
        refine hK.out _ _ ?_ (fun hS2 => ?_)
        · exact ⟨trivial, fun _ => HS0.out _ hB1⟩
        clear hK K hS1
        try simp only [Act.put, List.setIfInBounds_toArray, List.set_cons_zero, List.set_cons_succ]
        refine readyL (rs := [7, 9]) (by kernel_rfl) (by simp) ?_
        refine AllReadyL.cons rfl (fun K hK => ?_) ?_
        · go_simp
          refine hK.out _ _ ?_ (fun hS3 => ?_)
          · exact ⟨trivial, fun _ => HS0.out _ hB1⟩
          clear hK K hS2
          try simp only [Act.put, List.setIfInBounds_toArray, List.set_cons_zero, List.set_cons_succ]
          refine readyL (rs := [9]) (by kernel_rfl) (by simp) ?_
          refine AllReadyL.cons rfl (fun K hK => ?_) AllReadyL.nil
          go_simp
          refine hK.out _ _ ?_ (fun hS4 => ?_)
          · exact ⟨trivial, fun _ => HS0.out _ (hB1.alloc hB1.size _)⟩
          clear hK K hS3
          try simp only [Act.put, List.setIfInBounds_toArray, List.set_cons_zero, List.set_cons_succ]
          refine readyL (rs := [10]) (by kernel_rfl) (by simp) ?_
          refine AllReadyL.cons rfl (fun K hK => ?_) AllReadyL.nil
          go_simp
          refine hK.out _ _ ?_ (fun hS5 => ?_)
          · exact ⟨trivial, fun h => absurd (h.symm.trans (show _ = true by kernel_rfl)) (by decide)⟩
          clear hK K hS4
          try simp only [Act.put, List.setIfInBounds_toArray, List.set_cons_zero, List.set_cons_succ]
          refine readyL (rs := [11]) (by kernel_rfl) (by simp) ?_
          refine AllReadyL.cons rfl (fun K hK => ?_) AllReadyL.nil
          go_simp
          refine hK.out _ _ ?_ (fun hS6 => ?_)
          · exact ⟨trivial, fun h => absurd (h.symm.trans (show _ = true by kernel_rfl)) (by decide)⟩
          clear hK K hS5
          try simp only [Act.put, List.setIfInBounds_toArray, List.set_cons_zero, List.set_cons_succ]
          refine doneL (by kernel_rfl) ?_ _
          obtain ⟨wS, hW, hES, hOS, hBS⟩ := sec_allocO (W := (((w.alloc (Obj.cells #[.int .i64 5, .int .i64 ga, .int .i64 la, .slice (some ⟨bc, oc, none⟩) 1 cc] 44)).alloc (Obj.cells #[.int .i64 kb, .int .i64 gb, .int .i64 lb, .slice ab nb cb] 44)).alloc (Obj.cells #[.int .i64 0, .int .i64 0, .int .i64 0, .slice none 0 0] 44))) (lo := w.heap.size + 1 + 1 + 1) (fun c hc => by obtain ⟨fp, h1, h2⟩ := hO c hc; exact ⟨fp, h1, h2.mono (by have h3 := HZ0.out; omega)⟩) hB1
          rw [← hW]
          clear hW hO
          have s0 : wS.cell? ⟨w1.heap.size, 0, none⟩ = some (.int .i64 p0) := by rw [cell_of_block hES]; rfl
          have s1 : wS.cell? ⟨w1.heap.size, 1, none⟩ = some (.int .i64 p1) := by rw [cell_of_block hES]; rfl
          have s2 : wS.cell? ⟨w1.heap.size, 2, none⟩ = some (.int .i64 p2) := by rw [cell_of_block hES]; rfl
          have s3 : wS.cell? ⟨w1.heap.size, 3, none⟩ = some (.slice pa pn pc) := by rw [cell_of_block hES]; rfl
          have hSS := HS0.out _ hBS
          clear hES x0 x1 x2 x3 y0 y1 y2 y3 d0 d1 d2 d3
          obtain ⟨x0, x1, x2, x3, y0, y1, y2, y3, d0, d1, d2, d3⟩ := hSS
          have bM := HM.out _ (hBS.alloc hBS.size (Obj.cells #[.int .i64 p0, .int .i64 p1, .int .i64 p2, .slice pa pn pc] 44))
          have z0 := (cell_of_block (o := 0) bM).trans (show _ = some (.int .i64 0) from rfl)
          have z1 := (cell_of_block (o := 1) bM).trans (show _ = some (.int .i64 0) from rfl)
          have z2 := (cell_of_block (o := 2) bM).trans (show _ = some (.int .i64 0) from rfl)
          have z3 := (cell_of_block (o := 3) bM).trans (show _ = some (.slice none 0 0) from rfl)
          have yz := fun o => frozen_of_block (o := o) bM
          have FIN := closeO (w := w) (wF := wS.alloc (Obj.cells #[.int .i64 p0, .int .i64 p1, .int .i64 p2, .slice pa pn pc] 44)) (M := w.heap.size + 1 + 1) (lo := w.heap.size + 1 + 1 + 1) (o := (cmpo n a (.mk kb gb lb us)).map fun c => Co.mk 5 0 la [c]) (b := (cmpo n a (.mk kb gb lb us)).isSome) (by rw [Option.isSome_map]) (one_rowO (fun c hc => by obtain ⟨fp, h1, h2⟩ := hOS c hc; exact ⟨fp, h1, h2.mono (by omega)⟩) (by have := HZ0.out; have := hBS.size; omega)) (by omega) (by omega) (below_trans HB.out (hBS.alloc hBS.size (Obj.cells #[.int .i64 p0, .int .i64 p1, .int .i64 p2, .slice pa pn pc] 44)))
          rw [← HR.out] at FIN
          generalize (cmpo n a (.mk kb gb lb us)).isSome = r at *
          simp only [put4, Nat.zero_add] at FIN
          go_wp2_with fail
          exact bodyPost_ret (v := .tuple #[.agg #[.int .i64 5, .int .i64 0, .int .i64 la, .slice (some ⟨wS.heap.size, 0, none⟩) 1 1], .bool r]) (by simp [results, Try.results34, go_sem, z0, z1, z2, z3]) rfl FIN
        refine AllReadyL.cons rfl (fun K hK => ?_) AllReadyL.nil
        go_simp
        refine hK.out _ _ ?_ (fun hS3 => ?_)
        · exact ⟨trivial, fun _ => HS0.out _ (hB1.alloc hB1.size _)⟩
        clear hK K hS2
        try simp only [Act.put, List.setIfInBounds_toArray, List.set_cons_zero, List.set_cons_succ]
        refine readyL (rs := [7]) (by kernel_rfl) (by simp) ?_
        refine AllReadyL.cons rfl (fun K hK => ?_) AllReadyL.nil
        go_simp
        refine hK.out _ _ ?_ (fun hS4 => ?_)
        · exact ⟨trivial, fun _ => HS0.out _ (hB1.alloc hB1.size _)⟩
        clear hK K hS3
        try simp only [Act.put, List.setIfInBounds_toArray, List.set_cons_zero, List.set_cons_succ]
        refine readyL (rs := [10]) (by kernel_rfl) (by simp) ?_
        refine AllReadyL.cons rfl (fun K hK => ?_) AllReadyL.nil
        go_simp
        refine hK.out _ _ ?_ (fun hS5 => ?_)
        · exact ⟨trivial, fun h => absurd (h.symm.trans (show _ = true by kernel_rfl)) (by decide)⟩
        clear hK K hS4
        try simp only [Act.put, List.setIfInBounds_toArray, List.set_cons_zero, List.set_cons_succ]
        refine readyL (rs := [11]) (by kernel_rfl) (by simp) ?_
        refine AllReadyL.cons rfl (fun K hK => ?_) AllReadyL.nil
        go_simp
        refine hK.out _ _ ?_ (fun hS6 => ?_)
        · exact ⟨trivial, fun h => absurd (h.symm.trans (show _ = true by kernel_rfl)) (by decide)⟩
        clear hK K hS5
        try simp only [Act.put, List.setIfInBounds_toArray, List.set_cons_zero, List.set_cons_succ]
        refine doneL (by kernel_rfl) ?_ _
        obtain ⟨wS, hW, hES, hOS, hBS⟩ := sec_allocO (W := (((w.alloc (Obj.cells #[.int .i64 5, .int .i64 ga, .int .i64 la, .slice (some ⟨bc, oc, none⟩) 1 cc] 44)).alloc (Obj.cells #[.int .i64 kb, .int .i64 gb, .int .i64 lb, .slice ab nb cb] 44)).alloc (Obj.cells #[.int .i64 0, .int .i64 0, .int .i64 0, .slice none 0 0] 44))) (lo := w.heap.size + 1 + 1 + 1) (fun c hc => by obtain ⟨fp, h1, h2⟩ := hO c hc; exact ⟨fp, h1, h2.mono (by have h3 := HZ0.out; omega)⟩) hB1
        rw [← hW]
        clear hW hO
        have s0 : wS.cell? ⟨w1.heap.size, 0, none⟩ = some (.int .i64 p0) := by rw [cell_of_block hES]; rfl
        have s1 : wS.cell? ⟨w1.heap.size, 1, none⟩ = some (.int .i64 p1) := by rw [cell_of_block hES]; rfl
        have s2 : wS.cell? ⟨w1.heap.size, 2, none⟩ = some (.int .i64 p2) := by rw [cell_of_block hES]; rfl
        have s3 : wS.cell? ⟨w1.heap.size, 3, none⟩ = some (.slice pa pn pc) := by rw [cell_of_block hES]; rfl
        have hSS := HS0.out _ hBS
        clear hES x0 x1 x2 x3 y0 y1 y2 y3 d0 d1 d2 d3
        obtain ⟨x0, x1, x2, x3, y0, y1, y2, y3, d0, d1, d2, d3⟩ := hSS
        have bM := HM.out _ (hBS.alloc hBS.size (Obj.cells #[.int .i64 p0, .int .i64 p1, .int .i64 p2, .slice pa pn pc] 44))
        have z0 := (cell_of_block (o := 0) bM).trans (show _ = some (.int .i64 0) from rfl)
        have z1 := (cell_of_block (o := 1) bM).trans (show _ = some (.int .i64 0) from rfl)
        have z2 := (cell_of_block (o := 2) bM).trans (show _ = some (.int .i64 0) from rfl)
        have z3 := (cell_of_block (o := 3) bM).trans (show _ = some (.slice none 0 0) from rfl)
        have yz := fun o => frozen_of_block (o := o) bM
        have FIN := closeO (w := w) (wF := wS.alloc (Obj.cells #[.int .i64 p0, .int .i64 p1, .int .i64 p2, .slice pa pn pc] 44)) (M := w.heap.size + 1 + 1) (lo := w.heap.size + 1 + 1 + 1) (o := (cmpo n a (.mk kb gb lb us)).map fun c => Co.mk 5 0 la [c]) (b := (cmpo n a (.mk kb gb lb us)).isSome) (by rw [Option.isSome_map]) (one_rowO (fun c hc => by obtain ⟨fp, h1, h2⟩ := hOS c hc; exact ⟨fp, h1, h2.mono (by omega)⟩) (by have := HZ0.out; have := hBS.size; omega)) (by omega) (by omega) (below_trans HB.out (hBS.alloc hBS.size (Obj.cells #[.int .i64 p0, .int .i64 p1, .int .i64 p2, .slice pa pn pc] 44)))
        rw [← HR.out] at FIN
        generalize (cmpo n a (.mk kb gb lb us)).isSome = r at *
        simp only [put4, Nat.zero_add] at FIN
        go_wp2_with fail
        exact bodyPost_ret (v := .tuple #[.agg #[.int .i64 5, .int .i64 0, .int .i64 la, .slice (some ⟨wS.heap.size, 0, none⟩) 1 1], .bool r]) (by simp [results, Try.results34, go_sem, z0, z1, z2, z3]) rfl FIN
      refine AllReadyL.cons rfl (fun K hK => ?_) AllReadyL.nil
      go_simp
      refine hK.out _ _ ?_ (fun hS2 => ?_)
      · exact ⟨trivial, fun _ => HS0.out _ (hB1.alloc hB1.size _)⟩
      clear hK K hS1
      try simp only [Act.put, List.setIfInBounds_toArray, List.set_cons_zero, List.set_cons_succ]
      refine readyL (rs := [7, 8]) (by kernel_rfl) (by simp) ?_
      refine AllReadyL.cons rfl (fun K hK => ?_) ?_
      · go_simp
        refine hK.out _ _ ?_ (fun hS3 => ?_)
        · exact ⟨trivial, fun _ => HS0.out _ (hB1.alloc hB1.size _)⟩
        clear hK K hS2
        try simp only [Act.put, List.setIfInBounds_toArray, List.set_cons_zero, List.set_cons_succ]
        refine readyL (rs := [8, 10]) (by kernel_rfl) (by simp) ?_
        refine AllReadyL.cons rfl (fun K hK => ?_) ?_
        · go_simp
          refine hK.out _ _ ?_ (fun hS4 => ?_)
          · exact ⟨trivial, fun _ => HS0.out _ (hB1.alloc hB1.size _)⟩
          clear hK K hS3
          try simp only [Act.put, List.setIfInBounds_toArray, List.set_cons_zero, List.set_cons_succ]
          refine readyL (rs := [10]) (by kernel_rfl) (by simp) ?_
          refine AllReadyL.cons rfl (fun K hK => ?_) AllReadyL.nil
          go_simp
          refine hK.out _ _ ?_ (fun hS5 => ?_)
          · exact ⟨trivial, fun h => absurd (h.symm.trans (show _ = true by kernel_rfl)) (by decide)⟩
          clear hK K hS4
          try simp only [Act.put, List.setIfInBounds_toArray, List.set_cons_zero, List.set_cons_succ]
          refine readyL (rs := [11]) (by kernel_rfl) (by simp) ?_
          refine AllReadyL.cons rfl (fun K hK => ?_) AllReadyL.nil
          go_simp
          refine hK.out _ _ ?_ (fun hS6 => ?_)
          · exact ⟨trivial, fun h => absurd (h.symm.trans (show _ = true by kernel_rfl)) (by decide)⟩
          clear hK K hS5
          try simp only [Act.put, List.setIfInBounds_toArray, List.set_cons_zero, List.set_cons_succ]
          refine doneL (by kernel_rfl) ?_ _
          obtain ⟨wS, hW, hES, hOS, hBS⟩ := sec_allocO (W := (((w.alloc (Obj.cells #[.int .i64 5, .int .i64 ga, .int .i64 la, .slice (some ⟨bc, oc, none⟩) 1 cc] 44)).alloc (Obj.cells #[.int .i64 kb, .int .i64 gb, .int .i64 lb, .slice ab nb cb] 44)).alloc (Obj.cells #[.int .i64 0, .int .i64 0, .int .i64 0, .slice none 0 0] 44))) (lo := w.heap.size + 1 + 1 + 1) (fun c hc => by obtain ⟨fp, h1, h2⟩ := hO c hc; exact ⟨fp, h1, h2.mono (by have h3 := HZ0.out; omega)⟩) hB1
          rw [← hW]
          clear hW hO
          have s0 : wS.cell? ⟨w1.heap.size, 0, none⟩ = some (.int .i64 p0) := by rw [cell_of_block hES]; rfl
          have s1 : wS.cell? ⟨w1.heap.size, 1, none⟩ = some (.int .i64 p1) := by rw [cell_of_block hES]; rfl
          have s2 : wS.cell? ⟨w1.heap.size, 2, none⟩ = some (.int .i64 p2) := by rw [cell_of_block hES]; rfl
          have s3 : wS.cell? ⟨w1.heap.size, 3, none⟩ = some (.slice pa pn pc) := by rw [cell_of_block hES]; rfl
          have hSS := HS0.out _ hBS
          clear hES x0 x1 x2 x3 y0 y1 y2 y3 d0 d1 d2 d3
          obtain ⟨x0, x1, x2, x3, y0, y1, y2, y3, d0, d1, d2, d3⟩ := hSS
          have bM := HM.out _ (hBS.alloc hBS.size (Obj.cells #[.int .i64 p0, .int .i64 p1, .int .i64 p2, .slice pa pn pc] 44))
          have z0 := (cell_of_block (o := 0) bM).trans (show _ = some (.int .i64 0) from rfl)
          have z1 := (cell_of_block (o := 1) bM).trans (show _ = some (.int .i64 0) from rfl)
          have z2 := (cell_of_block (o := 2) bM).trans (show _ = some (.int .i64 0) from rfl)
          have z3 := (cell_of_block (o := 3) bM).trans (show _ = some (.slice none 0 0) from rfl)
          have yz := fun o => frozen_of_block (o := o) bM
          have FIN := closeO (w := w) (wF := wS.alloc (Obj.cells #[.int .i64 p0, .int .i64 p1, .int .i64 p2, .slice pa pn pc] 44)) (M := w.heap.size + 1 + 1) (lo := w.heap.size + 1 + 1 + 1) (o := (cmpo n a (.mk kb gb lb us)).map fun c => Co.mk 5 0 la [c]) (b := (cmpo n a (.mk kb gb lb us)).isSome) (by rw [Option.isSome_map]) (one_rowO (fun c hc => by obtain ⟨fp, h1, h2⟩ := hOS c hc; exact ⟨fp, h1, h2.mono (by omega)⟩) (by have := HZ0.out; have := hBS.size; omega)) (by omega) (by omega) (below_trans HB.out (hBS.alloc hBS.size (Obj.cells #[.int .i64 p0, .int .i64 p1, .int .i64 p2, .slice pa pn pc] 44)))
          rw [← HR.out] at FIN
          generalize (cmpo n a (.mk kb gb lb us)).isSome = r at *
          simp only [put4, Nat.zero_add] at FIN
          go_wp2_with fail
          exact bodyPost_ret (v := .tuple #[.agg #[.int .i64 5, .int .i64 0, .int .i64 la, .slice (some ⟨wS.heap.size, 0, none⟩) 1 1], .bool r]) (by simp [results, Try.results34, go_sem, z0, z1, z2, z3]) rfl FIN
        refine AllReadyL.cons rfl (fun K hK => ?_) AllReadyL.nil
        go_simp
        refine hK.out _ _ ?_ (fun hS4 => ?_)
        · exact ⟨trivial, fun h => absurd (h.symm.trans (show _ = true by kernel_rfl)) (by decide)⟩
        clear hK K hS3
        try simp only [Act.put, List.setIfInBounds_toArray, List.set_cons_zero, List.set_cons_succ]
        refine readyL (rs := [8]) (by kernel_rfl) (by simp) ?_
        refine AllReadyL.cons rfl (fun K hK => ?_) AllReadyL.nil
        go_simp
        refine hK.out _ _ ?_ (fun hS5 => ?_)
        · exact ⟨trivial, fun h => absurd (h.symm.trans (show _ = true by kernel_rfl)) (by decide)⟩
        clear hK K hS4
        try simp only [Act.put, List.setIfInBounds_toArray, List.set_cons_zero, List.set_cons_succ]
        refine readyL (rs := [11]) (by kernel_rfl) (by simp) ?_
        refine AllReadyL.cons rfl (fun K hK => ?_) AllReadyL.nil
        go_simp
        refine hK.out _ _ ?_ (fun hS6 => ?_)
        · exact ⟨trivial, fun h => absurd (h.symm.trans (show _ = true by kernel_rfl)) (by decide)⟩
        clear hK K hS5
        try simp only [Act.put, List.setIfInBounds_toArray, List.set_cons_zero, List.set_cons_succ]
        refine doneL (by kernel_rfl) ?_ _
        obtain ⟨wS, hW, hES, hOS, hBS⟩ := sec_allocO (W := (((w.alloc (Obj.cells #[.int .i64 5, .int .i64 ga, .int .i64 la, .slice (some ⟨bc, oc, none⟩) 1 cc] 44)).alloc (Obj.cells #[.int .i64 kb, .int .i64 gb, .int .i64 lb, .slice ab nb cb] 44)).alloc (Obj.cells #[.int .i64 0, .int .i64 0, .int .i64 0, .slice none 0 0] 44))) (lo := w.heap.size + 1 + 1 + 1) (fun c hc => by obtain ⟨fp, h1, h2⟩ := hO c hc; exact ⟨fp, h1, h2.mono (by have h3 := HZ0.out; omega)⟩) hB1
        rw [← hW]
        clear hW hO
        have s0 : wS.cell? ⟨w1.heap.size, 0, none⟩ = some (.int .i64 p0) := by rw [cell_of_block hES]; rfl
        have s1 : wS.cell? ⟨w1.heap.size, 1, none⟩ = some (.int .i64 p1) := by rw [cell_of_block hES]; rfl
        have s2 : wS.cell? ⟨w1.heap.size, 2, none⟩ = some (.int .i64 p2) := by rw [cell_of_block hES]; rfl
        have s3 : wS.cell? ⟨w1.heap.size, 3, none⟩ = some (.slice pa pn pc) := by rw [cell_of_block hES]; rfl
        have hSS := HS0.out _ hBS
        clear hES x0 x1 x2 x3 y0 y1 y2 y3 d0 d1 d2 d3
        obtain ⟨x0, x1, x2, x3, y0, y1, y2, y3, d0, d1, d2, d3⟩ := hSS
        have bM := HM.out _ (hBS.alloc hBS.size (Obj.cells #[.int .i64 p0, .int .i64 p1, .int .i64 p2, .slice pa pn pc] 44))
        have z0 := (cell_of_block (o := 0) bM).trans (show _ = some (.int .i64 0) from rfl)
        have z1 := (cell_of_block (o := 1) bM).trans (show _ = some (.int .i64 0) from rfl)
        have z2 := (cell_of_block (o := 2) bM).trans (show _ = some (.int .i64 0) from rfl)
        have z3 := (cell_of_block (o := 3) bM).trans (show _ = some (.slice none 0 0) from rfl)
        have yz := fun o => frozen_of_block (o := o) bM
        have FIN := closeO (w := w) (wF := wS.alloc (Obj.cells #[.int .i64 p0, .int .i64 p1, .int .i64 p2, .slice pa pn pc] 44)) (M := w.heap.size + 1 + 1) (lo := w.heap.size + 1 + 1 + 1) (o := (cmpo n a (.mk kb gb lb us)).map fun c => Co.mk 5 0 la [c]) (b := (cmpo n a (.mk kb gb lb us)).isSome) (by rw [Option.isSome_map]) (one_rowO (fun c hc => by obtain ⟨fp, h1, h2⟩ := hOS c hc; exact ⟨fp, h1, h2.mono (by omega)⟩) (by have := HZ0.out; have := hBS.size; omega)) (by omega) (by omega) (below_trans HB.out (hBS.alloc hBS.size (Obj.cells #[.int .i64 p0, .int .i64 p1, .int .i64 p2, .slice pa pn pc] 44)))
        rw [← HR.out] at FIN
        generalize (cmpo n a (.mk kb gb lb us)).isSome = r at *
        simp only [put4, Nat.zero_add] at FIN
        go_wp2_with fail
        exact bodyPost_ret (v := .tuple #[.agg #[.int .i64 5, .int .i64 0, .int .i64 la, .slice (some ⟨wS.heap.size, 0, none⟩) 1 1], .bool r]) (by simp [results, Try.results34, go_sem, z0, z1, z2, z3]) rfl FIN
      refine AllReadyL.cons rfl (fun K hK => ?_) AllReadyL.nil
      go_simp
      refine hK.out _ _ ?_ (fun hS3 => ?_)
      · exact ⟨trivial, fun _ => HS0.out _ (hB1.alloc hB1.size _)⟩
      clear hK K hS2
      try simp only [Act.put, List.setIfInBounds_toArray, List.set_cons_zero, List.set_cons_succ]
      refine readyL (rs := [7]) (by kernel_rfl) (by simp) ?_
      refine AllReadyL.cons rfl (fun K hK => ?_) AllReadyL.nil
      go_simp
      refine hK.out _ _ ?_ (fun hS4 => ?_)
      · exact ⟨trivial, fun _ => HS0.out _ (hB1.alloc hB1.size _)⟩
      clear hK K hS3
      try simp only [Act.put, List.setIfInBounds_toArray, List.set_cons_zero, List.set_cons_succ]
      refine readyL (rs := [10]) (by kernel_rfl) (by simp) ?_
      refine AllReadyL.cons rfl (fun K hK => ?_) AllReadyL.nil
      go_simp
      refine hK.out _ _ ?_ (fun hS5 => ?_)
      · exact ⟨trivial, fun h => absurd (h.symm.trans (show _ = true by kernel_rfl)) (by decide)⟩
      clear hK K hS4
      try simp only [Act.put, List.setIfInBounds_toArray, List.set_cons_zero, List.set_cons_succ]
      refine readyL (rs := [11]) (by kernel_rfl) (by simp) ?_
      refine AllReadyL.cons rfl (fun K hK => ?_) AllReadyL.nil
      go_simp
      refine hK.out _ _ ?_ (fun hS6 => ?_)
      · exact ⟨trivial, fun h => absurd (h.symm.trans (show _ = true by kernel_rfl)) (by decide)⟩
      clear hK K hS5
      try simp only [Act.put, List.setIfInBounds_toArray, List.set_cons_zero, List.set_cons_succ]
      refine doneL (by kernel_rfl) ?_ _
      obtain ⟨wS, hW, hES, hOS, hBS⟩ := sec_allocO (W := (((w.alloc (Obj.cells #[.int .i64 5, .int .i64 ga, .int .i64 la, .slice (some ⟨bc, oc, none⟩) 1 cc] 44)).alloc (Obj.cells #[.int .i64 kb, .int .i64 gb, .int .i64 lb, .slice ab nb cb] 44)).alloc (Obj.cells #[.int .i64 0, .int .i64 0, .int .i64 0, .slice none 0 0] 44))) (lo := w.heap.size + 1 + 1 + 1) (fun c hc => by obtain ⟨fp, h1, h2⟩ := hO c hc; exact ⟨fp, h1, h2.mono (by have h3 := HZ0.out; omega)⟩) hB1
      rw [← hW]
      clear hW hO
      have s0 : wS.cell? ⟨w1.heap.size, 0, none⟩ = some (.int .i64 p0) := by rw [cell_of_block hES]; rfl
      have s1 : wS.cell? ⟨w1.heap.size, 1, none⟩ = some (.int .i64 p1) := by rw [cell_of_block hES]; rfl
      have s2 : wS.cell? ⟨w1.heap.size, 2, none⟩ = some (.int .i64 p2) := by rw [cell_of_block hES]; rfl
      have s3 : wS.cell? ⟨w1.heap.size, 3, none⟩ = some (.slice pa pn pc) := by rw [cell_of_block hES]; rfl
      have hSS := HS0.out _ hBS
      clear hES x0 x1 x2 x3 y0 y1 y2 y3 d0 d1 d2 d3
      obtain ⟨x0, x1, x2, x3, y0, y1, y2, y3, d0, d1, d2, d3⟩ := hSS
      have bM := HM.out _ (hBS.alloc hBS.size (Obj.cells #[.int .i64 p0, .int .i64 p1, .int .i64 p2, .slice pa pn pc] 44))
      have z0 := (cell_of_block (o := 0) bM).trans (show _ = some (.int .i64 0) from rfl)
      have z1 := (cell_of_block (o := 1) bM).trans (show _ = some (.int .i64 0) from rfl)
      have z2 := (cell_of_block (o := 2) bM).trans (show _ = some (.int .i64 0) from rfl)
      have z3 := (cell_of_block (o := 3) bM).trans (show _ = some (.slice none 0 0) from rfl)
      have yz := fun o => frozen_of_block (o := o) bM
      have FIN := closeO (w := w) (wF := wS.alloc (Obj.cells #[.int .i64 p0, .int .i64 p1, .int .i64 p2, .slice pa pn pc] 44)) (M := w.heap.size + 1 + 1) (lo := w.heap.size + 1 + 1 + 1) (o := (cmpo n a (.mk kb gb lb us)).map fun c => Co.mk 5 0 la [c]) (b := (cmpo n a (.mk kb gb lb us)).isSome) (by rw [Option.isSome_map]) (one_rowO (fun c hc => by obtain ⟨fp, h1, h2⟩ := hOS c hc; exact ⟨fp, h1, h2.mono (by omega)⟩) (by have := HZ0.out; have := hBS.size; omega)) (by omega) (by omega) (below_trans HB.out (hBS.alloc hBS.size (Obj.cells #[.int .i64 p0, .int .i64 p1, .int .i64 p2, .slice pa pn pc] 44)))
      rw [← HR.out] at FIN
      generalize (cmpo n a (.mk kb gb lb us)).isSome = r at *
      simp only [put4, Nat.zero_add] at FIN
      go_wp2_with fail
      exact bodyPost_ret (v := .tuple #[.agg #[.int .i64 5, .int .i64 0, .int .i64 la, .slice (some ⟨wS.heap.size, 0, none⟩) 1 1], .bool r]) (by simp [results, Try.results34, go_sem, z0, z1, z2, z3]) rfl FIN
    refine AllReadyL.cons rfl (fun K hK => ?_) AllReadyL.nil
    go_simp
    refine hK.out _ _ ?_ (fun hS1 => ?_)
    · exact ⟨trivial, fun _ => HS0.out _ ((below_drew _).alloc (by simp) _)⟩
    clear hK K hS0
    try simp only [Act.put, List.setIfInBounds_toArray, List.set_cons_zero, List.set_cons_succ]
    refine readyL (rs := [5]) (by kernel_rfl) (by simp) ?_
    refine AllReadyL.cons rfl (fun K hK => ?_) AllReadyL.nil
    go_simp
    refine (cm_from HIH.out (W0 := (((w.alloc (Obj.cells #[.int .i64 5, .int .i64 ga, .int .i64 la, .slice (some ⟨bc, oc, none⟩) 1 cc] 44)).alloc (Obj.cells #[.int .i64 kb, .int .i64 gb, .int .i64 lb, .slice ab nb cb] 44)).alloc (Obj.cells #[.int .i64 0, .int .i64 0, .int .i64 0, .slice none 0 0] 44))) (((Below.refl ((((w.alloc (Obj.cells #[.int .i64 5, .int .i64 ga, .int .i64 la, .slice (some ⟨bc, oc, none⟩) 1 cc] 44)).alloc (Obj.cells #[.int .i64 kb, .int .i64 gb, .int .i64 lb, .slice ab nb cb] 44)).alloc (Obj.cells #[.int .i64 0, .int .i64 0, .int .i64 0, .slice none 0 0] 44))).heap.size (((w.alloc (Obj.cells #[.int .i64 5, .int .i64 ga, .int .i64 la, .slice (some ⟨bc, oc, none⟩) 1 cc] 44)).alloc (Obj.cells #[.int .i64 kb, .int .i64 gb, .int .i64 lb, .slice ab nb cb] 44)).alloc (Obj.cells #[.int .i64 0, .int .i64 0, .int .i64 0, .slice none 0 0] 44))).alloc (Nat.le_refl _) (Obj.cells #[.int .i64 0, .int .i64 0, .int .i64 0, .slice none 0 0] 44)).drew) HP.out.1 hd1 hd2 HP.out.2.1 HP.out.2.2 H.out.1 H.out.2).mono ?_
    rintro e w1 ⟨⟨p0, p1, p2, pa, pn, pc, rfl, hb1, hO⟩, hU⟩
    have hB1 := below_trans hU hb1
    have hU1 := hU.size
    refine hK.out _ _ ?_ (fun hS2 => ?_)
    · exact ⟨trivial, fun _ => HS0.out _ hB1⟩
    clear hK K hS1
    try simp only [Act.put, List.setIfInBounds_toArray, List.set_cons_zero, List.set_cons_succ]
    refine takeL0 (i := 6) (v := ?vb7) rfl rfl (by kernel_rfl) (by kernel_rfl) (by kernel_rfl) (by decide) (by kernel_rfl) (by kernel_rfl) (fun _ _ _ h => h) (Or.inl ⟨by rfl, ?hyb7⟩) (by assumption) ?_
    case hyb7 => (intro w hSw; (try dsimp only at hSw); go_simp; (try with_reducible rfl))
    try simp only [Act.put, List.setIfInBounds_toArray, List.set_cons_zero, List.set_cons_succ]
    refine readyL (rs := [7, 8]) (by kernel_rfl) (by simp) ?_
    refine AllReadyL.cons rfl (fun K hK => ?_) ?_
    · go_simp
      refine hK.out _ _ ?_ (fun hS3 => ?_)
      · exact ⟨trivial, fun _ => HS0.out _ hB1⟩
      clear hK K hS2
      try simp only [Act.put, List.setIfInBounds_toArray, List.set_cons_zero, List.set_cons_succ]
      refine readyL (rs := [8, 10]) (by kernel_rfl) (by simp) ?_
      refine AllReadyL.cons rfl (fun K hK => ?_) ?_
      · go_simp
        refine hK.out _ _ ?_ (fun hS4 => ?_)
        · exact ⟨trivial, fun _ => HS0.out _ hB1⟩
        clear hK K hS3
        try simp only [Act.put, List.setIfInBounds_toArray, List.set_cons_zero, List.set_cons_succ]
        refine readyL (rs := [10]) (by kernel_rfl) (by simp) ?_
        refine AllReadyL.cons rfl (fun K hK => ?_) AllReadyL.nil
        have hE0 := alloc_new ((((w.alloc (Obj.cells #[.int .i64 5, .int .i64 ga, .int .i64 la, .slice (some ⟨bc, oc, none⟩) 1 cc] 44)).alloc (Obj.cells #[.int .i64 kb, .int .i64 gb, .int .i64 lb, .slice ab nb cb] 44)).alloc (Obj.cells #[.int .i64 0, .int .i64 0, .int .i64 0, .slice none 0 0] 44))) (Obj.cells #[.int .i64 0, .int .i64 0, .int .i64 0, .slice none 0 0] 44)
        rw [HZ0.out] at hE0
        have hE1 := (hb1.block _ (lt_of_block hE0)).trans hE0
        have bM := hE1
        have z0 := (cell_of_block (o := 0) bM).trans (show _ = some (.int .i64 0) from rfl)
        have z1 := (cell_of_block (o := 1) bM).trans (show _ = some (.int .i64 0) from rfl)
        have z2 := (cell_of_block (o := 2) bM).trans (show _ = some (.int .i64 0) from rfl)
        have z3 := (cell_of_block (o := 3) bM).trans (show _ = some (.slice none 0 0) from rfl)
        have yz := fun o => frozen_of_block (o := o) bM
        go_simp
        clear z0 z1 z2 z3 yz bM
        refine hK.out _ _ ?_ (fun hS5 => ?_)
        · exact ⟨trivial, fun h => absurd (h.symm.trans (show _ = true by kernel_rfl)) (by decide)⟩
        clear hK K hS4
        try simp only [Act.put, List.setIfInBounds_toArray, List.set_cons_zero, List.set_cons_succ]
        refine readyL (rs := [11]) (by kernel_rfl) (by simp) ?_
        refine AllReadyL.cons rfl (fun K hK => ?_) AllReadyL.nil
        go_simp
        refine hK.out _ _ ?_ (fun hS6 => ?_)
        · exact ⟨trivial, fun h => absurd (h.symm.trans (show _ = true by kernel_rfl)) (by decide)⟩
        clear hK K hS5
        try simp only [Act.put, List.setIfInBounds_toArray, List.set_cons_zero, List.set_cons_succ]
        refine doneL (by kernel_rfl) ?_ _
        obtain ⟨wS, hW, hES, hOS, hBS⟩ := sec_closeO (W := (((w.alloc (Obj.cells #[.int .i64 5, .int .i64 ga, .int .i64 la, .slice (some ⟨bc, oc, none⟩) 1 cc] 44)).alloc (Obj.cells #[.int .i64 kb, .int .i64 gb, .int .i64 lb, .slice ab nb cb] 44)).alloc (Obj.cells #[.int .i64 0, .int .i64 0, .int .i64 0, .slice none 0 0] 44))) (lo := w.heap.size + 1 + 1 + 1 + 1) hE1 (fun c hc => by obtain ⟨fp, h1, h2⟩ := hO c hc; exact ⟨fp, h1, h2.mono (by have h3 := HZ0.out; simp [World.drew] at hU1 ⊢; try omega)⟩) (by omega) (by have := HZ0.out; omega) hB1
        simp only [put4, Nat.zero_add] at hW
        rw [← hW]
        clear hW hO
        have s0 : wS.cell? ⟨w.heap.size + 1 + 1 + 1, 0, none⟩ = some (.int .i64 p0) := by rw [cell_of_block hES]; rfl
        have s1 : wS.cell? ⟨w.heap.size + 1 + 1 + 1, 1, none⟩ = some (.int .i64 p1) := by rw [cell_of_block hES]; rfl
        have s2 : wS.cell? ⟨w.heap.size + 1 + 1 + 1, 2, none⟩ = some (.int .i64 p2) := by rw [cell_of_block hES]; rfl
        have s3 : wS.cell? ⟨w.heap.size + 1 + 1 + 1, 3, none⟩ = some (.slice pa pn pc) := by rw [cell_of_block hES]; rfl
        have hSS := HS0.out _ hBS
        clear hES x0 x1 x2 x3 y0 y1 y2 y3 d0 d1 d2 d3
        obtain ⟨x0, x1, x2, x3, y0, y1, y2, y3, d0, d1, d2, d3⟩ := hSS
        have bM := HM.out _ (hBS.alloc hBS.size (Obj.cells #[.int .i64 p0, .int .i64 p1, .int .i64 p2, .slice pa pn pc] 44))
        have z0 := (cell_of_block (o := 0) bM).trans (show _ = some (.int .i64 0) from rfl)
        have z1 := (cell_of_block (o := 1) bM).trans (show _ = some (.int .i64 0) from rfl)
        have z2 := (cell_of_block (o := 2) bM).trans (show _ = some (.int .i64 0) from rfl)
        have z3 := (cell_of_block (o := 3) bM).trans (show _ = some (.slice none 0 0) from rfl)
        have yz := fun o => frozen_of_block (o := o) bM
        have FIN := closeO (w := w) (wF := wS.alloc (Obj.cells #[.int .i64 p0, .int .i64 p1, .int .i64 p2, .slice pa pn pc] 44)) (M := w.heap.size + 1 + 1) (lo := w.heap.size + 1 + 1 + 1) (o := (cmpo n a (.mk kb gb lb us)).map fun c => Co.mk 5 0 la [c]) (b := (cmpo n a (.mk kb gb lb us)).isSome) (by rw [Option.isSome_map]) (one_rowO (fun c hc => by obtain ⟨fp, h1, h2⟩ := hOS c hc; exact ⟨fp, h1, h2.mono (by omega)⟩) (by have := HZ0.out; have := hBS.size; omega)) (by omega) (by omega) (below_trans HB.out (hBS.alloc hBS.size (Obj.cells #[.int .i64 p0, .int .i64 p1, .int .i64 p2, .slice pa pn pc] 44)))
        rw [← HR.out] at FIN
        generalize (cmpo n a (.mk kb gb lb us)).isSome = r at *
        simp only [put4, Nat.zero_add] at FIN
        go_wp2_with fail
        exact bodyPost_ret (v := .tuple #[.agg #[.int .i64 5, .int .i64 0, .int .i64 la, .slice (some ⟨wS.heap.size, 0, none⟩) 1 1], .bool r]) (by simp [results, Try.results34, go_sem, z0, z1, z2, z3]) rfl FIN
      refine AllReadyL.cons rfl (fun K hK => ?_) AllReadyL.nil
      have hE0 := alloc_new ((((w.alloc (Obj.cells #[.int .i64 5, .int .i64 ga, .int .i64 la, .slice (some ⟨bc, oc, none⟩) 1 cc] 44)).alloc (Obj.cells #[.int .i64 kb, .int .i64 gb, .int .i64 lb, .slice ab nb cb] 44)).alloc (Obj.cells #[.int .i64 0, .int .i64 0, .int .i64 0, .slice none 0 0] 44))) (Obj.cells #[.int .i64 0, .int .i64 0, .int .i64 0, .slice none 0 0] 44)
      rw [HZ0.out] at hE0
      have hE1 := (hb1.block _ (lt_of_block hE0)).trans hE0
      have bM := hE1
      have z0 := (cell_of_block (o := 0) bM).trans (show _ = some (.int .i64 0) from rfl)
      have z1 := (cell_of_block (o := 1) bM).trans (show _ = some (.int .i64 0) from rfl)
      have z2 := (cell_of_block (o := 2) bM).trans (show _ = some (.int .i64 0) from rfl)
      have z3 := (cell_of_block (o := 3) bM).trans (show _ = some (.slice none 0 0) from rfl)
      have yz := fun o => frozen_of_block (o := o) bM
      go_simp
      clear z0 z1 z2 z3 yz bM
      refine hK.out _ _ ?_ (fun hS4 => ?_)
      · exact ⟨trivial, fun h => absurd (h.symm.trans (show _ = true by kernel_rfl)) (by decide)⟩
      clear hK K hS3
      try simp only [Act.put, List.setIfInBounds_toArray, List.set_cons_zero, List.set_cons_succ]
      refine readyL (rs := [8]) (by kernel_rfl) (by simp) ?_
      refine AllReadyL.cons rfl (fun K hK => ?_) AllReadyL.nil
      go_simp
      refine hK.out _ _ ?_ (fun hS5 => ?_)
      · exact ⟨trivial, fun h => absurd (h.symm.trans (show _ = true by kernel_rfl)) (by decide)⟩
      clear hK K hS4
      try simp only [Act.put, List.setIfInBounds_toArray, List.set_cons_zero, List.set_cons_succ]
      refine readyL (rs := [11]) (by kernel_rfl) (by simp) ?_
      refine AllReadyL.cons rfl (fun K hK => ?_) AllReadyL.nil
      go_simp
      refine hK.out _ _ ?_ (fun hS6 => ?_)
      · exact ⟨trivial, fun h => absurd (h.symm.trans (show _ = true by kernel_rfl)) (by decide)⟩
      clear hK K hS5
      try simp only [Act.put, List.setIfInBounds_toArray, List.set_cons_zero, List.set_cons_succ]
      refine doneL (by kernel_rfl) ?_ _
      obtain ⟨wS, hW, hES, hOS, hBS⟩ := sec_closeO (W := (((w.alloc (Obj.cells #[.int .i64 5, .int .i64 ga, .int .i64 la, .slice (some ⟨bc, oc, none⟩) 1 cc] 44)).alloc (Obj.cells #[.int .i64 kb, .int .i64 gb, .int .i64 lb, .slice ab nb cb] 44)).alloc (Obj.cells #[.int .i64 0, .int .i64 0, .int .i64 0, .slice none 0 0] 44))) (lo := w.heap.size + 1 + 1 + 1 + 1) hE1 (fun c hc => by obtain ⟨fp, h1, h2⟩ := hO c hc; exact ⟨fp, h1, h2.mono (by have h3 := HZ0.out; simp [World.drew] at hU1 ⊢; try omega)⟩) (by omega) (by have := HZ0.out; omega) hB1
      simp only [put4, Nat.zero_add] at hW
      rw [← hW]
      clear hW hO
      have s0 : wS.cell? ⟨w.heap.size + 1 + 1 + 1, 0, none⟩ = some (.int .i64 p0) := by rw [cell_of_block hES]; rfl
      have s1 : wS.cell? ⟨w.heap.size + 1 + 1 + 1, 1, none⟩ = some (.int .i64 p1) := by rw [cell_of_block hES]; rfl
      have s2 : wS.cell? ⟨w.heap.size + 1 + 1 + 1, 2, none⟩ = some (.int .i64 p2) := by rw [cell_of_block hES]; rfl
      have s3 : wS.cell? ⟨w.heap.size + 1 + 1 + 1, 3, none⟩ = some (.slice pa pn pc) := by rw [cell_of_block hES]; rfl
      have hSS := HS0.out _ hBS
      clear hES x0 x1 x2 x3 y0 y1 y2 y3 d0 d1 d2 d3
      obtain ⟨x0, x1, x2, x3, y0, y1, y2, y3, d0, d1, d2, d3⟩ := hSS
      have bM := HM.out _ (hBS.alloc hBS.size (Obj.cells #[.int .i64 p0, .int .i64 p1, .int .i64 p2, .slice pa pn pc] 44))
      have z0 := (cell_of_block (o := 0) bM).trans (show _ = some (.int .i64 0) from rfl)
      have z1 := (cell_of_block (o := 1) bM).trans (show _ = some (.int .i64 0) from rfl)
      have z2 := (cell_of_block (o := 2) bM).trans (show _ = some (.int .i64 0) from rfl)
      have z3 := (cell_of_block (o := 3) bM).trans (show _ = some (.slice none 0 0) from rfl)
      have yz := fun o => frozen_of_block (o := o) bM
      have FIN := closeO (w := w) (wF := wS.alloc (Obj.cells #[.int .i64 p0, .int .i64 p1, .int .i64 p2, .slice pa pn pc] 44)) (M := w.heap.size + 1 + 1) (lo := w.heap.size + 1 + 1 + 1) (o := (cmpo n a (.mk kb gb lb us)).map fun c => Co.mk 5 0 la [c]) (b := (cmpo n a (.mk kb gb lb us)).isSome) (by rw [Option.isSome_map]) (one_rowO (fun c hc => by obtain ⟨fp, h1, h2⟩ := hOS c hc; exact ⟨fp, h1, h2.mono (by omega)⟩) (by have := HZ0.out; have := hBS.size; omega)) (by omega) (by omega) (below_trans HB.out (hBS.alloc hBS.size (Obj.cells #[.int .i64 p0, .int .i64 p1, .int .i64 p2, .slice pa pn pc] 44)))
      rw [← HR.out] at FIN
      generalize (cmpo n a (.mk kb gb lb us)).isSome = r at *
      simp only [put4, Nat.zero_add] at FIN
      go_wp2_with fail
      exact bodyPost_ret (v := .tuple #[.agg #[.int .i64 5, .int .i64 0, .int .i64 la, .slice (some ⟨wS.heap.size, 0, none⟩) 1 1], .bool r]) (by simp [results, Try.results34, go_sem, z0, z1, z2, z3]) rfl FIN
    refine AllReadyL.cons rfl (fun K hK => ?_) AllReadyL.nil
    go_simp
    refine hK.out _ _ ?_ (fun hS3 => ?_)
    · exact ⟨trivial, fun _ => HS0.out _ hB1⟩
    clear hK K hS2
    try simp only [Act.put, List.setIfInBounds_toArray, List.set_cons_zero, List.set_cons_succ]
    refine readyL (rs := [7]) (by kernel_rfl) (by simp) ?_
    refine AllReadyL.cons rfl (fun K hK => ?_) AllReadyL.nil
    go_simp
    refine hK.out _ _ ?_ (fun hS4 => ?_)
    · exact ⟨trivial, fun _ => HS0.out _ hB1⟩
    clear hK K hS3
    try simp only [Act.put, List.setIfInBounds_toArray, List.set_cons_zero, List.set_cons_succ]
    refine readyL (rs := [10]) (by kernel_rfl) (by simp) ?_
    refine AllReadyL.cons rfl (fun K hK => ?_) AllReadyL.nil
    have hE0 := alloc_new ((((w.alloc (Obj.cells #[.int .i64 5, .int .i64 ga, .int .i64 la, .slice (some ⟨bc, oc, none⟩) 1 cc] 44)).alloc (Obj.cells #[.int .i64 kb, .int .i64 gb, .int .i64 lb, .slice ab nb cb] 44)).alloc (Obj.cells #[.int .i64 0, .int .i64 0, .int .i64 0, .slice none 0 0] 44))) (Obj.cells #[.int .i64 0, .int .i64 0, .int .i64 0, .slice none 0 0] 44)
    rw [HZ0.out] at hE0
    have hE1 := (hb1.block _ (lt_of_block hE0)).trans hE0
    have bM := hE1
    have z0 := (cell_of_block (o := 0) bM).trans (show _ = some (.int .i64 0) from rfl)
    have z1 := (cell_of_block (o := 1) bM).trans (show _ = some (.int .i64 0) from rfl)
    have z2 := (cell_of_block (o := 2) bM).trans (show _ = some (.int .i64 0) from rfl)
    have z3 := (cell_of_block (o := 3) bM).trans (show _ = some (.slice none 0 0) from rfl)
    have yz := fun o => frozen_of_block (o := o) bM
    go_simp
    clear z0 z1 z2 z3 yz bM
    refine hK.out _ _ ?_ (fun hS5 => ?_)
    · exact ⟨trivial, fun h => absurd (h.symm.trans (show _ = true by kernel_rfl)) (by decide)⟩
    clear hK K hS4
    try simp only [Act.put, List.setIfInBounds_toArray, List.set_cons_zero, List.set_cons_succ]
    refine readyL (rs := [11]) (by kernel_rfl) (by simp) ?_
    refine AllReadyL.cons rfl (fun K hK => ?_) AllReadyL.nil
    go_simp
    refine hK.out _ _ ?_ (fun hS6 => ?_)
    · exact ⟨trivial, fun h => absurd (h.symm.trans (show _ = true by kernel_rfl)) (by decide)⟩
    clear hK K hS5
    try simp only [Act.put, List.setIfInBounds_toArray, List.set_cons_zero, List.set_cons_succ]
    refine doneL (by kernel_rfl) ?_ _
    obtain ⟨wS, hW, hES, hOS, hBS⟩ := sec_closeO (W := (((w.alloc (Obj.cells #[.int .i64 5, .int .i64 ga, .int .i64 la, .slice (some ⟨bc, oc, none⟩) 1 cc] 44)).alloc (Obj.cells #[.int .i64 kb, .int .i64 gb, .int .i64 lb, .slice ab nb cb] 44)).alloc (Obj.cells #[.int .i64 0, .int .i64 0, .int .i64 0, .slice none 0 0] 44))) (lo := w.heap.size + 1 + 1 + 1 + 1) hE1 (fun c hc => by obtain ⟨fp, h1, h2⟩ := hO c hc; exact ⟨fp, h1, h2.mono (by have h3 := HZ0.out; simp [World.drew] at hU1 ⊢; try omega)⟩) (by omega) (by have := HZ0.out; omega) hB1
    simp only [put4, Nat.zero_add] at hW
    rw [← hW]
    clear hW hO
    have s0 : wS.cell? ⟨w.heap.size + 1 + 1 + 1, 0, none⟩ = some (.int .i64 p0) := by rw [cell_of_block hES]; rfl
    have s1 : wS.cell? ⟨w.heap.size + 1 + 1 + 1, 1, none⟩ = some (.int .i64 p1) := by rw [cell_of_block hES]; rfl
    have s2 : wS.cell? ⟨w.heap.size + 1 + 1 + 1, 2, none⟩ = some (.int .i64 p2) := by rw [cell_of_block hES]; rfl
    have s3 : wS.cell? ⟨w.heap.size + 1 + 1 + 1, 3, none⟩ = some (.slice pa pn pc) := by rw [cell_of_block hES]; rfl
    have hSS := HS0.out _ hBS
    clear hES x0 x1 x2 x3 y0 y1 y2 y3 d0 d1 d2 d3
    obtain ⟨x0, x1, x2, x3, y0, y1, y2, y3, d0, d1, d2, d3⟩ := hSS
    have bM := HM.out _ (hBS.alloc hBS.size (Obj.cells #[.int .i64 p0, .int .i64 p1, .int .i64 p2, .slice pa pn pc] 44))
    have z0 := (cell_of_block (o := 0) bM).trans (show _ = some (.int .i64 0) from rfl)
    have z1 := (cell_of_block (o := 1) bM).trans (show _ = some (.int .i64 0) from rfl)
    have z2 := (cell_of_block (o := 2) bM).trans (show _ = some (.int .i64 0) from rfl)
    have z3 := (cell_of_block (o := 3) bM).trans (show _ = some (.slice none 0 0) from rfl)
    have yz := fun o => frozen_of_block (o := o) bM
    have FIN := closeO (w := w) (wF := wS.alloc (Obj.cells #[.int .i64 p0, .int .i64 p1, .int .i64 p2, .slice pa pn pc] 44)) (M := w.heap.size + 1 + 1) (lo := w.heap.size + 1 + 1 + 1) (o := (cmpo n a (.mk kb gb lb us)).map fun c => Co.mk 5 0 la [c]) (b := (cmpo n a (.mk kb gb lb us)).isSome) (by rw [Option.isSome_map]) (one_rowO (fun c hc => by obtain ⟨fp, h1, h2⟩ := hOS c hc; exact ⟨fp, h1, h2.mono (by omega)⟩) (by have := HZ0.out; have := hBS.size; omega)) (by omega) (by omega) (below_trans HB.out (hBS.alloc hBS.size (Obj.cells #[.int .i64 p0, .int .i64 p1, .int .i64 p2, .slice pa pn pc] 44)))
    rw [← HR.out] at FIN
    generalize (cmpo n a (.mk kb gb lb us)).isSome = r at *
    simp only [put4, Nat.zero_add] at FIN
    go_wp2_with fail
    exact bodyPost_ret (v := .tuple #[.agg #[.int .i64 5, .int .i64 0, .int .i64 la, .slice (some ⟨wS.heap.size, 0, none⟩) 1 1], .bool r]) (by simp [results, Try.results34, go_sem, z0, z1, z2, z3]) rfl FIN
  have q0 : (kb == 5) = false := by first | (rw [beq_iff_eq]; omega) | (rw [beq_eq_false_iff_ne]; omega)
  have q1 : (kb == 1) = false := by first | (rw [beq_iff_eq]; omega) | (rw [beq_eq_false_iff_ne]; omega)
  clear h0 h1
  go_enter Try.func34, Try.ntmps34
  go_wp2_with fail
  refine regionL (s := 10) (S0 := (fun w' => w'.cell? ⟨w.heap.size, 0, none⟩ = some (.int .i64 5) ∧ w'.cell? ⟨w.heap.size, 1, none⟩ = some (.int .i64 ga) ∧ w'.cell? ⟨w.heap.size, 2, none⟩ = some (.int .i64 la) ∧ w'.cell? ⟨w.heap.size, 3, none⟩ = some (.slice (some ⟨bc, oc, none⟩) 1 cc) ∧ w'.cell? ⟨w.heap.size + 1, 0, none⟩ = some (.int .i64 kb) ∧ w'.cell? ⟨w.heap.size + 1, 1, none⟩ = some (.int .i64 gb) ∧ w'.cell? ⟨w.heap.size + 1, 2, none⟩ = some (.int .i64 lb) ∧ w'.cell? ⟨w.heap.size + 1, 3, none⟩ = some (.slice ab nb cb) ∧ w'.cell? ⟨bc, oc, none⟩ = some (.int .i64 k1) ∧ w'.cell? ⟨bc, oc + 1, none⟩ = some (.int .i64 g1) ∧ w'.cell? ⟨bc, oc + 2, none⟩ = some (.int .i64 l1) ∧ w'.cell? ⟨bc, oc + 3, none⟩ = some (.slice a1 n1 c1))) (S1 := (fun _ => True)) (by kernel_rfl) (HS0.out _ (below_drew _)) (trivial) (fun hS0 => ?_)
  refine takeL0 (i := 0) (v := ?vc1) rfl rfl (by kernel_rfl) (by kernel_rfl) (by kernel_rfl) (by decide) (by kernel_rfl) (by kernel_rfl) (fun _ _ _ h => h) (Or.inl ⟨by rfl, ?hyc1⟩) (by assumption) ?_
  case hyc1 => (intro w hSw; (try dsimp only at hSw); go_simp; (try with_reducible rfl))
  try simp only [Act.put, List.setIfInBounds_toArray, List.set_cons_zero, List.set_cons_succ]
  refine takeL0 (i := 1) (v := ?vc2) rfl rfl (by kernel_rfl) (by kernel_rfl) (by kernel_rfl) (by decide) (by kernel_rfl) (by kernel_rfl) (fun _ _ _ h => h) (Or.inl ⟨by rfl, ?hyc2⟩) (by assumption) ?_
  case hyc2 => (intro w hSw; (try dsimp only at hSw); go_simp; (try with_reducible rfl))
  try simp only [Act.put, List.setIfInBounds_toArray, List.set_cons_zero, List.set_cons_succ]
  refine takeL0 (i := 2) (v := ?vc3) rfl rfl (by kernel_rfl) (by kernel_rfl) (by kernel_rfl) (by decide) (by kernel_rfl) (by kernel_rfl) (fun _ _ _ h => h) (Or.inl ⟨by rfl, ?hyc3⟩) (by assumption) ?_
  case hyc3 => (intro w hSw; (try dsimp only at hSw); go_simp; (try with_reducible rfl))
  try simp only [Act.put, List.setIfInBounds_toArray, List.set_cons_zero, List.set_cons_succ]
  refine takeL0 (i := 3) (v := ?vc4) rfl rfl (by kernel_rfl) (by kernel_rfl) (by kernel_rfl) (by decide) (by kernel_rfl) (by kernel_rfl) (fun _ _ _ h => h) (Or.inl ⟨by rfl, ?hyc4⟩) (by assumption) ?_
  case hyc4 => (intro w hSw; (try dsimp only at hSw); go_simp; (try with_reducible rfl))
  try simp only [Act.put, List.setIfInBounds_toArray, List.set_cons_zero, List.set_cons_succ]
  refine takeL0 (i := 4) (v := ?vc5) rfl rfl (by kernel_rfl) (by kernel_rfl) (by kernel_rfl) (by decide) (by kernel_rfl) (by kernel_rfl) (fun _ _ _ h => h) (Or.inl ⟨by rfl, ?hyc5⟩) (by assumption) ?_
  case hyc5 => (intro w hSw; (try dsimp only at hSw); go_simp; (try with_reducible rfl))
  try simp only [Act.put, List.setIfInBounds_toArray, List.set_cons_zero, List.set_cons_succ]
  refine readyL (rs := [5, 9]) (by kernel_rfl) (by simp) ?_
  refine AllReadyL.cons rfl (fun K hK => ?_) ?_
  · go_simp
    refine (cm_from HIH.out (W0 := (((w.alloc (Obj.cells #[.int .i64 5, .int .i64 ga, .int .i64 la, .slice (some ⟨bc, oc, none⟩) 1 cc] 44)).alloc (Obj.cells #[.int .i64 kb, .int .i64 gb, .int .i64 lb, .slice ab nb cb] 44)).alloc (Obj.cells #[.int .i64 0, .int .i64 0, .int .i64 0, .slice none 0 0] 44))) (below_drew _) HP.out.1 hd1 hd2 HP.out.2.1 HP.out.2.2 H.out.1 H.out.2).mono ?_
    rintro e w1 ⟨⟨p0, p1, p2, pa, pn, pc, rfl, hb1, hO⟩, hU⟩
    have hB1 := below_trans hU hb1
    have hU1 := hU.size
    refine hK.out _ _ ?_ (fun hS1 => ?_)
    · exact ⟨trivial, fun _ => HS0.out _ hB1⟩
    clear hK K hS0
    try simp only [Act.put, List.setIfInBounds_toArray, List.set_cons_zero, List.set_cons_succ]
    refine takeL0 (i := 6) (v := ?vc6) rfl rfl (by kernel_rfl) (by kernel_rfl) (by kernel_rfl) (by decide) (by kernel_rfl) (by kernel_rfl) (fun _ _ _ h => h) (Or.inl ⟨by rfl, ?hyc6⟩) (by assumption) ?_
    case hyc6 => (intro w hSw; (try dsimp only at hSw); go_simp; (try with_reducible rfl))
    try simp only [Act.put, List.setIfInBounds_toArray, List.set_cons_zero, List.set_cons_succ]
    refine readyL (rs := [7, 8, 9]) (by kernel_rfl) (by simp) ?_
    refine AllReadyL.cons rfl (fun K hK => ?_) ?_
    · go_simp
      refine hK.out _ _ ?_ (fun hS2 => ?_)
      · exact ⟨trivial, fun _ => HS0.out _ hB1⟩
      clear hK K hS1
      try simp only [Act.put, List.setIfInBounds_toArray, List.set_cons_zero, List.set_cons_succ]
      refine readyL (rs := [8, 9]) (by kernel_rfl) (by simp) ?_
      refine AllReadyL.cons rfl (fun K hK => ?_) ?_
      · go_simp
        refine hK.out _ _ ?_ (fun hS3 => ?_)
        · exact ⟨trivial, fun _ => HS0.out _ hB1⟩
        clear hK K hS2
        try simp only [Act.put, List.setIfInBounds_toArray, List.set_cons_zero, List.set_cons_succ]
        refine readyL (rs := [9]) (by kernel_rfl) (by simp) ?_
        refine AllReadyL.cons rfl (fun K hK => ?_) AllReadyL.nil
        go_simp
        refine hK.out _ _ ?_ (fun hS4 => ?_)
        · exact ⟨trivial, fun _ => HS0.out _ (hB1.alloc hB1.size _)⟩
        clear hK K hS3
        try simp only [Act.put, List.setIfInBounds_toArray, List.set_cons_zero, List.set_cons_succ]
        refine readyL (rs := [10]) (by kernel_rfl) (by simp) ?_
        refine AllReadyL.cons rfl (fun K hK => ?_) AllReadyL.nil
        go_simp
        refine hK.out _ _ ?_ (fun hS5 => ?_)
        · exact ⟨trivial, fun h => absurd (h.symm.trans (show _ = true by kernel_rfl)) (by decide)⟩
        clear hK K hS4
        try simp only [Act.put, List.setIfInBounds_toArray, List.set_cons_zero, List.set_cons_succ]
        refine readyL (rs := [11]) (by kernel_rfl) (by simp) ?_
        refine AllReadyL.cons rfl (fun K hK => ?_) AllReadyL.nil
        go_simp
        refine hK.out _ _ ?_ (fun hS6 => ?_)
        · exact ⟨trivial, fun h => absurd (h.symm.trans (show _ = true by kernel_rfl)) (by decide)⟩
        clear hK K hS5
        try simp only [Act.put, List.setIfInBounds_toArray, List.set_cons_zero, List.set_cons_succ]
        refine doneL (by kernel_rfl) ?_ _
        obtain ⟨wS, hW, hES, hOS, hBS⟩ := sec_allocO (W := (((w.alloc (Obj.cells #[.int .i64 5, .int .i64 ga, .int .i64 la, .slice (some ⟨bc, oc, none⟩) 1 cc] 44)).alloc (Obj.cells #[.int .i64 kb, .int .i64 gb, .int .i64 lb, .slice ab nb cb] 44)).alloc (Obj.cells #[.int .i64 0, .int .i64 0, .int .i64 0, .slice none 0 0] 44))) (lo := w.heap.size + 1 + 1 + 1) (fun c hc => by obtain ⟨fp, h1, h2⟩ := hO c hc; exact ⟨fp, h1, h2.mono (by have h3 := HZ0.out; omega)⟩) hB1
        rw [← hW]
        clear hW hO
        have s0 : wS.cell? ⟨w1.heap.size, 0, none⟩ = some (.int .i64 p0) := by rw [cell_of_block hES]; rfl
        have s1 : wS.cell? ⟨w1.heap.size, 1, none⟩ = some (.int .i64 p1) := by rw [cell_of_block hES]; rfl
        have s2 : wS.cell? ⟨w1.heap.size, 2, none⟩ = some (.int .i64 p2) := by rw [cell_of_block hES]; rfl
        have s3 : wS.cell? ⟨w1.heap.size, 3, none⟩ = some (.slice pa pn pc) := by rw [cell_of_block hES]; rfl
        have hSS := HS0.out _ hBS
        clear hES x0 x1 x2 x3 y0 y1 y2 y3 d0 d1 d2 d3
        obtain ⟨x0, x1, x2, x3, y0, y1, y2, y3, d0, d1, d2, d3⟩ := hSS
        have bM := HM.out _ (hBS.alloc hBS.size (Obj.cells #[.int .i64 p0, .int .i64 p1, .int .i64 p2, .slice pa pn pc] 44))
        have z0 := (cell_of_block (o := 0) bM).trans (show _ = some (.int .i64 0) from rfl)
        have z1 := (cell_of_block (o := 1) bM).trans (show _ = some (.int .i64 0) from rfl)
        have z2 := (cell_of_block (o := 2) bM).trans (show _ = some (.int .i64 0) from rfl)
        have z3 := (cell_of_block (o := 3) bM).trans (show _ = some (.slice none 0 0) from rfl)
        have yz := fun o => frozen_of_block (o := o) bM
        have FIN := closeO (w := w) (wF := wS.alloc (Obj.cells #[.int .i64 p0, .int .i64 p1, .int .i64 p2, .slice pa pn pc] 44)) (M := w.heap.size + 1 + 1) (lo := w.heap.size + 1 + 1 + 1) (o := (cmpo n a (.mk kb gb lb us)).map fun c => Co.mk 5 0 la [c]) (b := (cmpo n a (.mk kb gb lb us)).isSome) (by rw [Option.isSome_map]) (one_rowO (fun c hc => by obtain ⟨fp, h1, h2⟩ := hOS c hc; exact ⟨fp, h1, h2.mono (by omega)⟩) (by have := HZ0.out; have := hBS.size; omega)) (by omega) (by omega) (below_trans HB.out (hBS.alloc hBS.size (Obj.cells #[.int .i64 p0, .int .i64 p1, .int .i64 p2, .slice pa pn pc] 44)))
        rw [← HR.out] at FIN
        generalize (cmpo n a (.mk kb gb lb us)).isSome = r at *
        simp only [put4, Nat.zero_add] at FIN
        go_wp2_with fail
        exact bodyPost_ret (v := .tuple #[.agg #[.int .i64 5, .int .i64 0, .int .i64 la, .slice (some ⟨wS.heap.size, 0, none⟩) 1 1], .bool r]) (by simp [results, Try.results34, go_sem, z0, z1, z2, z3]) rfl FIN
      refine AllReadyL.cons rfl (fun K hK => ?_) AllReadyL.nil
      go_simp
      refine hK.out _ _ ?_ (fun hS3 => ?_)
      · exact ⟨trivial, fun _ => HS0.out _ (hB1.alloc hB1.size _)⟩
      clear hK K hS2
      try simp only [Act.put, List.setIfInBounds_toArray, List.set_cons_zero, List.set_cons_succ]
      refine readyL (rs := [8, 10]) (by kernel_rfl) (by simp) ?_
      refine AllReadyL.cons rfl (fun K hK => ?_) ?_
      · go_simp
        refine hK.out _ _ ?_ (fun hS4 => ?_)
        · exact ⟨trivial, fun _ => HS0.out _ (hB1.alloc hB1.size _)⟩
        clear hK K hS3
        try simp only [Act.put, List.setIfInBounds_toArray, List.set_cons_zero, List.set_cons_succ]
        refine readyL (rs := [10]) (by kernel_rfl) (by simp) ?_
        refine AllReadyL.cons rfl (fun K hK => ?_) AllReadyL.nil
        go_simp
        refine hK.out _ _ ?_ (fun hS5 => ?_)
        · exact ⟨trivial, fun h => absurd (h.symm.trans (show _ = true by kernel_rfl)) (by decide)⟩
        clear hK K hS4
        try simp only [Act.put, List.setIfInBounds_toArray, List.set_cons_zero, List.set_cons_succ]
        refine readyL (rs := [11]) (by kernel_rfl) (by simp) ?_
        refine AllReadyL.cons rfl (fun K hK => ?_) AllReadyL.nil
        go_simp
        refine hK.out _ _ ?_ (fun hS6 => ?_)
        · exact ⟨trivial, fun h => absurd (h.symm.trans (show _ = true by kernel_rfl)) (by decide)⟩
        clear hK K hS5
        try simp only [Act.put, List.setIfInBounds_toArray, List.set_cons_zero, List.set_cons_succ]
        refine doneL (by kernel_rfl) ?_ _
        obtain ⟨wS, hW, hES, hOS, hBS⟩ := sec_allocO (W := (((w.alloc (Obj.cells #[.int .i64 5, .int .i64 ga, .int .i64 la, .slice (some ⟨bc, oc, none⟩) 1 cc] 44)).alloc (Obj.cells #[.int .i64 kb, .int .i64 gb, .int .i64 lb, .slice ab nb cb] 44)).alloc (Obj.cells #[.int .i64 0, .int .i64 0, .int .i64 0, .slice none 0 0] 44))) (lo := w.heap.size + 1 + 1 + 1) (fun c hc => by obtain ⟨fp, h1, h2⟩ := hO c hc; exact ⟨fp, h1, h2.mono (by have h3 := HZ0.out; omega)⟩) hB1
        rw [← hW]
        clear hW hO
        have s0 : wS.cell? ⟨w1.heap.size, 0, none⟩ = some (.int .i64 p0) := by rw [cell_of_block hES]; rfl
        have s1 : wS.cell? ⟨w1.heap.size, 1, none⟩ = some (.int .i64 p1) := by rw [cell_of_block hES]; rfl
        have s2 : wS.cell? ⟨w1.heap.size, 2, none⟩ = some (.int .i64 p2) := by rw [cell_of_block hES]; rfl
        have s3 : wS.cell? ⟨w1.heap.size, 3, none⟩ = some (.slice pa pn pc) := by rw [cell_of_block hES]; rfl
        have hSS := HS0.out _ hBS
        clear hES x0 x1 x2 x3 y0 y1 y2 y3 d0 d1 d2 d3
        obtain ⟨x0, x1, x2, x3, y0, y1, y2, y3, d0, d1, d2, d3⟩ := hSS
        have bM := HM.out _ (hBS.alloc hBS.size (Obj.cells #[.int .i64 p0, .int .i64 p1, .int .i64 p2, .slice pa pn pc] 44))
        have z0 := (cell_of_block (o := 0) bM).trans (show _ = some (.int .i64 0) from rfl)
        have z1 := (cell_of_block (o := 1) bM).trans (show _ = some (.int .i64 0) from rfl)
        have z2 := (cell_of_block (o := 2) bM).trans (show _ = some (.int .i64 0) from rfl)
        have z3 := (cell_of_block (o := 3) bM).trans (show _ = some (.slice none 0 0) from rfl)
        have yz := fun o => frozen_of_block (o := o) bM
        have FIN := closeO (w := w) (wF := wS.alloc (Obj.cells #[.int .i64 p0, .int .i64 p1, .int .i64 p2, .slice pa pn pc] 44)) (M := w.heap.size + 1 + 1) (lo := w.heap.size + 1 + 1 + 1) (o := (cmpo n a (.mk kb gb lb us)).map fun c => Co.mk 5 0 la [c]) (b := (cmpo n a (.mk kb gb lb us)).isSome) (by rw [Option.isSome_map]) (one_rowO (fun c hc => by obtain ⟨fp, h1, h2⟩ := hOS c hc; exact ⟨fp, h1, h2.mono (by omega)⟩) (by have := HZ0.out; have := hBS.size; omega)) (by omega) (by omega) (below_trans HB.out (hBS.alloc hBS.size (Obj.cells #[.int .i64 p0, .int .i64 p1, .int .i64 p2, .slice pa pn pc] 44)))
        rw [← HR.out] at FIN
        generalize (cmpo n a (.mk kb gb lb us)).isSome = r at *
        simp only [put4, Nat.zero_add] at FIN
        go_wp2_with fail
        exact bodyPost_ret (v := .tuple #[.agg #[.int .i64 5, .int .i64 0, .int .i64 la, .slice (some ⟨wS.heap.size, 0, none⟩) 1 1], .bool r]) (by simp [results, Try.results34, go_sem, z0, z1, z2, z3]) rfl FIN
      refine AllReadyL.cons rfl (fun K hK => ?_) AllReadyL.nil
      go_simp
      refine hK.out _ _ ?_ (fun hS4 => ?_)
      · exact ⟨trivial, fun h => absurd (h.symm.trans (show _ = true by kernel_rfl)) (by decide)⟩
      clear hK K hS3
      try simp only [Act.put, List.setIfInBounds_toArray, List.set_cons_zero, List.set_cons_succ]
      refine readyL (rs := [8]) (by kernel_rfl) (by simp) ?_
      refine AllReadyL.cons rfl (fun K hK => ?_) AllReadyL.nil
      go_simp
      refine hK.out _ _ ?_ (fun hS5 => ?_)
      · exact ⟨trivial, fun h => absurd (h.symm.trans (show _ = true by kernel_rfl)) (by decide)⟩
      clear hK K hS4
      try simp only [Act.put, List.setIfInBounds_toArray, List.set_cons_zero, List.set_cons_succ]
      refine readyL (rs := [11]) (by kernel_rfl) (by simp) ?_
      refine AllReadyL.cons rfl (fun K hK => ?_) AllReadyL.nil
      go_simp
      refine hK.out _ _ ?_ (fun hS6 => ?_)
      · exact ⟨trivial, fun h => absurd (h.symm.trans (show _ = true by kernel_rfl)) (by decide)⟩
      clear hK K hS5
      try simp only [Act.put, List.setIfInBounds_toArray, List.set_cons_zero, List.set_cons_succ]
      refine doneL (by kernel_rfl) ?_ _
      obtain ⟨wS, hW, hES, hOS, hBS⟩ := sec_allocO (W := (((w.alloc (Obj.cells #[.int .i64 5, .int .i64 ga, .int .i64 la, .slice (some ⟨bc, oc, none⟩) 1 cc] 44)).alloc (Obj.cells #[.int .i64 kb, .int .i64 gb, .int .i64 lb, .slice ab nb cb] 44)).alloc (Obj.cells #[.int .i64 0, .int .i64 0, .int .i64 0, .slice none 0 0] 44))) (lo := w.heap.size + 1 + 1 + 1) (fun c hc => by obtain ⟨fp, h1, h2⟩ := hO c hc; exact ⟨fp, h1, h2.mono (by have h3 := HZ0.out; omega)⟩) hB1
      rw [← hW]
      clear hW hO
      have s0 : wS.cell? ⟨w1.heap.size, 0, none⟩ = some (.int .i64 p0) := by rw [cell_of_block hES]; rfl
      have s1 : wS.cell? ⟨w1.heap.size, 1, none⟩ = some (.int .i64 p1) := by rw [cell_of_block hES]; rfl
      have s2 : wS.cell? ⟨w1.heap.size, 2, none⟩ = some (.int .i64 p2) := by rw [cell_of_block hES]; rfl
      have s3 : wS.cell? ⟨w1.heap.size, 3, none⟩ = some (.slice pa pn pc) := by rw [cell_of_block hES]; rfl
      have hSS := HS0.out _ hBS
      clear hES x0 x1 x2 x3 y0 y1 y2 y3 d0 d1 d2 d3
      obtain ⟨x0, x1, x2, x3, y0, y1, y2, y3, d0, d1, d2, d3⟩ := hSS
      have bM := HM.out _ (hBS.alloc hBS.size (Obj.cells #[.int .i64 p0, .int .i64 p1, .int .i64 p2, .slice pa pn pc] 44))
      have z0 := (cell_of_block (o := 0) bM).trans (show _ = some (.int .i64 0) from rfl)
      have z1 := (cell_of_block (o := 1) bM).trans (show _ = some (.int .i64 0) from rfl)
      have z2 := (cell_of_block (o := 2) bM).trans (show _ = some (.int .i64 0) from rfl)
      have z3 := (cell_of_block (o := 3) bM).trans (show _ = some (.slice none 0 0) from rfl)
      have yz := fun o => frozen_of_block (o := o) bM
      have FIN := closeO (w := w) (wF := wS.alloc (Obj.cells #[.int .i64 p0, .int .i64 p1, .int .i64 p2, .slice pa pn pc] 44)) (M := w.heap.size + 1 + 1) (lo := w.heap.size + 1 + 1 + 1) (o := (cmpo n a (.mk kb gb lb us)).map fun c => Co.mk 5 0 la [c]) (b := (cmpo n a (.mk kb gb lb us)).isSome) (by rw [Option.isSome_map]) (one_rowO (fun c hc => by obtain ⟨fp, h1, h2⟩ := hOS c hc; exact ⟨fp, h1, h2.mono (by omega)⟩) (by have := HZ0.out; have := hBS.size; omega)) (by omega) (by omega) (below_trans HB.out (hBS.alloc hBS.size (Obj.cells #[.int .i64 p0, .int .i64 p1, .int .i64 p2, .slice pa pn pc] 44)))
      rw [← HR.out] at FIN
      generalize (cmpo n a (.mk kb gb lb us)).isSome = r at *
      simp only [put4, Nat.zero_add] at FIN
      go_wp2_with fail
      exact bodyPost_ret (v := .tuple #[.agg #[.int .i64 5, .int .i64 0, .int .i64 la, .slice (some ⟨wS.heap.size, 0, none⟩) 1 1], .bool r]) (by simp [results, Try.results34, go_sem, z0, z1, z2, z3]) rfl FIN
    refine AllReadyL.cons rfl (fun K hK => ?_) ?_
    · go_simp
      refine hK.out _ _ ?_ (fun hS2 => ?_)
      · exact ⟨trivial, fun _ => HS0.out _ hB1⟩
      clear hK K hS1
      try simp only [Act.put, List.setIfInBounds_toArray, List.set_cons_zero, List.set_cons_succ]
      refine readyL (rs := [7, 9]) (by kernel_rfl) (by simp) ?_
      refine AllReadyL.cons rfl (fun K hK => ?_) ?_
      · go_simp
        refine hK.out _ _ ?_ (fun hS3 => ?_)
        · exact ⟨trivial, fun _ => HS0.out _ hB1⟩
        clear hK K hS2
        try simp only [Act.put, List.setIfInBounds_toArray, List.set_cons_zero, List.set_cons_succ]
        refine readyL (rs := [9]) (by kernel_rfl) (by simp) ?_
        refine AllReadyL.cons rfl (fun K hK => ?_) AllReadyL.nil
        go_simp
        refine hK.out _ _ ?_ (fun hS4 => ?_)
        · exact ⟨trivial, fun _ => HS0.out _ (hB1.alloc hB1.size _)⟩
        clear hK K hS3
        try simp only [Act.put, List.setIfInBounds_toArray, List.set_cons_zero, List.set_cons_succ]
        refine readyL (rs := [10]) (by kernel_rfl) (by simp) ?_
        refine AllReadyL.cons rfl (fun K hK => ?_) AllReadyL.nil
        go_simp
        refine hK.out _ _ ?_ (fun hS5 => ?_)
        · exact ⟨trivial, fun h => absurd (h.symm.trans (show _ = true by kernel_rfl)) (by decide)⟩
        clear hK K hS4
        try simp only [Act.put, List.setIfInBounds_toArray, List.set_cons_zero, List.set_cons_succ]
        refine readyL (rs := [11]) (by kernel_rfl) (by simp) ?_
        refine AllReadyL.cons rfl (fun K hK => ?_) AllReadyL.nil
        go_simp
        refine hK.out _ _ ?_ (fun hS6 => ?_)
        · exact ⟨trivial, fun h => absurd (h.symm.trans (show _ = true by kernel_rfl)) (by decide)⟩
        clear hK K hS5
        try simp only [Act.put, List.setIfInBounds_toArray, List.set_cons_zero, List.set_cons_succ]
        refine doneL (by kernel_rfl) ?_ _
        obtain ⟨wS, hW, hES, hOS, hBS⟩ := sec_allocO (W := (((w.alloc (Obj.cells #[.int .i64 5, .int .i64 ga, .int .i64 la, .slice (some ⟨bc, oc, none⟩) 1 cc] 44)).alloc (Obj.cells #[.int .i64 kb, .int .i64 gb, .int .i64 lb, .slice ab nb cb] 44)).alloc (Obj.cells #[.int .i64 0, .int .i64 0, .int .i64 0, .slice none 0 0] 44))) (lo := w.heap.size + 1 + 1 + 1) (fun c hc => by obtain ⟨fp, h1, h2⟩ := hO c hc; exact ⟨fp, h1, h2.mono (by have h3 := HZ0.out; omega)⟩) hB1
        rw [← hW]
        clear hW hO
        have s0 : wS.cell? ⟨w1.heap.size, 0, none⟩ = some (.int .i64 p0) := by rw [cell_of_block hES]; rfl
        have s1 : wS.cell? ⟨w1.heap.size, 1, none⟩ = some (.int .i64 p1) := by rw [cell_of_block hES]; rfl
        have s2 : wS.cell? ⟨w1.heap.size, 2, none⟩ = some (.int .i64 p2) := by rw [cell_of_block hES]; rfl
        have s3 : wS.cell? ⟨w1.heap.size, 3, none⟩ = some (.slice pa pn pc) := by rw [cell_of_block hES]; rfl
        have hSS := HS0.out _ hBS
        clear hES x0 x1 x2 x3 y0 y1 y2 y3 d0 d1 d2 d3
        obtain ⟨x0, x1, x2, x3, y0, y1, y2, y3, d0, d1, d2, d3⟩ := hSS
        have bM := HM.out _ (hBS.alloc hBS.size (Obj.cells #[.int .i64 p0, .int .i64 p1, .int .i64 p2, .slice pa pn pc] 44))
        have z0 := (cell_of_block (o := 0) bM).trans (show _ = some (.int .i64 0) from rfl)
        have z1 := (cell_of_block (o := 1) bM).trans (show _ = some (.int .i64 0) from rfl)
        have z2 := (cell_of_block (o := 2) bM).trans (show _ = some (.int .i64 0) from rfl)
        have z3 := (cell_of_block (o := 3) bM).trans (show _ = some (.slice none 0 0) from rfl)
        have yz := fun o => frozen_of_block (o := o) bM
        have FIN := closeO (w := w) (wF := wS.alloc (Obj.cells #[.int .i64 p0, .int .i64 p1, .int .i64 p2, .slice pa pn pc] 44)) (M := w.heap.size + 1 + 1) (lo := w.heap.size + 1 + 1 + 1) (o := (cmpo n a (.mk kb gb lb us)).map fun c => Co.mk 5 0 la [c]) (b := (cmpo n a (.mk kb gb lb us)).isSome) (by rw [Option.isSome_map]) (one_rowO (fun c hc => by obtain ⟨fp, h1, h2⟩ := hOS c hc; exact ⟨fp, h1, h2.mono (by omega)⟩) (by have := HZ0.out; have := hBS.size; omega)) (by omega) (by omega) (below_trans HB.out (hBS.alloc hBS.size (Obj.cells #[.int .i64 p0, .int .i64 p1, .int .i64 p2, .slice pa pn pc] 44)))
        rw [← HR.out] at FIN
        generalize (cmpo n a (.mk kb gb lb us)).isSome = r at *
        simp only [put4, Nat.zero_add] at FIN
        go_wp2_with fail
        exact bodyPost_ret (v := .tuple #[.agg #[.int .i64 5, .int .i64 0, .int .i64 la, .slice (some ⟨wS.heap.size, 0, none⟩) 1 1], .bool r]) (by simp [results, Try.results34, go_sem, z0, z1, z2, z3]) rfl FIN
      refine AllReadyL.cons rfl (fun K hK => ?_) AllReadyL.nil
      go_simp
      refine hK.out _ _ ?_ (fun hS3 => ?_)
      · exact ⟨trivial, fun _ => HS0.out _ (hB1.alloc hB1.size _)⟩
      clear hK K hS2
      try simp only [Act.put, List.setIfInBounds_toArray, List.set_cons_zero, List.set_cons_succ]
      refine readyL (rs := [7]) (by kernel_rfl) (by simp) ?_
      refine AllReadyL.cons rfl (fun K hK => ?_) AllReadyL.nil
      go_simp
      refine hK.out _ _ ?_ (fun hS4 => ?_)
      · exact ⟨trivial, fun _ => HS0.out _ (hB1.alloc hB1.size _)⟩
      clear hK K hS3
      try simp only [Act.put, List.setIfInBounds_toArray, List.set_cons_zero, List.set_cons_succ]
      refine readyL (rs := [10]) (by kernel_rfl) (by simp) ?_
      refine AllReadyL.cons rfl (fun K hK => ?_) AllReadyL.nil
      go_simp
      refine hK.out _ _ ?_ (fun hS5 => ?_)
      · exact ⟨trivial, fun h => absurd (h.symm.trans (show _ = true by kernel_rfl)) (by decide)⟩
      clear hK K hS4
      try simp only [Act.put, List.setIfInBounds_toArray, List.set_cons_zero, List.set_cons_succ]
      refine readyL (rs := [11]) (by kernel_rfl) (by simp) ?_
      refine AllReadyL.cons rfl (fun K hK => ?_) AllReadyL.nil
      go_simp
      refine hK.out _ _ ?_ (fun hS6 => ?_)
      · exact ⟨trivial, fun h => absurd (h.symm.trans (show _ = true by kernel_rfl)) (by decide)⟩
      clear hK K hS5
      try simp only [Act.put, List.setIfInBounds_toArray, List.set_cons_zero, List.set_cons_succ]
      refine doneL (by kernel_rfl) ?_ _
      obtain ⟨wS, hW, hES, hOS, hBS⟩ := sec_allocO (W := (((w.alloc (Obj.cells #[.int .i64 5, .int .i64 ga, .int .i64 la, .slice (some ⟨bc, oc, none⟩) 1 cc] 44)).alloc (Obj.cells #[.int .i64 kb, .int .i64 gb, .int .i64 lb, .slice ab nb cb] 44)).alloc (Obj.cells #[.int .i64 0, .int .i64 0, .int .i64 0, .slice none 0 0] 44))) (lo := w.heap.size + 1 + 1 + 1) (fun c hc => by obtain ⟨fp, h1, h2⟩ := hO c hc; exact ⟨fp, h1, h2.mono (by have h3 := HZ0.out; omega)⟩) hB1
      rw [← hW]
      clear hW hO
      have s0 : wS.cell? ⟨w1.heap.size, 0, none⟩ = some (.int .i64 p0) := by rw [cell_of_block hES]; rfl
      have s1 : wS.cell? ⟨w1.heap.size, 1, none⟩ = some (.int .i64 p1) := by rw [cell_of_block hES]; rfl
      have s2 : wS.cell? ⟨w1.heap.size, 2, none⟩ = some (.int .i64 p2) := by rw [cell_of_block hES]; rfl
      have s3 : wS.cell? ⟨w1.heap.size, 3, none⟩ = some (.slice pa pn pc) := by rw [cell_of_block hES]; rfl
      have hSS := HS0.out _ hBS
      clear hES x0 x1 x2 x3 y0 y1 y2 y3 d0 d1 d2 d3
      obtain ⟨x0, x1, x2, x3, y0, y1, y2, y3, d0, d1, d2, d3⟩ := hSS
      have bM := HM.out _ (hBS.alloc hBS.size (Obj.cells #[.int .i64 p0, .int .i64 p1, .int .i64 p2, .slice pa pn pc] 44))
      have z0 := (cell_of_block (o := 0) bM).trans (show _ = some (.int .i64 0) from rfl)
      have z1 := (cell_of_block (o := 1) bM).trans (show _ = some (.int .i64 0) from rfl)
      have z2 := (cell_of_block (o := 2) bM).trans (show _ = some (.int .i64 0) from rfl)
      have z3 := (cell_of_block (o := 3) bM).trans (show _ = some (.slice none 0 0) from rfl)
      have yz := fun o => frozen_of_block (o := o) bM
      have FIN := closeO (w := w) (wF := wS.alloc (Obj.cells #[.int .i64 p0, .int .i64 p1, .int .i64 p2, .slice pa pn pc] 44)) (M := w.heap.size + 1 + 1) (lo := w.heap.size + 1 + 1 + 1) (o := (cmpo n a (.mk kb gb lb us)).map fun c => Co.mk 5 0 la [c]) (b := (cmpo n a (.mk kb gb lb us)).isSome) (by rw [Option.isSome_map]) (one_rowO (fun c hc => by obtain ⟨fp, h1, h2⟩ := hOS c hc; exact ⟨fp, h1, h2.mono (by omega)⟩) (by have := HZ0.out; have := hBS.size; omega)) (by omega) (by omega) (below_trans HB.out (hBS.alloc hBS.size (Obj.cells #[.int .i64 p0, .int .i64 p1, .int .i64 p2, .slice pa pn pc] 44)))
      rw [← HR.out] at FIN
      generalize (cmpo n a (.mk kb gb lb us)).isSome = r at *
      simp only [put4, Nat.zero_add] at FIN
      go_wp2_with fail
      exact bodyPost_ret (v := .tuple #[.agg #[.int .i64 5, .int .i64 0, .int .i64 la, .slice (some ⟨wS.heap.size, 0, none⟩) 1 1], .bool r]) (by simp [results, Try.results34, go_sem, z0, z1, z2, z3]) rfl FIN
    refine AllReadyL.cons rfl (fun K hK => ?_) AllReadyL.nil
    go_simp
    refine hK.out _ _ ?_ (fun hS2 => ?_)
    · exact ⟨trivial, fun _ => HS0.out _ (hB1.alloc hB1.size _)⟩
    clear hK K hS1
    try simp only [Act.put, List.setIfInBounds_toArray, List.set_cons_zero, List.set_cons_succ]
    refine readyL (rs := [7, 8]) (by kernel_rfl) (by simp) ?_
    refine AllReadyL.cons rfl (fun K hK => ?_) ?_
    · go_simp
      refine hK.out _ _ ?_ (fun hS3 => ?_)
      · exact ⟨trivial, fun _ => HS0.out _ (hB1.alloc hB1.size _)⟩
      clear hK K hS2
      try simp only [Act.put, List.setIfInBounds_toArray, List.set_cons_zero, List.set_cons_succ]
      refine readyL (rs := [8, 10]) (by kernel_rfl) (by simp) ?_
      refine AllReadyL.cons rfl (fun K hK => ?_) ?_
      · go_simp
        refine hK.out _ _ ?_ (fun hS4 => ?_)
        · exact ⟨trivial, fun _ => HS0.out _ (hB1.alloc hB1.size _)⟩
        clear hK K hS3
        try simp only [Act.put, List.setIfInBounds_toArray, List.set_cons_zero, List.set_cons_succ]
        refine readyL (rs := [10]) (by kernel_rfl) (by simp) ?_
        refine AllReadyL.cons rfl (fun K hK => ?_) AllReadyL.nil
        go_simp
        refine hK.out _ _ ?_ (fun hS5 => ?_)
        · exact ⟨trivial, fun h => absurd (h.symm.trans (show _ = true by kernel_rfl)) (by decide)⟩
        clear hK K hS4
        try simp only [Act.put, List.setIfInBounds_toArray, List.set_cons_zero, List.set_cons_succ]
        refine readyL (rs := [11]) (by kernel_rfl) (by simp) ?_
        refine AllReadyL.cons rfl (fun K hK => ?_) AllReadyL.nil
        go_simp
        refine hK.out _ _ ?_ (fun hS6 => ?_)
        · exact ⟨trivial, fun h => absurd (h.symm.trans (show _ = true by kernel_rfl)) (by decide)⟩
        clear hK K hS5
        try simp only [Act.put, List.setIfInBounds_toArray, List.set_cons_zero, List.set_cons_succ]
        refine doneL (by kernel_rfl) ?_ _
        obtain ⟨wS, hW, hES, hOS, hBS⟩ := sec_allocO (W := (((w.alloc (Obj.cells #[.int .i64 5, .int .i64 ga, .int .i64 la, .slice (some ⟨bc, oc, none⟩) 1 cc] 44)).alloc (Obj.cells #[.int .i64 kb, .int .i64 gb, .int .i64 lb, .slice ab nb cb] 44)).alloc (Obj.cells #[.int .i64 0, .int .i64 0, .int .i64 0, .slice none 0 0] 44))) (lo := w.heap.size + 1 + 1 + 1) (fun c hc => by obtain ⟨fp, h1, h2⟩ := hO c hc; exact ⟨fp, h1, h2.mono (by have h3 := HZ0.out; omega)⟩) hB1
        rw [← hW]
        clear hW hO
        have s0 : wS.cell? ⟨w1.heap.size, 0, none⟩ = some (.int .i64 p0) := by rw [cell_of_block hES]; rfl
        have s1 : wS.cell? ⟨w1.heap.size, 1, none⟩ = some (.int .i64 p1) := by rw [cell_of_block hES]; rfl
        have s2 : wS.cell? ⟨w1.heap.size, 2, none⟩ = some (.int .i64 p2) := by rw [cell_of_block hES]; rfl
        have s3 : wS.cell? ⟨w1.heap.size, 3, none⟩ = some (.slice pa pn pc) := by rw [cell_of_block hES]; rfl
        have hSS := HS0.out _ hBS
        clear hES x0 x1 x2 x3 y0 y1 y2 y3 d0 d1 d2 d3
        obtain ⟨x0, x1, x2, x3, y0, y1, y2, y3, d0, d1, d2, d3⟩ := hSS
        have bM := HM.out _ (hBS.alloc hBS.size (Obj.cells #[.int .i64 p0, .int .i64 p1, .int .i64 p2, .slice pa pn pc] 44))
        have z0 := (cell_of_block (o := 0) bM).trans (show _ = some (.int .i64 0) from rfl)
        have z1 := (cell_of_block (o := 1) bM).trans (show _ = some (.int .i64 0) from rfl)
        have z2 := (cell_of_block (o := 2) bM).trans (show _ = some (.int .i64 0) from rfl)
        have z3 := (cell_of_block (o := 3) bM).trans (show _ = some (.slice none 0 0) from rfl)
        have yz := fun o => frozen_of_block (o := o) bM
        have FIN := closeO (w := w) (wF := wS.alloc (Obj.cells #[.int .i64 p0, .int .i64 p1, .int .i64 p2, .slice pa pn pc] 44)) (M := w.heap.size + 1 + 1) (lo := w.heap.size + 1 + 1 + 1) (o := (cmpo n a (.mk kb gb lb us)).map fun c => Co.mk 5 0 la [c]) (b := (cmpo n a (.mk kb gb lb us)).isSome) (by rw [Option.isSome_map]) (one_rowO (fun c hc => by obtain ⟨fp, h1, h2⟩ := hOS c hc; exact ⟨fp, h1, h2.mono (by omega)⟩) (by have := HZ0.out; have := hBS.size; omega)) (by omega) (by omega) (below_trans HB.out (hBS.alloc hBS.size (Obj.cells #[.int .i64 p0, .int .i64 p1, .int .i64 p2, .slice pa pn pc] 44)))
        rw [← HR.out] at FIN
        generalize (cmpo n a (.mk kb gb lb us)).isSome = r at *
        simp only [put4, Nat.zero_add] at FIN
        go_wp2_with fail
        exact bodyPost_ret (v := .tuple #[.agg #[.int .i64 5, .int .i64 0, .int .i64 la, .slice (some ⟨wS.heap.size, 0, none⟩) 1 1], .bool r]) (by simp [results, Try.results34, go_sem, z0, z1, z2, z3]) rfl FIN
      refine AllReadyL.cons rfl (fun K hK => ?_) AllReadyL.nil
      go_simp
      refine hK.out _ _ ?_ (fun hS4 => ?_)
      · exact ⟨trivial, fun h => absurd (h.symm.trans (show _ = true by kernel_rfl)) (by decide)⟩
      clear hK K hS3
      try simp only [Act.put, List.setIfInBounds_toArray, List.set_cons_zero, List.set_cons_succ]
      refine readyL (rs := [8]) (by kernel_rfl) (by simp) ?_
      refine AllReadyL.cons rfl (fun K hK => ?_) AllReadyL.nil
      go_simp
      refine hK.out _ _ ?_ (fun hS5 => ?_)
      · exact ⟨trivial, fun h => absurd (h.symm.trans (show _ = true by kernel_rfl)) (by decide)⟩
      clear hK K hS4
      try simp only [Act.put, List.setIfInBounds_toArray, List.set_cons_zero, List.set_cons_succ]
      refine readyL (rs := [11]) (by kernel_rfl) (by simp) ?_
      refine AllReadyL.cons rfl (fun K hK => ?_) AllReadyL.nil
      go_simp
      refine hK.out _ _ ?_ (fun hS6 => ?_)
      · exact ⟨trivial, fun h => absurd (h.symm.trans (show _ = true by kernel_rfl)) (by decide)⟩
      clear hK K hS5
      try simp only [Act.put, List.setIfInBounds_toArray, List.set_cons_zero, List.set_cons_succ]
      refine doneL (by kernel_rfl) ?_ _
      obtain ⟨wS, hW, hES, hOS, hBS⟩ := sec_allocO (W := (((w.alloc (Obj.cells #[.int .i64 5, .int .i64 ga, .int .i64 la, .slice (some ⟨bc, oc, none⟩) 1 cc] 44)).alloc (Obj.cells #[.int .i64 kb, .int .i64 gb, .int .i64 lb, .slice ab nb cb] 44)).alloc (Obj.cells #[.int .i64 0, .int .i64 0, .int .i64 0, .slice none 0 0] 44))) (lo := w.heap.size + 1 + 1 + 1) (fun c hc => by obtain ⟨fp, h1, h2⟩ := hO c hc; exact ⟨fp, h1, h2.mono (by have h3 := HZ0.out; omega)⟩) hB1
      rw [← hW]
      clear hW hO
      have s0 : wS.cell? ⟨w1.heap.size, 0, none⟩ = some (.int .i64 p0) := by rw [cell_of_block hES]; rfl
      have s1 : wS.cell? ⟨w1.heap.size, 1, none⟩ = some (.int .i64 p1) := by rw [cell_of_block hES]; rfl
      have s2 : wS.cell? ⟨w1.heap.size, 2, none⟩ = some (.int .i64 p2) := by rw [cell_of_block hES]; rfl
      have s3 : wS.cell? ⟨w1.heap.size, 3, none⟩ = some (.slice pa pn pc) := by rw [cell_of_block hES]; rfl
      have hSS := HS0.out _ hBS
      clear hES x0 x1 x2 x3 y0 y1 y2 y3 d0 d1 d2 d3
      obtain ⟨x0, x1, x2, x3, y0, y1, y2, y3, d0, d1, d2, d3⟩ := hSS
      have bM := HM.out _ (hBS.alloc hBS.size (Obj.cells #[.int .i64 p0, .int .i64 p1, .int .i64 p2, .slice pa pn pc] 44))
      have z0 := (cell_of_block (o := 0) bM).trans (show _ = some (.int .i64 0) from rfl)
      have z1 := (cell_of_block (o := 1) bM).trans (show _ = some (.int .i64 0) from rfl)
      have z2 := (cell_of_block (o := 2) bM).trans (show _ = some (.int .i64 0) from rfl)
      have z3 := (cell_of_block (o := 3) bM).trans (show _ = some (.slice none 0 0) from rfl)
      have yz := fun o => frozen_of_block (o := o) bM
      have FIN := closeO (w := w) (wF := wS.alloc (Obj.cells #[.int .i64 p0, .int .i64 p1, .int .i64 p2, .slice pa pn pc] 44)) (M := w.heap.size + 1 + 1) (lo := w.heap.size + 1 + 1 + 1) (o := (cmpo n a (.mk kb gb lb us)).map fun c => Co.mk 5 0 la [c]) (b := (cmpo n a (.mk kb gb lb us)).isSome) (by rw [Option.isSome_map]) (one_rowO (fun c hc => by obtain ⟨fp, h1, h2⟩ := hOS c hc; exact ⟨fp, h1, h2.mono (by omega)⟩) (by have := HZ0.out; have := hBS.size; omega)) (by omega) (by omega) (below_trans HB.out (hBS.alloc hBS.size (Obj.cells #[.int .i64 p0, .int .i64 p1, .int .i64 p2, .slice pa pn pc] 44)))
      rw [← HR.out] at FIN
      generalize (cmpo n a (.mk kb gb lb us)).isSome = r at *
      simp only [put4, Nat.zero_add] at FIN
      go_wp2_with fail
      exact bodyPost_ret (v := .tuple #[.agg #[.int .i64 5, .int .i64 0, .int .i64 la, .slice (some ⟨wS.heap.size, 0, none⟩) 1 1], .bool r]) (by simp [results, Try.results34, go_sem, z0, z1, z2, z3]) rfl FIN
    refine AllReadyL.cons rfl (fun K hK => ?_) AllReadyL.nil
    go_simp
    refine hK.out _ _ ?_ (fun hS3 => ?_)
    · exact ⟨trivial, fun _ => HS0.out _ (hB1.alloc hB1.size _)⟩
    clear hK K hS2
    try simp only [Act.put, List.setIfInBounds_toArray, List.set_cons_zero, List.set_cons_succ]
    refine readyL (rs := [7]) (by kernel_rfl) (by simp) ?_
    refine AllReadyL.cons rfl (fun K hK => ?_) AllReadyL.nil
    go_simp
    refine hK.out _ _ ?_ (fun hS4 => ?_)
    · exact ⟨trivial, fun _ => HS0.out _ (hB1.alloc hB1.size _)⟩
    clear hK K hS3
    try simp only [Act.put, List.setIfInBounds_toArray, List.set_cons_zero, List.set_cons_succ]
    refine readyL (rs := [10]) (by kernel_rfl) (by simp) ?_
    refine AllReadyL.cons rfl (fun K hK => ?_) AllReadyL.nil
    go_simp
    refine hK.out _ _ ?_ (fun hS5 => ?_)
    · exact ⟨trivial, fun h => absurd (h.symm.trans (show _ = true by kernel_rfl)) (by decide)⟩
    clear hK K hS4
    try simp only [Act.put, List.setIfInBounds_toArray, List.set_cons_zero, List.set_cons_succ]
    refine readyL (rs := [11]) (by kernel_rfl) (by simp) ?_
    refine AllReadyL.cons rfl (fun K hK => ?_) AllReadyL.nil
    go_simp
    refine hK.out _ _ ?_ (fun hS6 => ?_)
    · exact ⟨trivial, fun h => absurd (h.symm.trans (show _ = true by kernel_rfl)) (by decide)⟩
    clear hK K hS5
    try simp only [Act.put, List.setIfInBounds_toArray, List.set_cons_zero, List.set_cons_succ]
    refine doneL (by kernel_rfl) ?_ _
    obtain ⟨wS, hW, hES, hOS, hBS⟩ := sec_allocO (W := (((w.alloc (Obj.cells #[.int .i64 5, .int .i64 ga, .int .i64 la, .slice (some ⟨bc, oc, none⟩) 1 cc] 44)).alloc (Obj.cells #[.int .i64 kb, .int .i64 gb, .int .i64 lb, .slice ab nb cb] 44)).alloc (Obj.cells #[.int .i64 0, .int .i64 0, .int .i64 0, .slice none 0 0] 44))) (lo := w.heap.size + 1 + 1 + 1) (fun c hc => by obtain ⟨fp, h1, h2⟩ := hO c hc; exact ⟨fp, h1, h2.mono (by have h3 := HZ0.out; omega)⟩) hB1
    rw [← hW]
    clear hW hO
    have s0 : wS.cell? ⟨w1.heap.size, 0, none⟩ = some (.int .i64 p0) := by rw [cell_of_block hES]; rfl
    have s1 : wS.cell? ⟨w1.heap.size, 1, none⟩ = some (.int .i64 p1) := by rw [cell_of_block hES]; rfl
    have s2 : wS.cell? ⟨w1.heap.size, 2, none⟩ = some (.int .i64 p2) := by rw [cell_of_block hES]; rfl
    have s3 : wS.cell? ⟨w1.heap.size, 3, none⟩ = some (.slice pa pn pc) := by rw [cell_of_block hES]; rfl
    have hSS := HS0.out _ hBS
    clear hES x0 x1 x2 x3 y0 y1 y2 y3 d0 d1 d2 d3
    obtain ⟨x0, x1, x2, x3, y0, y1, y2, y3, d0, d1, d2, d3⟩ := hSS
    have bM := HM.out _ (hBS.alloc hBS.size (Obj.cells #[.int .i64 p0, .int .i64 p1, .int .i64 p2, .slice pa pn pc] 44))
    have z0 := (cell_of_block (o := 0) bM).trans (show _ = some (.int .i64 0) from rfl)
    have z1 := (cell_of_block (o := 1) bM).trans (show _ = some (.int .i64 0) from rfl)
    have z2 := (cell_of_block (o := 2) bM).trans (show _ = some (.int .i64 0) from rfl)
    have z3 := (cell_of_block (o := 3) bM).trans (show _ = some (.slice none 0 0) from rfl)
    have yz := fun o => frozen_of_block (o := o) bM
    have FIN := closeO (w := w) (wF := wS.alloc (Obj.cells #[.int .i64 p0, .int .i64 p1, .int .i64 p2, .slice pa pn pc] 44)) (M := w.heap.size + 1 + 1) (lo := w.heap.size + 1 + 1 + 1) (o := (cmpo n a (.mk kb gb lb us)).map fun c => Co.mk 5 0 la [c]) (b := (cmpo n a (.mk kb gb lb us)).isSome) (by rw [Option.isSome_map]) (one_rowO (fun c hc => by obtain ⟨fp, h1, h2⟩ := hOS c hc; exact ⟨fp, h1, h2.mono (by omega)⟩) (by have := HZ0.out; have := hBS.size; omega)) (by omega) (by omega) (below_trans HB.out (hBS.alloc hBS.size (Obj.cells #[.int .i64 p0, .int .i64 p1, .int .i64 p2, .slice pa pn pc] 44)))
    rw [← HR.out] at FIN
    generalize (cmpo n a (.mk kb gb lb us)).isSome = r at *
    simp only [put4, Nat.zero_add] at FIN
    go_wp2_with fail
    exact bodyPost_ret (v := .tuple #[.agg #[.int .i64 5, .int .i64 0, .int .i64 la, .slice (some ⟨wS.heap.size, 0, none⟩) 1 1], .bool r]) (by simp [results, Try.results34, go_sem, z0, z1, z2, z3]) rfl FIN
  refine AllReadyL.cons rfl (fun K hK => ?_) AllReadyL.nil
  go_simp
  refine hK.out _ _ ?_ (fun hS1 => ?_)
  · exact ⟨trivial, fun _ => HS0.out _ ((below_drew _).alloc (by simp) _)⟩
  clear hK K hS0
  try simp only [Act.put, List.setIfInBounds_toArray, List.set_cons_zero, List.set_cons_succ]
  refine readyL (rs := [5]) (by kernel_rfl) (by simp) ?_
  refine AllReadyL.cons rfl (fun K hK => ?_) AllReadyL.nil
  go_simp
  refine (cm_from HIH.out (W0 := (((w.alloc (Obj.cells #[.int .i64 5, .int .i64 ga, .int .i64 la, .slice (some ⟨bc, oc, none⟩) 1 cc] 44)).alloc (Obj.cells #[.int .i64 kb, .int .i64 gb, .int .i64 lb, .slice ab nb cb] 44)).alloc (Obj.cells #[.int .i64 0, .int .i64 0, .int .i64 0, .slice none 0 0] 44))) (((Below.refl ((((w.alloc (Obj.cells #[.int .i64 5, .int .i64 ga, .int .i64 la, .slice (some ⟨bc, oc, none⟩) 1 cc] 44)).alloc (Obj.cells #[.int .i64 kb, .int .i64 gb, .int .i64 lb, .slice ab nb cb] 44)).alloc (Obj.cells #[.int .i64 0, .int .i64 0, .int .i64 0, .slice none 0 0] 44))).heap.size (((w.alloc (Obj.cells #[.int .i64 5, .int .i64 ga, .int .i64 la, .slice (some ⟨bc, oc, none⟩) 1 cc] 44)).alloc (Obj.cells #[.int .i64 kb, .int .i64 gb, .int .i64 lb, .slice ab nb cb] 44)).alloc (Obj.cells #[.int .i64 0, .int .i64 0, .int .i64 0, .slice none 0 0] 44))).alloc (Nat.le_refl _) (Obj.cells #[.int .i64 0, .int .i64 0, .int .i64 0, .slice none 0 0] 44)).drew) HP.out.1 hd1 hd2 HP.out.2.1 HP.out.2.2 H.out.1 H.out.2).mono ?_
  rintro e w1 ⟨⟨p0, p1, p2, pa, pn, pc, rfl, hb1, hO⟩, hU⟩
  have hB1 := below_trans hU hb1
  have hU1 := hU.size
  refine hK.out _ _ ?_ (fun hS2 => ?_)
  · exact ⟨trivial, fun _ => HS0.out _ hB1⟩
  clear hK K hS1
  try simp only [Act.put, List.setIfInBounds_toArray, List.set_cons_zero, List.set_cons_succ]
  refine takeL0 (i := 6) (v := ?vc7) rfl rfl (by kernel_rfl) (by kernel_rfl) (by kernel_rfl) (by decide) (by kernel_rfl) (by kernel_rfl) (fun _ _ _ h => h) (Or.inl ⟨by rfl, ?hyc7⟩) (by assumption) ?_
  case hyc7 => (intro w hSw; (try dsimp only at hSw); go_simp; (try with_reducible rfl))
  try simp only [Act.put, List.setIfInBounds_toArray, List.set_cons_zero, List.set_cons_succ]
  refine readyL (rs := [7, 8]) (by kernel_rfl) (by simp) ?_
  refine AllReadyL.cons rfl (fun K hK => ?_) ?_
  · go_simp
    refine hK.out _ _ ?_ (fun hS3 => ?_)
    · exact ⟨trivial, fun _ => HS0.out _ hB1⟩
    clear hK K hS2
    try simp only [Act.put, List.setIfInBounds_toArray, List.set_cons_zero, List.set_cons_succ]
    refine readyL (rs := [8, 10]) (by kernel_rfl) (by simp) ?_
    refine AllReadyL.cons rfl (fun K hK => ?_) ?_
    · go_simp
      refine hK.out _ _ ?_ (fun hS4 => ?_)
      · exact ⟨trivial, fun _ => HS0.out _ hB1⟩
      clear hK K hS3
      try simp only [Act.put, List.setIfInBounds_toArray, List.set_cons_zero, List.set_cons_succ]
      refine readyL (rs := [10]) (by kernel_rfl) (by simp) ?_
      refine AllReadyL.cons rfl (fun K hK => ?_) AllReadyL.nil
      have hE0 := alloc_new ((((w.alloc (Obj.cells #[.int .i64 5, .int .i64 ga, .int .i64 la, .slice (some ⟨bc, oc, none⟩) 1 cc] 44)).alloc (Obj.cells #[.int .i64 kb, .int .i64 gb, .int .i64 lb, .slice ab nb cb] 44)).alloc (Obj.cells #[.int .i64 0, .int .i64 0, .int .i64 0, .slice none 0 0] 44))) (Obj.cells #[.int .i64 0, .int .i64 0, .int .i64 0, .slice none 0 0] 44)
      rw [HZ0.out] at hE0
      have hE1 := (hb1.block _ (lt_of_block hE0)).trans hE0
      have bM := hE1
      have z0 := (cell_of_block (o := 0) bM).trans (show _ = some (.int .i64 0) from rfl)
      have z1 := (cell_of_block (o := 1) bM).trans (show _ = some (.int .i64 0) from rfl)
      have z2 := (cell_of_block (o := 2) bM).trans (show _ = some (.int .i64 0) from rfl)
      have z3 := (cell_of_block (o := 3) bM).trans (show _ = some (.slice none 0 0) from rfl)
      have yz := fun o => frozen_of_block (o := o) bM
      go_simp
      clear z0 z1 z2 z3 yz bM
      refine hK.out _ _ ?_ (fun hS5 => ?_)
      · exact ⟨trivial, fun h => absurd (h.symm.trans (show _ = true by kernel_rfl)) (by decide)⟩
      clear hK K hS4
      try simp only [Act.put, List.setIfInBounds_toArray, List.set_cons_zero, List.set_cons_succ]
      refine readyL (rs := [11]) (by kernel_rfl) (by simp) ?_
      refine AllReadyL.cons rfl (fun K hK => ?_) AllReadyL.nil
      go_simp
      refine hK.out _ _ ?_ (fun hS6 => ?_)
      · exact ⟨trivial, fun h => absurd (h.symm.trans (show _ = true by kernel_rfl)) (by decide)⟩
      clear hK K hS5
      try simp only [Act.put, List.setIfInBounds_toArray, List.set_cons_zero, List.set_cons_succ]
      refine doneL (by kernel_rfl) ?_ _
      obtain ⟨wS, hW, hES, hOS, hBS⟩ := sec_closeO (W := (((w.alloc (Obj.cells #[.int .i64 5, .int .i64 ga, .int .i64 la, .slice (some ⟨bc, oc, none⟩) 1 cc] 44)).alloc (Obj.cells #[.int .i64 kb, .int .i64 gb, .int .i64 lb, .slice ab nb cb] 44)).alloc (Obj.cells #[.int .i64 0, .int .i64 0, .int .i64 0, .slice none 0 0] 44))) (lo := w.heap.size + 1 + 1 + 1 + 1) hE1 (fun c hc => by obtain ⟨fp, h1, h2⟩ := hO c hc; exact ⟨fp, h1, h2.mono (by have h3 := HZ0.out; simp [World.drew] at hU1 ⊢; try omega)⟩) (by omega) (by have := HZ0.out; omega) hB1
      simp only [put4, Nat.zero_add] at hW
      rw [← hW]
      clear hW hO
      have s0 : wS.cell? ⟨w.heap.size + 1 + 1 + 1, 0, none⟩ = some (.int .i64 p0) := by rw [cell_of_block hES]; rfl
      have s1 : wS.cell? ⟨w.heap.size + 1 + 1 + 1, 1, none⟩ = some (.int .i64 p1) := by rw [cell_of_block hES]; rfl
      have s2 : wS.cell? ⟨w.heap.size + 1 + 1 + 1, 2, none⟩ = some (.int .i64 p2) := by rw [cell_of_block hES]; rfl
      have s3 : wS.cell? ⟨w.heap.size + 1 + 1 + 1, 3, none⟩ = some (.slice pa pn pc) := by rw [cell_of_block hES]; rfl
      have hSS := HS0.out _ hBS
      clear hES x0 x1 x2 x3 y0 y1 y2 y3 d0 d1 d2 d3
      obtain ⟨x0, x1, x2, x3, y0, y1, y2, y3, d0, d1, d2, d3⟩ := hSS
      have bM := HM.out _ (hBS.alloc hBS.size (Obj.cells #[.int .i64 p0, .int .i64 p1, .int .i64 p2, .slice pa pn pc] 44))
      have z0 := (cell_of_block (o := 0) bM).trans (show _ = some (.int .i64 0) from rfl)
      have z1 := (cell_of_block (o := 1) bM).trans (show _ = some (.int .i64 0) from rfl)
      have z2 := (cell_of_block (o := 2) bM).trans (show _ = some (.int .i64 0) from rfl)
      have z3 := (cell_of_block (o := 3) bM).trans (show _ = some (.slice none 0 0) from rfl)
      have yz := fun o => frozen_of_block (o := o) bM
      have FIN := closeO (w := w) (wF := wS.alloc (Obj.cells #[.int .i64 p0, .int .i64 p1, .int .i64 p2, .slice pa pn pc] 44)) (M := w.heap.size + 1 + 1) (lo := w.heap.size + 1 + 1 + 1) (o := (cmpo n a (.mk kb gb lb us)).map fun c => Co.mk 5 0 la [c]) (b := (cmpo n a (.mk kb gb lb us)).isSome) (by rw [Option.isSome_map]) (one_rowO (fun c hc => by obtain ⟨fp, h1, h2⟩ := hOS c hc; exact ⟨fp, h1, h2.mono (by omega)⟩) (by have := HZ0.out; have := hBS.size; omega)) (by omega) (by omega) (below_trans HB.out (hBS.alloc hBS.size (Obj.cells #[.int .i64 p0, .int .i64 p1, .int .i64 p2, .slice pa pn pc] 44)))
      rw [← HR.out] at FIN
      generalize (cmpo n a (.mk kb gb lb us)).isSome = r at *
      simp only [put4, Nat.zero_add] at FIN
      go_wp2_with fail
      exact bodyPost_ret (v := .tuple #[.agg #[.int .i64 5, .int .i64 0, .int .i64 la, .slice (some ⟨wS.heap.size, 0, none⟩) 1 1], .bool r]) (by simp [results, Try.results34, go_sem, z0, z1, z2, z3]) rfl FIN
    refine AllReadyL.cons rfl (fun K hK => ?_) AllReadyL.nil
    have hE0 := alloc_new ((((w.alloc (Obj.cells #[.int .i64 5, .int .i64 ga, .int .i64 la, .slice (some ⟨bc, oc, none⟩) 1 cc] 44)).alloc (Obj.cells #[.int .i64 kb, .int .i64 gb, .int .i64 lb, .slice ab nb cb] 44)).alloc (Obj.cells #[.int .i64 0, .int .i64 0, .int .i64 0, .slice none 0 0] 44))) (Obj.cells #[.int .i64 0, .int .i64 0, .int .i64 0, .slice none 0 0] 44)
    rw [HZ0.out] at hE0
    have hE1 := (hb1.block _ (lt_of_block hE0)).trans hE0
    have bM := hE1
    have z0 := (cell_of_block (o := 0) bM).trans (show _ = some (.int .i64 0) from rfl)
    have z1 := (cell_of_block (o := 1) bM).trans (show _ = some (.int .i64 0) from rfl)
    have z2 := (cell_of_block (o := 2) bM).trans (show _ = some (.int .i64 0) from rfl)
    have z3 := (cell_of_block (o := 3) bM).trans (show _ = some (.slice none 0 0) from rfl)
    have yz := fun o => frozen_of_block (o := o) bM
    go_simp
    clear z0 z1 z2 z3 yz bM
    refine hK.out _ _ ?_ (fun hS4 => ?_)
    · exact ⟨trivial, fun h => absurd (h.symm.trans (show _ = true by kernel_rfl)) (by decide)⟩
    clear hK K hS3
    try simp only [Act.put, List.setIfInBounds_toArray, List.set_cons_zero, List.set_cons_succ]
    refine readyL (rs := [8]) (by kernel_rfl) (by simp) ?_
    refine AllReadyL.cons rfl (fun K hK => ?_) AllReadyL.nil
    go_simp
    refine hK.out _ _ ?_ (fun hS5 => ?_)
    · exact ⟨trivial, fun h => absurd (h.symm.trans (show _ = true by kernel_rfl)) (by decide)⟩
    clear hK K hS4
    try simp only [Act.put, List.setIfInBounds_toArray, List.set_cons_zero, List.set_cons_succ]
    refine readyL (rs := [11]) (by kernel_rfl) (by simp) ?_
    refine AllReadyL.cons rfl (fun K hK => ?_) AllReadyL.nil
    go_simp
    refine hK.out _ _ ?_ (fun hS6 => ?_)
    · exact ⟨trivial, fun h => absurd (h.symm.trans (show _ = true by kernel_rfl)) (by decide)⟩
    clear hK K hS5
    try simp only [Act.put, List.setIfInBounds_toArray, List.set_cons_zero, List.set_cons_succ]
    refine doneL (by kernel_rfl) ?_ _
    obtain ⟨wS, hW, hES, hOS, hBS⟩ := sec_closeO (W := (((w.alloc (Obj.cells #[.int .i64 5, .int .i64 ga, .int .i64 la, .slice (some ⟨bc, oc, none⟩) 1 cc] 44)).alloc (Obj.cells #[.int .i64 kb, .int .i64 gb, .int .i64 lb, .slice ab nb cb] 44)).alloc (Obj.cells #[.int .i64 0, .int .i64 0, .int .i64 0, .slice none 0 0] 44))) (lo := w.heap.size + 1 + 1 + 1 + 1) hE1 (fun c hc => by obtain ⟨fp, h1, h2⟩ := hO c hc; exact ⟨fp, h1, h2.mono (by have h3 := HZ0.out; simp [World.drew] at hU1 ⊢; try omega)⟩) (by omega) (by have := HZ0.out; omega) hB1
    simp only [put4, Nat.zero_add] at hW
    rw [← hW]
    clear hW hO
    have s0 : wS.cell? ⟨w.heap.size + 1 + 1 + 1, 0, none⟩ = some (.int .i64 p0) := by rw [cell_of_block hES]; rfl
    have s1 : wS.cell? ⟨w.heap.size + 1 + 1 + 1, 1, none⟩ = some (.int .i64 p1) := by rw [cell_of_block hES]; rfl
    have s2 : wS.cell? ⟨w.heap.size + 1 + 1 + 1, 2, none⟩ = some (.int .i64 p2) := by rw [cell_of_block hES]; rfl
    have s3 : wS.cell? ⟨w.heap.size + 1 + 1 + 1, 3, none⟩ = some (.slice pa pn pc) := by rw [cell_of_block hES]; rfl
    have hSS := HS0.out _ hBS
    clear hES x0 x1 x2 x3 y0 y1 y2 y3 d0 d1 d2 d3
    obtain ⟨x0, x1, x2, x3, y0, y1, y2, y3, d0, d1, d2, d3⟩ := hSS
    have bM := HM.out _ (hBS.alloc hBS.size (Obj.cells #[.int .i64 p0, .int .i64 p1, .int .i64 p2, .slice pa pn pc] 44))
    have z0 := (cell_of_block (o := 0) bM).trans (show _ = some (.int .i64 0) from rfl)
    have z1 := (cell_of_block (o := 1) bM).trans (show _ = some (.int .i64 0) from rfl)
    have z2 := (cell_of_block (o := 2) bM).trans (show _ = some (.int .i64 0) from rfl)
    have z3 := (cell_of_block (o := 3) bM).trans (show _ = some (.slice none 0 0) from rfl)
    have yz := fun o => frozen_of_block (o := o) bM
    have FIN := closeO (w := w) (wF := wS.alloc (Obj.cells #[.int .i64 p0, .int .i64 p1, .int .i64 p2, .slice pa pn pc] 44)) (M := w.heap.size + 1 + 1) (lo := w.heap.size + 1 + 1 + 1) (o := (cmpo n a (.mk kb gb lb us)).map fun c => Co.mk 5 0 la [c]) (b := (cmpo n a (.mk kb gb lb us)).isSome) (by rw [Option.isSome_map]) (one_rowO (fun c hc => by obtain ⟨fp, h1, h2⟩ := hOS c hc; exact ⟨fp, h1, h2.mono (by omega)⟩) (by have := HZ0.out; have := hBS.size; omega)) (by omega) (by omega) (below_trans HB.out (hBS.alloc hBS.size (Obj.cells #[.int .i64 p0, .int .i64 p1, .int .i64 p2, .slice pa pn pc] 44)))
    rw [← HR.out] at FIN
    generalize (cmpo n a (.mk kb gb lb us)).isSome = r at *
    simp only [put4, Nat.zero_add] at FIN
    go_wp2_with fail
    exact bodyPost_ret (v := .tuple #[.agg #[.int .i64 5, .int .i64 0, .int .i64 la, .slice (some ⟨wS.heap.size, 0, none⟩) 1 1], .bool r]) (by simp [results, Try.results34, go_sem, z0, z1, z2, z3]) rfl FIN
  refine AllReadyL.cons rfl (fun K hK => ?_) AllReadyL.nil
  go_simp
  refine hK.out _ _ ?_ (fun hS3 => ?_)
  · exact ⟨trivial, fun _ => HS0.out _ hB1⟩
  clear hK K hS2
  try simp only [Act.put, List.setIfInBounds_toArray, List.set_cons_zero, List.set_cons_succ]
  refine readyL (rs := [7]) (by kernel_rfl) (by simp) ?_
  refine AllReadyL.cons rfl (fun K hK => ?_) AllReadyL.nil
  go_simp
  refine hK.out _ _ ?_ (fun hS4 => ?_)
  · exact ⟨trivial, fun _ => HS0.out _ hB1⟩
  clear hK K hS3
  try simp only [Act.put, List.setIfInBounds_toArray, List.set_cons_zero, List.set_cons_succ]
  refine readyL (rs := [10]) (by kernel_rfl) (by simp) ?_
  refine AllReadyL.cons rfl (fun K hK => ?_) AllReadyL.nil
  have hE0 := alloc_new ((((w.alloc (Obj.cells #[.int .i64 5, .int .i64 ga, .int .i64 la, .slice (some ⟨bc, oc, none⟩) 1 cc] 44)).alloc (Obj.cells #[.int .i64 kb, .int .i64 gb, .int .i64 lb, .slice ab nb cb] 44)).alloc (Obj.cells #[.int .i64 0, .int .i64 0, .int .i64 0, .slice none 0 0] 44))) (Obj.cells #[.int .i64 0, .int .i64 0, .int .i64 0, .slice none 0 0] 44)
  rw [HZ0.out] at hE0
  have hE1 := (hb1.block _ (lt_of_block hE0)).trans hE0
  have bM := hE1
  have z0 := (cell_of_block (o := 0) bM).trans (show _ = some (.int .i64 0) from rfl)
  have z1 := (cell_of_block (o := 1) bM).trans (show _ = some (.int .i64 0) from rfl)
  have z2 := (cell_of_block (o := 2) bM).trans (show _ = some (.int .i64 0) from rfl)
  have z3 := (cell_of_block (o := 3) bM).trans (show _ = some (.slice none 0 0) from rfl)
  have yz := fun o => frozen_of_block (o := o) bM
  go_simp
  clear z0 z1 z2 z3 yz bM
  refine hK.out _ _ ?_ (fun hS5 => ?_)
  · exact ⟨trivial, fun h => absurd (h.symm.trans (show _ = true by kernel_rfl)) (by decide)⟩
  clear hK K hS4
  try simp only [Act.put, List.setIfInBounds_toArray, List.set_cons_zero, List.set_cons_succ]
  refine readyL (rs := [11]) (by kernel_rfl) (by simp) ?_
  refine AllReadyL.cons rfl (fun K hK => ?_) AllReadyL.nil
  go_simp
  refine hK.out _ _ ?_ (fun hS6 => ?_)
  · exact ⟨trivial, fun h => absurd (h.symm.trans (show _ = true by kernel_rfl)) (by decide)⟩
  clear hK K hS5
  try simp only [Act.put, List.setIfInBounds_toArray, List.set_cons_zero, List.set_cons_succ]
  refine doneL (by kernel_rfl) ?_ _
  obtain ⟨wS, hW, hES, hOS, hBS⟩ := sec_closeO (W := (((w.alloc (Obj.cells #[.int .i64 5, .int .i64 ga, .int .i64 la, .slice (some ⟨bc, oc, none⟩) 1 cc] 44)).alloc (Obj.cells #[.int .i64 kb, .int .i64 gb, .int .i64 lb, .slice ab nb cb] 44)).alloc (Obj.cells #[.int .i64 0, .int .i64 0, .int .i64 0, .slice none 0 0] 44))) (lo := w.heap.size + 1 + 1 + 1 + 1) hE1 (fun c hc => by obtain ⟨fp, h1, h2⟩ := hO c hc; exact ⟨fp, h1, h2.mono (by have h3 := HZ0.out; simp [World.drew] at hU1 ⊢; try omega)⟩) (by omega) (by have := HZ0.out; omega) hB1
  simp only [put4, Nat.zero_add] at hW
  rw [← hW]
  clear hW hO
  have s0 : wS.cell? ⟨w.heap.size + 1 + 1 + 1, 0, none⟩ = some (.int .i64 p0) := by rw [cell_of_block hES]; rfl
  have s1 : wS.cell? ⟨w.heap.size + 1 + 1 + 1, 1, none⟩ = some (.int .i64 p1) := by rw [cell_of_block hES]; rfl
  have s2 : wS.cell? ⟨w.heap.size + 1 + 1 + 1, 2, none⟩ = some (.int .i64 p2) := by rw [cell_of_block hES]; rfl
  have s3 : wS.cell? ⟨w.heap.size + 1 + 1 + 1, 3, none⟩ = some (.slice pa pn pc) := by rw [cell_of_block hES]; rfl
  have hSS := HS0.out _ hBS
  clear hES x0 x1 x2 x3 y0 y1 y2 y3 d0 d1 d2 d3
  obtain ⟨x0, x1, x2, x3, y0, y1, y2, y3, d0, d1, d2, d3⟩ := hSS
  have bM := HM.out _ (hBS.alloc hBS.size (Obj.cells #[.int .i64 p0, .int .i64 p1, .int .i64 p2, .slice pa pn pc] 44))
  have z0 := (cell_of_block (o := 0) bM).trans (show _ = some (.int .i64 0) from rfl)
  have z1 := (cell_of_block (o := 1) bM).trans (show _ = some (.int .i64 0) from rfl)
  have z2 := (cell_of_block (o := 2) bM).trans (show _ = some (.int .i64 0) from rfl)
  have z3 := (cell_of_block (o := 3) bM).trans (show _ = some (.slice none 0 0) from rfl)
  have yz := fun o => frozen_of_block (o := o) bM
  have FIN := closeO (w := w) (wF := wS.alloc (Obj.cells #[.int .i64 p0, .int .i64 p1, .int .i64 p2, .slice pa pn pc] 44)) (M := w.heap.size + 1 + 1) (lo := w.heap.size + 1 + 1 + 1) (o := (cmpo n a (.mk kb gb lb us)).map fun c => Co.mk 5 0 la [c]) (b := (cmpo n a (.mk kb gb lb us)).isSome) (by rw [Option.isSome_map]) (one_rowO (fun c hc => by obtain ⟨fp, h1, h2⟩ := hOS c hc; exact ⟨fp, h1, h2.mono (by omega)⟩) (by have := HZ0.out; have := hBS.size; omega)) (by omega) (by omega) (below_trans HB.out (hBS.alloc hBS.size (Obj.cells #[.int .i64 p0, .int .i64 p1, .int .i64 p2, .slice pa pn pc] 44)))
  rw [← HR.out] at FIN
  generalize (cmpo n a (.mk kb gb lb us)).isSome = r at *
  simp only [put4, Nat.zero_add] at FIN
  go_wp2_with fail
  exact bodyPost_ret (v := .tuple #[.agg #[.int .i64 5, .int .i64 0, .int .i64 la, .slice (some ⟨wS.heap.size, 0, none⟩) 1 1], .bool r]) (by simp [results, Try.results34, go_sem, z0, z1, z2, z3]) rfl FIN
end Go.Proofs.Ytgekfnodmgkdaaa
