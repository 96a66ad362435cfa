/- The program's composePlain. -/
import Derived.Test.YtolhfcpmhhhjpaaSG7
import Derived.Test.YtolhfcpmhhhjpaaSG1
namespace Go.Proofs.Ytolhfcpmhhhjpaa
open Go.RowKit


set_option maxRecDepth 100000 in
set_option maxHeartbeats 4000000 in
theorem plain_kind (ka ga la kb gb lb : Int) (ts us : List Co) (va vb : Value) (fa fb : List Nat) (w : World) (hq : ka ≠ kb) (hata : (Co.mk ka ga la ts).At w va fa) (hatb : (Co.mk kb gb lb us).At w vb fb) :
    Calls Try.prog 96 #[va, vb] w (MadeL w (fa ++ fb) (none)) := by
  have HA := hid (show ∀ x ∈ fa ++ fb, x < w.heap.size from fun x hx => (List.mem_append.1 hx).elim (hata.lt x) (hatb.lt x))
  have hata0 := hata
  have hatb0 := hatb
  obtain ⟨sa, rfl, hsa⟩ := Co.at_mk.1 hata
  obtain ⟨sb, rfl, hsb⟩ := Co.at_mk.1 hatb
  obtain ⟨aa, ca, rfl⟩ := hsa.shape
  generalize hlna : ts.length = na at *
  obtain ⟨ab, cb, rfl⟩ := hsb.shape
  generalize hlnb : us.length = nb at *
  have hb0 : Below w.heap.size w (((w.alloc (Obj.cells #[.int .i64 ka, .int .i64 ga, .int .i64 la, .slice aa na ca] 30)).alloc (Obj.cells #[.int .i64 kb, .int .i64 gb, .int .i64 lb, .slice ab nb cb] 30)).alloc (Obj.cells #[.int .i64 0, .int .i64 0, .int .i64 0, .slice none 0 0] 30)) := (((Below.refl _ _).alloc (Nat.le_refl _) _).alloc (by simp) _).alloc (by simp; omega) _
  have hs0 : ((((w.alloc (Obj.cells #[.int .i64 ka, .int .i64 ga, .int .i64 la, .slice aa na ca] 30)).alloc (Obj.cells #[.int .i64 kb, .int .i64 gb, .int .i64 lb, .slice ab nb cb] 30)).alloc (Obj.cells #[.int .i64 0, .int .i64 0, .int .i64 0, .slice none 0 0] 30))).heap.size = w.heap.size + 1 + 1 + 1 := by simp
  obtain ⟨bA, bB, bZ⟩ := three3 (Below.refl ((((w.alloc (Obj.cells #[.int .i64 ka, .int .i64 ga, .int .i64 la, .slice aa na ca] 30)).alloc (Obj.cells #[.int .i64 kb, .int .i64 gb, .int .i64 lb, .slice ab nb cb] 30)).alloc (Obj.cells #[.int .i64 0, .int .i64 0, .int .i64 0, .slice none 0 0] 30))).heap.size (((w.alloc (Obj.cells #[.int .i64 ka, .int .i64 ga, .int .i64 la, .slice aa na ca] 30)).alloc (Obj.cells #[.int .i64 kb, .int .i64 gb, .int .i64 lb, .slice ab nb cb] 30)).alloc (Obj.cells #[.int .i64 0, .int .i64 0, .int .i64 0, .slice none 0 0] 30)))
  have x0 : ((((w.alloc (Obj.cells #[.int .i64 ka, .int .i64 ga, .int .i64 la, .slice aa na ca] 30)).alloc (Obj.cells #[.int .i64 kb, .int .i64 gb, .int .i64 lb, .slice ab nb cb] 30)).alloc (Obj.cells #[.int .i64 0, .int .i64 0, .int .i64 0, .slice none 0 0] 30))).cell? ⟨w.heap.size, 0, none⟩ = some (.int .i64 ka) := by rw [cell_of_block bA]; rfl
  have x1 : ((((w.alloc (Obj.cells #[.int .i64 ka, .int .i64 ga, .int .i64 la, .slice aa na ca] 30)).alloc (Obj.cells #[.int .i64 kb, .int .i64 gb, .int .i64 lb, .slice ab nb cb] 30)).alloc (Obj.cells #[.int .i64 0, .int .i64 0, .int .i64 0, .slice none 0 0] 30))).cell? ⟨w.heap.size, 1, none⟩ = some (.int .i64 ga) := by rw [cell_of_block bA]; rfl
  have x2 : ((((w.alloc (Obj.cells #[.int .i64 ka, .int .i64 ga, .int .i64 la, .slice aa na ca] 30)).alloc (Obj.cells #[.int .i64 kb, .int .i64 gb, .int .i64 lb, .slice ab nb cb] 30)).alloc (Obj.cells #[.int .i64 0, .int .i64 0, .int .i64 0, .slice none 0 0] 30))).cell? ⟨w.heap.size, 2, none⟩ = some (.int .i64 la) := by rw [cell_of_block bA]; rfl
  have x3 : ((((w.alloc (Obj.cells #[.int .i64 ka, .int .i64 ga, .int .i64 la, .slice aa na ca] 30)).alloc (Obj.cells #[.int .i64 kb, .int .i64 gb, .int .i64 lb, .slice ab nb cb] 30)).alloc (Obj.cells #[.int .i64 0, .int .i64 0, .int .i64 0, .slice none 0 0] 30))).cell? ⟨w.heap.size, 3, none⟩ = some (.slice aa na ca) := by rw [cell_of_block bA]; rfl
  have y0 : ((((w.alloc (Obj.cells #[.int .i64 ka, .int .i64 ga, .int .i64 la, .slice aa na ca] 30)).alloc (Obj.cells #[.int .i64 kb, .int .i64 gb, .int .i64 lb, .slice ab nb cb] 30)).alloc (Obj.cells #[.int .i64 0, .int .i64 0, .int .i64 0, .slice none 0 0] 30))).cell? ⟨w.heap.size + 1, 0, none⟩ = some (.int .i64 kb) := by rw [cell_of_block bB]; rfl
  have y1 : ((((w.alloc (Obj.cells #[.int .i64 ka, .int .i64 ga, .int .i64 la, .slice aa na ca] 30)).alloc (Obj.cells #[.int .i64 kb, .int .i64 gb, .int .i64 lb, .slice ab nb cb] 30)).alloc (Obj.cells #[.int .i64 0, .int .i64 0, .int .i64 0, .slice none 0 0] 30))).cell? ⟨w.heap.size + 1, 1, none⟩ = some (.int .i64 gb) := by rw [cell_of_block bB]; rfl
  have y2 : ((((w.alloc (Obj.cells #[.int .i64 ka, .int .i64 ga, .int .i64 la, .slice aa na ca] 30)).alloc (Obj.cells #[.int .i64 kb, .int .i64 gb, .int .i64 lb, .slice ab nb cb] 30)).alloc (Obj.cells #[.int .i64 0, .int .i64 0, .int .i64 0, .slice none 0 0] 30))).cell? ⟨w.heap.size + 1, 2, none⟩ = some (.int .i64 lb) := by rw [cell_of_block bB]; rfl
  have y3 : ((((w.alloc (Obj.cells #[.int .i64 ka, .int .i64 ga, .int .i64 la, .slice aa na ca] 30)).alloc (Obj.cells #[.int .i64 kb, .int .i64 gb, .int .i64 lb, .slice ab nb cb] 30)).alloc (Obj.cells #[.int .i64 0, .int .i64 0, .int .i64 0, .slice none 0 0] 30))).cell? ⟨w.heap.size + 1, 3, none⟩ = some (.slice ab nb cb) := by rw [cell_of_block bB]; rfl
  have HB0 := hid hb0
  have HTA0 := hid hata0
  have HTB0 := hid hatb0
  have HBZ := hid bZ
  have HTA := hid (hata0.below hb0)
  have HTB := hid (hatb0.below hb0)
  obtain ⟨Z, hZd⟩ : ∃ Z, Z = (((w.alloc (Obj.cells #[.int .i64 ka, .int .i64 ga, .int .i64 la, .slice aa na ca] 30)).alloc (Obj.cells #[.int .i64 kb, .int .i64 gb, .int .i64 lb, .slice ab nb cb] 30)).alloc (Obj.cells #[.int .i64 0, .int .i64 0, .int .i64 0, .slice none 0 0] 30)) := ⟨_, rfl⟩
  rw [← hZd] at hb0 hs0 HB0 HBZ HTA HTB  x0 x1 x2 x3 y0 y1 y2 y3
  have HZS := hid hs0
  have HS0 := hid (show ∀ w', Below Z.heap.size Z w' → (fun w' => w'.cell? ⟨w.heap.size, 0, none⟩ = some (.int .i64 ka) ∧ w'.cell? ⟨w.heap.size, 1, none⟩ = some (.int .i64 ga) ∧ w'.cell? ⟨w.heap.size, 2, none⟩ = some (.int .i64 la) ∧ w'.cell? ⟨w.heap.size, 3, none⟩ = some (.slice aa na ca) ∧ w'.cell? ⟨w.heap.size + 1, 0, none⟩ = some (.int .i64 kb) ∧ w'.cell? ⟨w.heap.size + 1, 1, none⟩ = some (.int .i64 gb) ∧ w'.cell? ⟨w.heap.size + 1, 2, none⟩ = some (.int .i64 lb) ∧ w'.cell? ⟨w.heap.size + 1, 3, none⟩ = some (.slice ab nb cb)) w' from fun w' h => ⟨cell_keep x0 h, cell_keep x1 h, cell_keep x2 h, cell_keep x3 h, cell_keep y0 h, cell_keep y1 h, cell_keep y2 h, cell_keep y3 h⟩)
  have HZD := hid hZd
  clear hb0 hs0 bA bB bZ hata hatb hata0 hatb0 hsa hsb hZd 
  have q1 : (ka == kb) = false := by rw [beq_eq_false_iff_ne]; exact hq
  have q2 : (ka != kb) = true := by simp [bne, q1]
  clear hq
  have hbF : Below w.heap.size w (((w.alloc (Obj.cells #[.int .i64 ka, .int .i64 ga, .int .i64 la, .slice aa na ca] 30)).alloc (Obj.cells #[.int .i64 kb, .int .i64 gb, .int .i64 lb, .slice ab nb cb] 30)).alloc (Obj.cells #[.int .i64 0, .int .i64 0, .int .i64 0, .slice none 0 0] 30)) := (((Below.refl _ _).alloc (Nat.le_refl _) _).alloc (by simp) _).alloc (by simp; omega) _
  have FIN : MadeL w (fa ++ fb) (none) (.returned (.tuple #[.agg #[.int .i64 0, .int .i64 0, .int .i64 0, .slice none 0 0], .bool false])) (((w.alloc (Obj.cells #[.int .i64 ka, .int .i64 ga, .int .i64 la, .slice aa na ca] 30)).alloc (Obj.cells #[.int .i64 kb, .int .i64 gb, .int .i64 lb, .slice ab nb cb] 30)).alloc (Obj.cells #[.int .i64 0, .int .i64 0, .int .i64 0, .slice none 0 0] 30)) := ⟨_, _, _, _, _, _, rfl, hbF, fun c hc => (by cases hc)⟩
  rw [HZD.out] at x0 x1 x2 x3 y0 y1 y2 y3
  clear HS0
  go_enter Try.func96, Try.ntmps96
  go_wp2_with fail
  exact bodyPost_ret (v := .tuple #[.agg #[.int .i64 0, .int .i64 0, .int .i64 0, .slice none 0 0], .bool false]) (by simp [results, Try.results96, go_sem]) rfl FIN
set_option maxRecDepth 100000 in
set_option maxHeartbeats 4000000 in
theorem plain_tag (ka ga la gb lb : Int) (ts us : List Co) (va vb : Value) (fa fb : List Nat) (w : World) (hq : ga ≠ gb) (hata : (Co.mk ka ga la ts).At w va fa) (hatb : (Co.mk ka gb lb us).At w vb fb) :
    Calls Try.prog 96 #[va, vb] w (MadeL w (fa ++ fb) (none)) := by
  have HA := hid (show ∀ x ∈ fa ++ fb, x < w.heap.size from fun x hx => (List.mem_append.1 hx).elim (hata.lt x) (hatb.lt x))
  have hata0 := hata
  have hatb0 := hatb
  obtain ⟨sa, rfl, hsa⟩ := Co.at_mk.1 hata
  obtain ⟨sb, rfl, hsb⟩ := Co.at_mk.1 hatb
  obtain ⟨aa, ca, rfl⟩ := hsa.shape
  generalize hlna : ts.length = na at *
  obtain ⟨ab, cb, rfl⟩ := hsb.shape
  generalize hlnb : us.length = nb at *
  have hb0 : Below w.heap.size w (((w.alloc (Obj.cells #[.int .i64 ka, .int .i64 ga, .int .i64 la, .slice aa na ca] 30)).alloc (Obj.cells #[.int .i64 ka, .int .i64 gb, .int .i64 lb, .slice ab nb cb] 30)).alloc (Obj.cells #[.int .i64 0, .int .i64 0, .int .i64 0, .slice none 0 0] 30)) := (((Below.refl _ _).alloc (Nat.le_refl _) _).alloc (by simp) _).alloc (by simp; omega) _
  have hs0 : ((((w.alloc (Obj.cells #[.int .i64 ka, .int .i64 ga, .int .i64 la, .slice aa na ca] 30)).alloc (Obj.cells #[.int .i64 ka, .int .i64 gb, .int .i64 lb, .slice ab nb cb] 30)).alloc (Obj.cells #[.int .i64 0, .int .i64 0, .int .i64 0, .slice none 0 0] 30))).heap.size = w.heap.size + 1 + 1 + 1 := by simp
  obtain ⟨bA, bB, bZ⟩ := three3 (Below.refl ((((w.alloc (Obj.cells #[.int .i64 ka, .int .i64 ga, .int .i64 la, .slice aa na ca] 30)).alloc (Obj.cells #[.int .i64 ka, .int .i64 gb, .int .i64 lb, .slice ab nb cb] 30)).alloc (Obj.cells #[.int .i64 0, .int .i64 0, .int .i64 0, .slice none 0 0] 30))).heap.size (((w.alloc (Obj.cells #[.int .i64 ka, .int .i64 ga, .int .i64 la, .slice aa na ca] 30)).alloc (Obj.cells #[.int .i64 ka, .int .i64 gb, .int .i64 lb, .slice ab nb cb] 30)).alloc (Obj.cells #[.int .i64 0, .int .i64 0, .int .i64 0, .slice none 0 0] 30)))
  have x0 : ((((w.alloc (Obj.cells #[.int .i64 ka, .int .i64 ga, .int .i64 la, .slice aa na ca] 30)).alloc (Obj.cells #[.int .i64 ka, .int .i64 gb, .int .i64 lb, .slice ab nb cb] 30)).alloc (Obj.cells #[.int .i64 0, .int .i64 0, .int .i64 0, .slice none 0 0] 30))).cell? ⟨w.heap.size, 0, none⟩ = some (.int .i64 ka) := by rw [cell_of_block bA]; rfl
  have x1 : ((((w.alloc (Obj.cells #[.int .i64 ka, .int .i64 ga, .int .i64 la, .slice aa na ca] 30)).alloc (Obj.cells #[.int .i64 ka, .int .i64 gb, .int .i64 lb, .slice ab nb cb] 30)).alloc (Obj.cells #[.int .i64 0, .int .i64 0, .int .i64 0, .slice none 0 0] 30))).cell? ⟨w.heap.size, 1, none⟩ = some (.int .i64 ga) := by rw [cell_of_block bA]; rfl
  have x2 : ((((w.alloc (Obj.cells #[.int .i64 ka, .int .i64 ga, .int .i64 la, .slice aa na ca] 30)).alloc (Obj.cells #[.int .i64 ka, .int .i64 gb, .int .i64 lb, .slice ab nb cb] 30)).alloc (Obj.cells #[.int .i64 0, .int .i64 0, .int .i64 0, .slice none 0 0] 30))).cell? ⟨w.heap.size, 2, none⟩ = some (.int .i64 la) := by rw [cell_of_block bA]; rfl
  have x3 : ((((w.alloc (Obj.cells #[.int .i64 ka, .int .i64 ga, .int .i64 la, .slice aa na ca] 30)).alloc (Obj.cells #[.int .i64 ka, .int .i64 gb, .int .i64 lb, .slice ab nb cb] 30)).alloc (Obj.cells #[.int .i64 0, .int .i64 0, .int .i64 0, .slice none 0 0] 30))).cell? ⟨w.heap.size, 3, none⟩ = some (.slice aa na ca) := by rw [cell_of_block bA]; rfl
  have y0 : ((((w.alloc (Obj.cells #[.int .i64 ka, .int .i64 ga, .int .i64 la, .slice aa na ca] 30)).alloc (Obj.cells #[.int .i64 ka, .int .i64 gb, .int .i64 lb, .slice ab nb cb] 30)).alloc (Obj.cells #[.int .i64 0, .int .i64 0, .int .i64 0, .slice none 0 0] 30))).cell? ⟨w.heap.size + 1, 0, none⟩ = some (.int .i64 ka) := by rw [cell_of_block bB]; rfl
  have y1 : ((((w.alloc (Obj.cells #[.int .i64 ka, .int .i64 ga, .int .i64 la, .slice aa na ca] 30)).alloc (Obj.cells #[.int .i64 ka, .int .i64 gb, .int .i64 lb, .slice ab nb cb] 30)).alloc (Obj.cells #[.int .i64 0, .int .i64 0, .int .i64 0, .slice none 0 0] 30))).cell? ⟨w.heap.size + 1, 1, none⟩ = some (.int .i64 gb) := by rw [cell_of_block bB]; rfl
  have y2 : ((((w.alloc (Obj.cells #[.int .i64 ka, .int .i64 ga, .int .i64 la, .slice aa na ca] 30)).alloc (Obj.cells #[.int .i64 ka, .int .i64 gb, .int .i64 lb, .slice ab nb cb] 30)).alloc (Obj.cells #[.int .i64 0, .int .i64 0, .int .i64 0, .slice none 0 0] 30))).cell? ⟨w.heap.size + 1, 2, none⟩ = some (.int .i64 lb) := by rw [cell_of_block bB]; rfl
  have y3 : ((((w.alloc (Obj.cells #[.int .i64 ka, .int .i64 ga, .int .i64 la, .slice aa na ca] 30)).alloc (Obj.cells #[.int .i64 ka, .int .i64 gb, .int .i64 lb, .slice ab nb cb] 30)).alloc (Obj.cells #[.int .i64 0, .int .i64 0, .int .i64 0, .slice none 0 0] 30))).cell? ⟨w.heap.size + 1, 3, none⟩ = some (.slice ab nb cb) := by rw [cell_of_block bB]; rfl
  have HB0 := hid hb0
  have HTA0 := hid hata0
  have HTB0 := hid hatb0
  have HBZ := hid bZ
  have HTA := hid (hata0.below hb0)
  have HTB := hid (hatb0.below hb0)
  obtain ⟨Z, hZd⟩ : ∃ Z, Z = (((w.alloc (Obj.cells #[.int .i64 ka, .int .i64 ga, .int .i64 la, .slice aa na ca] 30)).alloc (Obj.cells #[.int .i64 ka, .int .i64 gb, .int .i64 lb, .slice ab nb cb] 30)).alloc (Obj.cells #[.int .i64 0, .int .i64 0, .int .i64 0, .slice none 0 0] 30)) := ⟨_, rfl⟩
  rw [← hZd] at hb0 hs0 HB0 HBZ HTA HTB  x0 x1 x2 x3 y0 y1 y2 y3
  have HZS := hid hs0
  have HS0 := hid (show ∀ w', Below Z.heap.size Z w' → (fun w' => w'.cell? ⟨w.heap.size, 0, none⟩ = some (.int .i64 ka) ∧ w'.cell? ⟨w.heap.size, 1, none⟩ = some (.int .i64 ga) ∧ w'.cell? ⟨w.heap.size, 2, none⟩ = some (.int .i64 la) ∧ w'.cell? ⟨w.heap.size, 3, none⟩ = some (.slice aa na ca) ∧ w'.cell? ⟨w.heap.size + 1, 0, none⟩ = some (.int .i64 ka) ∧ w'.cell? ⟨w.heap.size + 1, 1, none⟩ = some (.int .i64 gb) ∧ w'.cell? ⟨w.heap.size + 1, 2, none⟩ = some (.int .i64 lb) ∧ w'.cell? ⟨w.heap.size + 1, 3, none⟩ = some (.slice ab nb cb)) w' from fun w' h => ⟨cell_keep x0 h, cell_keep x1 h, cell_keep x2 h, cell_keep x3 h, cell_keep y0 h, cell_keep y1 h, cell_keep y2 h, cell_keep y3 h⟩)
  have HZD := hid hZd
  clear hb0 hs0 bA bB bZ hata hatb hata0 hatb0 hsa hsb hZd 
  have q1 : (ga == gb) = false := by rw [beq_eq_false_iff_ne]; exact hq
  have q2 : (ga != gb) = true := by simp [bne, q1]
  clear hq
  have hbF : Below w.heap.size w (((w.alloc (Obj.cells #[.int .i64 ka, .int .i64 ga, .int .i64 la, .slice aa na ca] 30)).alloc (Obj.cells #[.int .i64 ka, .int .i64 gb, .int .i64 lb, .slice ab nb cb] 30)).alloc (Obj.cells #[.int .i64 0, .int .i64 0, .int .i64 0, .slice none 0 0] 30)) := (((Below.refl _ _).alloc (Nat.le_refl _) _).alloc (by simp) _).alloc (by simp; omega) _
  have FIN : MadeL w (fa ++ fb) (none) (.returned (.tuple #[.agg #[.int .i64 0, .int .i64 0, .int .i64 0, .slice none 0 0], .bool false])) (((w.alloc (Obj.cells #[.int .i64 ka, .int .i64 ga, .int .i64 la, .slice aa na ca] 30)).alloc (Obj.cells #[.int .i64 ka, .int .i64 gb, .int .i64 lb, .slice ab nb cb] 30)).alloc (Obj.cells #[.int .i64 0, .int .i64 0, .int .i64 0, .slice none 0 0] 30)) := ⟨_, _, _, _, _, _, rfl, hbF, fun c hc => (by cases hc)⟩
  rw [HZD.out] at x0 x1 x2 x3 y0 y1 y2 y3
  clear HS0
  go_enter Try.func96, Try.ntmps96
  go_wp2_with fail
  exact bodyPost_ret (v := .tuple #[.agg #[.int .i64 0, .int .i64 0, .int .i64 0, .slice none 0 0], .bool false]) (by simp [results, Try.results96, go_sem]) rfl FIN
set_option maxRecDepth 100000 in
set_option maxHeartbeats 4000000 in
theorem plain_id (ga la lb : Int) (ts us : List Co) (va vb : Value) (fa fb : List Nat) (w : World)  (hata : (Co.mk 1 ga la ts).At w va fa) (hatb : (Co.mk 1 ga lb us).At w vb fb) :
    Calls Try.prog 96 #[va, vb] w (MadeL w (fa ++ fb) (some (.mk 1 ga la ts))) := by
  have HA := hid (show ∀ x ∈ fa ++ fb, x < w.heap.size from fun x hx => (List.mem_append.1 hx).elim (hata.lt x) (hatb.lt x))
  have hata0 := hata
  have hatb0 := hatb
  obtain ⟨sa, rfl, hsa⟩ := Co.at_mk.1 hata
  obtain ⟨sb, rfl, hsb⟩ := Co.at_mk.1 hatb
  obtain ⟨aa, ca, rfl⟩ := hsa.shape
  generalize hlna : ts.length = na at *
  obtain ⟨ab, cb, rfl⟩ := hsb.shape
  generalize hlnb : us.length = nb at *
  have hb0 : Below w.heap.size w (((w.alloc (Obj.cells #[.int .i64 1, .int .i64 ga, .int .i64 la, .slice aa na ca] 30)).alloc (Obj.cells #[.int .i64 1, .int .i64 ga, .int .i64 lb, .slice ab nb cb] 30)).alloc (Obj.cells #[.int .i64 0, .int .i64 0, .int .i64 0, .slice none 0 0] 30)) := (((Below.refl _ _).alloc (Nat.le_refl _) _).alloc (by simp) _).alloc (by simp; omega) _
  have hs0 : ((((w.alloc (Obj.cells #[.int .i64 1, .int .i64 ga, .int .i64 la, .slice aa na ca] 30)).alloc (Obj.cells #[.int .i64 1, .int .i64 ga, .int .i64 lb, .slice ab nb cb] 30)).alloc (Obj.cells #[.int .i64 0, .int .i64 0, .int .i64 0, .slice none 0 0] 30))).heap.size = w.heap.size + 1 + 1 + 1 := by simp
  obtain ⟨bA, bB, bZ⟩ := three3 (Below.refl ((((w.alloc (Obj.cells #[.int .i64 1, .int .i64 ga, .int .i64 la, .slice aa na ca] 30)).alloc (Obj.cells #[.int .i64 1, .int .i64 ga, .int .i64 lb, .slice ab nb cb] 30)).alloc (Obj.cells #[.int .i64 0, .int .i64 0, .int .i64 0, .slice none 0 0] 30))).heap.size (((w.alloc (Obj.cells #[.int .i64 1, .int .i64 ga, .int .i64 la, .slice aa na ca] 30)).alloc (Obj.cells #[.int .i64 1, .int .i64 ga, .int .i64 lb, .slice ab nb cb] 30)).alloc (Obj.cells #[.int .i64 0, .int .i64 0, .int .i64 0, .slice none 0 0] 30)))
  have x0 : ((((w.alloc (Obj.cells #[.int .i64 1, .int .i64 ga, .int .i64 la, .slice aa na ca] 30)).alloc (Obj.cells #[.int .i64 1, .int .i64 ga, .int .i64 lb, .slice ab nb cb] 30)).alloc (Obj.cells #[.int .i64 0, .int .i64 0, .int .i64 0, .slice none 0 0] 30))).cell? ⟨w.heap.size, 0, none⟩ = some (.int .i64 1) := by rw [cell_of_block bA]; rfl
  have x1 : ((((w.alloc (Obj.cells #[.int .i64 1, .int .i64 ga, .int .i64 la, .slice aa na ca] 30)).alloc (Obj.cells #[.int .i64 1, .int .i64 ga, .int .i64 lb, .slice ab nb cb] 30)).alloc (Obj.cells #[.int .i64 0, .int .i64 0, .int .i64 0, .slice none 0 0] 30))).cell? ⟨w.heap.size, 1, none⟩ = some (.int .i64 ga) := by rw [cell_of_block bA]; rfl
  have x2 : ((((w.alloc (Obj.cells #[.int .i64 1, .int .i64 ga, .int .i64 la, .slice aa na ca] 30)).alloc (Obj.cells #[.int .i64 1, .int .i64 ga, .int .i64 lb, .slice ab nb cb] 30)).alloc (Obj.cells #[.int .i64 0, .int .i64 0, .int .i64 0, .slice none 0 0] 30))).cell? ⟨w.heap.size, 2, none⟩ = some (.int .i64 la) := by rw [cell_of_block bA]; rfl
  have x3 : ((((w.alloc (Obj.cells #[.int .i64 1, .int .i64 ga, .int .i64 la, .slice aa na ca] 30)).alloc (Obj.cells #[.int .i64 1, .int .i64 ga, .int .i64 lb, .slice ab nb cb] 30)).alloc (Obj.cells #[.int .i64 0, .int .i64 0, .int .i64 0, .slice none 0 0] 30))).cell? ⟨w.heap.size, 3, none⟩ = some (.slice aa na ca) := by rw [cell_of_block bA]; rfl
  have y0 : ((((w.alloc (Obj.cells #[.int .i64 1, .int .i64 ga, .int .i64 la, .slice aa na ca] 30)).alloc (Obj.cells #[.int .i64 1, .int .i64 ga, .int .i64 lb, .slice ab nb cb] 30)).alloc (Obj.cells #[.int .i64 0, .int .i64 0, .int .i64 0, .slice none 0 0] 30))).cell? ⟨w.heap.size + 1, 0, none⟩ = some (.int .i64 1) := by rw [cell_of_block bB]; rfl
  have y1 : ((((w.alloc (Obj.cells #[.int .i64 1, .int .i64 ga, .int .i64 la, .slice aa na ca] 30)).alloc (Obj.cells #[.int .i64 1, .int .i64 ga, .int .i64 lb, .slice ab nb cb] 30)).alloc (Obj.cells #[.int .i64 0, .int .i64 0, .int .i64 0, .slice none 0 0] 30))).cell? ⟨w.heap.size + 1, 1, none⟩ = some (.int .i64 ga) := by rw [cell_of_block bB]; rfl
  have y2 : ((((w.alloc (Obj.cells #[.int .i64 1, .int .i64 ga, .int .i64 la, .slice aa na ca] 30)).alloc (Obj.cells #[.int .i64 1, .int .i64 ga, .int .i64 lb, .slice ab nb cb] 30)).alloc (Obj.cells #[.int .i64 0, .int .i64 0, .int .i64 0, .slice none 0 0] 30))).cell? ⟨w.heap.size + 1, 2, none⟩ = some (.int .i64 lb) := by rw [cell_of_block bB]; rfl
  have y3 : ((((w.alloc (Obj.cells #[.int .i64 1, .int .i64 ga, .int .i64 la, .slice aa na ca] 30)).alloc (Obj.cells #[.int .i64 1, .int .i64 ga, .int .i64 lb, .slice ab nb cb] 30)).alloc (Obj.cells #[.int .i64 0, .int .i64 0, .int .i64 0, .slice none 0 0] 30))).cell? ⟨w.heap.size + 1, 3, none⟩ = some (.slice ab nb cb) := by rw [cell_of_block bB]; rfl
  have HB0 := hid hb0
  have HTA0 := hid hata0
  have HTB0 := hid hatb0
  have HBZ := hid bZ
  have HTA := hid (hata0.below hb0)
  have HTB := hid (hatb0.below hb0)
  obtain ⟨Z, hZd⟩ : ∃ Z, Z = (((w.alloc (Obj.cells #[.int .i64 1, .int .i64 ga, .int .i64 la, .slice aa na ca] 30)).alloc (Obj.cells #[.int .i64 1, .int .i64 ga, .int .i64 lb, .slice ab nb cb] 30)).alloc (Obj.cells #[.int .i64 0, .int .i64 0, .int .i64 0, .slice none 0 0] 30)) := ⟨_, rfl⟩
  rw [← hZd] at hb0 hs0 HB0 HBZ HTA HTB  x0 x1 x2 x3 y0 y1 y2 y3
  have HZS := hid hs0
  have HS0 := hid (show ∀ w', Below Z.heap.size Z w' → (fun w' => w'.cell? ⟨w.heap.size, 0, none⟩ = some (.int .i64 1) ∧ w'.cell? ⟨w.heap.size, 1, none⟩ = some (.int .i64 ga) ∧ w'.cell? ⟨w.heap.size, 2, none⟩ = some (.int .i64 la) ∧ w'.cell? ⟨w.heap.size, 3, none⟩ = some (.slice aa na ca) ∧ w'.cell? ⟨w.heap.size + 1, 0, none⟩ = some (.int .i64 1) ∧ w'.cell? ⟨w.heap.size + 1, 1, none⟩ = some (.int .i64 ga) ∧ w'.cell? ⟨w.heap.size + 1, 2, none⟩ = some (.int .i64 lb) ∧ w'.cell? ⟨w.heap.size + 1, 3, none⟩ = some (.slice ab nb cb)) w' from fun w' h => ⟨cell_keep x0 h, cell_keep x1 h, cell_keep x2 h, cell_keep x3 h, cell_keep y0 h, cell_keep y1 h, cell_keep y2 h, cell_keep y3 h⟩)
  have HZD := hid hZd
  clear hb0 hs0 bA bB bZ hata hatb hata0 hatb0 hsa hsb hZd 
  have hbF : Below w.heap.size w (((w.alloc (Obj.cells #[.int .i64 1, .int .i64 ga, .int .i64 la, .slice aa na ca] 30)).alloc (Obj.cells #[.int .i64 1, .int .i64 ga, .int .i64 lb, .slice ab nb cb] 30)).alloc (Obj.cells #[.int .i64 1, .int .i64 ga, .int .i64 la, .slice aa na ca] 30)) := (((Below.refl _ _).alloc (Nat.le_refl _) _).alloc (by simp) _).alloc (by simp; omega) _
  have FIN : MadeL w (fa ++ fb) (some (Co.mk 1 ga la ts)) (.returned (.tuple #[.agg #[.int .i64 1, .int .i64 ga, .int .i64 la, .slice aa na ca], .bool true])) (((w.alloc (Obj.cells #[.int .i64 1, .int .i64 ga, .int .i64 la, .slice aa na ca] 30)).alloc (Obj.cells #[.int .i64 1, .int .i64 ga, .int .i64 lb, .slice ab nb cb] 30)).alloc (Obj.cells #[.int .i64 1, .int .i64 ga, .int .i64 la, .slice aa na ca] 30)) := ⟨_, _, _, _, _, _, rfl, hbF, fun c hc => ⟨fa, (by cases hc; exact HTA0.out.below hbF), fun x hx => .inl (by simp [hx])⟩⟩
  rw [HZD.out] at x0 x1 x2 x3 y0 y1 y2 y3
  clear HS0
  go_enter Try.func96, Try.ntmps96
  go_wp2_with fail
  exact bodyPost_ret (v := .tuple #[.agg #[.int .i64 1, .int .i64 ga, .int .i64 la, .slice aa na ca], .bool true]) (by simp [results, Try.results96, go_sem]) rfl FIN
/-- Two variables of their own. -/
def Two2 (Z : World) (A B : Array Value) (s q : Value) (wx : World) : Prop :=
  ∃ (b c : Nat), s = .pointer (some ⟨b, 0, none⟩) ∧ q = .pointer (some ⟨c, 0, none⟩) ∧ b ≠ c ∧ Z.heap.size ≤ b ∧ Z.heap.size ≤ c ∧ wx.heap[b]? = some (Obj.cells A 30) ∧ wx.heap[c]? = some (Obj.cells B 30) ∧ Below Z.heap.size Z wx

theorem two2_first {Z : World} {A B : Array Value} : Two2 Z A B (.pointer (some ⟨Z.heap.size, 0, none⟩)) (.pointer (some ⟨Z.heap.size + 1, 0, none⟩)) ((Z.drew.alloc (Obj.cells A 30)).alloc (Obj.cells B 30)) := by
  have hb0 := (below_drew Z).alloc (Nat.le_refl _) (Obj.cells A 30)
  have hb := hb0.alloc hb0.size (Obj.cells B 30)
  have h1 : (Z.drew.alloc (Obj.cells A 30)).heap.size = Z.heap.size + 1 := by
    show (Z.drew.heap.push _).size = _
    rw [Array.size_push]
    rfl
  have h2 : (Z.drew.alloc (Obj.cells A 30)).heap[Z.heap.size]? = some (Obj.cells A 30) := alloc_new Z.drew _
  refine ⟨_, _, rfl, rfl, by omega, Nat.le_refl _, by omega, (Below.heap_alloc _ _ _ (by omega)).trans h2, ?_, hb⟩
  rw [← h1]
  exact alloc_new _ _

theorem two2_second {Z : World} {A B : Array Value} : Two2 Z A B (.pointer (some ⟨Z.heap.size + 1, 0, none⟩)) (.pointer (some ⟨Z.heap.size, 0, none⟩)) ((Z.drew.alloc (Obj.cells B 30)).alloc (Obj.cells A 30)) := by
  obtain ⟨b, c, e1, e2, h1, h2, h3, h4, h5, h6⟩ := two2_first (Z := Z) (A := B) (B := A)
  cases e1
  cases e2
  exact ⟨_, _, rfl, rfl, fun e => by omega, by omega, Nat.le_refl _, h5, h4, h6⟩

theorem two_rowL {A : List Nat} {lo : Nat} {o1 o2 : Option Co} {k : Int} {x0 x1 x2 x3 y0 y1 y2 y3 : Value} {w3 : World} {b : Nat} (h1 : Lft A lo o1 (.agg #[x0, x1, x2, x3]) w3) (h2 : Lft A lo o2 (.agg #[y0, y1, y2, y3]) w3) (hE : w3.heap[b]? = some (Obj.cells #[x0, x1, x2, x3, y0, y1, y2, y3] 30)) (hlo : lo ≤ b) :
    Lft A lo (bothC k o1 o2) (.agg #[.int .i64 k, .int .i64 0, .int .i64 0, .slice (some ⟨b, 0, none⟩) 2 2]) w3 := fun c hc => by
  cases o1 with
  | none => cases hc
  | some c1 =>
    cases o2 with
    | none => cases hc
    | some c2 =>
      obtain rfl : Co.mk k 0 0 [c1, c2] = c := by simpa [bothC] using hc
      obtain ⟨f1, hat1, hf1⟩ := h1 c1 rfl
      obtain ⟨f2, hat2, hf2⟩ := h2 c2 rfl
      refine ⟨_, co_two hE hat1 hat2, fun x hx => ?_⟩
      rcases List.mem_cons.1 hx with rfl | hx
      · exact .inr hlo
      · exact (List.mem_append.1 hx).elim (hf1 x) (hf2 x)

set_option maxRecDepth 100000 in
set_option maxHeartbeats 4000000 in
theorem plain_two2 (n : Nat) (ih : CpiC n) (la lb : Int) (a1 a2 b1 b2 : Co) (d d' : Nat) (va vb : Value) (fa fb : List Nat) (w : World) (hd : d + d' ≤ n) (hd1 : d ≤ 9) (hd2 : d' ≤ 9) (hs1 : shpK d a1 = true) (hs2 : shpK d a2 = true) (ht1 : shpK d' b1 = true) (ht2 : shpK d' b2 = true) (hata : (Co.mk 2 0 la [a1, a2]).At w va fa) (hatb : (Co.mk 2 0 lb [b1, b2]).At w vb fb) :
    Calls Try.prog 96 #[va, vb] w (MadeL w (fa ++ fb) (bothC 2 (cmpo n b1 a1) (cmpo n a2 b2))) := by
  have HA := hid (show ∀ x ∈ fa ++ fb, x < w.heap.size from fun x hx => (List.mem_append.1 hx).elim (hata.lt x) (hatb.lt x))
  have hata0 := hata
  have hatb0 := hatb
  obtain ⟨sa, rfl, hsa⟩ := Co.at_mk.1 hata
  obtain ⟨sb, rfl, hsb⟩ := Co.at_mk.1 hatb
  obtain ⟨ba, oa, ca, ka1, ga1, la1, na1, aa1, ca1, ka2, ga2, la2, na2, aa2, ca2, fa1, fa2, rfl, hba, d0, d1, d2, d3, d4, d5, d6, d7, ha1, ha2, hfa, _⟩ := hsa.two
  obtain ⟨bb, ob, cb, kb1, gb1, lb1, nb1, ab1, cb1, kb2, gb2, lb2, nb2, ab2, cb2, fb1, fb2, rfl, hbb, e0, e1, e2, e3, e4, e5, e6, e7, hb1, hb2, hfb, _⟩ := hsb.two
  have hb0 : Below w.heap.size w (((w.alloc (Obj.cells #[.int .i64 2, .int .i64 0, .int .i64 la, .slice (some ⟨ba, oa, none⟩) 2 ca] 30)).alloc (Obj.cells #[.int .i64 2, .int .i64 0, .int .i64 lb, .slice (some ⟨bb, ob, none⟩) 2 cb] 30)).alloc (Obj.cells #[.int .i64 0, .int .i64 0, .int .i64 0, .slice none 0 0] 30)) := (((Below.refl _ _).alloc (Nat.le_refl _) _).alloc (by simp) _).alloc (by simp; omega) _
  have hs0 : ((((w.alloc (Obj.cells #[.int .i64 2, .int .i64 0, .int .i64 la, .slice (some ⟨ba, oa, none⟩) 2 ca] 30)).alloc (Obj.cells #[.int .i64 2, .int .i64 0, .int .i64 lb, .slice (some ⟨bb, ob, none⟩) 2 cb] 30)).alloc (Obj.cells #[.int .i64 0, .int .i64 0, .int .i64 0, .slice none 0 0] 30))).heap.size = w.heap.size + 1 + 1 + 1 := by simp
  obtain ⟨bA, bB, bZ⟩ := three3 (Below.refl ((((w.alloc (Obj.cells #[.int .i64 2, .int .i64 0, .int .i64 la, .slice (some ⟨ba, oa, none⟩) 2 ca] 30)).alloc (Obj.cells #[.int .i64 2, .int .i64 0, .int .i64 lb, .slice (some ⟨bb, ob, none⟩) 2 cb] 30)).alloc (Obj.cells #[.int .i64 0, .int .i64 0, .int .i64 0, .slice none 0 0] 30))).heap.size (((w.alloc (Obj.cells #[.int .i64 2, .int .i64 0, .int .i64 la, .slice (some ⟨ba, oa, none⟩) 2 ca] 30)).alloc (Obj.cells #[.int .i64 2, .int .i64 0, .int .i64 lb, .slice (some ⟨bb, ob, none⟩) 2 cb] 30)).alloc (Obj.cells #[.int .i64 0, .int .i64 0, .int .i64 0, .slice none 0 0] 30)))
  have x0 : ((((w.alloc (Obj.cells #[.int .i64 2, .int .i64 0, .int .i64 la, .slice (some ⟨ba, oa, none⟩) 2 ca] 30)).alloc (Obj.cells #[.int .i64 2, .int .i64 0, .int .i64 lb, .slice (some ⟨bb, ob, none⟩) 2 cb] 30)).alloc (Obj.cells #[.int .i64 0, .int .i64 0, .int .i64 0, .slice none 0 0] 30))).cell? ⟨w.heap.size, 0, none⟩ = some (.int .i64 2) := by rw [cell_of_block bA]; rfl
  have x1 : ((((w.alloc (Obj.cells #[.int .i64 2, .int .i64 0, .int .i64 la, .slice (some ⟨ba, oa, none⟩) 2 ca] 30)).alloc (Obj.cells #[.int .i64 2, .int .i64 0, .int .i64 lb, .slice (some ⟨bb, ob, none⟩) 2 cb] 30)).alloc (Obj.cells #[.int .i64 0, .int .i64 0, .int .i64 0, .slice none 0 0] 30))).cell? ⟨w.heap.size, 1, none⟩ = some (.int .i64 0) := by rw [cell_of_block bA]; rfl
  have x2 : ((((w.alloc (Obj.cells #[.int .i64 2, .int .i64 0, .int .i64 la, .slice (some ⟨ba, oa, none⟩) 2 ca] 30)).alloc (Obj.cells #[.int .i64 2, .int .i64 0, .int .i64 lb, .slice (some ⟨bb, ob, none⟩) 2 cb] 30)).alloc (Obj.cells #[.int .i64 0, .int .i64 0, .int .i64 0, .slice none 0 0] 30))).cell? ⟨w.heap.size, 2, none⟩ = some (.int .i64 la) := by rw [cell_of_block bA]; rfl
  have x3 : ((((w.alloc (Obj.cells #[.int .i64 2, .int .i64 0, .int .i64 la, .slice (some ⟨ba, oa, none⟩) 2 ca] 30)).alloc (Obj.cells #[.int .i64 2, .int .i64 0, .int .i64 lb, .slice (some ⟨bb, ob, none⟩) 2 cb] 30)).alloc (Obj.cells #[.int .i64 0, .int .i64 0, .int .i64 0, .slice none 0 0] 30))).cell? ⟨w.heap.size, 3, none⟩ = some (.slice (some ⟨ba, oa, none⟩) 2 ca) := by rw [cell_of_block bA]; rfl
  have y0 : ((((w.alloc (Obj.cells #[.int .i64 2, .int .i64 0, .int .i64 la, .slice (some ⟨ba, oa, none⟩) 2 ca] 30)).alloc (Obj.cells #[.int .i64 2, .int .i64 0, .int .i64 lb, .slice (some ⟨bb, ob, none⟩) 2 cb] 30)).alloc (Obj.cells #[.int .i64 0, .int .i64 0, .int .i64 0, .slice none 0 0] 30))).cell? ⟨w.heap.size + 1, 0, none⟩ = some (.int .i64 2) := by rw [cell_of_block bB]; rfl
  have y1 : ((((w.alloc (Obj.cells #[.int .i64 2, .int .i64 0, .int .i64 la, .slice (some ⟨ba, oa, none⟩) 2 ca] 30)).alloc (Obj.cells #[.int .i64 2, .int .i64 0, .int .i64 lb, .slice (some ⟨bb, ob, none⟩) 2 cb] 30)).alloc (Obj.cells #[.int .i64 0, .int .i64 0, .int .i64 0, .slice none 0 0] 30))).cell? ⟨w.heap.size + 1, 1, none⟩ = some (.int .i64 0) := by rw [cell_of_block bB]; rfl
  have y2 : ((((w.alloc (Obj.cells #[.int .i64 2, .int .i64 0, .int .i64 la, .slice (some ⟨ba, oa, none⟩) 2 ca] 30)).alloc (Obj.cells #[.int .i64 2, .int .i64 0, .int .i64 lb, .slice (some ⟨bb, ob, none⟩) 2 cb] 30)).alloc (Obj.cells #[.int .i64 0, .int .i64 0, .int .i64 0, .slice none 0 0] 30))).cell? ⟨w.heap.size + 1, 2, none⟩ = some (.int .i64 lb) := by rw [cell_of_block bB]; rfl
  have y3 : ((((w.alloc (Obj.cells #[.int .i64 2, .int .i64 0, .int .i64 la, .slice (some ⟨ba, oa, none⟩) 2 ca] 30)).alloc (Obj.cells #[.int .i64 2, .int .i64 0, .int .i64 lb, .slice (some ⟨bb, ob, none⟩) 2 cb] 30)).alloc (Obj.cells #[.int .i64 0, .int .i64 0, .int .i64 0, .slice none 0 0] 30))).cell? ⟨w.heap.size + 1, 3, none⟩ = some (.slice (some ⟨bb, ob, none⟩) 2 cb) := by rw [cell_of_block bB]; rfl
  replace d0 := cell_keep d0 hb0
  replace d1 := cell_keep d1 hb0
  replace d2 := cell_keep d2 hb0
  replace d3 := cell_keep d3 hb0
  replace d4 := cell_keep d4 hb0
  replace d5 := cell_keep d5 hb0
  replace d6 := cell_keep d6 hb0
  replace d7 := cell_keep d7 hb0
  replace e0 := cell_keep e0 hb0
  replace e1 := cell_keep e1 hb0
  replace e2 := cell_keep e2 hb0
  replace e3 := cell_keep e3 hb0
  replace e4 := cell_keep e4 hb0
  replace e5 := cell_keep e5 hb0
  replace e6 := cell_keep e6 hb0
  replace e7 := cell_keep e7 hb0
  have HB0 := hid hb0
  have HTA0 := hid hata0
  have HTB0 := hid hatb0
  have HBZ := hid bZ
  have HTA := hid (hata0.below hb0)
  have HTB := hid (hatb0.below hb0)
  have Hha1 := hid (ha1.below hb0)
  have Hha2 := hid (ha2.below hb0)
  have Hhb1 := hid (hb1.below hb0)
  have Hhb2 := hid (hb2.below hb0)
  obtain ⟨Z, hZd⟩ : ∃ Z, Z = (((w.alloc (Obj.cells #[.int .i64 2, .int .i64 0, .int .i64 la, .slice (some ⟨ba, oa, none⟩) 2 ca] 30)).alloc (Obj.cells #[.int .i64 2, .int .i64 0, .int .i64 lb, .slice (some ⟨bb, ob, none⟩) 2 cb] 30)).alloc (Obj.cells #[.int .i64 0, .int .i64 0, .int .i64 0, .slice none 0 0] 30)) := ⟨_, rfl⟩
  rw [← hZd] at hb0 hs0 HB0 HBZ HTA HTB Hha1 Hha2 Hhb1 Hhb2 x0 x1 x2 x3 y0 y1 y2 y3 d0 d1 d2 d3 d4 d5 d6 d7 e0 e1 e2 e3 e4 e5 e6 e7
  have HZS := hid hs0
  have HS0 := hid (show ∀ w', Below Z.heap.size Z w' → (fun w' => w'.cell? ⟨w.heap.size, 0, none⟩ = some (.int .i64 2) ∧ w'.cell? ⟨w.heap.size, 1, none⟩ = some (.int .i64 0) ∧ w'.cell? ⟨w.heap.size, 2, none⟩ = some (.int .i64 la) ∧ w'.cell? ⟨w.heap.size, 3, none⟩ = some (.slice (some ⟨ba, oa, none⟩) 2 ca) ∧ w'.cell? ⟨w.heap.size + 1, 0, none⟩ = some (.int .i64 2) ∧ w'.cell? ⟨w.heap.size + 1, 1, none⟩ = some (.int .i64 0) ∧ w'.cell? ⟨w.heap.size + 1, 2, none⟩ = some (.int .i64 lb) ∧ w'.cell? ⟨w.heap.size + 1, 3, none⟩ = some (.slice (some ⟨bb, ob, none⟩) 2 cb) ∧ w'.cell? ⟨ba, oa, none⟩ = some (.int .i64 ka1) ∧ w'.cell? ⟨ba, oa + 1, none⟩ = some (.int .i64 ga1) ∧ w'.cell? ⟨ba, oa + 2, none⟩ = some (.int .i64 la1) ∧ w'.cell? ⟨ba, oa + 3, none⟩ = some (.slice aa1 na1 ca1) ∧ w'.cell? ⟨ba, oa + 4, none⟩ = some (.int .i64 ka2) ∧ w'.cell? ⟨ba, oa + 4 + 1, none⟩ = some (.int .i64 ga2) ∧ w'.cell? ⟨ba, oa + 4 + 2, none⟩ = some (.int .i64 la2) ∧ w'.cell? ⟨ba, oa + 4 + 3, none⟩ = some (.slice aa2 na2 ca2) ∧ w'.cell? ⟨bb, ob, none⟩ = some (.int .i64 kb1) ∧ w'.cell? ⟨bb, ob + 1, none⟩ = some (.int .i64 gb1) ∧ w'.cell? ⟨bb, ob + 2, none⟩ = some (.int .i64 lb1) ∧ w'.cell? ⟨bb, ob + 3, none⟩ = some (.slice ab1 nb1 cb1) ∧ w'.cell? ⟨bb, ob + 4, none⟩ = some (.int .i64 kb2) ∧ w'.cell? ⟨bb, ob + 4 + 1, none⟩ = some (.int .i64 gb2) ∧ w'.cell? ⟨bb, ob + 4 + 2, none⟩ = some (.int .i64 lb2) ∧ w'.cell? ⟨bb, ob + 4 + 3, none⟩ = some (.slice ab2 nb2 cb2)) w' from fun w' h => ⟨cell_keep x0 h, cell_keep x1 h, cell_keep x2 h, cell_keep x3 h, cell_keep y0 h, cell_keep y1 h, cell_keep y2 h, cell_keep y3 h, cell_keep d0 h, cell_keep d1 h, cell_keep d2 h, cell_keep d3 h, cell_keep d4 h, cell_keep d5 h, cell_keep d6 h, cell_keep d7 h, cell_keep e0 h, cell_keep e1 h, cell_keep e2 h, cell_keep e3 h, cell_keep e4 h, cell_keep e5 h, cell_keep e6 h, cell_keep e7 h⟩)
  have HZD := hid hZd
  clear hb0 hs0 bA bB bZ hata hatb hata0 hatb0 hsa hsb hZd ha1 ha2 hb1 hb2
  have HP := hid (And.intro hd (And.intro hd1 (And.intro hd2 (And.intro (And.intro hs1 hs2) (And.intro ht1 ht2)))))
  have HIH := hid ih
  have HF := hid (And.intro hfa hfb)
  clear ih hd hd1 hd2 hs1 hs2 ht1 ht2 hfa hfb
  go_enter Try.func96, Try.ntmps96
  go_wp2_with fail
  rw [← HZD.out]
  go_cut [6, 7] (fun sx sq wx => Two2 Z #[.int .i64 ka1, .int .i64 ga1, .int .i64 la1, .slice aa1 na1 ca1] #[.int .i64 kb1, .int .i64 gb1, .int .i64 lb1, .slice ab1 nb1 cb1] sx sq wx)
  case first =>
    refine regionL (s := 11) (S0 := (fun w' => w'.cell? ⟨w.heap.size, 0, none⟩ = some (.int .i64 2) ∧ w'.cell? ⟨w.heap.size, 1, none⟩ = some (.int .i64 0) ∧ w'.cell? ⟨w.heap.size, 2, none⟩ = some (.int .i64 la) ∧ w'.cell? ⟨w.heap.size, 3, none⟩ = some (.slice (some ⟨ba, oa, none⟩) 2 ca) ∧ w'.cell? ⟨w.heap.size + 1, 0, none⟩ = some (.int .i64 2) ∧ w'.cell? ⟨w.heap.size + 1, 1, none⟩ = some (.int .i64 0) ∧ w'.cell? ⟨w.heap.size + 1, 2, none⟩ = some (.int .i64 lb) ∧ w'.cell? ⟨w.heap.size + 1, 3, none⟩ = some (.slice (some ⟨bb, ob, none⟩) 2 cb) ∧ w'.cell? ⟨ba, oa, none⟩ = some (.int .i64 ka1) ∧ w'.cell? ⟨ba, oa + 1, none⟩ = some (.int .i64 ga1) ∧ w'.cell? ⟨ba, oa + 2, none⟩ = some (.int .i64 la1) ∧ w'.cell? ⟨ba, oa + 3, none⟩ = some (.slice aa1 na1 ca1) ∧ w'.cell? ⟨ba, oa + 4, none⟩ = some (.int .i64 ka2) ∧ w'.cell? ⟨ba, oa + 4 + 1, none⟩ = some (.int .i64 ga2) ∧ w'.cell? ⟨ba, oa + 4 + 2, none⟩ = some (.int .i64 la2) ∧ w'.cell? ⟨ba, oa + 4 + 3, none⟩ = some (.slice aa2 na2 ca2) ∧ w'.cell? ⟨bb, ob, none⟩ = some (.int .i64 kb1) ∧ w'.cell? ⟨bb, ob + 1, none⟩ = some (.int .i64 gb1) ∧ w'.cell? ⟨bb, ob + 2, none⟩ = some (.int .i64 lb1) ∧ w'.cell? ⟨bb, ob + 3, none⟩ = some (.slice ab1 nb1 cb1) ∧ w'.cell? ⟨bb, ob + 4, none⟩ = some (.int .i64 kb2) ∧ w'.cell? ⟨bb, ob + 4 + 1, none⟩ = some (.int .i64 gb2) ∧ w'.cell? ⟨bb, ob + 4 + 2, none⟩ = some (.int .i64 lb2) ∧ w'.cell? ⟨bb, ob + 4 + 3, none⟩ = some (.slice ab2 nb2 cb2))) (S1 := (fun _ => True)) (by kernel_rfl) (HS0.out _ (below_drew _)) (trivial) (fun hS0 => ?_)
    refine takeL0 (i := 0) (v := ?vr11) rfl rfl (by kernel_rfl) (by kernel_rfl) (by kernel_rfl) (by decide) (by kernel_rfl) (by kernel_rfl) (fun _ _ _ h => h) (Or.inl ⟨by rfl, ?hyr11⟩) (by assumption) ?_
    case hyr11 => (intro w hSw; (try dsimp only at hSw); go_simp; (try with_reducible rfl))
    try simp only [Act.put, List.setIfInBounds_toArray, List.set_cons_zero, List.set_cons_succ]
    refine takeL0 (i := 1) (v := ?vr12) rfl rfl (by kernel_rfl) (by kernel_rfl) (by kernel_rfl) (by decide) (by kernel_rfl) (by kernel_rfl) (fun _ _ _ h => h) (Or.inl ⟨by rfl, ?hyr12⟩) (by assumption) ?_
    case hyr12 => (intro w hSw; (try dsimp only at hSw); go_simp; (try with_reducible rfl))
    try simp only [Act.put, List.setIfInBounds_toArray, List.set_cons_zero, List.set_cons_succ]
    refine takeL0 (i := 2) (v := ?vr13) rfl rfl (by kernel_rfl) (by kernel_rfl) (by kernel_rfl) (by decide) (by kernel_rfl) (by kernel_rfl) (fun _ _ _ h => h) (Or.inl ⟨by rfl, ?hyr13⟩) (by assumption) ?_
    case hyr13 => (intro w hSw; (try dsimp only at hSw); go_simp; (try with_reducible rfl))
    try simp only [Act.put, List.setIfInBounds_toArray, List.set_cons_zero, List.set_cons_succ]
    refine takeL0 (i := 3) (v := ?vr14) rfl rfl (by kernel_rfl) (by kernel_rfl) (by kernel_rfl) (by decide) (by kernel_rfl) (by kernel_rfl) (fun _ _ _ h => h) (Or.inl ⟨by rfl, ?hyr14⟩) (by assumption) ?_
    case hyr14 => (intro w hSw; (try dsimp only at hSw); go_simp; (try with_reducible rfl))
    try simp only [Act.put, List.setIfInBounds_toArray, List.set_cons_zero, List.set_cons_succ]
    refine takeL0 (i := 4) (v := ?vr15) rfl rfl (by kernel_rfl) (by kernel_rfl) (by kernel_rfl) (by decide) (by kernel_rfl) (by kernel_rfl) (fun _ _ _ h => h) (Or.inl ⟨by rfl, ?hyr15⟩) (by assumption) ?_
    case hyr15 => (intro w hSw; (try dsimp only at hSw); go_simp; (try with_reducible rfl))
    try simp only [Act.put, List.setIfInBounds_toArray, List.set_cons_zero, List.set_cons_succ]
    refine takeL0 (i := 5) (v := ?vr16) rfl rfl (by kernel_rfl) (by kernel_rfl) (by kernel_rfl) (by decide) (by kernel_rfl) (by kernel_rfl) (fun _ _ _ h => h) (Or.inl ⟨by rfl, ?hyr16⟩) (by assumption) ?_
    case hyr16 => (intro w hSw; (try dsimp only at hSw); go_simp; (try with_reducible rfl))
    try simp only [Act.put, List.setIfInBounds_toArray, List.set_cons_zero, List.set_cons_succ]
    refine takeL0 (i := 6) (v := ?vr17) rfl rfl (by kernel_rfl) (by kernel_rfl) (by kernel_rfl) (by decide) (by kernel_rfl) (by kernel_rfl) (fun _ _ _ h => h) (Or.inl ⟨by rfl, ?hyr17⟩) (by assumption) ?_
    case hyr17 => (intro w hSw; (try dsimp only at hSw); go_simp; (try with_reducible rfl))
    try simp only [Act.put, List.setIfInBounds_toArray, List.set_cons_zero, List.set_cons_succ]
    refine takeL0 (i := 7) (v := ?vr18) rfl rfl (by kernel_rfl) (by kernel_rfl) (by kernel_rfl) (by decide) (by kernel_rfl) (by kernel_rfl) (fun _ _ _ h => h) (Or.inl ⟨by rfl, ?hyr18⟩) (by assumption) ?_
    case hyr18 => (intro w hSw; (try dsimp only at hSw); go_simp; (try with_reducible rfl))
    try simp only [Act.put, List.setIfInBounds_toArray, List.set_cons_zero, List.set_cons_succ]
    refine readyL (rs := [8, 9]) (by kernel_rfl) (by simp) ?_
    refine AllReadyL.cons rfl (fun K hK => ?_) ?_
    · go_simp
      refine hK.out _ _ ?_ (fun hS1 => ?_)
      · exact ⟨trivial, fun _ => HS0.out _ (Below.alloc (below_drew Z) (Nat.le_refl _) _)⟩
      clear hK K hS0
      try simp only [Act.put, List.setIfInBounds_toArray, List.set_cons_zero, List.set_cons_succ]
      refine readyL (rs := [9]) (by kernel_rfl) (by simp) ?_
      refine AllReadyL.cons rfl (fun K hK => ?_) AllReadyL.nil
      go_simp
      refine hK.out _ _ ?_ (fun hS2 => ?_)
      · exact ⟨trivial, fun _ => HS0.out _ (Below.alloc (Below.alloc (below_drew Z) (Nat.le_refl _) _) (Below.size (Below.alloc (below_drew Z) (Nat.le_refl _) _)) _)⟩
      clear hK K hS1
      try simp only [Act.put, List.setIfInBounds_toArray, List.set_cons_zero, List.set_cons_succ]
      refine readyL (rs := [10]) (by kernel_rfl) (by simp) ?_
      refine AllReadyL.cons rfl (fun K hK => ?_) AllReadyL.nil
      go_simp
      refine hK.out _ _ ?_ (fun hS3 => ?_)
      · exact ⟨trivial, fun _ => (by first | exact HS0.out _ (Below.alloc (Below.alloc (below_drew Z) (Nat.le_refl _) _) (Below.size (Below.alloc (below_drew Z) (Nat.le_refl _) _)) _) | exact HS0.out _ (Below.setCell (Below.setCell (Below.setCell (Below.setCell (Below.alloc (Below.alloc (below_drew Z) (Nat.le_refl _) _) (Below.size (Below.alloc (below_drew Z) (Nat.le_refl _) _)) _) (by first | exact Nat.le_refl _ | simp | omega) _) (by first | exact Nat.le_refl _ | simp | omega) _) (by first | exact Nat.le_refl _ | simp | omega) _) (by first | exact Nat.le_refl _ | simp | omega) _))⟩
      clear hK K hS2
      try simp only [Act.put, List.setIfInBounds_toArray, List.set_cons_zero, List.set_cons_succ]
      refine readyL (rs := [11]) (by kernel_rfl) (by simp) ?_
      refine AllReadyL.cons rfl (fun K hK => ?_) AllReadyL.nil
      go_simp
      refine hK.out _ _ ?_ (fun hS4 => ?_)
      · exact ⟨trivial, fun h => absurd (h.symm.trans (show _ = true by kernel_rfl)) (by decide)⟩
      clear hK K hS3
      try simp only [Act.put, List.setIfInBounds_toArray, List.set_cons_zero, List.set_cons_succ]
      refine doneL (by kernel_rfl) ?_ _
      go_wp2_with fail
      go_meet
      first | exact two2_first | exact two2_second
    refine AllReadyL.cons rfl (fun K hK => ?_) AllReadyL.nil
    go_simp
    refine hK.out _ _ ?_ (fun hS1 => ?_)
    · exact ⟨trivial, fun _ => HS0.out _ (Below.alloc (below_drew Z) (Nat.le_refl _) _)⟩
    clear hK K hS0
    try simp only [Act.put, List.setIfInBounds_toArray, List.set_cons_zero, List.set_cons_succ]
    refine readyL (rs := [8]) (by kernel_rfl) (by simp) ?_
    refine AllReadyL.cons rfl (fun K hK => ?_) AllReadyL.nil
    go_simp
    refine hK.out _ _ ?_ (fun hS2 => ?_)
    · exact ⟨trivial, fun _ => HS0.out _ (Below.alloc (Below.alloc (below_drew Z) (Nat.le_refl _) _) (Below.size (Below.alloc (below_drew Z) (Nat.le_refl _) _)) _)⟩
    clear hK K hS1
    try simp only [Act.put, List.setIfInBounds_toArray, List.set_cons_zero, List.set_cons_succ]
    refine readyL (rs := [10]) (by kernel_rfl) (by simp) ?_
    refine AllReadyL.cons rfl (fun K hK => ?_) AllReadyL.nil
    go_simp
    refine hK.out _ _ ?_ (fun hS3 => ?_)
    · exact ⟨trivial, fun _ => (by first | exact HS0.out _ (Below.alloc (Below.alloc (below_drew Z) (Nat.le_refl _) _) (Below.size (Below.alloc (below_drew Z) (Nat.le_refl _) _)) _) | exact HS0.out _ (Below.setCell (Below.setCell (Below.setCell (Below.setCell (Below.alloc (Below.alloc (below_drew Z) (Nat.le_refl _) _) (Below.size (Below.alloc (below_drew Z) (Nat.le_refl _) _)) _) (by first | exact Nat.le_refl _ | simp | omega) _) (by first | exact Nat.le_refl _ | simp | omega) _) (by first | exact Nat.le_refl _ | simp | omega) _) (by first | exact Nat.le_refl _ | simp | omega) _))⟩
    clear hK K hS2
    try simp only [Act.put, List.setIfInBounds_toArray, List.set_cons_zero, List.set_cons_succ]
    refine readyL (rs := [11]) (by kernel_rfl) (by simp) ?_
    refine AllReadyL.cons rfl (fun K hK => ?_) AllReadyL.nil
    go_simp
    refine hK.out _ _ ?_ (fun hS4 => ?_)
    · exact ⟨trivial, fun h => absurd (h.symm.trans (show _ = true by kernel_rfl)) (by decide)⟩
    clear hK K hS3
    try simp only [Act.put, List.setIfInBounds_toArray, List.set_cons_zero, List.set_cons_succ]
    refine doneL (by kernel_rfl) ?_ _
    go_wp2_with fail
    go_meet
    first | exact two2_first | exact two2_second
  case rest =>
  rename World => wA
  obtain ⟨be, bl, rfl, rfl, hne, hbe, hbl, hEe, hEl, hbA⟩ := hcut
  have hSS := HS0.out _ hbA
  clear x0 x1 x2 x3 y0 y1 y2 y3 d0 d1 d2 d3 d4 d5 d6 d7 e0 e1 e2 e3 e4 e5 e6 e7
  obtain ⟨x0, x1, x2, x3, y0, y1, y2, y3, d0, d1, d2, d3, d4, d5, d6, d7, e0, e1, e2, e3, e4, e5, e6, e7⟩ := hSS
  have s0 : wA.cell? ⟨be, 0, none⟩ = some (.int .i64 ka1) := by rw [cell_of_block hEe]; rfl
  have s1 : wA.cell? ⟨be, 1, none⟩ = some (.int .i64 ga1) := by rw [cell_of_block hEe]; rfl
  have s2 : wA.cell? ⟨be, 2, none⟩ = some (.int .i64 la1) := by rw [cell_of_block hEe]; rfl
  have s3 : wA.cell? ⟨be, 3, none⟩ = some (.slice aa1 na1 ca1) := by rw [cell_of_block hEe]; rfl
  have t0 : wA.cell? ⟨bl, 0, none⟩ = some (.int .i64 kb1) := by rw [cell_of_block hEl]; rfl
  have t1 : wA.cell? ⟨bl, 1, none⟩ = some (.int .i64 gb1) := by rw [cell_of_block hEl]; rfl
  have t2 : wA.cell? ⟨bl, 2, none⟩ = some (.int .i64 lb1) := by rw [cell_of_block hEl]; rfl
  have t3 : wA.cell? ⟨bl, 3, none⟩ = some (.slice ab1 nb1 cb1) := by rw [cell_of_block hEl]; rfl
  have fe := fun o => frozen_of_block (o := o) hEe
  have fl := fun o => frozen_of_block (o := o) hEl
  go_upto_region 8 with (fail)
  clear s0 s1 s2 s3 t0 t1 t2 t3 fe fl
  obtain ⟨X, hX⟩ : ∃ X, X = (put4 (put4 wA be 0 (.int .i64 kb1) (.int .i64 gb1) (.int .i64 lb1) (.slice ab1 nb1 cb1)) bl 0 (.int .i64 ka1) (.int .i64 ga1) (.int .i64 la1) (.slice aa1 na1 ca1)) := ⟨_, rfl⟩
  have hXe : X.heap[be]? = some (Obj.cells #[.int .i64 kb1, .int .i64 gb1, .int .i64 lb1, .slice ab1 nb1 cb1] 30) := by
    rw [hX]
    have h1 : (put4 wA be 0 (.int .i64 kb1) (.int .i64 gb1) (.int .i64 lb1) (.slice ab1 nb1 cb1)).heap[be]? = some (Obj.cells #[.int .i64 kb1, .int .i64 gb1, .int .i64 lb1, .slice ab1 nb1 cb1] 30) := heap_setCell_at (heap_setCell_at (heap_setCell_at (heap_setCell_at hEe _) _) _) _
    unfold put4 at h1 ⊢
    rw [Below.heap_setCell _ _ _ _ hne, Below.heap_setCell _ _ _ _ hne, Below.heap_setCell _ _ _ _ hne, Below.heap_setCell _ _ _ _ hne]
    exact h1
  have hXl : X.heap[bl]? = some (Obj.cells #[.int .i64 ka1, .int .i64 ga1, .int .i64 la1, .slice aa1 na1 ca1] 30) := by
    rw [hX]
    have h1 : (put4 wA be 0 (.int .i64 kb1) (.int .i64 gb1) (.int .i64 lb1) (.slice ab1 nb1 cb1)).heap[bl]? = some (Obj.cells #[.int .i64 kb1, .int .i64 gb1, .int .i64 lb1, .slice ab1 nb1 cb1] 30) := by
      unfold put4
      rw [Below.heap_setCell _ _ _ _ hne.symm, Below.heap_setCell _ _ _ _ hne.symm, Below.heap_setCell _ _ _ _ hne.symm, Below.heap_setCell _ _ _ _ hne.symm]
      exact hEl
    exact heap_setCell_at (heap_setCell_at (heap_setCell_at (heap_setCell_at h1 _) _) _) _
  have hbX : Below Z.heap.size Z X := by rw [hX]; exact put4_below (put4_below hbA hbe _ _ _ _) hbl _ _ _ _
  simp only [put4, Nat.zero_add] at hX
  rw [← hX]
  clear hX hEe hEl hbA
  have s0 : X.cell? ⟨be, 0, none⟩ = some (.int .i64 kb1) := by rw [cell_of_block hXe]; rfl
  have s1 : X.cell? ⟨be, 1, none⟩ = some (.int .i64 gb1) := by rw [cell_of_block hXe]; rfl
  have s2 : X.cell? ⟨be, 2, none⟩ = some (.int .i64 lb1) := by rw [cell_of_block hXe]; rfl
  have s3 : X.cell? ⟨be, 3, none⟩ = some (.slice ab1 nb1 cb1) := by rw [cell_of_block hXe]; rfl
  have t0 : X.cell? ⟨bl, 0, none⟩ = some (.int .i64 ka1) := by rw [cell_of_block hXl]; rfl
  have t1 : X.cell? ⟨bl, 1, none⟩ = some (.int .i64 ga1) := by rw [cell_of_block hXl]; rfl
  have t2 : X.cell? ⟨bl, 2, none⟩ = some (.int .i64 la1) := by rw [cell_of_block hXl]; rfl
  have t3 : X.cell? ⟨bl, 3, none⟩ = some (.slice aa1 na1 ca1) := by rw [cell_of_block hXl]; rfl
  have hSS := HS0.out _ hbX
  clear x0 x1 x2 x3 y0 y1 y2 y3 d0 d1 d2 d3 d4 d5 d6 d7 e0 e1 e2 e3 e4 e5 e6 e7
  obtain ⟨x0, x1, x2, x3, y0, y1, y2, y3, d0, d1, d2, d3, d4, d5, d6, d7, e0, e1, e2, e3, e4, e5, e6, e7⟩ := hSS
  have hsX := hbX.size
  go_wp2_with fail
  refine (HIH.out _ _ _ _ _ _ _ _ _ (by have := HP.out.1; omega) HP.out.2.2.1 HP.out.2.1 HP.out.2.2.2.2.1 HP.out.2.2.2.1.1 (Hhb1.out.below hbX) (Hha1.out.below hbX)).mono ?_
  rintro e w1 ⟨pk, pg, pl, pa, pn, pc, rfl, hb1, hL1⟩
  have hB1 := below_trans hbX hb1
  have hal : Below w1.heap.size w1 (w1.alloc (Obj.cells #[.int .i64 pk, .int .i64 pg, .int .i64 pl, .slice pa pn pc] 30)) := (Below.refl _ _).alloc (Nat.le_refl _) _
  have hB2 := below_trans hB1 hal
  have hP := alloc_new w1 (Obj.cells #[.int .i64 pk, .int .i64 pg, .int .i64 pl, .slice pa pn pc] 30)
  have hLP : Lft (fa ++ fb) Z.heap.size (cmpo n b1 a1) (.agg #[.int .i64 pk, .int .i64 pg, .int .i64 pl, .slice pa pn pc]) (w1.alloc (Obj.cells #[.int .i64 pk, .int .i64 pg, .int .i64 pl, .slice pa pn pc] 30)) := (hL1.below hal).mono (fun x hx => .inl (by rw [HF.out.1, HF.out.2]; rcases List.mem_append.1 hx with h | h <;> simp [h])) (by omega)
  generalize hr1 : (cmpo n b1 a1).isSome = r1 at *
  have hSS := HS0.out _ hB2
  clear x0 x1 x2 x3 y0 y1 y2 y3 d0 d1 d2 d3 d4 d5 d6 d7 e0 e1 e2 e3 e4 e5 e6 e7 s0 s1 s2 s3 t0 t1 t2 t3
  obtain ⟨x0, x1, x2, x3, y0, y1, y2, y3, d0, d1, d2, d3, d4, d5, d6, d7, e0, e1, e2, e3, e4, e5, e6, e7⟩ := hSS
  have HS2 := hid (show ∀ w', Below (w1.alloc (Obj.cells #[.int .i64 pk, .int .i64 pg, .int .i64 pl, .slice pa pn pc] 30)).heap.size (w1.alloc (Obj.cells #[.int .i64 pk, .int .i64 pg, .int .i64 pl, .slice pa pn pc] 30)) w' → (fun w' => w'.cell? ⟨w.heap.size, 0, none⟩ = some (.int .i64 2) ∧ w'.cell? ⟨w.heap.size, 1, none⟩ = some (.int .i64 0) ∧ w'.cell? ⟨w.heap.size, 2, none⟩ = some (.int .i64 la) ∧ w'.cell? ⟨w.heap.size, 3, none⟩ = some (.slice (some ⟨ba, oa, none⟩) 2 ca) ∧ w'.cell? ⟨w.heap.size + 1, 0, none⟩ = some (.int .i64 2) ∧ w'.cell? ⟨w.heap.size + 1, 1, none⟩ = some (.int .i64 0) ∧ w'.cell? ⟨w.heap.size + 1, 2, none⟩ = some (.int .i64 lb) ∧ w'.cell? ⟨w.heap.size + 1, 3, none⟩ = some (.slice (some ⟨bb, ob, none⟩) 2 cb) ∧ w'.cell? ⟨ba, oa, none⟩ = some (.int .i64 ka1) ∧ w'.cell? ⟨ba, oa + 1, none⟩ = some (.int .i64 ga1) ∧ w'.cell? ⟨ba, oa + 2, none⟩ = some (.int .i64 la1) ∧ w'.cell? ⟨ba, oa + 3, none⟩ = some (.slice aa1 na1 ca1) ∧ w'.cell? ⟨ba, oa + 4, none⟩ = some (.int .i64 ka2) ∧ w'.cell? ⟨ba, oa + 4 + 1, none⟩ = some (.int .i64 ga2) ∧ w'.cell? ⟨ba, oa + 4 + 2, none⟩ = some (.int .i64 la2) ∧ w'.cell? ⟨ba, oa + 4 + 3, none⟩ = some (.slice aa2 na2 ca2) ∧ w'.cell? ⟨bb, ob, none⟩ = some (.int .i64 kb1) ∧ w'.cell? ⟨bb, ob + 1, none⟩ = some (.int .i64 gb1) ∧ w'.cell? ⟨bb, ob + 2, none⟩ = some (.int .i64 lb1) ∧ w'.cell? ⟨bb, ob + 3, none⟩ = some (.slice ab1 nb1 cb1) ∧ w'.cell? ⟨bb, ob + 4, none⟩ = some (.int .i64 kb2) ∧ w'.cell? ⟨bb, ob + 4 + 1, none⟩ = some (.int .i64 gb2) ∧ w'.cell? ⟨bb, ob + 4 + 2, none⟩ = some (.int .i64 lb2) ∧ w'.cell? ⟨bb, ob + 4 + 3, none⟩ = some (.slice ab2 nb2 cb2)) w' from fun w' h => HS0.out _ (below_trans hB2 h))
  cases r1
  case false =>
    have hnone : bothC 2 (cmpo n b1 a1) (cmpo n a2 b2) = none := by
      have : cmpo n b1 a1 = none := by simpa using hr1
      rw [this]; rfl
    have bM := (hB2.block (w.heap.size + 1 + 1) (by have := HZS.out; omega)).trans HBZ.out
    have z0 := (cell_of_block (o := 0) bM).trans (show _ = some (.int .i64 0) from rfl)
    have z1 := (cell_of_block (o := 1) bM).trans (show _ = some (.int .i64 0) from rfl)
    have z2 := (cell_of_block (o := 2) bM).trans (show _ = some (.int .i64 0) from rfl)
    have z3 := (cell_of_block (o := 3) bM).trans (show _ = some (.slice none 0 0) from rfl)
    have yz := fun o => frozen_of_block (o := o) bM
    have FIN := closeL (k := 0) (g := 0) (l := 0) (a := none) (n := 0) (cap := 0) (w := w) (wF := (w1.alloc (Obj.cells #[.int .i64 pk, .int .i64 pg, .int .i64 pl, .slice pa pn pc] 30))) (M := w.heap.size + 1 + 1) (lo := Z.heap.size) (A := fa ++ fb) (o := bothC 2 (cmpo n b1 a1) (cmpo n a2 b2)) (b := false) ((by rw [hnone]; rfl)) (fun c hc => (by rw [hnone] at hc; cases hc)) HA.out (by omega) (by have := HZS.out; have := (hB2).size; omega) (below_trans HB0.out hB2)
    simp only [put4, Nat.zero_add] at FIN
    go_wp2_with fail
    exact bodyPost_ret (v := .tuple #[.agg #[.int .i64 0, .int .i64 0, .int .i64 0, .slice none 0 0], .bool (false)]) (by simp [results, Try.results96, go_sem, z0, z1, z2, z3]) rfl FIN
  have HR1 := hid hr1
  have HLP := hid hLP
  have HPB := hid hP
  have HB2 := hid hB2
  obtain ⟨Y, hY⟩ : ∃ Y, Y = w1.alloc (Obj.cells #[.int .i64 pk, .int .i64 pg, .int .i64 pl, .slice pa pn pc] 30) := ⟨_, rfl⟩
  rw [← hY] at HLP HPB HB2 HS2 x0 x1 x2 x3 y0 y1 y2 y3 d0 d1 d2 d3 d4 d5 d6 d7 e0 e1 e2 e3 e4 e5 e6 e7
  have HSY := hid (show Z.heap.size ≤ Y.heap.size from HB2.out.size)
  have p0 : Y.cell? ⟨w1.heap.size, 0, none⟩ = some (.int .i64 pk) := by rw [cell_of_block HPB.out]; rfl
  have p1 : Y.cell? ⟨w1.heap.size, 1, none⟩ = some (.int .i64 pg) := by rw [cell_of_block HPB.out]; rfl
  have p2 : Y.cell? ⟨w1.heap.size, 2, none⟩ = some (.int .i64 pl) := by rw [cell_of_block HPB.out]; rfl
  have p3 : Y.cell? ⟨w1.heap.size, 3, none⟩ = some (.slice pa pn pc) := by rw [cell_of_block HPB.out]; rfl
  have HYD := hid hY
  obtain ⟨bp, hbp⟩ : ∃ bp, bp = w1.heap.size := ⟨_, rfl⟩
  rw [← hbp] at p0 p1 p2 p3 HPB
  have HBP := hid hbp
  have HW1 := hid (show Z.heap.size ≤ bp by rw [hbp]; exact hB1.size)
  clear hr1 hLP hP hB2 hY hbp hal hB1 hb1 hL1 hXe hXl hbX
  go_wp2_with fail
  rw [← HYD.out, ← HBP.out]
  clear HYD
  go_cut [10, 9] (fun sx sq wx => CutL Y (fa2 ++ fb2) (cmpo n a2 b2) sx sq wx)
  case first =>
    refine regionL (s := 13) (S0 := (fun w' => w'.cell? ⟨w.heap.size, 0, none⟩ = some (.int .i64 2) ∧ w'.cell? ⟨w.heap.size, 1, none⟩ = some (.int .i64 0) ∧ w'.cell? ⟨w.heap.size, 2, none⟩ = some (.int .i64 la) ∧ w'.cell? ⟨w.heap.size, 3, none⟩ = some (.slice (some ⟨ba, oa, none⟩) 2 ca) ∧ w'.cell? ⟨w.heap.size + 1, 0, none⟩ = some (.int .i64 2) ∧ w'.cell? ⟨w.heap.size + 1, 1, none⟩ = some (.int .i64 0) ∧ w'.cell? ⟨w.heap.size + 1, 2, none⟩ = some (.int .i64 lb) ∧ w'.cell? ⟨w.heap.size + 1, 3, none⟩ = some (.slice (some ⟨bb, ob, none⟩) 2 cb) ∧ w'.cell? ⟨ba, oa, none⟩ = some (.int .i64 ka1) ∧ w'.cell? ⟨ba, oa + 1, none⟩ = some (.int .i64 ga1) ∧ w'.cell? ⟨ba, oa + 2, none⟩ = some (.int .i64 la1) ∧ w'.cell? ⟨ba, oa + 3, none⟩ = some (.slice aa1 na1 ca1) ∧ w'.cell? ⟨ba, oa + 4, none⟩ = some (.int .i64 ka2) ∧ w'.cell? ⟨ba, oa + 4 + 1, none⟩ = some (.int .i64 ga2) ∧ w'.cell? ⟨ba, oa + 4 + 2, none⟩ = some (.int .i64 la2) ∧ w'.cell? ⟨ba, oa + 4 + 3, none⟩ = some (.slice aa2 na2 ca2) ∧ w'.cell? ⟨bb, ob, none⟩ = some (.int .i64 kb1) ∧ w'.cell? ⟨bb, ob + 1, none⟩ = some (.int .i64 gb1) ∧ w'.cell? ⟨bb, ob + 2, none⟩ = some (.int .i64 lb1) ∧ w'.cell? ⟨bb, ob + 3, none⟩ = some (.slice ab1 nb1 cb1) ∧ w'.cell? ⟨bb, ob + 4, none⟩ = some (.int .i64 kb2) ∧ w'.cell? ⟨bb, ob + 4 + 1, none⟩ = some (.int .i64 gb2) ∧ w'.cell? ⟨bb, ob + 4 + 2, none⟩ = some (.int .i64 lb2) ∧ w'.cell? ⟨bb, ob + 4 + 3, none⟩ = some (.slice ab2 nb2 cb2))) (S1 := (fun _ => True)) (by kernel_rfl) (HS2.out _ (below_drew _)) (trivial) (fun hS0 => ?_)
    refine takeL0 (i := 0) (v := ?vr21) rfl rfl (by kernel_rfl) (by kernel_rfl) (by kernel_rfl) (by decide) (by kernel_rfl) (by kernel_rfl) (fun _ _ _ h => h) (Or.inl ⟨by rfl, ?hyr21⟩) (by assumption) ?_
    case hyr21 => (intro w hSw; (try dsimp only at hSw); go_simp; (try with_reducible rfl))
    try simp only [Act.put, List.setIfInBounds_toArray, List.set_cons_zero, List.set_cons_succ]
    refine takeL0 (i := 1) (v := ?vr22) rfl rfl (by kernel_rfl) (by kernel_rfl) (by kernel_rfl) (by decide) (by kernel_rfl) (by kernel_rfl) (fun _ _ _ h => h) (Or.inl ⟨by rfl, ?hyr22⟩) (by assumption) ?_
    case hyr22 => (intro w hSw; (try dsimp only at hSw); go_simp; (try with_reducible rfl))
    try simp only [Act.put, List.setIfInBounds_toArray, List.set_cons_zero, List.set_cons_succ]
    refine takeL0 (i := 2) (v := ?vr23) rfl rfl (by kernel_rfl) (by kernel_rfl) (by kernel_rfl) (by decide) (by kernel_rfl) (by kernel_rfl) (fun _ _ _ h => h) (Or.inl ⟨by rfl, ?hyr23⟩) (by assumption) ?_
    case hyr23 => (intro w hSw; (try dsimp only at hSw); go_simp; (try with_reducible rfl))
    try simp only [Act.put, List.setIfInBounds_toArray, List.set_cons_zero, List.set_cons_succ]
    refine takeL0 (i := 3) (v := ?vr24) rfl rfl (by kernel_rfl) (by kernel_rfl) (by kernel_rfl) (by decide) (by kernel_rfl) (by kernel_rfl) (fun _ _ _ h => h) (Or.inl ⟨by rfl, ?hyr24⟩) (by assumption) ?_
    case hyr24 => (intro w hSw; (try dsimp only at hSw); go_simp; (try with_reducible rfl))
    try simp only [Act.put, List.setIfInBounds_toArray, List.set_cons_zero, List.set_cons_succ]
    refine takeL0 (i := 4) (v := ?vr25) rfl rfl (by kernel_rfl) (by kernel_rfl) (by kernel_rfl) (by decide) (by kernel_rfl) (by kernel_rfl) (fun _ _ _ h => h) (Or.inl ⟨by rfl, ?hyr25⟩) (by assumption) ?_
    case hyr25 => (intro w hSw; (try dsimp only at hSw); go_simp; (try with_reducible rfl))
    try simp only [Act.put, List.setIfInBounds_toArray, List.set_cons_zero, List.set_cons_succ]
    refine takeL0 (i := 5) (v := ?vr26) rfl rfl (by kernel_rfl) (by kernel_rfl) (by kernel_rfl) (by decide) (by kernel_rfl) (by kernel_rfl) (fun _ _ _ h => h) (Or.inl ⟨by rfl, ?hyr26⟩) (by assumption) ?_
    case hyr26 => (intro w hSw; (try dsimp only at hSw); go_simp; (try with_reducible rfl))
    try simp only [Act.put, List.setIfInBounds_toArray, List.set_cons_zero, List.set_cons_succ]
    refine takeL0 (i := 6) (v := ?vr27) rfl rfl (by kernel_rfl) (by kernel_rfl) (by kernel_rfl) (by decide) (by kernel_rfl) (by kernel_rfl) (fun _ _ _ h => h) (Or.inl ⟨by rfl, ?hyr27⟩) (by assumption) ?_
    case hyr27 => (intro w hSw; (try dsimp only at hSw); go_simp; (try with_reducible rfl))
    try simp only [Act.put, List.setIfInBounds_toArray, List.set_cons_zero, List.set_cons_succ]
    refine takeL0 (i := 7) (v := ?vr28) rfl rfl (by kernel_rfl) (by kernel_rfl) (by kernel_rfl) (by decide) (by kernel_rfl) (by kernel_rfl) (fun _ _ _ h => h) (Or.inl ⟨by rfl, ?hyr28⟩) (by assumption) ?_
    case hyr28 => (intro w hSw; (try dsimp only at hSw); go_simp; (try with_reducible rfl))
    try simp only [Act.put, List.setIfInBounds_toArray, List.set_cons_zero, List.set_cons_succ]
    refine readyL (rs := [8, 12]) (by kernel_rfl) (by simp) ?_
    refine AllReadyL.cons rfl (fun K hK => ?_) ?_
    · go_simp
      refine (ci_from HIH.out (W0 := Y) (below_drew Y) HP.out.1 HP.out.2.1 HP.out.2.2.1 HP.out.2.2.2.1.2 HP.out.2.2.2.2.2 (Hha2.out.below HB2.out) (Hhb2.out.below HB2.out)).mono ?_
      rintro e w1 ⟨⟨p0, p1, p2, pa, pn, pc, rfl, hb1, hO⟩, hU⟩
      have hB1 := below_trans hU hb1
      have hU1 := hU.size
      refine hK.out _ _ ?_ (fun hS1 => ?_)
      · exact ⟨trivial, fun _ => HS2.out _ hB1⟩
      clear hK K hS0
      try simp only [Act.put, List.setIfInBounds_toArray, List.set_cons_zero, List.set_cons_succ]
      refine takeL0 (i := 9) (v := ?vr29) rfl rfl (by kernel_rfl) (by kernel_rfl) (by kernel_rfl) (by decide) (by kernel_rfl) (by kernel_rfl) (fun _ _ _ h => h) (Or.inl ⟨by rfl, ?hyr29⟩) (by assumption) ?_
      case hyr29 => (intro w hSw; (try dsimp only at hSw); go_simp; (try with_reducible rfl))
      try simp only [Act.put, List.setIfInBounds_toArray, List.set_cons_zero, List.set_cons_succ]
      refine readyL (rs := [10, 11, 12]) (by kernel_rfl) (by simp) ?_
      refine AllReadyL.cons rfl (fun K hK => ?_) ?_
      · go_simp
        refine hK.out _ _ ?_ (fun hS2 => ?_)
        · exact ⟨trivial, fun _ => HS2.out _ hB1⟩
        clear hK K hS1
        try simp only [Act.put, List.setIfInBounds_toArray, List.set_cons_zero, List.set_cons_succ]
        refine readyL (rs := [11, 12]) (by kernel_rfl) (by simp) ?_
        refine AllReadyL.cons rfl (fun K hK => ?_) ?_
        · go_simp
          refine hK.out _ _ ?_ (fun hS3 => ?_)
          · exact ⟨trivial, fun _ => HS2.out _ hB1⟩
          clear hK K hS2
          try simp only [Act.put, List.setIfInBounds_toArray, List.set_cons_zero, List.set_cons_succ]
          refine readyL (rs := [12]) (by kernel_rfl) (by simp) ?_
          refine AllReadyL.cons rfl (fun K hK => ?_) AllReadyL.nil
          go_simp
          refine hK.out _ _ ?_ (fun hS4 => ?_)
          · exact ⟨trivial, fun _ => HS2.out _ (hB1.alloc hB1.size _)⟩
          clear hK K hS3
          try simp only [Act.put, List.setIfInBounds_toArray, List.set_cons_zero, List.set_cons_succ]
          refine readyL (rs := [13]) (by kernel_rfl) (by simp) ?_
          refine AllReadyL.cons rfl (fun K hK => ?_) AllReadyL.nil
          go_simp
          refine hK.out _ _ ?_ (fun hS5 => ?_)
          · exact ⟨trivial, fun h => absurd (h.symm.trans (show _ = true by kernel_rfl)) (by decide)⟩
          clear hK K hS4
          try simp only [Act.put, List.setIfInBounds_toArray, List.set_cons_zero, List.set_cons_succ]
          refine readyL (rs := [14]) (by kernel_rfl) (by simp) ?_
          refine AllReadyL.cons rfl (fun K hK => ?_) AllReadyL.nil
          go_simp
          refine hK.out _ _ ?_ (fun hS6 => ?_)
          · exact ⟨trivial, fun h => absurd (h.symm.trans (show _ = true by kernel_rfl)) (by decide)⟩
          clear hK K hS5
          try simp only [Act.put, List.setIfInBounds_toArray, List.set_cons_zero, List.set_cons_succ]
          refine doneL (by kernel_rfl) ?_ _
          go_wp2_with fail
          go_meet
          exact cutL_alloc hO hU1 hB1
        refine AllReadyL.cons rfl (fun K hK => ?_) AllReadyL.nil
        go_simp
        refine hK.out _ _ ?_ (fun hS3 => ?_)
        · exact ⟨trivial, fun _ => HS2.out _ (hB1.alloc hB1.size _)⟩
        clear hK K hS2
        try simp only [Act.put, List.setIfInBounds_toArray, List.set_cons_zero, List.set_cons_succ]
        refine readyL (rs := [11, 13]) (by kernel_rfl) (by simp) ?_
        refine AllReadyL.cons rfl (fun K hK => ?_) ?_
        · go_simp
          refine hK.out _ _ ?_ (fun hS4 => ?_)
          · exact ⟨trivial, fun _ => HS2.out _ (hB1.alloc hB1.size _)⟩
          clear hK K hS3
          try simp only [Act.put, List.setIfInBounds_toArray, List.set_cons_zero, List.set_cons_succ]
          refine readyL (rs := [13]) (by kernel_rfl) (by simp) ?_
          refine AllReadyL.cons rfl (fun K hK => ?_) AllReadyL.nil
          go_simp
          refine hK.out _ _ ?_ (fun hS5 => ?_)
          · exact ⟨trivial, fun h => absurd (h.symm.trans (show _ = true by kernel_rfl)) (by decide)⟩
          clear hK K hS4
          try simp only [Act.put, List.setIfInBounds_toArray, List.set_cons_zero, List.set_cons_succ]
          refine readyL (rs := [14]) (by kernel_rfl) (by simp) ?_
          refine AllReadyL.cons rfl (fun K hK => ?_) AllReadyL.nil
          go_simp
          refine hK.out _ _ ?_ (fun hS6 => ?_)
          · exact ⟨trivial, fun h => absurd (h.symm.trans (show _ = true by kernel_rfl)) (by decide)⟩
          clear hK K hS5
          try simp only [Act.put, List.setIfInBounds_toArray, List.set_cons_zero, List.set_cons_succ]
          refine doneL (by kernel_rfl) ?_ _
          go_wp2_with fail
          go_meet
          exact cutL_alloc hO hU1 hB1
        refine AllReadyL.cons rfl (fun K hK => ?_) AllReadyL.nil
        go_simp
        refine hK.out _ _ ?_ (fun hS4 => ?_)
        · exact ⟨trivial, fun h => absurd (h.symm.trans (show _ = true by kernel_rfl)) (by decide)⟩
        clear hK K hS3
        try simp only [Act.put, List.setIfInBounds_toArray, List.set_cons_zero, List.set_cons_succ]
        refine readyL (rs := [11]) (by kernel_rfl) (by simp) ?_
        refine AllReadyL.cons rfl (fun K hK => ?_) AllReadyL.nil
        go_simp
        refine hK.out _ _ ?_ (fun hS5 => ?_)
        · exact ⟨trivial, fun h => absurd (h.symm.trans (show _ = true by kernel_rfl)) (by decide)⟩
        clear hK K hS4
        try simp only [Act.put, List.setIfInBounds_toArray, List.set_cons_zero, List.set_cons_succ]
        refine readyL (rs := [14]) (by kernel_rfl) (by simp) ?_
        refine AllReadyL.cons rfl (fun K hK => ?_) AllReadyL.nil
        go_simp
        refine hK.out _ _ ?_ (fun hS6 => ?_)
        · exact ⟨trivial, fun h => absurd (h.symm.trans (show _ = true by kernel_rfl)) (by decide)⟩
        clear hK K hS5
        try simp only [Act.put, List.setIfInBounds_toArray, List.set_cons_zero, List.set_cons_succ]
        refine doneL (by kernel_rfl) ?_ _
        go_wp2_with fail
        go_meet
        exact cutL_alloc hO hU1 hB1
      refine AllReadyL.cons rfl (fun K hK => ?_) ?_
      · go_simp
        refine hK.out _ _ ?_ (fun hS2 => ?_)
        · exact ⟨trivial, fun _ => HS2.out _ hB1⟩
        clear hK K hS1
        try simp only [Act.put, List.setIfInBounds_toArray, List.set_cons_zero, List.set_cons_succ]
        refine readyL (rs := [10, 12]) (by kernel_rfl) (by simp) ?_
        refine AllReadyL.cons rfl (fun K hK => ?_) ?_
        · go_simp
          refine hK.out _ _ ?_ (fun hS3 => ?_)
          · exact ⟨trivial, fun _ => HS2.out _ hB1⟩
          clear hK K hS2
          try simp only [Act.put, List.setIfInBounds_toArray, List.set_cons_zero, List.set_cons_succ]
          refine readyL (rs := [12]) (by kernel_rfl) (by simp) ?_
          refine AllReadyL.cons rfl (fun K hK => ?_) AllReadyL.nil
          go_simp
          refine hK.out _ _ ?_ (fun hS4 => ?_)
          · exact ⟨trivial, fun _ => HS2.out _ (hB1.alloc hB1.size _)⟩
          clear hK K hS3
          try simp only [Act.put, List.setIfInBounds_toArray, List.set_cons_zero, List.set_cons_succ]
          refine readyL (rs := [13]) (by kernel_rfl) (by simp) ?_
          refine AllReadyL.cons rfl (fun K hK => ?_) AllReadyL.nil
          go_simp
          refine hK.out _ _ ?_ (fun hS5 => ?_)
          · exact ⟨trivial, fun h => absurd (h.symm.trans (show _ = true by kernel_rfl)) (by decide)⟩
          clear hK K hS4
          try simp only [Act.put, List.setIfInBounds_toArray, List.set_cons_zero, List.set_cons_succ]
          refine readyL (rs := [14]) (by kernel_rfl) (by simp) ?_
          refine AllReadyL.cons rfl (fun K hK => ?_) AllReadyL.nil
          go_simp
          refine hK.out _ _ ?_ (fun hS6 => ?_)
          · exact ⟨trivial, fun h => absurd (h.symm.trans (show _ = true by kernel_rfl)) (by decide)⟩
          clear hK K hS5
          try simp only [Act.put, List.setIfInBounds_toArray, List.set_cons_zero, List.set_cons_succ]
          refine doneL (by kernel_rfl) ?_ _
          go_wp2_with fail
          go_meet
          exact cutL_alloc hO hU1 hB1
        refine AllReadyL.cons rfl (fun K hK => ?_) AllReadyL.nil
        go_simp
        refine hK.out _ _ ?_ (fun hS3 => ?_)
        · exact ⟨trivial, fun _ => HS2.out _ (hB1.alloc hB1.size _)⟩
        clear hK K hS2
        try simp only [Act.put, List.setIfInBounds_toArray, List.set_cons_zero, List.set_cons_succ]
        refine readyL (rs := [10]) (by kernel_rfl) (by simp) ?_
        refine AllReadyL.cons rfl (fun K hK => ?_) AllReadyL.nil
        go_simp
        refine hK.out _ _ ?_ (fun hS4 => ?_)
        · exact ⟨trivial, fun _ => HS2.out _ (hB1.alloc hB1.size _)⟩
        clear hK K hS3
        try simp only [Act.put, List.setIfInBounds_toArray, List.set_cons_zero, List.set_cons_succ]
        refine readyL (rs := [13]) (by kernel_rfl) (by simp) ?_
        refine AllReadyL.cons rfl (fun K hK => ?_) AllReadyL.nil
        go_simp
        refine hK.out _ _ ?_ (fun hS5 => ?_)
        · exact ⟨trivial, fun h => absurd (h.symm.trans (show _ = true by kernel_rfl)) (by decide)⟩
        clear hK K hS4
        try simp only [Act.put, List.setIfInBounds_toArray, List.set_cons_zero, List.set_cons_succ]
        refine readyL (rs := [14]) (by kernel_rfl) (by simp) ?_
        refine AllReadyL.cons rfl (fun K hK => ?_) AllReadyL.nil
        go_simp
        refine hK.out _ _ ?_ (fun hS6 => ?_)
        · exact ⟨trivial, fun h => absurd (h.symm.trans (show _ = true by kernel_rfl)) (by decide)⟩
        clear hK K hS5
        try simp only [Act.put, List.setIfInBounds_toArray, List.set_cons_zero, List.set_cons_succ]
        refine doneL (by kernel_rfl) ?_ _
        go_wp2_with fail
        go_meet
        exact cutL_alloc hO hU1 hB1
      refine AllReadyL.cons rfl (fun K hK => ?_) AllReadyL.nil
      go_simp
      refine hK.out _ _ ?_ (fun hS2 => ?_)
      · exact ⟨trivial, fun _ => HS2.out _ (hB1.alloc hB1.size _)⟩
      clear hK K hS1
      try simp only [Act.put, List.setIfInBounds_toArray, List.set_cons_zero, List.set_cons_succ]
      refine readyL (rs := [10, 11]) (by kernel_rfl) (by simp) ?_
      refine AllReadyL.cons rfl (fun K hK => ?_) ?_
      · go_simp
        refine hK.out _ _ ?_ (fun hS3 => ?_)
        · exact ⟨trivial, fun _ => HS2.out _ (hB1.alloc hB1.size _)⟩
        clear hK K hS2
        try simp only [Act.put, List.setIfInBounds_toArray, List.set_cons_zero, List.set_cons_succ]
        refine readyL (rs := [11, 13]) (by kernel_rfl) (by simp) ?_
        refine AllReadyL.cons rfl (fun K hK => ?_) ?_
        · go_simp
          refine hK.out _ _ ?_ (fun hS4 => ?_)
          · exact ⟨trivial, fun _ => HS2.out _ (hB1.alloc hB1.size _)⟩
          clear hK K hS3
          try simp only [Act.put, List.setIfInBounds_toArray, List.set_cons_zero, List.set_cons_succ]
          refine readyL (rs := [13]) (by kernel_rfl) (by simp) ?_
          refine AllReadyL.cons rfl (fun K hK => ?_) AllReadyL.nil
          go_simp
          refine hK.out _ _ ?_ (fun hS5 => ?_)
          · exact ⟨trivial, fun h => absurd (h.symm.trans (show _ = true by kernel_rfl)) (by decide)⟩
          clear hK K hS4
          try simp only [Act.put, List.setIfInBounds_toArray, List.set_cons_zero, List.set_cons_succ]
          refine readyL (rs := [14]) (by kernel_rfl) (by simp) ?_
          refine AllReadyL.cons rfl (fun K hK => ?_) AllReadyL.nil
          go_simp
          refine hK.out _ _ ?_ (fun hS6 => ?_)
          · exact ⟨trivial, fun h => absurd (h.symm.trans (show _ = true by kernel_rfl)) (by decide)⟩
          clear hK K hS5
          try simp only [Act.put, List.setIfInBounds_toArray, List.set_cons_zero, List.set_cons_succ]
          refine doneL (by kernel_rfl) ?_ _
          go_wp2_with fail
          go_meet
          exact cutL_alloc hO hU1 hB1
        refine AllReadyL.cons rfl (fun K hK => ?_) AllReadyL.nil
        go_simp
        refine hK.out _ _ ?_ (fun hS4 => ?_)
        · exact ⟨trivial, fun h => absurd (h.symm.trans (show _ = true by kernel_rfl)) (by decide)⟩
        clear hK K hS3
        try simp only [Act.put, List.setIfInBounds_toArray, List.set_cons_zero, List.set_cons_succ]
        refine readyL (rs := [11]) (by kernel_rfl) (by simp) ?_
        refine AllReadyL.cons rfl (fun K hK => ?_) AllReadyL.nil
        go_simp
        refine hK.out _ _ ?_ (fun hS5 => ?_)
        · exact ⟨trivial, fun h => absurd (h.symm.trans (show _ = true by kernel_rfl)) (by decide)⟩
        clear hK K hS4
        try simp only [Act.put, List.setIfInBounds_toArray, List.set_cons_zero, List.set_cons_succ]
        refine readyL (rs := [14]) (by kernel_rfl) (by simp) ?_
        refine AllReadyL.cons rfl (fun K hK => ?_) AllReadyL.nil
        go_simp
        refine hK.out _ _ ?_ (fun hS6 => ?_)
        · exact ⟨trivial, fun h => absurd (h.symm.trans (show _ = true by kernel_rfl)) (by decide)⟩
        clear hK K hS5
        try simp only [Act.put, List.setIfInBounds_toArray, List.set_cons_zero, List.set_cons_succ]
        refine doneL (by kernel_rfl) ?_ _
        go_wp2_with fail
        go_meet
        exact cutL_alloc hO hU1 hB1
      refine AllReadyL.cons rfl (fun K hK => ?_) AllReadyL.nil
      go_simp
      refine hK.out _ _ ?_ (fun hS3 => ?_)
      · exact ⟨trivial, fun _ => HS2.out _ (hB1.alloc hB1.size _)⟩
      clear hK K hS2
      try simp only [Act.put, List.setIfInBounds_toArray, List.set_cons_zero, List.set_cons_succ]
      refine readyL (rs := [10]) (by kernel_rfl) (by simp) ?_
      refine AllReadyL.cons rfl (fun K hK => ?_) AllReadyL.nil
      go_simp
      refine hK.out _ _ ?_ (fun hS4 => ?_)
      · exact ⟨trivial, fun _ => HS2.out _ (hB1.alloc hB1.size _)⟩
      clear hK K hS3
      try simp only [Act.put, List.setIfInBounds_toArray, List.set_cons_zero, List.set_cons_succ]
      refine readyL (rs := [13]) (by kernel_rfl) (by simp) ?_
      refine AllReadyL.cons rfl (fun K hK => ?_) AllReadyL.nil
      go_simp
      refine hK.out _ _ ?_ (fun hS5 => ?_)
      · exact ⟨trivial, fun h => absurd (h.symm.trans (show _ = true by kernel_rfl)) (by decide)⟩
      clear hK K hS4
      try simp only [Act.put, List.setIfInBounds_toArray, List.set_cons_zero, List.set_cons_succ]
      refine readyL (rs := [14]) (by kernel_rfl) (by simp) ?_
      refine AllReadyL.cons rfl (fun K hK => ?_) AllReadyL.nil
      go_simp
      refine hK.out _ _ ?_ (fun hS6 => ?_)
      · exact ⟨trivial, fun h => absurd (h.symm.trans (show _ = true by kernel_rfl)) (by decide)⟩
      clear hK K hS5
      try simp only [Act.put, List.setIfInBounds_toArray, List.set_cons_zero, List.set_cons_succ]
      refine doneL (by kernel_rfl) ?_ _
      go_wp2_with fail
      go_meet
      exact cutL_alloc hO hU1 hB1
    refine AllReadyL.cons rfl (fun K hK => ?_) AllReadyL.nil
    go_simp
    refine hK.out _ _ ?_ (fun hS1 => ?_)
    · exact ⟨trivial, fun _ => HS2.out _ ((below_drew _).alloc (by simp) _)⟩
    clear hK K hS0
    try simp only [Act.put, List.setIfInBounds_toArray, List.set_cons_zero, List.set_cons_succ]
    refine readyL (rs := [8]) (by kernel_rfl) (by simp) ?_
    refine AllReadyL.cons rfl (fun K hK => ?_) AllReadyL.nil
    go_simp
    refine (ci_from HIH.out (W0 := Y) (((Below.refl (Y).heap.size Y).alloc (Nat.le_refl _) (Obj.cells #[.int .i64 0, .int .i64 0, .int .i64 0, .slice none 0 0] 30)).drew) HP.out.1 HP.out.2.1 HP.out.2.2.1 HP.out.2.2.2.1.2 HP.out.2.2.2.2.2 (Hha2.out.below HB2.out) (Hhb2.out.below HB2.out)).mono ?_
    rintro e w1 ⟨⟨p0, p1, p2, pa, pn, pc, rfl, hb1, hO⟩, hU⟩
    have hB1 := below_trans hU hb1
    have hU1 := hU.size
    refine hK.out _ _ ?_ (fun hS2 => ?_)
    · exact ⟨trivial, fun _ => HS2.out _ hB1⟩
    clear hK K hS1
    try simp only [Act.put, List.setIfInBounds_toArray, List.set_cons_zero, List.set_cons_succ]
    refine takeL0 (i := 9) (v := ?vr210) rfl rfl (by kernel_rfl) (by kernel_rfl) (by kernel_rfl) (by decide) (by kernel_rfl) (by kernel_rfl) (fun _ _ _ h => h) (Or.inl ⟨by rfl, ?hyr210⟩) (by assumption) ?_
    case hyr210 => (intro w hSw; (try dsimp only at hSw); go_simp; (try with_reducible rfl))
    try simp only [Act.put, List.setIfInBounds_toArray, List.set_cons_zero, List.set_cons_succ]
    refine readyL (rs := [10, 11]) (by kernel_rfl) (by simp) ?_
    refine AllReadyL.cons rfl (fun K hK => ?_) ?_
    · go_simp
      refine hK.out _ _ ?_ (fun hS3 => ?_)
      · exact ⟨trivial, fun _ => HS2.out _ hB1⟩
      clear hK K hS2
      try simp only [Act.put, List.setIfInBounds_toArray, List.set_cons_zero, List.set_cons_succ]
      refine readyL (rs := [11, 13]) (by kernel_rfl) (by simp) ?_
      refine AllReadyL.cons rfl (fun K hK => ?_) ?_
      · go_simp
        refine hK.out _ _ ?_ (fun hS4 => ?_)
        · exact ⟨trivial, fun _ => HS2.out _ hB1⟩
        clear hK K hS3
        try simp only [Act.put, List.setIfInBounds_toArray, List.set_cons_zero, List.set_cons_succ]
        refine readyL (rs := [13]) (by kernel_rfl) (by simp) ?_
        refine AllReadyL.cons rfl (fun K hK => ?_) AllReadyL.nil
        have hE1 := (hb1.block _ (by simp [World.drew])).trans (alloc_new Y (Obj.cells #[.int .i64 0, .int .i64 0, .int .i64 0, .slice none 0 0] 30))
        have bM := hE1
        have z0 := (cell_of_block (o := 0) bM).trans (show _ = some (.int .i64 0) from rfl)
        have z1 := (cell_of_block (o := 1) bM).trans (show _ = some (.int .i64 0) from rfl)
        have z2 := (cell_of_block (o := 2) bM).trans (show _ = some (.int .i64 0) from rfl)
        have z3 := (cell_of_block (o := 3) bM).trans (show _ = some (.slice none 0 0) from rfl)
        have yz := fun o => frozen_of_block (o := o) bM
        go_simp
        refine hK.out _ _ ?_ (fun hS5 => ?_)
        · exact ⟨trivial, fun h => absurd (h.symm.trans (show _ = true by kernel_rfl)) (by decide)⟩
        clear hK K hS4
        try simp only [Act.put, List.setIfInBounds_toArray, List.set_cons_zero, List.set_cons_succ]
        refine readyL (rs := [14]) (by kernel_rfl) (by simp) ?_
        refine AllReadyL.cons rfl (fun K hK => ?_) AllReadyL.nil
        go_simp
        refine hK.out _ _ ?_ (fun hS6 => ?_)
        · exact ⟨trivial, fun h => absurd (h.symm.trans (show _ = true by kernel_rfl)) (by decide)⟩
        clear hK K hS5
        try simp only [Act.put, List.setIfInBounds_toArray, List.set_cons_zero, List.set_cons_succ]
        refine doneL (by kernel_rfl) ?_ _
        go_wp2_with fail
        go_meet
        exact cutL_stores hE1 hO (fun x hx => by have := (fun x hx => Nat.lt_of_lt_of_le ((List.mem_append.1 hx).elim (Hha2.out.lt x) (Hhb2.out.lt x)) HSY.out) x hx; omega) (by simp [World.drew] at hU1 ⊢) hB1
      refine AllReadyL.cons rfl (fun K hK => ?_) AllReadyL.nil
      have hE1 := (hb1.block _ (by simp [World.drew])).trans (alloc_new Y (Obj.cells #[.int .i64 0, .int .i64 0, .int .i64 0, .slice none 0 0] 30))
      have bM := hE1
      have z0 := (cell_of_block (o := 0) bM).trans (show _ = some (.int .i64 0) from rfl)
      have z1 := (cell_of_block (o := 1) bM).trans (show _ = some (.int .i64 0) from rfl)
      have z2 := (cell_of_block (o := 2) bM).trans (show _ = some (.int .i64 0) from rfl)
      have z3 := (cell_of_block (o := 3) bM).trans (show _ = some (.slice none 0 0) from rfl)
      have yz := fun o => frozen_of_block (o := o) bM
      go_simp
      refine hK.out _ _ ?_ (fun hS4 => ?_)
      · exact ⟨trivial, fun h => absurd (h.symm.trans (show _ = true by kernel_rfl)) (by decide)⟩
      clear hK K hS3
      try simp only [Act.put, List.setIfInBounds_toArray, List.set_cons_zero, List.set_cons_succ]
      refine readyL (rs := [11]) (by kernel_rfl) (by simp) ?_
      refine AllReadyL.cons rfl (fun K hK => ?_) AllReadyL.nil
      go_simp
      refine hK.out _ _ ?_ (fun hS5 => ?_)
      · exact ⟨trivial, fun h => absurd (h.symm.trans (show _ = true by kernel_rfl)) (by decide)⟩
      clear hK K hS4
      try simp only [Act.put, List.setIfInBounds_toArray, List.set_cons_zero, List.set_cons_succ]
      refine readyL (rs := [14]) (by kernel_rfl) (by simp) ?_
      refine AllReadyL.cons rfl (fun K hK => ?_) AllReadyL.nil
      go_simp
      refine hK.out _ _ ?_ (fun hS6 => ?_)
      · exact ⟨trivial, fun h => absurd (h.symm.trans (show _ = true by kernel_rfl)) (by decide)⟩
      clear hK K hS5
      try simp only [Act.put, List.setIfInBounds_toArray, List.set_cons_zero, List.set_cons_succ]
      refine doneL (by kernel_rfl) ?_ _
      go_wp2_with fail
      go_meet
      exact cutL_stores hE1 hO (fun x hx => by have := (fun x hx => Nat.lt_of_lt_of_le ((List.mem_append.1 hx).elim (Hha2.out.lt x) (Hhb2.out.lt x)) HSY.out) x hx; omega) (by simp [World.drew] at hU1 ⊢) hB1
    refine AllReadyL.cons rfl (fun K hK => ?_) AllReadyL.nil
    go_simp
    refine hK.out _ _ ?_ (fun hS3 => ?_)
    · exact ⟨trivial, fun _ => HS2.out _ hB1⟩
    clear hK K hS2
    try simp only [Act.put, List.setIfInBounds_toArray, List.set_cons_zero, List.set_cons_succ]
    refine readyL (rs := [10]) (by kernel_rfl) (by simp) ?_
    refine AllReadyL.cons rfl (fun K hK => ?_) AllReadyL.nil
    go_simp
    refine hK.out _ _ ?_ (fun hS4 => ?_)
    · exact ⟨trivial, fun _ => HS2.out _ hB1⟩
    clear hK K hS3
    try simp only [Act.put, List.setIfInBounds_toArray, List.set_cons_zero, List.set_cons_succ]
    refine readyL (rs := [13]) (by kernel_rfl) (by simp) ?_
    refine AllReadyL.cons rfl (fun K hK => ?_) AllReadyL.nil
    have hE1 := (hb1.block _ (by simp [World.drew])).trans (alloc_new Y (Obj.cells #[.int .i64 0, .int .i64 0, .int .i64 0, .slice none 0 0] 30))
    have bM := hE1
    have z0 := (cell_of_block (o := 0) bM).trans (show _ = some (.int .i64 0) from rfl)
    have z1 := (cell_of_block (o := 1) bM).trans (show _ = some (.int .i64 0) from rfl)
    have z2 := (cell_of_block (o := 2) bM).trans (show _ = some (.int .i64 0) from rfl)
    have z3 := (cell_of_block (o := 3) bM).trans (show _ = some (.slice none 0 0) from rfl)
    have yz := fun o => frozen_of_block (o := o) bM
    go_simp
    refine hK.out _ _ ?_ (fun hS5 => ?_)
    · exact ⟨trivial, fun h => absurd (h.symm.trans (show _ = true by kernel_rfl)) (by decide)⟩
    clear hK K hS4
    try simp only [Act.put, List.setIfInBounds_toArray, List.set_cons_zero, List.set_cons_succ]
    refine readyL (rs := [14]) (by kernel_rfl) (by simp) ?_
    refine AllReadyL.cons rfl (fun K hK => ?_) AllReadyL.nil
    go_simp
    refine hK.out _ _ ?_ (fun hS6 => ?_)
    · exact ⟨trivial, fun h => absurd (h.symm.trans (show _ = true by kernel_rfl)) (by decide)⟩
    clear hK K hS5
    try simp only [Act.put, List.setIfInBounds_toArray, List.set_cons_zero, List.set_cons_succ]
    refine doneL (by kernel_rfl) ?_ _
    go_wp2_with fail
    go_meet
    exact cutL_stores hE1 hO (fun x hx => by have := (fun x hx => Nat.lt_of_lt_of_le ((List.mem_append.1 hx).elim (Hha2.out.lt x) (Hhb2.out.lt x)) HSY.out) x hx; omega) (by simp [World.drew] at hU1 ⊢) hB1
  case rest =>
  rename World => wC
  obtain ⟨bq, r2, qk, qg, ql, qa, qn, qc, rfl, rfl, hr2, hbq, hEq, hLq, hbC⟩ := hcut
  have hBC := below_trans HB2.out hbC
  have hSS := HS2.out _ hbC
  clear x0 x1 x2 x3 y0 y1 y2 y3 d0 d1 d2 d3 d4 d5 d6 d7 e0 e1 e2 e3 e4 e5 e6 e7
  obtain ⟨x0, x1, x2, x3, y0, y1, y2, y3, d0, d1, d2, d3, d4, d5, d6, d7, e0, e1, e2, e3, e4, e5, e6, e7⟩ := hSS
  replace p0 := cell_keep p0 hbC
  replace p1 := cell_keep p1 hbC
  replace p2 := cell_keep p2 hbC
  replace p3 := cell_keep p3 hbC
  have q0 : wC.cell? ⟨bq, 0, none⟩ = some (.int .i64 qk) := by rw [cell_of_block hEq]; rfl
  have q1 : wC.cell? ⟨bq, 1, none⟩ = some (.int .i64 qg) := by rw [cell_of_block hEq]; rfl
  have q2 : wC.cell? ⟨bq, 2, none⟩ = some (.int .i64 ql) := by rw [cell_of_block hEq]; rfl
  have q3 : wC.cell? ⟨bq, 3, none⟩ = some (.slice qa qn qc) := by rw [cell_of_block hEq]; rfl
  have hal2 : Below wC.heap.size wC (wC.alloc (Obj.cells #[.int .i64 pk, .int .i64 pg, .int .i64 pl, .slice pa pn pc, .int .i64 qk, .int .i64 qg, .int .i64 ql, .slice qa qn qc] 30)) := (Below.refl _ _).alloc (Nat.le_refl _) _
  go_wp2_with fail
  refine (coercionOf_any _ _ _ _ _).mono ?_
  rintro e w3 ⟨rfl, hb3⟩
  have hb3' := below_trans hal2 hb3
  have hB3 := below_trans hBC hb3'
  have hE3 := (hb3.block _ (lt_of_block (alloc_new wC (Obj.cells #[.int .i64 pk, .int .i64 pg, .int .i64 pl, .slice pa pn pc, .int .i64 qk, .int .i64 qg, .int .i64 ql, .slice qa qn qc] 30)))).trans (alloc_new wC (Obj.cells #[.int .i64 pk, .int .i64 pg, .int .i64 pl, .slice pa pn pc, .int .i64 qk, .int .i64 qg, .int .i64 ql, .slice qa qn qc] 30))
  have hLF := two_rowL (k := 2) (A := fa ++ fb) (lo := Z.heap.size) ((HLP.out.below hbC).below hb3') ((hLq.below hb3').mono (fun x hx => .inl (by rw [HF.out.1, HF.out.2]; rcases List.mem_append.1 hx with h | h <;> simp [h])) HSY.out) hE3 hBC.size
  have hR : (bothC 2 (cmpo n b1 a1) (cmpo n a2 b2)).isSome = r2 := by
    rw [← hr2]
    cases h1 : cmpo n b1 a1 with
    | none => have := HR1.out; rw [h1] at this; cases this
    | some c1 => cases cmpo n a2 b2 <;> rfl
  clear hEq hLq hE3 p0 p1 p2 p3 q0 q1 q2 q3
  have bM := (hB3.block (w.heap.size + 1 + 1) (by have := HZS.out; omega)).trans HBZ.out
  have z0 := (cell_of_block (o := 0) bM).trans (show _ = some (.int .i64 0) from rfl)
  have z1 := (cell_of_block (o := 1) bM).trans (show _ = some (.int .i64 0) from rfl)
  have z2 := (cell_of_block (o := 2) bM).trans (show _ = some (.int .i64 0) from rfl)
  have z3 := (cell_of_block (o := 3) bM).trans (show _ = some (.slice none 0 0) from rfl)
  have yz := fun o => frozen_of_block (o := o) bM
  have FIN := closeL (k := 2) (g := 0) (l := 0) (a := (some ⟨wC.heap.size, 0, none⟩)) (n := 2) (cap := 2) (w := w) (wF := w3) (M := w.heap.size + 1 + 1) (lo := Z.heap.size) (A := fa ++ fb) (o := bothC 2 (cmpo n b1 a1) (cmpo n a2 b2)) (b := r2) (hR) (hLF) HA.out (by omega) (by have := HZS.out; have := (hB3).size; omega) (below_trans HB0.out hB3)
  simp only [put4, Nat.zero_add] at FIN
  go_wp2_with fail
  exact bodyPost_ret (v := .tuple #[.agg #[.int .i64 2, .int .i64 0, .int .i64 0, .slice (some ⟨wC.heap.size, 0, none⟩) 2 2], .bool (r2)]) (by simp [results, Try.results96, go_sem, z0, z1, z2, z3]) rfl FIN
set_option maxRecDepth 100000 in
set_option maxHeartbeats 4000000 in
theorem plain_two3 (n : Nat) (ih : CpiC n) (la lb : Int) (a1 a2 b1 b2 : Co) (d d' : Nat) (va vb : Value) (fa fb : List Nat) (w : World) (hd : d + d' ≤ n) (hd1 : d ≤ 9) (hd2 : d' ≤ 9) (hs1 : shpK d a1 = true) (hs2 : shpK d a2 = true) (ht1 : shpK d' b1 = true) (ht2 : shpK d' b2 = true) (hata : (Co.mk 3 0 la [a1, a2]).At w va fa) (hatb : (Co.mk 3 0 lb [b1, b2]).At w vb fb) :
    Calls Try.prog 96 #[va, vb] w (MadeL w (fa ++ fb) (bothC 3 (cmpo n a1 b1) (cmpo n a2 b2))) := by
  have HA := hid (show ∀ x ∈ fa ++ fb, x < w.heap.size from fun x hx => (List.mem_append.1 hx).elim (hata.lt x) (hatb.lt x))
  have hata0 := hata
  have hatb0 := hatb
  obtain ⟨sa, rfl, hsa⟩ := Co.at_mk.1 hata
  obtain ⟨sb, rfl, hsb⟩ := Co.at_mk.1 hatb
  obtain ⟨ba, oa, ca, ka1, ga1, la1, na1, aa1, ca1, ka2, ga2, la2, na2, aa2, ca2, fa1, fa2, rfl, hba, d0, d1, d2, d3, d4, d5, d6, d7, ha1, ha2, hfa, _⟩ := hsa.two
  obtain ⟨bb, ob, cb, kb1, gb1, lb1, nb1, ab1, cb1, kb2, gb2, lb2, nb2, ab2, cb2, fb1, fb2, rfl, hbb, e0, e1, e2, e3, e4, e5, e6, e7, hb1, hb2, hfb, _⟩ := hsb.two
  have hb0 : Below w.heap.size w (((w.alloc (Obj.cells #[.int .i64 3, .int .i64 0, .int .i64 la, .slice (some ⟨ba, oa, none⟩) 2 ca] 30)).alloc (Obj.cells #[.int .i64 3, .int .i64 0, .int .i64 lb, .slice (some ⟨bb, ob, none⟩) 2 cb] 30)).alloc (Obj.cells #[.int .i64 0, .int .i64 0, .int .i64 0, .slice none 0 0] 30)) := (((Below.refl _ _).alloc (Nat.le_refl _) _).alloc (by simp) _).alloc (by simp; omega) _
  have hs0 : ((((w.alloc (Obj.cells #[.int .i64 3, .int .i64 0, .int .i64 la, .slice (some ⟨ba, oa, none⟩) 2 ca] 30)).alloc (Obj.cells #[.int .i64 3, .int .i64 0, .int .i64 lb, .slice (some ⟨bb, ob, none⟩) 2 cb] 30)).alloc (Obj.cells #[.int .i64 0, .int .i64 0, .int .i64 0, .slice none 0 0] 30))).heap.size = w.heap.size + 1 + 1 + 1 := by simp
  obtain ⟨bA, bB, bZ⟩ := three3 (Below.refl ((((w.alloc (Obj.cells #[.int .i64 3, .int .i64 0, .int .i64 la, .slice (some ⟨ba, oa, none⟩) 2 ca] 30)).alloc (Obj.cells #[.int .i64 3, .int .i64 0, .int .i64 lb, .slice (some ⟨bb, ob, none⟩) 2 cb] 30)).alloc (Obj.cells #[.int .i64 0, .int .i64 0, .int .i64 0, .slice none 0 0] 30))).heap.size (((w.alloc (Obj.cells #[.int .i64 3, .int .i64 0, .int .i64 la, .slice (some ⟨ba, oa, none⟩) 2 ca] 30)).alloc (Obj.cells #[.int .i64 3, .int .i64 0, .int .i64 lb, .slice (some ⟨bb, ob, none⟩) 2 cb] 30)).alloc (Obj.cells #[.int .i64 0, .int .i64 0, .int .i64 0, .slice none 0 0] 30)))
  have x0 : ((((w.alloc (Obj.cells #[.int .i64 3, .int .i64 0, .int .i64 la, .slice (some ⟨ba, oa, none⟩) 2 ca] 30)).alloc (Obj.cells #[.int .i64 3, .int .i64 0, .int .i64 lb, .slice (some ⟨bb, ob, none⟩) 2 cb] 30)).alloc (Obj.cells #[.int .i64 0, .int .i64 0, .int .i64 0, .slice none 0 0] 30))).cell? ⟨w.heap.size, 0, none⟩ = some (.int .i64 3) := by rw [cell_of_block bA]; rfl
  have x1 : ((((w.alloc (Obj.cells #[.int .i64 3, .int .i64 0, .int .i64 la, .slice (some ⟨ba, oa, none⟩) 2 ca] 30)).alloc (Obj.cells #[.int .i64 3, .int .i64 0, .int .i64 lb, .slice (some ⟨bb, ob, none⟩) 2 cb] 30)).alloc (Obj.cells #[.int .i64 0, .int .i64 0, .int .i64 0, .slice none 0 0] 30))).cell? ⟨w.heap.size, 1, none⟩ = some (.int .i64 0) := by rw [cell_of_block bA]; rfl
  have x2 : ((((w.alloc (Obj.cells #[.int .i64 3, .int .i64 0, .int .i64 la, .slice (some ⟨ba, oa, none⟩) 2 ca] 30)).alloc (Obj.cells #[.int .i64 3, .int .i64 0, .int .i64 lb, .slice (some ⟨bb, ob, none⟩) 2 cb] 30)).alloc (Obj.cells #[.int .i64 0, .int .i64 0, .int .i64 0, .slice none 0 0] 30))).cell? ⟨w.heap.size, 2, none⟩ = some (.int .i64 la) := by rw [cell_of_block bA]; rfl
  have x3 : ((((w.alloc (Obj.cells #[.int .i64 3, .int .i64 0, .int .i64 la, .slice (some ⟨ba, oa, none⟩) 2 ca] 30)).alloc (Obj.cells #[.int .i64 3, .int .i64 0, .int .i64 lb, .slice (some ⟨bb, ob, none⟩) 2 cb] 30)).alloc (Obj.cells #[.int .i64 0, .int .i64 0, .int .i64 0, .slice none 0 0] 30))).cell? ⟨w.heap.size, 3, none⟩ = some (.slice (some ⟨ba, oa, none⟩) 2 ca) := by rw [cell_of_block bA]; rfl
  have y0 : ((((w.alloc (Obj.cells #[.int .i64 3, .int .i64 0, .int .i64 la, .slice (some ⟨ba, oa, none⟩) 2 ca] 30)).alloc (Obj.cells #[.int .i64 3, .int .i64 0, .int .i64 lb, .slice (some ⟨bb, ob, none⟩) 2 cb] 30)).alloc (Obj.cells #[.int .i64 0, .int .i64 0, .int .i64 0, .slice none 0 0] 30))).cell? ⟨w.heap.size + 1, 0, none⟩ = some (.int .i64 3) := by rw [cell_of_block bB]; rfl
  have y1 : ((((w.alloc (Obj.cells #[.int .i64 3, .int .i64 0, .int .i64 la, .slice (some ⟨ba, oa, none⟩) 2 ca] 30)).alloc (Obj.cells #[.int .i64 3, .int .i64 0, .int .i64 lb, .slice (some ⟨bb, ob, none⟩) 2 cb] 30)).alloc (Obj.cells #[.int .i64 0, .int .i64 0, .int .i64 0, .slice none 0 0] 30))).cell? ⟨w.heap.size + 1, 1, none⟩ = some (.int .i64 0) := by rw [cell_of_block bB]; rfl
  have y2 : ((((w.alloc (Obj.cells #[.int .i64 3, .int .i64 0, .int .i64 la, .slice (some ⟨ba, oa, none⟩) 2 ca] 30)).alloc (Obj.cells #[.int .i64 3, .int .i64 0, .int .i64 lb, .slice (some ⟨bb, ob, none⟩) 2 cb] 30)).alloc (Obj.cells #[.int .i64 0, .int .i64 0, .int .i64 0, .slice none 0 0] 30))).cell? ⟨w.heap.size + 1, 2, none⟩ = some (.int .i64 lb) := by rw [cell_of_block bB]; rfl
  have y3 : ((((w.alloc (Obj.cells #[.int .i64 3, .int .i64 0, .int .i64 la, .slice (some ⟨ba, oa, none⟩) 2 ca] 30)).alloc (Obj.cells #[.int .i64 3, .int .i64 0, .int .i64 lb, .slice (some ⟨bb, ob, none⟩) 2 cb] 30)).alloc (Obj.cells #[.int .i64 0, .int .i64 0, .int .i64 0, .slice none 0 0] 30))).cell? ⟨w.heap.size + 1, 3, none⟩ = some (.slice (some ⟨bb, ob, none⟩) 2 cb) := by rw [cell_of_block bB]; rfl
  replace d0 := cell_keep d0 hb0
  replace d1 := cell_keep d1 hb0
  replace d2 := cell_keep d2 hb0
  replace d3 := cell_keep d3 hb0
  replace d4 := cell_keep d4 hb0
  replace d5 := cell_keep d5 hb0
  replace d6 := cell_keep d6 hb0
  replace d7 := cell_keep d7 hb0
  replace e0 := cell_keep e0 hb0
  replace e1 := cell_keep e1 hb0
  replace e2 := cell_keep e2 hb0
  replace e3 := cell_keep e3 hb0
  replace e4 := cell_keep e4 hb0
  replace e5 := cell_keep e5 hb0
  replace e6 := cell_keep e6 hb0
  replace e7 := cell_keep e7 hb0
  have HB0 := hid hb0
  have HTA0 := hid hata0
  have HTB0 := hid hatb0
  have HBZ := hid bZ
  have HTA := hid (hata0.below hb0)
  have HTB := hid (hatb0.below hb0)
  have Hha1 := hid (ha1.below hb0)
  have Hha2 := hid (ha2.below hb0)
  have Hhb1 := hid (hb1.below hb0)
  have Hhb2 := hid (hb2.below hb0)
  obtain ⟨Z, hZd⟩ : ∃ Z, Z = (((w.alloc (Obj.cells #[.int .i64 3, .int .i64 0, .int .i64 la, .slice (some ⟨ba, oa, none⟩) 2 ca] 30)).alloc (Obj.cells #[.int .i64 3, .int .i64 0, .int .i64 lb, .slice (some ⟨bb, ob, none⟩) 2 cb] 30)).alloc (Obj.cells #[.int .i64 0, .int .i64 0, .int .i64 0, .slice none 0 0] 30)) := ⟨_, rfl⟩
  rw [← hZd] at hb0 hs0 HB0 HBZ HTA HTB Hha1 Hha2 Hhb1 Hhb2 x0 x1 x2 x3 y0 y1 y2 y3 d0 d1 d2 d3 d4 d5 d6 d7 e0 e1 e2 e3 e4 e5 e6 e7
  have HZS := hid hs0
  have HS0 := hid (show ∀ w', Below Z.heap.size Z w' → (fun w' => w'.cell? ⟨w.heap.size, 0, none⟩ = some (.int .i64 3) ∧ w'.cell? ⟨w.heap.size, 1, none⟩ = some (.int .i64 0) ∧ w'.cell? ⟨w.heap.size, 2, none⟩ = some (.int .i64 la) ∧ w'.cell? ⟨w.heap.size, 3, none⟩ = some (.slice (some ⟨ba, oa, none⟩) 2 ca) ∧ w'.cell? ⟨w.heap.size + 1, 0, none⟩ = some (.int .i64 3) ∧ w'.cell? ⟨w.heap.size + 1, 1, none⟩ = some (.int .i64 0) ∧ w'.cell? ⟨w.heap.size + 1, 2, none⟩ = some (.int .i64 lb) ∧ w'.cell? ⟨w.heap.size + 1, 3, none⟩ = some (.slice (some ⟨bb, ob, none⟩) 2 cb) ∧ w'.cell? ⟨ba, oa, none⟩ = some (.int .i64 ka1) ∧ w'.cell? ⟨ba, oa + 1, none⟩ = some (.int .i64 ga1) ∧ w'.cell? ⟨ba, oa + 2, none⟩ = some (.int .i64 la1) ∧ w'.cell? ⟨ba, oa + 3, none⟩ = some (.slice aa1 na1 ca1) ∧ w'.cell? ⟨ba, oa + 4, none⟩ = some (.int .i64 ka2) ∧ w'.cell? ⟨ba, oa + 4 + 1, none⟩ = some (.int .i64 ga2) ∧ w'.cell? ⟨ba, oa + 4 + 2, none⟩ = some (.int .i64 la2) ∧ w'.cell? ⟨ba, oa + 4 + 3, none⟩ = some (.slice aa2 na2 ca2) ∧ w'.cell? ⟨bb, ob, none⟩ = some (.int .i64 kb1) ∧ w'.cell? ⟨bb, ob + 1, none⟩ = some (.int .i64 gb1) ∧ w'.cell? ⟨bb, ob + 2, none⟩ = some (.int .i64 lb1) ∧ w'.cell? ⟨bb, ob + 3, none⟩ = some (.slice ab1 nb1 cb1) ∧ w'.cell? ⟨bb, ob + 4, none⟩ = some (.int .i64 kb2) ∧ w'.cell? ⟨bb, ob + 4 + 1, none⟩ = some (.int .i64 gb2) ∧ w'.cell? ⟨bb, ob + 4 + 2, none⟩ = some (.int .i64 lb2) ∧ w'.cell? ⟨bb, ob + 4 + 3, none⟩ = some (.slice ab2 nb2 cb2)) w' from fun w' h => ⟨cell_keep x0 h, cell_keep x1 h, cell_keep x2 h, cell_keep x3 h, cell_keep y0 h, cell_keep y1 h, cell_keep y2 h, cell_keep y3 h, cell_keep d0 h, cell_keep d1 h, cell_keep d2 h, cell_keep d3 h, cell_keep d4 h, cell_keep d5 h, cell_keep d6 h, cell_keep d7 h, cell_keep e0 h, cell_keep e1 h, cell_keep e2 h, cell_keep e3 h, cell_keep e4 h, cell_keep e5 h, cell_keep e6 h, cell_keep e7 h⟩)
  have HZD := hid hZd
  clear hb0 hs0 bA bB bZ hata hatb hata0 hatb0 hsa hsb hZd ha1 ha2 hb1 hb2
  have HP := hid (And.intro hd (And.intro hd1 (And.intro hd2 (And.intro (And.intro hs1 hs2) (And.intro ht1 ht2)))))
  have HIH := hid ih
  have HF := hid (And.intro hfa hfb)
  clear ih hd hd1 hd2 hs1 hs2 ht1 ht2 hfa hfb
  go_enter Try.func96, Try.ntmps96
  go_wp2_with fail
  rw [← HZD.out]
  go_cut [6, 7] (fun sx sq wx => Two2 Z #[.int .i64 ka1, .int .i64 ga1, .int .i64 la1, .slice aa1 na1 ca1] #[.int .i64 kb1, .int .i64 gb1, .int .i64 lb1, .slice ab1 nb1 cb1] sx sq wx)
  case first =>
    refine regionL (s := 11) (S0 := (fun w' => w'.cell? ⟨w.heap.size, 0, none⟩ = some (.int .i64 3) ∧ w'.cell? ⟨w.heap.size, 1, none⟩ = some (.int .i64 0) ∧ w'.cell? ⟨w.heap.size, 2, none⟩ = some (.int .i64 la) ∧ w'.cell? ⟨w.heap.size, 3, none⟩ = some (.slice (some ⟨ba, oa, none⟩) 2 ca) ∧ w'.cell? ⟨w.heap.size + 1, 0, none⟩ = some (.int .i64 3) ∧ w'.cell? ⟨w.heap.size + 1, 1, none⟩ = some (.int .i64 0) ∧ w'.cell? ⟨w.heap.size + 1, 2, none⟩ = some (.int .i64 lb) ∧ w'.cell? ⟨w.heap.size + 1, 3, none⟩ = some (.slice (some ⟨bb, ob, none⟩) 2 cb) ∧ w'.cell? ⟨ba, oa, none⟩ = some (.int .i64 ka1) ∧ w'.cell? ⟨ba, oa + 1, none⟩ = some (.int .i64 ga1) ∧ w'.cell? ⟨ba, oa + 2, none⟩ = some (.int .i64 la1) ∧ w'.cell? ⟨ba, oa + 3, none⟩ = some (.slice aa1 na1 ca1) ∧ w'.cell? ⟨ba, oa + 4, none⟩ = some (.int .i64 ka2) ∧ w'.cell? ⟨ba, oa + 4 + 1, none⟩ = some (.int .i64 ga2) ∧ w'.cell? ⟨ba, oa + 4 + 2, none⟩ = some (.int .i64 la2) ∧ w'.cell? ⟨ba, oa + 4 + 3, none⟩ = some (.slice aa2 na2 ca2) ∧ w'.cell? ⟨bb, ob, none⟩ = some (.int .i64 kb1) ∧ w'.cell? ⟨bb, ob + 1, none⟩ = some (.int .i64 gb1) ∧ w'.cell? ⟨bb, ob + 2, none⟩ = some (.int .i64 lb1) ∧ w'.cell? ⟨bb, ob + 3, none⟩ = some (.slice ab1 nb1 cb1) ∧ w'.cell? ⟨bb, ob + 4, none⟩ = some (.int .i64 kb2) ∧ w'.cell? ⟨bb, ob + 4 + 1, none⟩ = some (.int .i64 gb2) ∧ w'.cell? ⟨bb, ob + 4 + 2, none⟩ = some (.int .i64 lb2) ∧ w'.cell? ⟨bb, ob + 4 + 3, none⟩ = some (.slice ab2 nb2 cb2))) (S1 := (fun _ => True)) (by kernel_rfl) (HS0.out _ (below_drew _)) (trivial) (fun hS0 => ?_)
    refine takeL0 (i := 0) (v := ?vr11) rfl rfl (by kernel_rfl) (by kernel_rfl) (by kernel_rfl) (by decide) (by kernel_rfl) (by kernel_rfl) (fun _ _ _ h => h) (Or.inl ⟨by rfl, ?hyr11⟩) (by assumption) ?_
    case hyr11 => (intro w hSw; (try dsimp only at hSw); go_simp; (try with_reducible rfl))
    try simp only [Act.put, List.setIfInBounds_toArray, List.set_cons_zero, List.set_cons_succ]
    refine takeL0 (i := 1) (v := ?vr12) rfl rfl (by kernel_rfl) (by kernel_rfl) (by kernel_rfl) (by decide) (by kernel_rfl) (by kernel_rfl) (fun _ _ _ h => h) (Or.inl ⟨by rfl, ?hyr12⟩) (by assumption) ?_
    case hyr12 => (intro w hSw; (try dsimp only at hSw); go_simp; (try with_reducible rfl))
    try simp only [Act.put, List.setIfInBounds_toArray, List.set_cons_zero, List.set_cons_succ]
    refine takeL0 (i := 2) (v := ?vr13) rfl rfl (by kernel_rfl) (by kernel_rfl) (by kernel_rfl) (by decide) (by kernel_rfl) (by kernel_rfl) (fun _ _ _ h => h) (Or.inl ⟨by rfl, ?hyr13⟩) (by assumption) ?_
    case hyr13 => (intro w hSw; (try dsimp only at hSw); go_simp; (try with_reducible rfl))
    try simp only [Act.put, List.setIfInBounds_toArray, List.set_cons_zero, List.set_cons_succ]
    refine takeL0 (i := 3) (v := ?vr14) rfl rfl (by kernel_rfl) (by kernel_rfl) (by kernel_rfl) (by decide) (by kernel_rfl) (by kernel_rfl) (fun _ _ _ h => h) (Or.inl ⟨by rfl, ?hyr14⟩) (by assumption) ?_
    case hyr14 => (intro w hSw; (try dsimp only at hSw); go_simp; (try with_reducible rfl))
    try simp only [Act.put, List.setIfInBounds_toArray, List.set_cons_zero, List.set_cons_succ]
    refine takeL0 (i := 4) (v := ?vr15) rfl rfl (by kernel_rfl) (by kernel_rfl) (by kernel_rfl) (by decide) (by kernel_rfl) (by kernel_rfl) (fun _ _ _ h => h) (Or.inl ⟨by rfl, ?hyr15⟩) (by assumption) ?_
    case hyr15 => (intro w hSw; (try dsimp only at hSw); go_simp; (try with_reducible rfl))
    try simp only [Act.put, List.setIfInBounds_toArray, List.set_cons_zero, List.set_cons_succ]
    refine takeL0 (i := 5) (v := ?vr16) rfl rfl (by kernel_rfl) (by kernel_rfl) (by kernel_rfl) (by decide) (by kernel_rfl) (by kernel_rfl) (fun _ _ _ h => h) (Or.inl ⟨by rfl, ?hyr16⟩) (by assumption) ?_
    case hyr16 => (intro w hSw; (try dsimp only at hSw); go_simp; (try with_reducible rfl))
    try simp only [Act.put, List.setIfInBounds_toArray, List.set_cons_zero, List.set_cons_succ]
    refine takeL0 (i := 6) (v := ?vr17) rfl rfl (by kernel_rfl) (by kernel_rfl) (by kernel_rfl) (by decide) (by kernel_rfl) (by kernel_rfl) (fun _ _ _ h => h) (Or.inl ⟨by rfl, ?hyr17⟩) (by assumption) ?_
    case hyr17 => (intro w hSw; (try dsimp only at hSw); go_simp; (try with_reducible rfl))
    try simp only [Act.put, List.setIfInBounds_toArray, List.set_cons_zero, List.set_cons_succ]
    refine takeL0 (i := 7) (v := ?vr18) rfl rfl (by kernel_rfl) (by kernel_rfl) (by kernel_rfl) (by decide) (by kernel_rfl) (by kernel_rfl) (fun _ _ _ h => h) (Or.inl ⟨by rfl, ?hyr18⟩) (by assumption) ?_
    case hyr18 => (intro w hSw; (try dsimp only at hSw); go_simp; (try with_reducible rfl))
    try simp only [Act.put, List.setIfInBounds_toArray, List.set_cons_zero, List.set_cons_succ]
    refine readyL (rs := [8, 9]) (by kernel_rfl) (by simp) ?_
    refine AllReadyL.cons rfl (fun K hK => ?_) ?_
    · go_simp
      refine hK.out _ _ ?_ (fun hS1 => ?_)
      · exact ⟨trivial, fun _ => HS0.out _ (Below.alloc (below_drew Z) (Nat.le_refl _) _)⟩
      clear hK K hS0
      try simp only [Act.put, List.setIfInBounds_toArray, List.set_cons_zero, List.set_cons_succ]
      refine readyL (rs := [9]) (by kernel_rfl) (by simp) ?_
      refine AllReadyL.cons rfl (fun K hK => ?_) AllReadyL.nil
      go_simp
      refine hK.out _ _ ?_ (fun hS2 => ?_)
      · exact ⟨trivial, fun _ => HS0.out _ (Below.alloc (Below.alloc (below_drew Z) (Nat.le_refl _) _) (Below.size (Below.alloc (below_drew Z) (Nat.le_refl _) _)) _)⟩
      clear hK K hS1
      try simp only [Act.put, List.setIfInBounds_toArray, List.set_cons_zero, List.set_cons_succ]
      refine readyL (rs := [10]) (by kernel_rfl) (by simp) ?_
      refine AllReadyL.cons rfl (fun K hK => ?_) AllReadyL.nil
      go_simp
      refine hK.out _ _ ?_ (fun hS3 => ?_)
      · exact ⟨trivial, fun _ => (by first | exact HS0.out _ (Below.alloc (Below.alloc (below_drew Z) (Nat.le_refl _) _) (Below.size (Below.alloc (below_drew Z) (Nat.le_refl _) _)) _) | exact HS0.out _ (Below.setCell (Below.setCell (Below.setCell (Below.setCell (Below.alloc (Below.alloc (below_drew Z) (Nat.le_refl _) _) (Below.size (Below.alloc (below_drew Z) (Nat.le_refl _) _)) _) (by first | exact Nat.le_refl _ | simp | omega) _) (by first | exact Nat.le_refl _ | simp | omega) _) (by first | exact Nat.le_refl _ | simp | omega) _) (by first | exact Nat.le_refl _ | simp | omega) _))⟩
      clear hK K hS2
      try simp only [Act.put, List.setIfInBounds_toArray, List.set_cons_zero, List.set_cons_succ]
      refine readyL (rs := [11]) (by kernel_rfl) (by simp) ?_
      refine AllReadyL.cons rfl (fun K hK => ?_) AllReadyL.nil
      go_simp
      refine hK.out _ _ ?_ (fun hS4 => ?_)
      · exact ⟨trivial, fun h => absurd (h.symm.trans (show _ = true by kernel_rfl)) (by decide)⟩
      clear hK K hS3
      try simp only [Act.put, List.setIfInBounds_toArray, List.set_cons_zero, List.set_cons_succ]
      refine doneL (by kernel_rfl) ?_ _
      go_wp2_with fail
      go_meet
      first | exact two2_first | exact two2_second
    refine AllReadyL.cons rfl (fun K hK => ?_) AllReadyL.nil
    go_simp
    refine hK.out _ _ ?_ (fun hS1 => ?_)
    · exact ⟨trivial, fun _ => HS0.out _ (Below.alloc (below_drew Z) (Nat.le_refl _) _)⟩
    clear hK K hS0
    try simp only [Act.put, List.setIfInBounds_toArray, List.set_cons_zero, List.set_cons_succ]
    refine readyL (rs := [8]) (by kernel_rfl) (by simp) ?_
    refine AllReadyL.cons rfl (fun K hK => ?_) AllReadyL.nil
    go_simp
    refine hK.out _ _ ?_ (fun hS2 => ?_)
    · exact ⟨trivial, fun _ => HS0.out _ (Below.alloc (Below.alloc (below_drew Z) (Nat.le_refl _) _) (Below.size (Below.alloc (below_drew Z) (Nat.le_refl _) _)) _)⟩
    clear hK K hS1
    try simp only [Act.put, List.setIfInBounds_toArray, List.set_cons_zero, List.set_cons_succ]
    refine readyL (rs := [10]) (by kernel_rfl) (by simp) ?_
    refine AllReadyL.cons rfl (fun K hK => ?_) AllReadyL.nil
    go_simp
    refine hK.out _ _ ?_ (fun hS3 => ?_)
    · exact ⟨trivial, fun _ => (by first | exact HS0.out _ (Below.alloc (Below.alloc (below_drew Z) (Nat.le_refl _) _) (Below.size (Below.alloc (below_drew Z) (Nat.le_refl _) _)) _) | exact HS0.out _ (Below.setCell (Below.setCell (Below.setCell (Below.setCell (Below.alloc (Below.alloc (below_drew Z) (Nat.le_refl _) _) (Below.size (Below.alloc (below_drew Z) (Nat.le_refl _) _)) _) (by first | exact Nat.le_refl _ | simp | omega) _) (by first | exact Nat.le_refl _ | simp | omega) _) (by first | exact Nat.le_refl _ | simp | omega) _) (by first | exact Nat.le_refl _ | simp | omega) _))⟩
    clear hK K hS2
    try simp only [Act.put, List.setIfInBounds_toArray, List.set_cons_zero, List.set_cons_succ]
    refine readyL (rs := [11]) (by kernel_rfl) (by simp) ?_
    refine AllReadyL.cons rfl (fun K hK => ?_) AllReadyL.nil
    go_simp
    refine hK.out _ _ ?_ (fun hS4 => ?_)
    · exact ⟨trivial, fun h => absurd (h.symm.trans (show _ = true by kernel_rfl)) (by decide)⟩
    clear hK K hS3
    try simp only [Act.put, List.setIfInBounds_toArray, List.set_cons_zero, List.set_cons_succ]
    refine doneL (by kernel_rfl) ?_ _
    go_wp2_with fail
    go_meet
    first | exact two2_first | exact two2_second
  case rest =>
  rename World => wA
  obtain ⟨be, bl, rfl, rfl, hne, hbe, hbl, hEe, hEl, hbA⟩ := hcut
  have hXe := hEe
  have hXl := hEl
  have hbX := hbA
  clear hEe hEl hbA
  have s0 : wA.cell? ⟨be, 0, none⟩ = some (.int .i64 ka1) := by rw [cell_of_block hXe]; rfl
  have s1 : wA.cell? ⟨be, 1, none⟩ = some (.int .i64 ga1) := by rw [cell_of_block hXe]; rfl
  have s2 : wA.cell? ⟨be, 2, none⟩ = some (.int .i64 la1) := by rw [cell_of_block hXe]; rfl
  have s3 : wA.cell? ⟨be, 3, none⟩ = some (.slice aa1 na1 ca1) := by rw [cell_of_block hXe]; rfl
  have t0 : wA.cell? ⟨bl, 0, none⟩ = some (.int .i64 kb1) := by rw [cell_of_block hXl]; rfl
  have t1 : wA.cell? ⟨bl, 1, none⟩ = some (.int .i64 gb1) := by rw [cell_of_block hXl]; rfl
  have t2 : wA.cell? ⟨bl, 2, none⟩ = some (.int .i64 lb1) := by rw [cell_of_block hXl]; rfl
  have t3 : wA.cell? ⟨bl, 3, none⟩ = some (.slice ab1 nb1 cb1) := by rw [cell_of_block hXl]; rfl
  have hSS := HS0.out _ hbX
  clear x0 x1 x2 x3 y0 y1 y2 y3 d0 d1 d2 d3 d4 d5 d6 d7 e0 e1 e2 e3 e4 e5 e6 e7
  obtain ⟨x0, x1, x2, x3, y0, y1, y2, y3, d0, d1, d2, d3, d4, d5, d6, d7, e0, e1, e2, e3, e4, e5, e6, e7⟩ := hSS
  have hsX := hbX.size
  go_wp2_with fail
  refine (HIH.out _ _ _ _ _ _ _ _ _ HP.out.1 HP.out.2.1 HP.out.2.2.1 HP.out.2.2.2.1.1 HP.out.2.2.2.2.1 (Hha1.out.below hbX) (Hhb1.out.below hbX)).mono ?_
  rintro e w1 ⟨pk, pg, pl, pa, pn, pc, rfl, hb1, hL1⟩
  have hB1 := below_trans hbX hb1
  have hal : Below w1.heap.size w1 (w1.alloc (Obj.cells #[.int .i64 pk, .int .i64 pg, .int .i64 pl, .slice pa pn pc] 30)) := (Below.refl _ _).alloc (Nat.le_refl _) _
  have hB2 := below_trans hB1 hal
  have hP := alloc_new w1 (Obj.cells #[.int .i64 pk, .int .i64 pg, .int .i64 pl, .slice pa pn pc] 30)
  have hLP : Lft (fa ++ fb) Z.heap.size (cmpo n a1 b1) (.agg #[.int .i64 pk, .int .i64 pg, .int .i64 pl, .slice pa pn pc]) (w1.alloc (Obj.cells #[.int .i64 pk, .int .i64 pg, .int .i64 pl, .slice pa pn pc] 30)) := (hL1.below hal).mono (fun x hx => .inl (by rw [HF.out.1, HF.out.2]; rcases List.mem_append.1 hx with h | h <;> simp [h])) (by omega)
  generalize hr1 : (cmpo n a1 b1).isSome = r1 at *
  have hSS := HS0.out _ hB2
  clear x0 x1 x2 x3 y0 y1 y2 y3 d0 d1 d2 d3 d4 d5 d6 d7 e0 e1 e2 e3 e4 e5 e6 e7 s0 s1 s2 s3 t0 t1 t2 t3
  obtain ⟨x0, x1, x2, x3, y0, y1, y2, y3, d0, d1, d2, d3, d4, d5, d6, d7, e0, e1, e2, e3, e4, e5, e6, e7⟩ := hSS
  have HS2 := hid (show ∀ w', Below (w1.alloc (Obj.cells #[.int .i64 pk, .int .i64 pg, .int .i64 pl, .slice pa pn pc] 30)).heap.size (w1.alloc (Obj.cells #[.int .i64 pk, .int .i64 pg, .int .i64 pl, .slice pa pn pc] 30)) w' → (fun w' => w'.cell? ⟨w.heap.size, 0, none⟩ = some (.int .i64 3) ∧ w'.cell? ⟨w.heap.size, 1, none⟩ = some (.int .i64 0) ∧ w'.cell? ⟨w.heap.size, 2, none⟩ = some (.int .i64 la) ∧ w'.cell? ⟨w.heap.size, 3, none⟩ = some (.slice (some ⟨ba, oa, none⟩) 2 ca) ∧ w'.cell? ⟨w.heap.size + 1, 0, none⟩ = some (.int .i64 3) ∧ w'.cell? ⟨w.heap.size + 1, 1, none⟩ = some (.int .i64 0) ∧ w'.cell? ⟨w.heap.size + 1, 2, none⟩ = some (.int .i64 lb) ∧ w'.cell? ⟨w.heap.size + 1, 3, none⟩ = some (.slice (some ⟨bb, ob, none⟩) 2 cb) ∧ w'.cell? ⟨ba, oa, none⟩ = some (.int .i64 ka1) ∧ w'.cell? ⟨ba, oa + 1, none⟩ = some (.int .i64 ga1) ∧ w'.cell? ⟨ba, oa + 2, none⟩ = some (.int .i64 la1) ∧ w'.cell? ⟨ba, oa + 3, none⟩ = some (.slice aa1 na1 ca1) ∧ w'.cell? ⟨ba, oa + 4, none⟩ = some (.int .i64 ka2) ∧ w'.cell? ⟨ba, oa + 4 + 1, none⟩ = some (.int .i64 ga2) ∧ w'.cell? ⟨ba, oa + 4 + 2, none⟩ = some (.int .i64 la2) ∧ w'.cell? ⟨ba, oa + 4 + 3, none⟩ = some (.slice aa2 na2 ca2) ∧ w'.cell? ⟨bb, ob, none⟩ = some (.int .i64 kb1) ∧ w'.cell? ⟨bb, ob + 1, none⟩ = some (.int .i64 gb1) ∧ w'.cell? ⟨bb, ob + 2, none⟩ = some (.int .i64 lb1) ∧ w'.cell? ⟨bb, ob + 3, none⟩ = some (.slice ab1 nb1 cb1) ∧ w'.cell? ⟨bb, ob + 4, none⟩ = some (.int .i64 kb2) ∧ w'.cell? ⟨bb, ob + 4 + 1, none⟩ = some (.int .i64 gb2) ∧ w'.cell? ⟨bb, ob + 4 + 2, none⟩ = some (.int .i64 lb2) ∧ w'.cell? ⟨bb, ob + 4 + 3, none⟩ = some (.slice ab2 nb2 cb2)) w' from fun w' h => HS0.out _ (below_trans hB2 h))
  cases r1
  case false =>
    have hnone : bothC 3 (cmpo n a1 b1) (cmpo n a2 b2) = none := by
      have : cmpo n a1 b1 = none := by simpa using hr1
      rw [this]; rfl
    have bM := (hB2.block (w.heap.size + 1 + 1) (by have := HZS.out; omega)).trans HBZ.out
    have z0 := (cell_of_block (o := 0) bM).trans (show _ = some (.int .i64 0) from rfl)
    have z1 := (cell_of_block (o := 1) bM).trans (show _ = some (.int .i64 0) from rfl)
    have z2 := (cell_of_block (o := 2) bM).trans (show _ = some (.int .i64 0) from rfl)
    have z3 := (cell_of_block (o := 3) bM).trans (show _ = some (.slice none 0 0) from rfl)
    have yz := fun o => frozen_of_block (o := o) bM
    have FIN := closeL (k := 0) (g := 0) (l := 0) (a := none) (n := 0) (cap := 0) (w := w) (wF := (w1.alloc (Obj.cells #[.int .i64 pk, .int .i64 pg, .int .i64 pl, .slice pa pn pc] 30))) (M := w.heap.size + 1 + 1) (lo := Z.heap.size) (A := fa ++ fb) (o := bothC 3 (cmpo n a1 b1) (cmpo n a2 b2)) (b := false) ((by rw [hnone]; rfl)) (fun c hc => (by rw [hnone] at hc; cases hc)) HA.out (by omega) (by have := HZS.out; have := (hB2).size; omega) (below_trans HB0.out hB2)
    simp only [put4, Nat.zero_add] at FIN
    go_wp2_with fail
    exact bodyPost_ret (v := .tuple #[.agg #[.int .i64 0, .int .i64 0, .int .i64 0, .slice none 0 0], .bool (false)]) (by simp [results, Try.results96, go_sem, z0, z1, z2, z3]) rfl FIN
  have HR1 := hid hr1
  have HLP := hid hLP
  have HPB := hid hP
  have HB2 := hid hB2
  obtain ⟨Y, hY⟩ : ∃ Y, Y = w1.alloc (Obj.cells #[.int .i64 pk, .int .i64 pg, .int .i64 pl, .slice pa pn pc] 30) := ⟨_, rfl⟩
  rw [← hY] at HLP HPB HB2 HS2 x0 x1 x2 x3 y0 y1 y2 y3 d0 d1 d2 d3 d4 d5 d6 d7 e0 e1 e2 e3 e4 e5 e6 e7
  have HSY := hid (show Z.heap.size ≤ Y.heap.size from HB2.out.size)
  have p0 : Y.cell? ⟨w1.heap.size, 0, none⟩ = some (.int .i64 pk) := by rw [cell_of_block HPB.out]; rfl
  have p1 : Y.cell? ⟨w1.heap.size, 1, none⟩ = some (.int .i64 pg) := by rw [cell_of_block HPB.out]; rfl
  have p2 : Y.cell? ⟨w1.heap.size, 2, none⟩ = some (.int .i64 pl) := by rw [cell_of_block HPB.out]; rfl
  have p3 : Y.cell? ⟨w1.heap.size, 3, none⟩ = some (.slice pa pn pc) := by rw [cell_of_block HPB.out]; rfl
  have HYD := hid hY
  obtain ⟨bp, hbp⟩ : ∃ bp, bp = w1.heap.size := ⟨_, rfl⟩
  rw [← hbp] at p0 p1 p2 p3 HPB
  have HBP := hid hbp
  have HW1 := hid (show Z.heap.size ≤ bp by rw [hbp]; exact hB1.size)
  clear hr1 hLP hP hB2 hY hbp hal hB1 hb1 hL1 hXe hXl hbX
  go_wp2_with fail
  rw [← HYD.out, ← HBP.out]
  clear HYD
  go_cut [10, 9] (fun sx sq wx => CutL Y (fa2 ++ fb2) (cmpo n a2 b2) sx sq wx)
  case first =>
    refine regionL (s := 13) (S0 := (fun w' => w'.cell? ⟨w.heap.size, 0, none⟩ = some (.int .i64 3) ∧ w'.cell? ⟨w.heap.size, 1, none⟩ = some (.int .i64 0) ∧ w'.cell? ⟨w.heap.size, 2, none⟩ = some (.int .i64 la) ∧ w'.cell? ⟨w.heap.size, 3, none⟩ = some (.slice (some ⟨ba, oa, none⟩) 2 ca) ∧ w'.cell? ⟨w.heap.size + 1, 0, none⟩ = some (.int .i64 3) ∧ w'.cell? ⟨w.heap.size + 1, 1, none⟩ = some (.int .i64 0) ∧ w'.cell? ⟨w.heap.size + 1, 2, none⟩ = some (.int .i64 lb) ∧ w'.cell? ⟨w.heap.size + 1, 3, none⟩ = some (.slice (some ⟨bb, ob, none⟩) 2 cb) ∧ w'.cell? ⟨ba, oa, none⟩ = some (.int .i64 ka1) ∧ w'.cell? ⟨ba, oa + 1, none⟩ = some (.int .i64 ga1) ∧ w'.cell? ⟨ba, oa + 2, none⟩ = some (.int .i64 la1) ∧ w'.cell? ⟨ba, oa + 3, none⟩ = some (.slice aa1 na1 ca1) ∧ w'.cell? ⟨ba, oa + 4, none⟩ = some (.int .i64 ka2) ∧ w'.cell? ⟨ba, oa + 4 + 1, none⟩ = some (.int .i64 ga2) ∧ w'.cell? ⟨ba, oa + 4 + 2, none⟩ = some (.int .i64 la2) ∧ w'.cell? ⟨ba, oa + 4 + 3, none⟩ = some (.slice aa2 na2 ca2) ∧ w'.cell? ⟨bb, ob, none⟩ = some (.int .i64 kb1) ∧ w'.cell? ⟨bb, ob + 1, none⟩ = some (.int .i64 gb1) ∧ w'.cell? ⟨bb, ob + 2, none⟩ = some (.int .i64 lb1) ∧ w'.cell? ⟨bb, ob + 3, none⟩ = some (.slice ab1 nb1 cb1) ∧ w'.cell? ⟨bb, ob + 4, none⟩ = some (.int .i64 kb2) ∧ w'.cell? ⟨bb, ob + 4 + 1, none⟩ = some (.int .i64 gb2) ∧ w'.cell? ⟨bb, ob + 4 + 2, none⟩ = some (.int .i64 lb2) ∧ w'.cell? ⟨bb, ob + 4 + 3, none⟩ = some (.slice ab2 nb2 cb2))) (S1 := (fun _ => True)) (by kernel_rfl) (HS2.out _ (below_drew _)) (trivial) (fun hS0 => ?_)
    refine takeL0 (i := 0) (v := ?vr21) rfl rfl (by kernel_rfl) (by kernel_rfl) (by kernel_rfl) (by decide) (by kernel_rfl) (by kernel_rfl) (fun _ _ _ h => h) (Or.inl ⟨by rfl, ?hyr21⟩) (by assumption) ?_
    case hyr21 => (intro w hSw; (try dsimp only at hSw); go_simp; (try with_reducible rfl))
    try simp only [Act.put, List.setIfInBounds_toArray, List.set_cons_zero, List.set_cons_succ]
    refine takeL0 (i := 1) (v := ?vr22) rfl rfl (by kernel_rfl) (by kernel_rfl) (by kernel_rfl) (by decide) (by kernel_rfl) (by kernel_rfl) (fun _ _ _ h => h) (Or.inl ⟨by rfl, ?hyr22⟩) (by assumption) ?_
    case hyr22 => (intro w hSw; (try dsimp only at hSw); go_simp; (try with_reducible rfl))
    try simp only [Act.put, List.setIfInBounds_toArray, List.set_cons_zero, List.set_cons_succ]
    refine takeL0 (i := 2) (v := ?vr23) rfl rfl (by kernel_rfl) (by kernel_rfl) (by kernel_rfl) (by decide) (by kernel_rfl) (by kernel_rfl) (fun _ _ _ h => h) (Or.inl ⟨by rfl, ?hyr23⟩) (by assumption) ?_
    case hyr23 => (intro w hSw; (try dsimp only at hSw); go_simp; (try with_reducible rfl))
    try simp only [Act.put, List.setIfInBounds_toArray, List.set_cons_zero, List.set_cons_succ]
    refine takeL0 (i := 3) (v := ?vr24) rfl rfl (by kernel_rfl) (by kernel_rfl) (by kernel_rfl) (by decide) (by kernel_rfl) (by kernel_rfl) (fun _ _ _ h => h) (Or.inl ⟨by rfl, ?hyr24⟩) (by assumption) ?_
    case hyr24 => (intro w hSw; (try dsimp only at hSw); go_simp; (try with_reducible rfl))
    try simp only [Act.put, List.setIfInBounds_toArray, List.set_cons_zero, List.set_cons_succ]
    refine takeL0 (i := 4) (v := ?vr25) rfl rfl (by kernel_rfl) (by kernel_rfl) (by kernel_rfl) (by decide) (by kernel_rfl) (by kernel_rfl) (fun _ _ _ h => h) (Or.inl ⟨by rfl, ?hyr25⟩) (by assumption) ?_
    case hyr25 => (intro w hSw; (try dsimp only at hSw); go_simp; (try with_reducible rfl))
    try simp only [Act.put, List.setIfInBounds_toArray, List.set_cons_zero, List.set_cons_succ]
    refine takeL0 (i := 5) (v := ?vr26) rfl rfl (by kernel_rfl) (by kernel_rfl) (by kernel_rfl) (by decide) (by kernel_rfl) (by kernel_rfl) (fun _ _ _ h => h) (Or.inl ⟨by rfl, ?hyr26⟩) (by assumption) ?_
    case hyr26 => (intro w hSw; (try dsimp only at hSw); go_simp; (try with_reducible rfl))
    try simp only [Act.put, List.setIfInBounds_toArray, List.set_cons_zero, List.set_cons_succ]
    refine takeL0 (i := 6) (v := ?vr27) rfl rfl (by kernel_rfl) (by kernel_rfl) (by kernel_rfl) (by decide) (by kernel_rfl) (by kernel_rfl) (fun _ _ _ h => h) (Or.inl ⟨by rfl, ?hyr27⟩) (by assumption) ?_
    case hyr27 => (intro w hSw; (try dsimp only at hSw); go_simp; (try with_reducible rfl))
    try simp only [Act.put, List.setIfInBounds_toArray, List.set_cons_zero, List.set_cons_succ]
    refine takeL0 (i := 7) (v := ?vr28) rfl rfl (by kernel_rfl) (by kernel_rfl) (by kernel_rfl) (by decide) (by kernel_rfl) (by kernel_rfl) (fun _ _ _ h => h) (Or.inl ⟨by rfl, ?hyr28⟩) (by assumption) ?_
    case hyr28 => (intro w hSw; (try dsimp only at hSw); go_simp; (try with_reducible rfl))
    try simp only [Act.put, List.setIfInBounds_toArray, List.set_cons_zero, List.set_cons_succ]
    refine readyL (rs := [8, 12]) (by kernel_rfl) (by simp) ?_
    refine AllReadyL.cons rfl (fun K hK => ?_) ?_
    · go_simp
      refine (ci_from HIH.out (W0 := Y) (below_drew Y) HP.out.1 HP.out.2.1 HP.out.2.2.1 HP.out.2.2.2.1.2 HP.out.2.2.2.2.2 (Hha2.out.below HB2.out) (Hhb2.out.below HB2.out)).mono ?_
      rintro e w1 ⟨⟨p0, p1, p2, pa, pn, pc, rfl, hb1, hO⟩, hU⟩
      have hB1 := below_trans hU hb1
      have hU1 := hU.size
      refine hK.out _ _ ?_ (fun hS1 => ?_)
      · exact ⟨trivial, fun _ => HS2.out _ hB1⟩
      clear hK K hS0
      try simp only [Act.put, List.setIfInBounds_toArray, List.set_cons_zero, List.set_cons_succ]
      refine takeL0 (i := 9) (v := ?vr29) rfl rfl (by kernel_rfl) (by kernel_rfl) (by kernel_rfl) (by decide) (by kernel_rfl) (by kernel_rfl) (fun _ _ _ h => h) (Or.inl ⟨by rfl, ?hyr29⟩) (by assumption) ?_
      case hyr29 => (intro w hSw; (try dsimp only at hSw); go_simp; (try with_reducible rfl))
      try simp only [Act.put, List.setIfInBounds_toArray, List.set_cons_zero, List.set_cons_succ]
      refine readyL (rs := [10, 11, 12]) (by kernel_rfl) (by simp) ?_
      refine AllReadyL.cons rfl (fun K hK => ?_) ?_
      · go_simp
        refine hK.out _ _ ?_ (fun hS2 => ?_)
        · exact ⟨trivial, fun _ => HS2.out _ hB1⟩
        clear hK K hS1
        try simp only [Act.put, List.setIfInBounds_toArray, List.set_cons_zero, List.set_cons_succ]
        refine readyL (rs := [11, 12]) (by kernel_rfl) (by simp) ?_
        refine AllReadyL.cons rfl (fun K hK => ?_) ?_
        · go_simp
          refine hK.out _ _ ?_ (fun hS3 => ?_)
          · exact ⟨trivial, fun _ => HS2.out _ hB1⟩
          clear hK K hS2
          try simp only [Act.put, List.setIfInBounds_toArray, List.set_cons_zero, List.set_cons_succ]
          refine readyL (rs := [12]) (by kernel_rfl) (by simp) ?_
          refine AllReadyL.cons rfl (fun K hK => ?_) AllReadyL.nil
          go_simp
          refine hK.out _ _ ?_ (fun hS4 => ?_)
          · exact ⟨trivial, fun _ => HS2.out _ (hB1.alloc hB1.size _)⟩
          clear hK K hS3
          try simp only [Act.put, List.setIfInBounds_toArray, List.set_cons_zero, List.set_cons_succ]
          refine readyL (rs := [13]) (by kernel_rfl) (by simp) ?_
          refine AllReadyL.cons rfl (fun K hK => ?_) AllReadyL.nil
          go_simp
          refine hK.out _ _ ?_ (fun hS5 => ?_)
          · exact ⟨trivial, fun h => absurd (h.symm.trans (show _ = true by kernel_rfl)) (by decide)⟩
          clear hK K hS4
          try simp only [Act.put, List.setIfInBounds_toArray, List.set_cons_zero, List.set_cons_succ]
          refine readyL (rs := [14]) (by kernel_rfl) (by simp) ?_
          refine AllReadyL.cons rfl (fun K hK => ?_) AllReadyL.nil
          go_simp
          refine hK.out _ _ ?_ (fun hS6 => ?_)
          · exact ⟨trivial, fun h => absurd (h.symm.trans (show _ = true by kernel_rfl)) (by decide)⟩
          clear hK K hS5
          try simp only [Act.put, List.setIfInBounds_toArray, List.set_cons_zero, List.set_cons_succ]
          refine doneL (by kernel_rfl) ?_ _
          go_wp2_with fail
          go_meet
          exact cutL_alloc hO hU1 hB1
        refine AllReadyL.cons rfl (fun K hK => ?_) AllReadyL.nil
        go_simp
        refine hK.out _ _ ?_ (fun hS3 => ?_)
        · exact ⟨trivial, fun _ => HS2.out _ (hB1.alloc hB1.size _)⟩
        clear hK K hS2
        try simp only [Act.put, List.setIfInBounds_toArray, List.set_cons_zero, List.set_cons_succ]
        refine readyL (rs := [11, 13]) (by kernel_rfl) (by simp) ?_
        refine AllReadyL.cons rfl (fun K hK => ?_) ?_
        · go_simp
          refine hK.out _ _ ?_ (fun hS4 => ?_)
          · exact ⟨trivial, fun _ => HS2.out _ (hB1.alloc hB1.size _)⟩
          clear hK K hS3
          try simp only [Act.put, List.setIfInBounds_toArray, List.set_cons_zero, List.set_cons_succ]
          refine readyL (rs := [13]) (by kernel_rfl) (by simp) ?_
          refine AllReadyL.cons rfl (fun K hK => ?_) AllReadyL.nil
          go_simp
          refine hK.out _ _ ?_ (fun hS5 => ?_)
          · exact ⟨trivial, fun h => absurd (h.symm.trans (show _ = true by kernel_rfl)) (by decide)⟩
          clear hK K hS4
          try simp only [Act.put, List.setIfInBounds_toArray, List.set_cons_zero, List.set_cons_succ]
          refine readyL (rs := [14]) (by kernel_rfl) (by simp) ?_
          refine AllReadyL.cons rfl (fun K hK => ?_) AllReadyL.nil
          go_simp
          refine hK.out _ _ ?_ (fun hS6 => ?_)
          · exact ⟨trivial, fun h => absurd (h.symm.trans (show _ = true by kernel_rfl)) (by decide)⟩
          clear hK K hS5
          try simp only [Act.put, List.setIfInBounds_toArray, List.set_cons_zero, List.set_cons_succ]
          refine doneL (by kernel_rfl) ?_ _
          go_wp2_with fail
          go_meet
          exact cutL_alloc hO hU1 hB1
        refine AllReadyL.cons rfl (fun K hK => ?_) AllReadyL.nil
        go_simp
        refine hK.out _ _ ?_ (fun hS4 => ?_)
        · exact ⟨trivial, fun h => absurd (h.symm.trans (show _ = true by kernel_rfl)) (by decide)⟩
        clear hK K hS3
        try simp only [Act.put, List.setIfInBounds_toArray, List.set_cons_zero, List.set_cons_succ]
        refine readyL (rs := [11]) (by kernel_rfl) (by simp) ?_
        refine AllReadyL.cons rfl (fun K hK => ?_) AllReadyL.nil
        go_simp
        refine hK.out _ _ ?_ (fun hS5 => ?_)
        · exact ⟨trivial, fun h => absurd (h.symm.trans (show _ = true by kernel_rfl)) (by decide)⟩
        clear hK K hS4
        try simp only [Act.put, List.setIfInBounds_toArray, List.set_cons_zero, List.set_cons_succ]
        refine readyL (rs := [14]) (by kernel_rfl) (by simp) ?_
        refine AllReadyL.cons rfl (fun K hK => ?_) AllReadyL.nil
        go_simp
        refine hK.out _ _ ?_ (fun hS6 => ?_)
        · exact ⟨trivial, fun h => absurd (h.symm.trans (show _ = true by kernel_rfl)) (by decide)⟩
        clear hK K hS5
        try simp only [Act.put, List.setIfInBounds_toArray, List.set_cons_zero, List.set_cons_succ]
        refine doneL (by kernel_rfl) ?_ _
        go_wp2_with fail
        go_meet
        exact cutL_alloc hO hU1 hB1
      refine AllReadyL.cons rfl (fun K hK => ?_) ?_
      · go_simp
        refine hK.out _ _ ?_ (fun hS2 => ?_)
        · exact ⟨trivial, fun _ => HS2.out _ hB1⟩
        clear hK K hS1
        try simp only [Act.put, List.setIfInBounds_toArray, List.set_cons_zero, List.set_cons_succ]
        refine readyL (rs := [10, 12]) (by kernel_rfl) (by simp) ?_
        refine AllReadyL.cons rfl (fun K hK => ?_) ?_
        · go_simp
          refine hK.out _ _ ?_ (fun hS3 => ?_)
          · exact ⟨trivial, fun _ => HS2.out _ hB1⟩
          clear hK K hS2
          try simp only [Act.put, List.setIfInBounds_toArray, List.set_cons_zero, List.set_cons_succ]
          refine readyL (rs := [12]) (by kernel_rfl) (by simp) ?_
          refine AllReadyL.cons rfl (fun K hK => ?_) AllReadyL.nil
          go_simp
          refine hK.out _ _ ?_ (fun hS4 => ?_)
          · exact ⟨trivial, fun _ => HS2.out _ (hB1.alloc hB1.size _)⟩
          clear hK K hS3
          try simp only [Act.put, List.setIfInBounds_toArray, List.set_cons_zero, List.set_cons_succ]
          refine readyL (rs := [13]) (by kernel_rfl) (by simp) ?_
          refine AllReadyL.cons rfl (fun K hK => ?_) AllReadyL.nil
          go_simp
          refine hK.out _ _ ?_ (fun hS5 => ?_)
          · exact ⟨trivial, fun h => absurd (h.symm.trans (show _ = true by kernel_rfl)) (by decide)⟩
          clear hK K hS4
          try simp only [Act.put, List.setIfInBounds_toArray, List.set_cons_zero, List.set_cons_succ]
          refine readyL (rs := [14]) (by kernel_rfl) (by simp) ?_
          refine AllReadyL.cons rfl (fun K hK => ?_) AllReadyL.nil
          go_simp
          refine hK.out _ _ ?_ (fun hS6 => ?_)
          · exact ⟨trivial, fun h => absurd (h.symm.trans (show _ = true by kernel_rfl)) (by decide)⟩
          clear hK K hS5
          try simp only [Act.put, List.setIfInBounds_toArray, List.set_cons_zero, List.set_cons_succ]
          refine doneL (by kernel_rfl) ?_ _
          go_wp2_with fail
          go_meet
          exact cutL_alloc hO hU1 hB1
        refine AllReadyL.cons rfl (fun K hK => ?_) AllReadyL.nil
        go_simp
        refine hK.out _ _ ?_ (fun hS3 => ?_)
        · exact ⟨trivial, fun _ => HS2.out _ (hB1.alloc hB1.size _)⟩
        clear hK K hS2
        try simp only [Act.put, List.setIfInBounds_toArray, List.set_cons_zero, List.set_cons_succ]
        refine readyL (rs := [10]) (by kernel_rfl) (by simp) ?_
        refine AllReadyL.cons rfl (fun K hK => ?_) AllReadyL.nil
        go_simp
        refine hK.out _ _ ?_ (fun hS4 => ?_)
        · exact ⟨trivial, fun _ => HS2.out _ (hB1.alloc hB1.size _)⟩
        clear hK K hS3
        try simp only [Act.put, List.setIfInBounds_toArray, List.set_cons_zero, List.set_cons_succ]
        refine readyL (rs := [13]) (by kernel_rfl) (by simp) ?_
        refine AllReadyL.cons rfl (fun K hK => ?_) AllReadyL.nil
        go_simp
        refine hK.out _ _ ?_ (fun hS5 => ?_)
        · exact ⟨trivial, fun h => absurd (h.symm.trans (show _ = true by kernel_rfl)) (by decide)⟩
        clear hK K hS4
        try simp only [Act.put, List.setIfInBounds_toArray, List.set_cons_zero, List.set_cons_succ]
        refine readyL (rs := [14]) (by kernel_rfl) (by simp) ?_
        refine AllReadyL.cons rfl (fun K hK => ?_) AllReadyL.nil
        go_simp
        refine hK.out _ _ ?_ (fun hS6 => ?_)
        · exact ⟨trivial, fun h => absurd (h.symm.trans (show _ = true by kernel_rfl)) (by decide)⟩
        clear hK K hS5
        try simp only [Act.put, List.setIfInBounds_toArray, List.set_cons_zero, List.set_cons_succ]
        refine doneL (by kernel_rfl) ?_ _
        go_wp2_with fail
        go_meet
        exact cutL_alloc hO hU1 hB1
      refine AllReadyL.cons rfl (fun K hK => ?_) AllReadyL.nil
      go_simp
      refine hK.out _ _ ?_ (fun hS2 => ?_)
      · exact ⟨trivial, fun _ => HS2.out _ (hB1.alloc hB1.size _)⟩
      clear hK K hS1
      try simp only [Act.put, List.setIfInBounds_toArray, List.set_cons_zero, List.set_cons_succ]
      refine readyL (rs := [10, 11]) (by kernel_rfl) (by simp) ?_
      refine AllReadyL.cons rfl (fun K hK => ?_) ?_
      · go_simp
        refine hK.out _ _ ?_ (fun hS3 => ?_)
        · exact ⟨trivial, fun _ => HS2.out _ (hB1.alloc hB1.size _)⟩
        clear hK K hS2
        try simp only [Act.put, List.setIfInBounds_toArray, List.set_cons_zero, List.set_cons_succ]
        refine readyL (rs := [11, 13]) (by kernel_rfl) (by simp) ?_
        refine AllReadyL.cons rfl (fun K hK => ?_) ?_
        · go_simp
          refine hK.out _ _ ?_ (fun hS4 => ?_)
          · exact ⟨trivial, fun _ => HS2.out _ (hB1.alloc hB1.size _)⟩
          clear hK K hS3
          try simp only [Act.put, List.setIfInBounds_toArray, List.set_cons_zero, List.set_cons_succ]
          refine readyL (rs := [13]) (by kernel_rfl) (by simp) ?_
          refine AllReadyL.cons rfl (fun K hK => ?_) AllReadyL.nil
          go_simp
          refine hK.out _ _ ?_ (fun hS5 => ?_)
          · exact ⟨trivial, fun h => absurd (h.symm.trans (show _ = true by kernel_rfl)) (by decide)⟩
          clear hK K hS4
          try simp only [Act.put, List.setIfInBounds_toArray, List.set_cons_zero, List.set_cons_succ]
          refine readyL (rs := [14]) (by kernel_rfl) (by simp) ?_
          refine AllReadyL.cons rfl (fun K hK => ?_) AllReadyL.nil
          go_simp
          refine hK.out _ _ ?_ (fun hS6 => ?_)
          · exact ⟨trivial, fun h => absurd (h.symm.trans (show _ = true by kernel_rfl)) (by decide)⟩
          clear hK K hS5
          try simp only [Act.put, List.setIfInBounds_toArray, List.set_cons_zero, List.set_cons_succ]
          refine doneL (by kernel_rfl) ?_ _
          go_wp2_with fail
          go_meet
          exact cutL_alloc hO hU1 hB1
        refine AllReadyL.cons rfl (fun K hK => ?_) AllReadyL.nil
        go_simp
        refine hK.out _ _ ?_ (fun hS4 => ?_)
        · exact ⟨trivial, fun h => absurd (h.symm.trans (show _ = true by kernel_rfl)) (by decide)⟩
        clear hK K hS3
        try simp only [Act.put, List.setIfInBounds_toArray, List.set_cons_zero, List.set_cons_succ]
        refine readyL (rs := [11]) (by kernel_rfl) (by simp) ?_
        refine AllReadyL.cons rfl (fun K hK => ?_) AllReadyL.nil
        go_simp
        refine hK.out _ _ ?_ (fun hS5 => ?_)
        · exact ⟨trivial, fun h => absurd (h.symm.trans (show _ = true by kernel_rfl)) (by decide)⟩
        clear hK K hS4
        try simp only [Act.put, List.setIfInBounds_toArray, List.set_cons_zero, List.set_cons_succ]
        refine readyL (rs := [14]) (by kernel_rfl) (by simp) ?_
        refine AllReadyL.cons rfl (fun K hK => ?_) AllReadyL.nil
        go_simp
        refine hK.out _ _ ?_ (fun hS6 => ?_)
        · exact ⟨trivial, fun h => absurd (h.symm.trans (show _ = true by kernel_rfl)) (by decide)⟩
        clear hK K hS5
        try simp only [Act.put, List.setIfInBounds_toArray, List.set_cons_zero, List.set_cons_succ]
        refine doneL (by kernel_rfl) ?_ _
        go_wp2_with fail
        go_meet
        exact cutL_alloc hO hU1 hB1
      refine AllReadyL.cons rfl (fun K hK => ?_) AllReadyL.nil
      go_simp
      refine hK.out _ _ ?_ (fun hS3 => ?_)
      · exact ⟨trivial, fun _ => HS2.out _ (hB1.alloc hB1.size _)⟩
      clear hK K hS2
      try simp only [Act.put, List.setIfInBounds_toArray, List.set_cons_zero, List.set_cons_succ]
      refine readyL (rs := [10]) (by kernel_rfl) (by simp) ?_
      refine AllReadyL.cons rfl (fun K hK => ?_) AllReadyL.nil
      go_simp
      refine hK.out _ _ ?_ (fun hS4 => ?_)
      · exact ⟨trivial, fun _ => HS2.out _ (hB1.alloc hB1.size _)⟩
      clear hK K hS3
      try simp only [Act.put, List.setIfInBounds_toArray, List.set_cons_zero, List.set_cons_succ]
      refine readyL (rs := [13]) (by kernel_rfl) (by simp) ?_
      refine AllReadyL.cons rfl (fun K hK => ?_) AllReadyL.nil
      go_simp
      refine hK.out _ _ ?_ (fun hS5 => ?_)
      · exact ⟨trivial, fun h => absurd (h.symm.trans (show _ = true by kernel_rfl)) (by decide)⟩
      clear hK K hS4
      try simp only [Act.put, List.setIfInBounds_toArray, List.set_cons_zero, List.set_cons_succ]
      refine readyL (rs := [14]) (by kernel_rfl) (by simp) ?_
      refine AllReadyL.cons rfl (fun K hK => ?_) AllReadyL.nil
      go_simp
      refine hK.out _ _ ?_ (fun hS6 => ?_)
      · exact ⟨trivial, fun h => absurd (h.symm.trans (show _ = true by kernel_rfl)) (by decide)⟩
      clear hK K hS5
      try simp only [Act.put, List.setIfInBounds_toArray, List.set_cons_zero, List.set_cons_succ]
      refine doneL (by kernel_rfl) ?_ _
      go_wp2_with fail
      go_meet
      exact cutL_alloc hO hU1 hB1
    refine AllReadyL.cons rfl (fun K hK => ?_) AllReadyL.nil
    go_simp
    refine hK.out _ _ ?_ (fun hS1 => ?_)
    · exact ⟨trivial, fun _ => HS2.out _ ((below_drew _).alloc (by simp) _)⟩
    clear hK K hS0
    try simp only [Act.put, List.setIfInBounds_toArray, List.set_cons_zero, List.set_cons_succ]
    refine readyL (rs := [8]) (by kernel_rfl) (by simp) ?_
    refine AllReadyL.cons rfl (fun K hK => ?_) AllReadyL.nil
    go_simp
    refine (ci_from HIH.out (W0 := Y) (((Below.refl (Y).heap.size Y).alloc (Nat.le_refl _) (Obj.cells #[.int .i64 0, .int .i64 0, .int .i64 0, .slice none 0 0] 30)).drew) HP.out.1 HP.out.2.1 HP.out.2.2.1 HP.out.2.2.2.1.2 HP.out.2.2.2.2.2 (Hha2.out.below HB2.out) (Hhb2.out.below HB2.out)).mono ?_
    rintro e w1 ⟨⟨p0, p1, p2, pa, pn, pc, rfl, hb1, hO⟩, hU⟩
    have hB1 := below_trans hU hb1
    have hU1 := hU.size
    refine hK.out _ _ ?_ (fun hS2 => ?_)
    · exact ⟨trivial, fun _ => HS2.out _ hB1⟩
    clear hK K hS1
    try simp only [Act.put, List.setIfInBounds_toArray, List.set_cons_zero, List.set_cons_succ]
    refine takeL0 (i := 9) (v := ?vr210) rfl rfl (by kernel_rfl) (by kernel_rfl) (by kernel_rfl) (by decide) (by kernel_rfl) (by kernel_rfl) (fun _ _ _ h => h) (Or.inl ⟨by rfl, ?hyr210⟩) (by assumption) ?_
    case hyr210 => (intro w hSw; (try dsimp only at hSw); go_simp; (try with_reducible rfl))
    try simp only [Act.put, List.setIfInBounds_toArray, List.set_cons_zero, List.set_cons_succ]
    refine readyL (rs := [10, 11]) (by kernel_rfl) (by simp) ?_
    refine AllReadyL.cons rfl (fun K hK => ?_) ?_
    · go_simp
      refine hK.out _ _ ?_ (fun hS3 => ?_)
      · exact ⟨trivial, fun _ => HS2.out _ hB1⟩
      clear hK K hS2
      try simp only [Act.put, List.setIfInBounds_toArray, List.set_cons_zero, List.set_cons_succ]
      refine readyL (rs := [11, 13]) (by kernel_rfl) (by simp) ?_
      refine AllReadyL.cons rfl (fun K hK => ?_) ?_
      · go_simp
        refine hK.out _ _ ?_ (fun hS4 => ?_)
        · exact ⟨trivial, fun _ => HS2.out _ hB1⟩
        clear hK K hS3
        try simp only [Act.put, List.setIfInBounds_toArray, List.set_cons_zero, List.set_cons_succ]
        refine readyL (rs := [13]) (by kernel_rfl) (by simp) ?_
        refine AllReadyL.cons rfl (fun K hK => ?_) AllReadyL.nil
        have hE1 := (hb1.block _ (by simp [World.drew])).trans (alloc_new Y (Obj.cells #[.int .i64 0, .int .i64 0, .int .i64 0, .slice none 0 0] 30))
        have bM := hE1
        have z0 := (cell_of_block (o := 0) bM).trans (show _ = some (.int .i64 0) from rfl)
        have z1 := (cell_of_block (o := 1) bM).trans (show _ = some (.int .i64 0) from rfl)
        have z2 := (cell_of_block (o := 2) bM).trans (show _ = some (.int .i64 0) from rfl)
        have z3 := (cell_of_block (o := 3) bM).trans (show _ = some (.slice none 0 0) from rfl)
        have yz := fun o => frozen_of_block (o := o) bM
        go_simp
        refine hK.out _ _ ?_ (fun hS5 => ?_)
        · exact ⟨trivial, fun h => absurd (h.symm.trans (show _ = true by kernel_rfl)) (by decide)⟩
        clear hK K hS4
        try simp only [Act.put, List.setIfInBounds_toArray, List.set_cons_zero, List.set_cons_succ]
        refine readyL (rs := [14]) (by kernel_rfl) (by simp) ?_
        refine AllReadyL.cons rfl (fun K hK => ?_) AllReadyL.nil
        go_simp
        refine hK.out _ _ ?_ (fun hS6 => ?_)
        · exact ⟨trivial, fun h => absurd (h.symm.trans (show _ = true by kernel_rfl)) (by decide)⟩
        clear hK K hS5
        try simp only [Act.put, List.setIfInBounds_toArray, List.set_cons_zero, List.set_cons_succ]
        refine doneL (by kernel_rfl) ?_ _
        go_wp2_with fail
        go_meet
        exact cutL_stores hE1 hO (fun x hx => by have := (fun x hx => Nat.lt_of_lt_of_le ((List.mem_append.1 hx).elim (Hha2.out.lt x) (Hhb2.out.lt x)) HSY.out) x hx; omega) (by simp [World.drew] at hU1 ⊢) hB1
      refine AllReadyL.cons rfl (fun K hK => ?_) AllReadyL.nil
      have hE1 := (hb1.block _ (by simp [World.drew])).trans (alloc_new Y (Obj.cells #[.int .i64 0, .int .i64 0, .int .i64 0, .slice none 0 0] 30))
      have bM := hE1
      have z0 := (cell_of_block (o := 0) bM).trans (show _ = some (.int .i64 0) from rfl)
      have z1 := (cell_of_block (o := 1) bM).trans (show _ = some (.int .i64 0) from rfl)
      have z2 := (cell_of_block (o := 2) bM).trans (show _ = some (.int .i64 0) from rfl)
      have z3 := (cell_of_block (o := 3) bM).trans (show _ = some (.slice none 0 0) from rfl)
      have yz := fun o => frozen_of_block (o := o) bM
      go_simp
      refine hK.out _ _ ?_ (fun hS4 => ?_)
      · exact ⟨trivial, fun h => absurd (h.symm.trans (show _ = true by kernel_rfl)) (by decide)⟩
      clear hK K hS3
      try simp only [Act.put, List.setIfInBounds_toArray, List.set_cons_zero, List.set_cons_succ]
      refine readyL (rs := [11]) (by kernel_rfl) (by simp) ?_
      refine AllReadyL.cons rfl (fun K hK => ?_) AllReadyL.nil
      go_simp
      refine hK.out _ _ ?_ (fun hS5 => ?_)
      · exact ⟨trivial, fun h => absurd (h.symm.trans (show _ = true by kernel_rfl)) (by decide)⟩
      clear hK K hS4
      try simp only [Act.put, List.setIfInBounds_toArray, List.set_cons_zero, List.set_cons_succ]
      refine readyL (rs := [14]) (by kernel_rfl) (by simp) ?_
      refine AllReadyL.cons rfl (fun K hK => ?_) AllReadyL.nil
      go_simp
      refine hK.out _ _ ?_ (fun hS6 => ?_)
      · exact ⟨trivial, fun h => absurd (h.symm.trans (show _ = true by kernel_rfl)) (by decide)⟩
      clear hK K hS5
      try simp only [Act.put, List.setIfInBounds_toArray, List.set_cons_zero, List.set_cons_succ]
      refine doneL (by kernel_rfl) ?_ _
      go_wp2_with fail
      go_meet
      exact cutL_stores hE1 hO (fun x hx => by have := (fun x hx => Nat.lt_of_lt_of_le ((List.mem_append.1 hx).elim (Hha2.out.lt x) (Hhb2.out.lt x)) HSY.out) x hx; omega) (by simp [World.drew] at hU1 ⊢) hB1
    refine AllReadyL.cons rfl (fun K hK => ?_) AllReadyL.nil
    go_simp
    refine hK.out _ _ ?_ (fun hS3 => ?_)
    · exact ⟨trivial, fun _ => HS2.out _ hB1⟩
    clear hK K hS2
    try simp only [Act.put, List.setIfInBounds_toArray, List.set_cons_zero, List.set_cons_succ]
    refine readyL (rs := [10]) (by kernel_rfl) (by simp) ?_
    refine AllReadyL.cons rfl (fun K hK => ?_) AllReadyL.nil
    go_simp
    refine hK.out _ _ ?_ (fun hS4 => ?_)
    · exact ⟨trivial, fun _ => HS2.out _ hB1⟩
    clear hK K hS3
    try simp only [Act.put, List.setIfInBounds_toArray, List.set_cons_zero, List.set_cons_succ]
    refine readyL (rs := [13]) (by kernel_rfl) (by simp) ?_
    refine AllReadyL.cons rfl (fun K hK => ?_) AllReadyL.nil
    have hE1 := (hb1.block _ (by simp [World.drew])).trans (alloc_new Y (Obj.cells #[.int .i64 0, .int .i64 0, .int .i64 0, .slice none 0 0] 30))
    have bM := hE1
    have z0 := (cell_of_block (o := 0) bM).trans (show _ = some (.int .i64 0) from rfl)
    have z1 := (cell_of_block (o := 1) bM).trans (show _ = some (.int .i64 0) from rfl)
    have z2 := (cell_of_block (o := 2) bM).trans (show _ = some (.int .i64 0) from rfl)
    have z3 := (cell_of_block (o := 3) bM).trans (show _ = some (.slice none 0 0) from rfl)
    have yz := fun o => frozen_of_block (o := o) bM
    go_simp
    refine hK.out _ _ ?_ (fun hS5 => ?_)
    · exact ⟨trivial, fun h => absurd (h.symm.trans (show _ = true by kernel_rfl)) (by decide)⟩
    clear hK K hS4
    try simp only [Act.put, List.setIfInBounds_toArray, List.set_cons_zero, List.set_cons_succ]
    refine readyL (rs := [14]) (by kernel_rfl) (by simp) ?_
    refine AllReadyL.cons rfl (fun K hK => ?_) AllReadyL.nil
    go_simp
    refine hK.out _ _ ?_ (fun hS6 => ?_)
    · exact ⟨trivial, fun h => absurd (h.symm.trans (show _ = true by kernel_rfl)) (by decide)⟩
    clear hK K hS5
    try simp only [Act.put, List.setIfInBounds_toArray, List.set_cons_zero, List.set_cons_succ]
    refine doneL (by kernel_rfl) ?_ _
    go_wp2_with fail
    go_meet
    exact cutL_stores hE1 hO (fun x hx => by have := (fun x hx => Nat.lt_of_lt_of_le ((List.mem_append.1 hx).elim (Hha2.out.lt x) (Hhb2.out.lt x)) HSY.out) x hx; omega) (by simp [World.drew] at hU1 ⊢) hB1
  case rest =>
  rename World => wC
  obtain ⟨bq, r2, qk, qg, ql, qa, qn, qc, rfl, rfl, hr2, hbq, hEq, hLq, hbC⟩ := hcut
  have hBC := below_trans HB2.out hbC
  have hSS := HS2.out _ hbC
  clear x0 x1 x2 x3 y0 y1 y2 y3 d0 d1 d2 d3 d4 d5 d6 d7 e0 e1 e2 e3 e4 e5 e6 e7
  obtain ⟨x0, x1, x2, x3, y0, y1, y2, y3, d0, d1, d2, d3, d4, d5, d6, d7, e0, e1, e2, e3, e4, e5, e6, e7⟩ := hSS
  replace p0 := cell_keep p0 hbC
  replace p1 := cell_keep p1 hbC
  replace p2 := cell_keep p2 hbC
  replace p3 := cell_keep p3 hbC
  have q0 : wC.cell? ⟨bq, 0, none⟩ = some (.int .i64 qk) := by rw [cell_of_block hEq]; rfl
  have q1 : wC.cell? ⟨bq, 1, none⟩ = some (.int .i64 qg) := by rw [cell_of_block hEq]; rfl
  have q2 : wC.cell? ⟨bq, 2, none⟩ = some (.int .i64 ql) := by rw [cell_of_block hEq]; rfl
  have q3 : wC.cell? ⟨bq, 3, none⟩ = some (.slice qa qn qc) := by rw [cell_of_block hEq]; rfl
  have hal2 : Below wC.heap.size wC (wC.alloc (Obj.cells #[.int .i64 pk, .int .i64 pg, .int .i64 pl, .slice pa pn pc, .int .i64 qk, .int .i64 qg, .int .i64 ql, .slice qa qn qc] 30)) := (Below.refl _ _).alloc (Nat.le_refl _) _
  go_wp2_with fail
  refine (coercionOf_any _ _ _ _ _).mono ?_
  rintro e w3 ⟨rfl, hb3⟩
  have hb3' := below_trans hal2 hb3
  have hB3 := below_trans hBC hb3'
  have hE3 := (hb3.block _ (lt_of_block (alloc_new wC (Obj.cells #[.int .i64 pk, .int .i64 pg, .int .i64 pl, .slice pa pn pc, .int .i64 qk, .int .i64 qg, .int .i64 ql, .slice qa qn qc] 30)))).trans (alloc_new wC (Obj.cells #[.int .i64 pk, .int .i64 pg, .int .i64 pl, .slice pa pn pc, .int .i64 qk, .int .i64 qg, .int .i64 ql, .slice qa qn qc] 30))
  have hLF := two_rowL (k := 3) (A := fa ++ fb) (lo := Z.heap.size) ((HLP.out.below hbC).below hb3') ((hLq.below hb3').mono (fun x hx => .inl (by rw [HF.out.1, HF.out.2]; rcases List.mem_append.1 hx with h | h <;> simp [h])) HSY.out) hE3 hBC.size
  have hR : (bothC 3 (cmpo n a1 b1) (cmpo n a2 b2)).isSome = r2 := by
    rw [← hr2]
    cases h1 : cmpo n a1 b1 with
    | none => have := HR1.out; rw [h1] at this; cases this
    | some c1 => cases cmpo n a2 b2 <;> rfl
  clear hEq hLq hE3 p0 p1 p2 p3 q0 q1 q2 q3
  have bM := (hB3.block (w.heap.size + 1 + 1) (by have := HZS.out; omega)).trans HBZ.out
  have z0 := (cell_of_block (o := 0) bM).trans (show _ = some (.int .i64 0) from rfl)
  have z1 := (cell_of_block (o := 1) bM).trans (show _ = some (.int .i64 0) from rfl)
  have z2 := (cell_of_block (o := 2) bM).trans (show _ = some (.int .i64 0) from rfl)
  have z3 := (cell_of_block (o := 3) bM).trans (show _ = some (.slice none 0 0) from rfl)
  have yz := fun o => frozen_of_block (o := o) bM
  have FIN := closeL (k := 3) (g := 0) (l := 0) (a := (some ⟨wC.heap.size, 0, none⟩)) (n := 2) (cap := 2) (w := w) (wF := w3) (M := w.heap.size + 1 + 1) (lo := Z.heap.size) (A := fa ++ fb) (o := bothC 3 (cmpo n a1 b1) (cmpo n a2 b2)) (b := r2) (hR) (hLF) HA.out (by omega) (by have := HZS.out; have := (hB3).size; omega) (below_trans HB0.out hB3)
  simp only [put4, Nat.zero_add] at FIN
  go_wp2_with fail
  exact bodyPost_ret (v := .tuple #[.agg #[.int .i64 3, .int .i64 0, .int .i64 0, .slice (some ⟨wC.heap.size, 0, none⟩) 2 2], .bool (r2)]) (by simp [results, Try.results96, go_sem, z0, z1, z2, z3]) rfl FIN
theorem plain_any (n : Nat) (ih : CpiC n) : PlC n := by
  intro a b d d' va vb fa fb w hd hd1 hd2 hsa hsb hua hub hata hatb
  obtain ⟨ka, ga, la, ts, rfl⟩ := a.shape
  obtain ⟨kb, gb, lb, us, rfl⟩ := b.shape
  cases d with
  | zero => simp [shpK] at hsa
  | succ d =>
  cases d' with
  | zero => simp [shpK] at hsb
  | succ d' =>
  obtain ⟨hna, hka⟩ := shpK_node hsa
  obtain ⟨hnb, hkb⟩ := shpK_node hsb
  obtain ⟨h4, h5, h6, h1⟩ := id hua
  obtain ⟨g4, g6⟩ := id hub
  by_cases hk : ka = kb
  case neg =>
    have hr : cmpo (n + 1) (.mk ka ga la ts) (.mk kb gb lb us) = none := by
      simp only [cmpo, cmpN]
      rw [if_neg h1, if_neg h5, if_neg h6, if_neg h4, if_neg g6, if_neg g4, if_neg (fun h => hk h.1)]
    rw [hr]
    exact plain_kind ka ga la kb gb lb ts us va vb fa fb w hk hata hatb
  subst hk
  by_cases hg : ga = gb
  case neg =>
    have hr : cmpo (n + 1) (.mk ka ga la ts) (.mk ka gb lb us) = none := by
      simp only [cmpo, cmpN]
      rw [if_neg h1, if_neg h5, if_neg h6, if_neg h4, if_neg g6, if_neg g4, if_neg (fun h => hg h.2)]
    rw [hr]
    exact plain_tag ka ga la gb lb ts us va vb fa fb w hg hata hatb
  subst hg
  rcases nodeC_cases hna with ⟨rfl, rfl, rfl, ha1, ha2⟩ | ⟨rfl, rfl, rfl, a1, a2, rfl⟩ | ⟨rfl, rfl, rfl, a1, a2, rfl⟩ | ⟨rfl, _⟩ | ⟨rfl, _⟩ | ⟨rfl, _⟩
  · have hr : cmpo (n + 1) (.mk 1 ga 0 []) (.mk 1 ga lb us) = some (.mk 1 ga 0 []) := by
      have hg1 : ga ≠ 1 := fun h => h1 ⟨rfl, h⟩
      simp [cmpo, cmpN, hg1]
    rw [hr]
    exact plain_id ga 0 lb [] us va vb fa fb w hata hatb
  · rcases nodeC_cases hnb with ⟨h, _⟩ | ⟨_, _, rfl, b1, b2, rfl⟩ | ⟨h, _⟩ | ⟨h, _⟩ | ⟨h, _⟩ | ⟨h, _⟩
    · omega
    · have hr : cmpo (n + 1) (.mk 2 0 0 [a1, a2]) (.mk 2 0 0 [b1, b2]) = bothC 2 (cmpo n b1 a1) (cmpo n a2 b2) := by simp [cmpo, cmpN]
      rw [hr]
      exact plain_two2 n ih 0 0 a1 a2 b1 b2 d d' va vb fa fb w (by omega) (by omega) (by omega) (hka a1 (by simp)) (hka a2 (by simp)) (hkb b1 (by simp)) (hkb b2 (by simp)) hata hatb
    all_goals omega
  · rcases nodeC_cases hnb with ⟨h, _⟩ | ⟨h, _⟩ | ⟨_, _, rfl, b1, b2, rfl⟩ | ⟨h, _⟩ | ⟨h, _⟩ | ⟨h, _⟩
    · omega
    · omega
    · have hr : cmpo (n + 1) (.mk 3 0 0 [a1, a2]) (.mk 3 0 0 [b1, b2]) = bothC 3 (cmpo n a1 b1) (cmpo n a2 b2) := by simp [cmpo, cmpN]
      rw [hr]
      exact plain_two3 n ih 0 0 a1 a2 b1 b2 d d' va vb fa fb w (by omega) (by omega) (by omega) (hka a1 (by simp)) (hka a2 (by simp)) (hkb b1 (by simp)) (hkb b2 (by simp)) hata hatb
    all_goals omega
  · exact absurd rfl h4
  · exact absurd rfl h5
  · exact absurd rfl h6
end Go.Proofs.Ytolhfcpmhhhjpaa
