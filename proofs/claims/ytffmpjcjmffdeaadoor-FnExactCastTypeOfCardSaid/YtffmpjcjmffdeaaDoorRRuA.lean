/- ruleFor: the kinds without calls. -/
import Derived.Test.YtffmpjcjmffdeaaDoorRRu0
namespace Go.Proofs.YtffmpjcjmffdeaaDoor
open Go.RowKit

set_option maxRecDepth 100000 in
set_option maxHeartbeats 1000000 in
theorem rule_2 : RuC 2 := by
  intro xs p fps nm num ty fr lb ts v fe us s fu w hsc hat hus hlen hvl
  have hat0 := hat
  obtain ⟨k1, n1, a1, c1, k2, n2, a2, c2, a3, c3, f1, f2, f3, rfl, hnm, ht1, ht2, rfl, hs3⟩ := hat.parts
  have hl0 : us.length = 0 := by have : kidsM 2 = 0 := (by decide); omega
  obtain rfl := List.length_eq_zero_iff.1 hl0
  obtain ⟨sa, sc, rfl⟩ := hus.shape
  have hbb : Below w.heap.size w ((((w.alloc (Obj.cells #[.int .i64 2, .string nm, .int .i64 num, .int .i64 k1, .slice a1 n1 c1, .int .i64 k2, .slice a2 n2 c2, .int .i64 lb, .slice a3 ts.length c3] 35)).alloc (Obj.cells #[.slice none 0 0, .int .i64 2, .slice none 0 0] 135)).alloc (Obj.cells #[.int .i64 2, .slice none 0 0] 32)).alloc (Obj.cells #[.int .i64 3, .slice none 0 0] 32)) := ((((Below.refl _ _).alloc (Nat.le_refl _) _).alloc (by simp) _).alloc (by simp; omega) _).alloc (by simp; omega) _
  have FIN := hid (show RuO ((f1 ++ (f2 ++ f3)) ++ (fps ++ fu)) w (ruleM xs 2 nm ty fr []) (.returned (.tuple #[.agg #[.slice none 0 0, .int .i64 2, .slice none 0 0], .bool true])) ((((w.alloc (Obj.cells #[.int .i64 2, .string nm, .int .i64 num, .int .i64 k1, .slice a1 n1 c1, .int .i64 k2, .slice a2 n2 c2, .int .i64 lb, .slice a3 ts.length c3] 35)).alloc (Obj.cells #[.slice none 0 0, .int .i64 2, .slice none 0 0] 135)).alloc (Obj.cells #[.int .i64 2, .slice none 0 0] 32)).alloc (Obj.cells #[.int .i64 3, .slice none 0 0] 32)) from
    ⟨[], .mk 2 [], none, 0, 0, 2, 0, none, 0, [], [], rfl, sl_nil _ _ _, leaf_at _ _ _ _, fun p h => by cases h; rfl, SrcB.nil _ _ _, hbb⟩)
  clear hsc hat hat0 hus hlen hvl ht1 ht2 hs3 hbb hnm
  go_enter Tryd.func117, Tryd.ntmps117
  go_wp2_with fail
  exact bodyPost_ret (v := .tuple #[.agg #[.slice none 0 0, .int .i64 2, .slice none 0 0], .bool true]) (by simp [results, Tryd.results117, go_sem]) rfl FIN.out

set_option maxRecDepth 100000 in
set_option maxHeartbeats 1000000 in
theorem rule_3 : RuC 3 := by
  intro xs p fps nm num ty fr lb ts v fe us s fu w hsc hat hus hlen hvl
  have hat0 := hat
  obtain ⟨k1, n1, a1, c1, k2, n2, a2, c2, a3, c3, f1, f2, f3, rfl, hnm, ht1, ht2, rfl, hs3⟩ := hat.parts
  have hl0 : us.length = 0 := by have : kidsM 3 = 0 := (by decide); omega
  obtain rfl := List.length_eq_zero_iff.1 hl0
  obtain ⟨sa, sc, rfl⟩ := hus.shape
  have hbb : Below w.heap.size w ((((w.alloc (Obj.cells #[.int .i64 3, .string nm, .int .i64 num, .int .i64 k1, .slice a1 n1 c1, .int .i64 k2, .slice a2 n2 c2, .int .i64 lb, .slice a3 ts.length c3] 35)).alloc (Obj.cells #[.slice none 0 0, .int .i64 3, .slice none 0 0] 135)).alloc (Obj.cells #[.int .i64 2, .slice none 0 0] 32)).alloc (Obj.cells #[.int .i64 3, .slice none 0 0] 32)) := ((((Below.refl _ _).alloc (Nat.le_refl _) _).alloc (by simp) _).alloc (by simp; omega) _).alloc (by simp; omega) _
  have FIN := hid (show RuO ((f1 ++ (f2 ++ f3)) ++ (fps ++ fu)) w (ruleM xs 3 nm ty fr []) (.returned (.tuple #[.agg #[.slice none 0 0, .int .i64 3, .slice none 0 0], .bool true])) ((((w.alloc (Obj.cells #[.int .i64 3, .string nm, .int .i64 num, .int .i64 k1, .slice a1 n1 c1, .int .i64 k2, .slice a2 n2 c2, .int .i64 lb, .slice a3 ts.length c3] 35)).alloc (Obj.cells #[.slice none 0 0, .int .i64 3, .slice none 0 0] 135)).alloc (Obj.cells #[.int .i64 2, .slice none 0 0] 32)).alloc (Obj.cells #[.int .i64 3, .slice none 0 0] 32)) from
    ⟨[], .mk 3 [], none, 0, 0, 3, 0, none, 0, [], [], rfl, sl_nil _ _ _, leaf_at _ _ _ _, fun p h => by cases h; rfl, SrcB.nil _ _ _, hbb⟩)
  clear hsc hat hat0 hus hlen hvl ht1 ht2 hs3 hbb hnm
  go_enter Tryd.func117, Tryd.ntmps117
  go_wp2_with fail
  exact bodyPost_ret (v := .tuple #[.agg #[.slice none 0 0, .int .i64 3, .slice none 0 0], .bool true]) (by simp [results, Tryd.results117, go_sem]) rfl FIN.out

set_option maxRecDepth 100000 in
set_option maxHeartbeats 1000000 in
theorem rule_4 : RuC 4 := by
  intro xs p fps nm num ty fr lb ts v fe us s fu w hsc hat hus hlen hvl
  have hat0 := hat
  obtain ⟨k1, n1, a1, c1, k2, n2, a2, c2, a3, c3, f1, f2, f3, rfl, hnm, ht1, ht2, rfl, hs3⟩ := hat.parts
  have hl0 : us.length = 0 := by have : kidsM 4 = 0 := (by decide); omega
  obtain rfl := List.length_eq_zero_iff.1 hl0
  obtain ⟨sa, sc, rfl⟩ := hus.shape
  have hbb : Below w.heap.size w ((((w.alloc (Obj.cells #[.int .i64 4, .string nm, .int .i64 num, .int .i64 k1, .slice a1 n1 c1, .int .i64 k2, .slice a2 n2 c2, .int .i64 lb, .slice a3 ts.length c3] 35)).alloc (Obj.cells #[.slice none 0 0, .int .i64 3, .slice none 0 0] 135)).alloc (Obj.cells #[.int .i64 2, .slice none 0 0] 32)).alloc (Obj.cells #[.int .i64 3, .slice none 0 0] 32)) := ((((Below.refl _ _).alloc (Nat.le_refl _) _).alloc (by simp) _).alloc (by simp; omega) _).alloc (by simp; omega) _
  have FIN := hid (show RuO ((f1 ++ (f2 ++ f3)) ++ (fps ++ fu)) w (ruleM xs 4 nm ty fr []) (.returned (.tuple #[.agg #[.slice none 0 0, .int .i64 3, .slice none 0 0], .bool true])) ((((w.alloc (Obj.cells #[.int .i64 4, .string nm, .int .i64 num, .int .i64 k1, .slice a1 n1 c1, .int .i64 k2, .slice a2 n2 c2, .int .i64 lb, .slice a3 ts.length c3] 35)).alloc (Obj.cells #[.slice none 0 0, .int .i64 3, .slice none 0 0] 135)).alloc (Obj.cells #[.int .i64 2, .slice none 0 0] 32)).alloc (Obj.cells #[.int .i64 3, .slice none 0 0] 32)) from
    ⟨[], .mk 3 [], none, 0, 0, 3, 0, none, 0, [], [], rfl, sl_nil _ _ _, leaf_at _ _ _ _, fun p h => by cases h; rfl, SrcB.nil _ _ _, hbb⟩)
  clear hsc hat hat0 hus hlen hvl ht1 ht2 hs3 hbb hnm
  go_enter Tryd.func117, Tryd.ntmps117
  go_wp2_with fail
  exact bodyPost_ret (v := .tuple #[.agg #[.slice none 0 0, .int .i64 3, .slice none 0 0], .bool true]) (by simp [results, Tryd.results117, go_sem]) rfl FIN.out

set_option maxRecDepth 100000 in
set_option maxHeartbeats 1000000 in
theorem rule_7 : RuC 7 := by
  intro xs p fps nm num ty fr lb ts v fe us s fu w hsc hat hus hlen hvl
  have hat0 := hat
  obtain ⟨k1, n1, a1, c1, k2, n2, a2, c2, a3, c3, f1, f2, f3, rfl, hnm, ht1, ht2, rfl, hs3⟩ := hat.parts
  obtain ⟨sa, sc, rfl⟩ := hus.shape
  have hbb : Below w.heap.size w (((((w.alloc (Obj.cells #[.int .i64 7, .string nm, .int .i64 num, .int .i64 k1, .slice a1 n1 c1, .int .i64 k2, .slice a2 n2 c2, .int .i64 lb, .slice a3 ts.length c3] 35)).alloc (Obj.cells #[.slice (some ⟨(w.heap.size + 1 + 1 + 1 + 1), 0, none⟩) 2 2, .int .i64 2, .slice none 0 0] 135)).alloc (Obj.cells #[.int .i64 2, .slice none 0 0] 32)).alloc (Obj.cells #[.int .i64 3, .slice none 0 0] 32)).alloc (Obj.cells #[.int .i64 2, .slice none 0 0, .int .i64 2, .slice none 0 0] 32)) := (((((Below.refl _ _).alloc (Nat.le_refl _) _).alloc (by simp) _).alloc (by simp; omega) _).alloc (by simp; omega) _).alloc (by simp; omega) _
  have hM : (((((w.alloc (Obj.cells #[.int .i64 7, .string nm, .int .i64 num, .int .i64 k1, .slice a1 n1 c1, .int .i64 k2, .slice a2 n2 c2, .int .i64 lb, .slice a3 ts.length c3] 35)).alloc (Obj.cells #[.slice (some ⟨(w.heap.size + 1 + 1 + 1 + 1), 0, none⟩) 2 2, .int .i64 2, .slice none 0 0] 135)).alloc (Obj.cells #[.int .i64 2, .slice none 0 0] 32)).alloc (Obj.cells #[.int .i64 3, .slice none 0 0] 32)).alloc (Obj.cells #[.int .i64 2, .slice none 0 0, .int .i64 2, .slice none 0 0] 32)).heap[(w.heap.size + 1 + 1 + 1 + 1)]? = some (Obj.cells #[.int .i64 2, .slice none 0 0, .int .i64 2, .slice none 0 0] 32) := by
    have h := alloc_new ((((w.alloc (Obj.cells #[.int .i64 7, .string nm, .int .i64 num, .int .i64 k1, .slice a1 n1 c1, .int .i64 k2, .slice a2 n2 c2, .int .i64 lb, .slice a3 ts.length c3] 35)).alloc (Obj.cells #[.slice (some ⟨(w.heap.size + 1 + 1 + 1 + 1), 0, none⟩) 2 2, .int .i64 2, .slice none 0 0] 135)).alloc (Obj.cells #[.int .i64 2, .slice none 0 0] 32)).alloc (Obj.cells #[.int .i64 3, .slice none 0 0] 32)) (Obj.cells #[.int .i64 2, .slice none 0 0, .int .i64 2, .slice none 0 0] 32)
    rw [show ((((w.alloc (Obj.cells #[.int .i64 7, .string nm, .int .i64 num, .int .i64 k1, .slice a1 n1 c1, .int .i64 k2, .slice a2 n2 c2, .int .i64 lb, .slice a3 ts.length c3] 35)).alloc (Obj.cells #[.slice (some ⟨(w.heap.size + 1 + 1 + 1 + 1), 0, none⟩) 2 2, .int .i64 2, .slice none 0 0] 135)).alloc (Obj.cells #[.int .i64 2, .slice none 0 0] 32)).alloc (Obj.cells #[.int .i64 3, .slice none 0 0] 32)).heap.size = (w.heap.size + 1 + 1 + 1 + 1) by simp] at h
    exact h
  have FIN := hid (show RuO ((f1 ++ (f2 ++ f3)) ++ (fps ++ fu)) w (ruleM xs 7 nm ty fr us) (.returned (.tuple #[.agg #[.slice (some ⟨(w.heap.size + 1 + 1 + 1 + 1), 0, none⟩) 2 2, .int .i64 2, .slice none 0 0], .bool true])) (((((w.alloc (Obj.cells #[.int .i64 7, .string nm, .int .i64 num, .int .i64 k1, .slice a1 n1 c1, .int .i64 k2, .slice a2 n2 c2, .int .i64 lb, .slice a3 ts.length c3] 35)).alloc (Obj.cells #[.slice (some ⟨(w.heap.size + 1 + 1 + 1 + 1), 0, none⟩) 2 2, .int .i64 2, .slice none 0 0] 135)).alloc (Obj.cells #[.int .i64 2, .slice none 0 0] 32)).alloc (Obj.cells #[.int .i64 3, .slice none 0 0] 32)).alloc (Obj.cells #[.int .i64 2, .slice none 0 0, .int .i64 2, .slice none 0 0] 32)) from
    ⟨[tI, tI], .mk 2 [], _, _, _, 2, 0, none, 0, _, [], rfl, sl_two hM (leaf_at _ _ _ _) (leaf_at _ _ _ _), leaf_at _ _ _ _, fun p h => by cases h; rfl, (src_cons (by omega) (fun o => frozen_of_block hM) (SrcB.nil _ _ _)).append (SrcB.nil _ _ _), hbb⟩)
  clear hsc hat hat0 hus hlen hvl ht1 ht2 hs3 hbb hnm hM
  go_enter Tryd.func117, Tryd.ntmps117
  go_wp2_with fail
  exact bodyPost_ret (v := .tuple #[.agg #[.slice (some ⟨(w.heap.size + 1 + 1 + 1 + 1), 0, none⟩) 2 2, .int .i64 2, .slice none 0 0], .bool true]) (by simp [results, Tryd.results117, go_sem]) rfl FIN.out

set_option maxRecDepth 100000 in
set_option maxHeartbeats 1000000 in
theorem rule_8 : RuC 8 := by
  intro xs p fps nm num ty fr lb ts v fe us s fu w hsc hat hus hlen hvl
  have hat0 := hat
  obtain ⟨k1, n1, a1, c1, k2, n2, a2, c2, a3, c3, f1, f2, f3, rfl, hnm, ht1, ht2, rfl, hs3⟩ := hat.parts
  obtain ⟨sa, sc, rfl⟩ := hus.shape
  have hbb : Below w.heap.size w (((((w.alloc (Obj.cells #[.int .i64 8, .string nm, .int .i64 num, .int .i64 k1, .slice a1 n1 c1, .int .i64 k2, .slice a2 n2 c2, .int .i64 lb, .slice a3 ts.length c3] 35)).alloc (Obj.cells #[.slice (some ⟨(w.heap.size + 1 + 1 + 1 + 1), 0, none⟩) 2 2, .int .i64 3, .slice none 0 0] 135)).alloc (Obj.cells #[.int .i64 2, .slice none 0 0] 32)).alloc (Obj.cells #[.int .i64 3, .slice none 0 0] 32)).alloc (Obj.cells #[.int .i64 2, .slice none 0 0, .int .i64 2, .slice none 0 0] 32)) := (((((Below.refl _ _).alloc (Nat.le_refl _) _).alloc (by simp) _).alloc (by simp; omega) _).alloc (by simp; omega) _).alloc (by simp; omega) _
  have hM : (((((w.alloc (Obj.cells #[.int .i64 8, .string nm, .int .i64 num, .int .i64 k1, .slice a1 n1 c1, .int .i64 k2, .slice a2 n2 c2, .int .i64 lb, .slice a3 ts.length c3] 35)).alloc (Obj.cells #[.slice (some ⟨(w.heap.size + 1 + 1 + 1 + 1), 0, none⟩) 2 2, .int .i64 3, .slice none 0 0] 135)).alloc (Obj.cells #[.int .i64 2, .slice none 0 0] 32)).alloc (Obj.cells #[.int .i64 3, .slice none 0 0] 32)).alloc (Obj.cells #[.int .i64 2, .slice none 0 0, .int .i64 2, .slice none 0 0] 32)).heap[(w.heap.size + 1 + 1 + 1 + 1)]? = some (Obj.cells #[.int .i64 2, .slice none 0 0, .int .i64 2, .slice none 0 0] 32) := by
    have h := alloc_new ((((w.alloc (Obj.cells #[.int .i64 8, .string nm, .int .i64 num, .int .i64 k1, .slice a1 n1 c1, .int .i64 k2, .slice a2 n2 c2, .int .i64 lb, .slice a3 ts.length c3] 35)).alloc (Obj.cells #[.slice (some ⟨(w.heap.size + 1 + 1 + 1 + 1), 0, none⟩) 2 2, .int .i64 3, .slice none 0 0] 135)).alloc (Obj.cells #[.int .i64 2, .slice none 0 0] 32)).alloc (Obj.cells #[.int .i64 3, .slice none 0 0] 32)) (Obj.cells #[.int .i64 2, .slice none 0 0, .int .i64 2, .slice none 0 0] 32)
    rw [show ((((w.alloc (Obj.cells #[.int .i64 8, .string nm, .int .i64 num, .int .i64 k1, .slice a1 n1 c1, .int .i64 k2, .slice a2 n2 c2, .int .i64 lb, .slice a3 ts.length c3] 35)).alloc (Obj.cells #[.slice (some ⟨(w.heap.size + 1 + 1 + 1 + 1), 0, none⟩) 2 2, .int .i64 3, .slice none 0 0] 135)).alloc (Obj.cells #[.int .i64 2, .slice none 0 0] 32)).alloc (Obj.cells #[.int .i64 3, .slice none 0 0] 32)).heap.size = (w.heap.size + 1 + 1 + 1 + 1) by simp] at h
    exact h
  have FIN := hid (show RuO ((f1 ++ (f2 ++ f3)) ++ (fps ++ fu)) w (ruleM xs 8 nm ty fr us) (.returned (.tuple #[.agg #[.slice (some ⟨(w.heap.size + 1 + 1 + 1 + 1), 0, none⟩) 2 2, .int .i64 3, .slice none 0 0], .bool true])) (((((w.alloc (Obj.cells #[.int .i64 8, .string nm, .int .i64 num, .int .i64 k1, .slice a1 n1 c1, .int .i64 k2, .slice a2 n2 c2, .int .i64 lb, .slice a3 ts.length c3] 35)).alloc (Obj.cells #[.slice (some ⟨(w.heap.size + 1 + 1 + 1 + 1), 0, none⟩) 2 2, .int .i64 3, .slice none 0 0] 135)).alloc (Obj.cells #[.int .i64 2, .slice none 0 0] 32)).alloc (Obj.cells #[.int .i64 3, .slice none 0 0] 32)).alloc (Obj.cells #[.int .i64 2, .slice none 0 0, .int .i64 2, .slice none 0 0] 32)) from
    ⟨[tI, tI], .mk 3 [], _, _, _, 3, 0, none, 0, _, [], rfl, sl_two hM (leaf_at _ _ _ _) (leaf_at _ _ _ _), leaf_at _ _ _ _, fun p h => by cases h; rfl, (src_cons (by omega) (fun o => frozen_of_block hM) (SrcB.nil _ _ _)).append (SrcB.nil _ _ _), hbb⟩)
  clear hsc hat hat0 hus hlen hvl ht1 ht2 hs3 hbb hnm hM
  go_enter Tryd.func117, Tryd.ntmps117
  go_wp2_with fail
  exact bodyPost_ret (v := .tuple #[.agg #[.slice (some ⟨(w.heap.size + 1 + 1 + 1 + 1), 0, none⟩) 2 2, .int .i64 3, .slice none 0 0], .bool true]) (by simp [results, Tryd.results117, go_sem]) rfl FIN.out

set_option maxRecDepth 100000 in
set_option maxHeartbeats 1000000 in
theorem rule_13 : RuC 13 := by
  intro xs p fps nm num ty fr lb ts v fe us s fu w hsc hat hus hlen hvl
  have hat0 := hat
  obtain ⟨k1, n1, a1, c1, k2, n2, a2, c2, a3, c3, f1, f2, f3, rfl, hnm, ht1, ht2, rfl, hs3⟩ := hat.parts
  obtain ⟨sa, sc, rfl⟩ := hus.shape
  have hbb : Below w.heap.size w (((((w.alloc (Obj.cells #[.int .i64 13, .string nm, .int .i64 num, .int .i64 k1, .slice a1 n1 c1, .int .i64 k2, .slice a2 n2 c2, .int .i64 lb, .slice a3 ts.length c3] 35)).alloc (Obj.cells #[.slice (some ⟨(w.heap.size + 1 + 1 + 1 + 1), 0, none⟩) 1 1, .int .i64 k1, .slice a1 n1 c1] 135)).alloc (Obj.cells #[.int .i64 2, .slice none 0 0] 32)).alloc (Obj.cells #[.int .i64 3, .slice none 0 0] 32)).alloc (Obj.cells #[.int .i64 k1, .slice a1 n1 c1] 32)) := (((((Below.refl _ _).alloc (Nat.le_refl _) _).alloc (by simp) _).alloc (by simp; omega) _).alloc (by simp; omega) _).alloc (by simp; omega) _
  have hM : (((((w.alloc (Obj.cells #[.int .i64 13, .string nm, .int .i64 num, .int .i64 k1, .slice a1 n1 c1, .int .i64 k2, .slice a2 n2 c2, .int .i64 lb, .slice a3 ts.length c3] 35)).alloc (Obj.cells #[.slice (some ⟨(w.heap.size + 1 + 1 + 1 + 1), 0, none⟩) 1 1, .int .i64 k1, .slice a1 n1 c1] 135)).alloc (Obj.cells #[.int .i64 2, .slice none 0 0] 32)).alloc (Obj.cells #[.int .i64 3, .slice none 0 0] 32)).alloc (Obj.cells #[.int .i64 k1, .slice a1 n1 c1] 32)).heap[(w.heap.size + 1 + 1 + 1 + 1)]? = some (Obj.cells #[.int .i64 k1, .slice a1 n1 c1] 32) := by
    have h := alloc_new ((((w.alloc (Obj.cells #[.int .i64 13, .string nm, .int .i64 num, .int .i64 k1, .slice a1 n1 c1, .int .i64 k2, .slice a2 n2 c2, .int .i64 lb, .slice a3 ts.length c3] 35)).alloc (Obj.cells #[.slice (some ⟨(w.heap.size + 1 + 1 + 1 + 1), 0, none⟩) 1 1, .int .i64 k1, .slice a1 n1 c1] 135)).alloc (Obj.cells #[.int .i64 2, .slice none 0 0] 32)).alloc (Obj.cells #[.int .i64 3, .slice none 0 0] 32)) (Obj.cells #[.int .i64 k1, .slice a1 n1 c1] 32)
    rw [show ((((w.alloc (Obj.cells #[.int .i64 13, .string nm, .int .i64 num, .int .i64 k1, .slice a1 n1 c1, .int .i64 k2, .slice a2 n2 c2, .int .i64 lb, .slice a3 ts.length c3] 35)).alloc (Obj.cells #[.slice (some ⟨(w.heap.size + 1 + 1 + 1 + 1), 0, none⟩) 1 1, .int .i64 k1, .slice a1 n1 c1] 135)).alloc (Obj.cells #[.int .i64 2, .slice none 0 0] 32)).alloc (Obj.cells #[.int .i64 3, .slice none 0 0] 32)).heap.size = (w.heap.size + 1 + 1 + 1 + 1) by simp] at h
    exact h
  have FIN := hid (show RuO ((f1 ++ (f2 ++ f3)) ++ (fps ++ fu)) w (ruleM xs 13 nm ty fr us) (.returned (.tuple #[.agg #[.slice (some ⟨(w.heap.size + 1 + 1 + 1 + 1), 0, none⟩) 1 1, .int .i64 k1, .slice a1 n1 c1], .bool true])) (((((w.alloc (Obj.cells #[.int .i64 13, .string nm, .int .i64 num, .int .i64 k1, .slice a1 n1 c1, .int .i64 k2, .slice a2 n2 c2, .int .i64 lb, .slice a3 ts.length c3] 35)).alloc (Obj.cells #[.slice (some ⟨(w.heap.size + 1 + 1 + 1 + 1), 0, none⟩) 1 1, .int .i64 k1, .slice a1 n1 c1] 135)).alloc (Obj.cells #[.int .i64 2, .slice none 0 0] 32)).alloc (Obj.cells #[.int .i64 3, .slice none 0 0] 32)).alloc (Obj.cells #[.int .i64 k1, .slice a1 n1 c1] 32)) from
    ⟨[ty], ty, _, _, _, _, _, _, _, _, _, rfl, sl_one hM (ht1.below hbb), ht1.below hbb, fun p h => by cases h; rfl, (src_cons (by omega) (fun o => frozen_of_block hM) (SrcB.given (by simp; intro b hb; simp [hb]))).append (SrcB.given (by intro b hb; simp [hb])), hbb⟩)
  clear hsc hat hat0 hus hlen hvl ht1 ht2 hs3 hbb hnm hM
  go_enter Tryd.func117, Tryd.ntmps117
  go_wp2_with fail
  exact bodyPost_ret (v := .tuple #[.agg #[.slice (some ⟨(w.heap.size + 1 + 1 + 1 + 1), 0, none⟩) 1 1, .int .i64 k1, .slice a1 n1 c1], .bool true]) (by simp [results, Tryd.results117, go_sem]) rfl FIN.out

set_option maxRecDepth 100000 in
set_option maxHeartbeats 1000000 in
theorem rule_14 : RuC 14 := by
  intro xs p fps nm num ty fr lb ts v fe us s fu w hsc hat hus hlen hvl
  have hat0 := hat
  obtain ⟨k1, n1, a1, c1, k2, n2, a2, c2, a3, c3, f1, f2, f3, rfl, hnm, ht1, ht2, rfl, hs3⟩ := hat.parts
  obtain ⟨sa, sc, rfl⟩ := hus.shape
  have hbb : Below w.heap.size w (((((w.alloc (Obj.cells #[.int .i64 14, .string nm, .int .i64 num, .int .i64 k1, .slice a1 n1 c1, .int .i64 k2, .slice a2 n2 c2, .int .i64 lb, .slice a3 ts.length c3] 35)).alloc (Obj.cells #[.slice (some ⟨(w.heap.size + 1 + 1 + 1 + 1), 0, none⟩) 1 1, .int .i64 k1, .slice a1 n1 c1] 135)).alloc (Obj.cells #[.int .i64 2, .slice none 0 0] 32)).alloc (Obj.cells #[.int .i64 3, .slice none 0 0] 32)).alloc (Obj.cells #[.int .i64 k2, .slice a2 n2 c2] 32)) := (((((Below.refl _ _).alloc (Nat.le_refl _) _).alloc (by simp) _).alloc (by simp; omega) _).alloc (by simp; omega) _).alloc (by simp; omega) _
  have hM : (((((w.alloc (Obj.cells #[.int .i64 14, .string nm, .int .i64 num, .int .i64 k1, .slice a1 n1 c1, .int .i64 k2, .slice a2 n2 c2, .int .i64 lb, .slice a3 ts.length c3] 35)).alloc (Obj.cells #[.slice (some ⟨(w.heap.size + 1 + 1 + 1 + 1), 0, none⟩) 1 1, .int .i64 k1, .slice a1 n1 c1] 135)).alloc (Obj.cells #[.int .i64 2, .slice none 0 0] 32)).alloc (Obj.cells #[.int .i64 3, .slice none 0 0] 32)).alloc (Obj.cells #[.int .i64 k2, .slice a2 n2 c2] 32)).heap[(w.heap.size + 1 + 1 + 1 + 1)]? = some (Obj.cells #[.int .i64 k2, .slice a2 n2 c2] 32) := by
    have h := alloc_new ((((w.alloc (Obj.cells #[.int .i64 14, .string nm, .int .i64 num, .int .i64 k1, .slice a1 n1 c1, .int .i64 k2, .slice a2 n2 c2, .int .i64 lb, .slice a3 ts.length c3] 35)).alloc (Obj.cells #[.slice (some ⟨(w.heap.size + 1 + 1 + 1 + 1), 0, none⟩) 1 1, .int .i64 k1, .slice a1 n1 c1] 135)).alloc (Obj.cells #[.int .i64 2, .slice none 0 0] 32)).alloc (Obj.cells #[.int .i64 3, .slice none 0 0] 32)) (Obj.cells #[.int .i64 k2, .slice a2 n2 c2] 32)
    rw [show ((((w.alloc (Obj.cells #[.int .i64 14, .string nm, .int .i64 num, .int .i64 k1, .slice a1 n1 c1, .int .i64 k2, .slice a2 n2 c2, .int .i64 lb, .slice a3 ts.length c3] 35)).alloc (Obj.cells #[.slice (some ⟨(w.heap.size + 1 + 1 + 1 + 1), 0, none⟩) 1 1, .int .i64 k1, .slice a1 n1 c1] 135)).alloc (Obj.cells #[.int .i64 2, .slice none 0 0] 32)).alloc (Obj.cells #[.int .i64 3, .slice none 0 0] 32)).heap.size = (w.heap.size + 1 + 1 + 1 + 1) by simp] at h
    exact h
  have FIN := hid (show RuO ((f1 ++ (f2 ++ f3)) ++ (fps ++ fu)) w (ruleM xs 14 nm ty fr us) (.returned (.tuple #[.agg #[.slice (some ⟨(w.heap.size + 1 + 1 + 1 + 1), 0, none⟩) 1 1, .int .i64 k1, .slice a1 n1 c1], .bool true])) (((((w.alloc (Obj.cells #[.int .i64 14, .string nm, .int .i64 num, .int .i64 k1, .slice a1 n1 c1, .int .i64 k2, .slice a2 n2 c2, .int .i64 lb, .slice a3 ts.length c3] 35)).alloc (Obj.cells #[.slice (some ⟨(w.heap.size + 1 + 1 + 1 + 1), 0, none⟩) 1 1, .int .i64 k1, .slice a1 n1 c1] 135)).alloc (Obj.cells #[.int .i64 2, .slice none 0 0] 32)).alloc (Obj.cells #[.int .i64 3, .slice none 0 0] 32)).alloc (Obj.cells #[.int .i64 k2, .slice a2 n2 c2] 32)) from
    ⟨[fr], ty, _, _, _, _, _, _, _, _, _, rfl, sl_one hM (ht2.below hbb), ht1.below hbb, fun p h => by cases h; rfl, (src_cons (by omega) (fun o => frozen_of_block hM) (SrcB.given (by simp; intro b hb; simp [hb]))).append (SrcB.given (by intro b hb; simp [hb])), hbb⟩)
  clear hsc hat hat0 hus hlen hvl ht1 ht2 hs3 hbb hnm hM
  go_enter Tryd.func117, Tryd.ntmps117
  go_wp2_with fail
  exact bodyPost_ret (v := .tuple #[.agg #[.slice (some ⟨(w.heap.size + 1 + 1 + 1 + 1), 0, none⟩) 1 1, .int .i64 k1, .slice a1 n1 c1], .bool true]) (by simp [results, Tryd.results117, go_sem]) rfl FIN.out
end Go.Proofs.YtffmpjcjmffdeaaDoor
