/- The program's rule that lets a cast between known types go through the unknown type. -/
import Derived.Test.YtjpmlmdbldcbjaaDoorQLv3
import Derived.Test.YtjpmlmdbldcbjaaDoorQG23
namespace Go.Proofs.YtjpmlmdbldcbjaaDoor
open Go.RowKit

def castU (t : Tm) (fr ty : Ty) (lb : Int) : Tm := .mk 14 ByteArray.empty 0 ty fr lb [t]
theorem unk_at (w : World) : (Ty.mk 1 []).At w (.agg #[.int .i64 1, .slice none 0 0]) [] := Ty.at_mk.2 ⟨_, rfl, .inl ⟨rfl, rfl, _, _, rfl⟩⟩

theorem castU_at {w : World} {t : Tm} {fr tg : Ty} {lb kf kg : Int} {nf cf ng cg N : Nat} {af ag : Option Addr} {v0 v1 v2 v3 v4 v5 v6 v7 v8 : Value} {ef ff gf : List Nat}
    (hE : w.heap[N]? = some (.cells #[v0, v1, v2, v3, v4, v5, v6, v7, v8] 34 (0, 0))) (ht : t.At w (.agg #[v0, v1, v2, v3, v4, v5, v6, v7, v8]) ef) (hf : fr.At w (.agg #[.int .i64 kf, .slice af nf cf]) ff) (hg : tg.At w (.agg #[.int .i64 kg, .slice ag ng cg]) gf) :
    (castU t fr tg lb).At w (.agg #[.int .i64 14, .string ⟨#[]⟩, .int .i64 0, .int .i64 kg, .slice ag ng cg, .int .i64 kf, .slice af nf cf, .int .i64 lb, .slice (some ⟨N, 0, none⟩) 1 1]) (gf ++ (ff ++ (N :: ef))) := by
  refine Tm.at_mk.2 ⟨_, _, _, _, _, gf, ff, N :: ef, rfl, by decide, hg, hf, rfl, .inr ⟨N, 0, 1, ef, rfl, by simp, by simp, by simp [maxLen], ?_, rfl⟩⟩
  simp only [Tm.AtL]
  refine ⟨#[v0, v1, v2, v3, v4, v5, v6, v7, v8], ef, [], fun i hi => ?_, ht, rfl, by simp⟩
  rw [cell_of_block hE, Nat.zero_add]

set_option linter.unusedVariables false in
set_option linter.unusedSimpArgs false in
set_option maxRecDepth 100000 in
set_option maxHeartbeats 4000000 in
theorem newCast_fr (t : Tm) (fr tg : Ty) (lb : Int) (v vf vg : Value) (ef ff gf : List Nat) (w : World) (hat : t.At w v ef) (hfr : fr.At w vf ff) (htg : tg.At w vg gf) :
    Calls Tryd.prog 75 #[v, vf, vg, .int .i64 lb] w fun e w' => ∃ N v', e = .returned v' ∧ (castU t fr tg lb).At w' v' (gf ++ (ff ++ (N :: ef))) ∧ w.heap.size ≤ N ∧ N < w'.heap.size ∧ (∀ o, w'.frozen? ⟨N, o, none⟩ = false) ∧ Below w.heap.size w w' := by
  obtain ⟨e0, e1, e2, e3, e4, e5, e6, e7, e8, e9, e10, e11, e12, e13, e14, rfl⟩ := hat.agg
  obtain ⟨kf, nf, af, cf, rfl⟩ := hfr.agg
  obtain ⟨kg, ng, ag, cg, rfl⟩ := htg.agg
  have hb0 : Below w.heap.size w ((((w.alloc (Obj.cells #[.int .i64 e0, .string e1, .int .i64 e2, .int .i64 e3, .slice e5 e4 e6, .int .i64 e7, .slice e9 e8 e10, .int .i64 e11, .slice e13 e12 e14] 34)).alloc (Obj.cells #[.int .i64 kf, .slice af nf cf] 31)).alloc (Obj.cells #[.int .i64 kg, .slice ag ng cg] 31)).alloc (Obj.cells #[.int .i64 14, .string ⟨#[]⟩, .int .i64 0, .int .i64 kg, .slice ag ng cg, .int .i64 kf, .slice af nf cf, .int .i64 lb, .slice (some ⟨w.heap.size + 1 + 1 + 1 + 1, 0, none⟩) 1 1] 34)) := (((((Below.refl _ _).alloc (Nat.le_refl _) _).alloc (by simp) _).alloc (by simp; omega) _)).alloc (by simp; omega) _
  have hs0 : ((((w.alloc (Obj.cells #[.int .i64 e0, .string e1, .int .i64 e2, .int .i64 e3, .slice e5 e4 e6, .int .i64 e7, .slice e9 e8 e10, .int .i64 e11, .slice e13 e12 e14] 34)).alloc (Obj.cells #[.int .i64 kf, .slice af nf cf] 31)).alloc (Obj.cells #[.int .i64 kg, .slice ag ng cg] 31)).alloc (Obj.cells #[.int .i64 14, .string ⟨#[]⟩, .int .i64 0, .int .i64 kg, .slice ag ng cg, .int .i64 kf, .slice af nf cf, .int .i64 lb, .slice (some ⟨w.heap.size + 1 + 1 + 1 + 1, 0, none⟩) 1 1] 34)).heap.size = w.heap.size + 1 + 1 + 1 + 1 := by simp
  have hb1 := hb0.alloc hb0.size (Obj.cells #[.int .i64 e0, .string e1, .int .i64 e2, .int .i64 e3, .slice e5 e4 e6, .int .i64 e7, .slice e9 e8 e10, .int .i64 e11, .slice e13 e12 e14] 34)
  have hE := alloc_new ((((w.alloc (Obj.cells #[.int .i64 e0, .string e1, .int .i64 e2, .int .i64 e3, .slice e5 e4 e6, .int .i64 e7, .slice e9 e8 e10, .int .i64 e11, .slice e13 e12 e14] 34)).alloc (Obj.cells #[.int .i64 kf, .slice af nf cf] 31)).alloc (Obj.cells #[.int .i64 kg, .slice ag ng cg] 31)).alloc (Obj.cells #[.int .i64 14, .string ⟨#[]⟩, .int .i64 0, .int .i64 kg, .slice ag ng cg, .int .i64 kf, .slice af nf cf, .int .i64 lb, .slice (some ⟨w.heap.size + 1 + 1 + 1 + 1, 0, none⟩) 1 1] 34)) (Obj.cells #[.int .i64 e0, .string e1, .int .i64 e2, .int .i64 e3, .slice e5 e4 e6, .int .i64 e7, .slice e9 e8 e10, .int .i64 e11, .slice e13 e12 e14] 34)
  rw [hs0] at hE
  have FIN := hid (And.intro (castU_at (lb := lb) hE (hat.below hb1) (hfr.below hb1) (htg.below hb1)) (And.intro (lt_of_block hE) (And.intro (fun o => frozen_of_block (o := o) hE) hb1)))
  clear hE hb0 hb1 hs0 hat hfr htg
  go_enter Tryd.func75, Tryd.ntmps75
  go_wp2_with fail
  exact bodyPost_ret (v := .agg #[.int .i64 14, .string ⟨#[]⟩, .int .i64 0, .int .i64 kg, .slice ag ng cg, .int .i64 kf, .slice af nf cf, .int .i64 lb, .slice (some ⟨w.heap.size + 1 + 1 + 1 + 1, 0, none⟩) 1 1]) (by simp [results, Tryd.results75, go_sem]) rfl ⟨w.heap.size + 1 + 1 + 1 + 1, _, rfl, FIN.out.1, by omega, FIN.out.2⟩

/-- What throughUnknown says. -/
def ThOut (w : World) (ef ff gf : List Nat) (u : Tm) (e : Ending) (w' : World) : Prop :=
  ∃ N1 N2 v, e = .returned v ∧ u.At w' v (gf ++ (N2 :: (ff ++ (N1 :: ef)))) ∧ w.heap.size < N1 ∧ N1 < N2 ∧ N2 < w'.heap.size ∧ (∀ o, w'.frozen? ⟨N1, o, none⟩ = false) ∧ (∀ o, w'.frozen? ⟨N2, o, none⟩ = false) ∧ Below w.heap.size w w'

set_option linter.unusedVariables false in
theorem thr_close {w w1 : World} {M N1 N2 : Nat} {u : Tm} {vs : List Value} {ef ff gf : List Nat} (h : u.At w1 (.agg vs.toArray) (gf ++ ([] ++ (N2 :: ([] ++ (ff ++ (N1 :: ef))))))) (h1 : M < N1) (h2 : N1 < N2) (h3 : N2 < w1.heap.size) (hz1 : ∀ o, w1.frozen? ⟨N1, o, none⟩ = false) (hz2 : ∀ o, w1.frozen? ⟨N2, o, none⟩ = false) (h4 : N1 < w1.heap.size)
    (hlt : ∀ x ∈ gf ++ (ff ++ ef), x < w.heap.size) (hb : Below w.heap.size w w1) (hM : w.heap.size ≤ M) (hM1 : M ≤ N1) : ThOut w ef ff gf u (.returned (.agg (Array.mk vs))) (put w1 M 0 vs) := by
  simp only [List.nil_append] at h
  have hsz : (put w1 M 0 vs).heap.size = w1.heap.size := size_put
  have hab : Above (M + 1) w1 (put w1 M 0 vs) := (Above.refl _ _).put (by omega)
  refine ⟨N1, N2, _, rfl, h.congr fun x hx o => World.cell?_of_block (w := w1) (a := ⟨x, o, none⟩) (heap_put_ne (fun e => ?_)), by omega, h2, by rw [hsz]; exact h3, fun o => ?_, fun o => ?_, below_put hb hM⟩
  · have e' : x = M := e
    simp only [List.mem_append, List.mem_cons] at hx
    rcases hx with hx | hx | hx | hx | hx
    · have := hlt x (by simp [hx]); omega
    · omega
    · have := hlt x (by simp [hx]); omega
    · omega
    · have := hlt x (by simp [hx]); omega
  · exact (World.frozen?_of_block (w := w1) (a := ⟨N1, o, none⟩) (hab.block N1 (by omega) h4)).trans (hz1 o)
  · exact (World.frozen?_of_block (w := w1) (a := ⟨N2, o, none⟩) (hab.block N2 (by omega) h3)).trans (hz2 o)

set_option linter.unusedVariables false in
set_option linter.unusedSimpArgs false in
set_option maxRecDepth 100000 in
set_option maxHeartbeats 4000000 in
theorem through_any (t : Tm) (fr tg : Ty) (lb : Int) (v vf vg : Value) (ef ff gf : List Nat) (w : World) (hat : t.At w v ef) (hfr : fr.At w vf ff) (htg : tg.At w vg gf) :
    Calls Tryd.prog 65 #[v, vf, vg, .int .i64 lb] w (ThOut w ef ff gf (cast2 t fr tg lb)) := by
  have HLT := hid (show ∀ x ∈ gf ++ (ff ++ ef), x < w.heap.size from fun x hx => by
    simp only [List.mem_append] at hx
    rcases hx with hx | hx | hx
    · exact htg.lt x hx
    · exact hfr.lt x hx
    · exact hat.lt x hx)
  obtain ⟨e0, e1, e2, e3, e4, e5, e6, e7, e8, e9, e10, e11, e12, e13, e14, rfl⟩ := hat.agg
  obtain ⟨kf, nf, af, cf, rfl⟩ := hfr.agg
  obtain ⟨kg, ng, ag, cg, rfl⟩ := htg.agg
  have hb0 : Below w.heap.size w (((((w.alloc (Obj.cells #[.int .i64 e0, .string e1, .int .i64 e2, .int .i64 e3, .slice e5 e4 e6, .int .i64 e7, .slice e9 e8 e10, .int .i64 e11, .slice e13 e12 e14] 34)).alloc (Obj.cells #[.int .i64 kf, .slice af nf cf] 31)).alloc (Obj.cells #[.int .i64 kg, .slice ag ng cg] 31)).alloc (Obj.cells #[.int .i64 0, .string ⟨#[]⟩, .int .i64 0, .int .i64 0, .slice none 0 0, .int .i64 0, .slice none 0 0, .int .i64 0, .slice none 0 0] 34)).alloc (Obj.cells #[.int .i64 1, .slice none 0 0] 31)) := (((((Below.refl _ _).alloc (Nat.le_refl _) _).alloc (by simp) _).alloc (by simp; omega) _).alloc (by simp; omega) _).alloc (by simp; omega) _
  have hs0 : (((((w.alloc (Obj.cells #[.int .i64 e0, .string e1, .int .i64 e2, .int .i64 e3, .slice e5 e4 e6, .int .i64 e7, .slice e9 e8 e10, .int .i64 e11, .slice e13 e12 e14] 34)).alloc (Obj.cells #[.int .i64 kf, .slice af nf cf] 31)).alloc (Obj.cells #[.int .i64 kg, .slice ag ng cg] 31)).alloc (Obj.cells #[.int .i64 0, .string ⟨#[]⟩, .int .i64 0, .int .i64 0, .slice none 0 0, .int .i64 0, .slice none 0 0, .int .i64 0, .slice none 0 0] 34)).alloc (Obj.cells #[.int .i64 1, .slice none 0 0] 31)).heap.size = w.heap.size + 1 + 1 + 1 + 1 + 1 := by simp
  obtain ⟨hB, hV, hG, hZ⟩ := four_out (o1 := (Obj.cells #[.int .i64 e0, .string e1, .int .i64 e2, .int .i64 e3, .slice e5 e4 e6, .int .i64 e7, .slice e9 e8 e10, .int .i64 e11, .slice e13 e12 e14] 34)) (o2 := (Obj.cells #[.int .i64 kf, .slice af nf cf] 31)) (o3 := (Obj.cells #[.int .i64 kg, .slice ag ng cg] 31)) (o4 := (Obj.cells #[.int .i64 0, .string ⟨#[]⟩, .int .i64 0, .int .i64 0, .slice none 0 0, .int .i64 0, .slice none 0 0, .int .i64 0, .slice none 0 0] 34)) ((Below.refl ((((w.alloc (Obj.cells #[.int .i64 e0, .string e1, .int .i64 e2, .int .i64 e3, .slice e5 e4 e6, .int .i64 e7, .slice e9 e8 e10, .int .i64 e11, .slice e13 e12 e14] 34)).alloc (Obj.cells #[.int .i64 kf, .slice af nf cf] 31)).alloc (Obj.cells #[.int .i64 kg, .slice ag ng cg] 31)).alloc (Obj.cells #[.int .i64 0, .string ⟨#[]⟩, .int .i64 0, .int .i64 0, .slice none 0 0, .int .i64 0, .slice none 0 0, .int .i64 0, .slice none 0 0] 34)).heap.size ((((w.alloc (Obj.cells #[.int .i64 e0, .string e1, .int .i64 e2, .int .i64 e3, .slice e5 e4 e6, .int .i64 e7, .slice e9 e8 e10, .int .i64 e11, .slice e13 e12 e14] 34)).alloc (Obj.cells #[.int .i64 kf, .slice af nf cf] 31)).alloc (Obj.cells #[.int .i64 kg, .slice ag ng cg] 31)).alloc (Obj.cells #[.int .i64 0, .string ⟨#[]⟩, .int .i64 0, .int .i64 0, .slice none 0 0, .int .i64 0, .slice none 0 0, .int .i64 0, .slice none 0 0] 34))).alloc (Nat.le_refl _) (Obj.cells #[.int .i64 1, .slice none 0 0] 31))
  have hU := alloc_new ((((w.alloc (Obj.cells #[.int .i64 e0, .string e1, .int .i64 e2, .int .i64 e3, .slice e5 e4 e6, .int .i64 e7, .slice e9 e8 e10, .int .i64 e11, .slice e13 e12 e14] 34)).alloc (Obj.cells #[.int .i64 kf, .slice af nf cf] 31)).alloc (Obj.cells #[.int .i64 kg, .slice ag ng cg] 31)).alloc (Obj.cells #[.int .i64 0, .string ⟨#[]⟩, .int .i64 0, .int .i64 0, .slice none 0 0, .int .i64 0, .slice none 0 0, .int .i64 0, .slice none 0 0] 34)) (Obj.cells #[.int .i64 1, .slice none 0 0] 31)
  rw [show ((((w.alloc (Obj.cells #[.int .i64 e0, .string e1, .int .i64 e2, .int .i64 e3, .slice e5 e4 e6, .int .i64 e7, .slice e9 e8 e10, .int .i64 e11, .slice e13 e12 e14] 34)).alloc (Obj.cells #[.int .i64 kf, .slice af nf cf] 31)).alloc (Obj.cells #[.int .i64 kg, .slice ag ng cg] 31)).alloc (Obj.cells #[.int .i64 0, .string ⟨#[]⟩, .int .i64 0, .int .i64 0, .slice none 0 0, .int .i64 0, .slice none 0 0, .int .i64 0, .slice none 0 0] 34)).heap.size = w.heap.size + 1 + 1 + 1 + 1 by simp] at hU
  have hE1 := hat.below hb0
  have hF1 := hfr.below hb0
  have hG1 := htg.below hb0
  clear hat hfr htg
  go_enter Tryd.func65, Tryd.ntmps65
  go_upto_region 2 with (fail)
  generalize (((((w.alloc (Obj.cells #[.int .i64 e0, .string e1, .int .i64 e2, .int .i64 e3, .slice e5 e4 e6, .int .i64 e7, .slice e9 e8 e10, .int .i64 e11, .slice e13 e12 e14] 34)).alloc (Obj.cells #[.int .i64 kf, .slice af nf cf] 31)).alloc (Obj.cells #[.int .i64 kg, .slice ag ng cg] 31)).alloc (Obj.cells #[.int .i64 0, .string ⟨#[]⟩, .int .i64 0, .int .i64 0, .slice none 0 0, .int .i64 0, .slice none 0 0, .int .i64 0, .slice none 0 0] 34)).alloc (Obj.cells #[.int .i64 1, .slice none 0 0] 31)) = W1 at hB hV hG hZ hU hE1 hF1 hG1 hb0 hs0 ⊢
  have HS := hid (show ∀ W, Below W1.heap.size W1 W → W.cell? ⟨w.heap.size, 0, none⟩ = some (.int .i64 e0) ∧ W.cell? ⟨w.heap.size, 1, none⟩ = some (.string e1) ∧ W.cell? ⟨w.heap.size, 2, none⟩ = some (.int .i64 e2) ∧ W.cell? ⟨w.heap.size, 3, none⟩ = some (.int .i64 e3) ∧ W.cell? ⟨w.heap.size, 4, none⟩ = some (.slice e5 e4 e6) ∧ W.cell? ⟨w.heap.size, 5, none⟩ = some (.int .i64 e7) ∧ W.cell? ⟨w.heap.size, 6, none⟩ = some (.slice e9 e8 e10) ∧ W.cell? ⟨w.heap.size, 7, none⟩ = some (.int .i64 e11) ∧ W.cell? ⟨w.heap.size, 8, none⟩ = some (.slice e13 e12 e14) ∧ W.cell? ⟨w.heap.size + 1, 0, none⟩ = some (.int .i64 kf) ∧ W.cell? ⟨w.heap.size + 1, 1, none⟩ = some (.slice af nf cf) ∧ W.cell? ⟨w.heap.size + 1 + 1, 0, none⟩ = some (.int .i64 kg) ∧ W.cell? ⟨w.heap.size + 1 + 1, 1, none⟩ = some (.slice ag ng cg) ∧ W.cell? ⟨w.heap.size + 1 + 1 + 1 + 1, 0, none⟩ = some (.int .i64 1) ∧ W.cell? ⟨w.heap.size + 1 + 1 + 1 + 1, 1, none⟩ = some (.slice none 0 0) from fun W hW => by
    obtain ⟨q0, q1, q2, q3, q4, q5, q6, q7, q8⟩ := cells9 (blk hB hW)
    exact ⟨q0, q1, q2, q3, q4, q5, q6, q7, q8, by rw [cell_of_block (blk hV hW)]; rfl, by rw [cell_of_block (blk hV hW)]; rfl, by rw [cell_of_block (blk hG hW)]; rfl, by rw [cell_of_block (blk hG hW)]; rfl, by rw [cell_of_block (blk hU hW)]; rfl, by rw [cell_of_block (blk hU hW)]; rfl⟩)
  have HE := hid (fun W (hW : Below W1.heap.size W1 W) => hE1.below hW)
  have HF := hid (fun W (hW : Below W1.heap.size W1 W) => hF1.below hW)
  have HG := hid (fun W (hW : Below W1.heap.size W1 W) => hG1.below hW)
  have HB := hid (And.intro hb0 hs0)
  have HZ := hid hZ
  clear hE1 hF1 hG1 hB hV hG hZ hU hb0 hs0
  refine regionL (s := 9) (S0 := (fun w' => w'.cell? ⟨w.heap.size, 0, none⟩ = some (.int .i64 e0) ∧ w'.cell? ⟨w.heap.size, 1, none⟩ = some (.string e1) ∧ w'.cell? ⟨w.heap.size, 2, none⟩ = some (.int .i64 e2) ∧ w'.cell? ⟨w.heap.size, 3, none⟩ = some (.int .i64 e3) ∧ w'.cell? ⟨w.heap.size, 4, none⟩ = some (.slice e5 e4 e6) ∧ w'.cell? ⟨w.heap.size, 5, none⟩ = some (.int .i64 e7) ∧ w'.cell? ⟨w.heap.size, 6, none⟩ = some (.slice e9 e8 e10) ∧ w'.cell? ⟨w.heap.size, 7, none⟩ = some (.int .i64 e11) ∧ w'.cell? ⟨w.heap.size, 8, none⟩ = some (.slice e13 e12 e14) ∧ w'.cell? ⟨w.heap.size + 1, 0, none⟩ = some (.int .i64 kf) ∧ w'.cell? ⟨w.heap.size + 1, 1, none⟩ = some (.slice af nf cf) ∧ w'.cell? ⟨w.heap.size + 1 + 1, 0, none⟩ = some (.int .i64 kg) ∧ w'.cell? ⟨w.heap.size + 1 + 1, 1, none⟩ = some (.slice ag ng cg) ∧ w'.cell? ⟨w.heap.size + 1 + 1 + 1 + 1, 0, none⟩ = some (.int .i64 1) ∧ w'.cell? ⟨w.heap.size + 1 + 1 + 1 + 1, 1, none⟩ = some (.slice none 0 0))) (S1 := (fun _ => True)) (by kernel_rfl) (HS.out _ (below_drew W1)) (trivial) (fun hS0 => ?_)
  refine takeL0 (i := 0) (v := ?v1) rfl rfl (by kernel_rfl) (by kernel_rfl) (by kernel_rfl) (by decide) (by kernel_rfl) (by kernel_rfl) (fun _ _ _ h => h) (Or.inl ⟨by rfl, ?hy1⟩) (by assumption) ?_
  case hy1 => (intro w hSw; (try dsimp only at hSw); go_simp; (try with_reducible rfl))
  try simp only [Act.put, List.setIfInBounds_toArray, List.set_cons_zero, List.set_cons_succ]
  refine takeL0 (i := 1) (v := ?v2) rfl rfl (by kernel_rfl) (by kernel_rfl) (by kernel_rfl) (by decide) (by kernel_rfl) (by kernel_rfl) (fun _ _ _ h => h) (Or.inl ⟨by rfl, ?hy2⟩) (by assumption) ?_
  case hy2 => (intro w hSw; (try dsimp only at hSw); go_simp; (try with_reducible rfl))
  try simp only [Act.put, List.setIfInBounds_toArray, List.set_cons_zero, List.set_cons_succ]
  refine takeL0 (i := 2) (v := ?v3) rfl rfl (by kernel_rfl) (by kernel_rfl) (by kernel_rfl) (by decide) (by kernel_rfl) (by kernel_rfl) (fun _ _ _ h => h) (Or.inl ⟨by rfl, ?hy3⟩) (by assumption) ?_
  case hy3 => (intro w hSw; (try dsimp only at hSw); go_simp; (try with_reducible rfl))
  try simp only [Act.put, List.setIfInBounds_toArray, List.set_cons_zero, List.set_cons_succ]
  refine takeL0 (i := 3) (v := ?v4) rfl rfl (by kernel_rfl) (by kernel_rfl) (by kernel_rfl) (by decide) (by kernel_rfl) (by kernel_rfl) (fun _ _ _ h => h) (Or.inl ⟨by rfl, ?hy4⟩) (by assumption) ?_
  case hy4 => (intro w hSw; (try dsimp only at hSw); go_simp; (try with_reducible rfl))
  try simp only [Act.put, List.setIfInBounds_toArray, List.set_cons_zero, List.set_cons_succ]
  refine takeL0 (i := 5) (v := ?v5) rfl rfl (by kernel_rfl) (by kernel_rfl) (by kernel_rfl) (by decide) (by kernel_rfl) (by kernel_rfl) (fun _ _ _ h => h) (Or.inl ⟨by rfl, ?hy5⟩) (by assumption) ?_
  case hy5 => (intro w hSw; (try dsimp only at hSw); go_simp; (try with_reducible rfl))
  try simp only [Act.put, List.setIfInBounds_toArray, List.set_cons_zero, List.set_cons_succ]
  refine takeL0 (i := 6) (v := ?v6) rfl rfl (by kernel_rfl) (by kernel_rfl) (by kernel_rfl) (by decide) (by kernel_rfl) (by kernel_rfl) (fun _ _ _ h => h) (Or.inl ⟨by rfl, ?hy6⟩) (by assumption) ?_
  case hy6 => (intro w hSw; (try dsimp only at hSw); go_simp; (try with_reducible rfl))
  try simp only [Act.put, List.setIfInBounds_toArray, List.set_cons_zero, List.set_cons_succ]
  refine takeL0 (i := 7) (v := ?v7) rfl rfl (by kernel_rfl) (by kernel_rfl) (by kernel_rfl) (by decide) (by kernel_rfl) (by kernel_rfl) (fun _ _ _ h => h) (Or.inl ⟨by rfl, ?hy7⟩) (by assumption) ?_
  case hy7 => (intro w hSw; (try dsimp only at hSw); go_simp; (try with_reducible rfl))
  try simp only [Act.put, List.setIfInBounds_toArray, List.set_cons_zero, List.set_cons_succ]
  refine readyL (rs := [4]) (by kernel_rfl) (by simp) ?_
  refine AllReadyL.cons rfl (fun K hK => ?_) AllReadyL.nil
  go_simp
  refine (newCast_fr t fr (.mk 1 []) lb _ _ _ ef ff [] _ (HE.out _ (below_drew W1)) (HF.out _ (below_drew W1)) (unk_at _)).mono ?_
  rintro e w3 ⟨N1, v3, rfl, hu3, hn1, hm1, hz1, hb3⟩
  obtain ⟨r0, r1, r2, r3, r4, r5, r6, r7, r8, r9, r10, r11, r12, r13, r14, rfl⟩ := hu3.agg
  have hk3 := below_trans (below_drew W1) hb3
  refine hK.out _ _ ?_ (fun hS1 => ?_)
  · exact ⟨trivial, fun _ => HS.out _ hk3⟩
  clear hK K hS0
  try simp only [Act.put, List.setIfInBounds_toArray, List.set_cons_zero, List.set_cons_succ]
  refine readyL (rs := [8]) (by kernel_rfl) (by simp) ?_
  refine AllReadyL.cons rfl (fun K hK => ?_) AllReadyL.nil
  go_simp
  refine (newCast_fr _ (.mk 1 []) tg lb _ _ _ _ [] gf _ hu3 (unk_at _) (HG.out _ hk3)).mono ?_
  rintro e w5 ⟨N2, v5, rfl, hu5, hn2, hm2, hz2, hb5⟩
  obtain ⟨s0, s1, s2, s3, s4, s5, s6, s7, s8, s9, s10, s11, s12, s13, s14, rfl⟩ := hu5.agg
  have hk5 := below_trans hk3 hb5
  refine hK.out _ _ ?_ (fun hS2 => ?_)
  · exact ⟨trivial, fun _ => HS.out _ hk5⟩
  clear hK K hS1
  try simp only [Act.put, List.setIfInBounds_toArray, List.set_cons_zero, List.set_cons_succ]
  refine readyL (rs := [9]) (by kernel_rfl) (by simp) ?_
  refine AllReadyL.cons rfl (fun K hK => ?_) AllReadyL.nil
  have hZ5 := blk HZ.out hk5
  obtain ⟨y0, y1, y2, y3, y4, y5, y6, y7, y8⟩ := cells9 hZ5
  have yz := fun o => frozen_of_block (o := o) hZ5
  have hM5 := lt_of_block hZ5
  go_simp
  refine hK.out _ _ ?_ (fun hS3 => ?_)
  · exact ⟨trivial, fun h => absurd (h.symm.trans (show _ = true by kernel_rfl)) (by decide)⟩
  clear hK K hS2
  try simp only [Act.put, List.setIfInBounds_toArray, List.set_cons_zero, List.set_cons_succ]
  refine doneL (by kernel_rfl) ?_ _
  have hz3 : w.heap.size + 1 + 1 + 1 + 1 + 1 ≤ w3.heap.size := by have := hk3.size; have := HB.out.2; omega
  have hz4 : w.heap.size + 1 + 1 + 1 + 1 + 1 ≤ N1 := by have := HB.out.2; have : W1.drew.heap.size = W1.heap.size := rfl; omega
  have hf2 : ∀ o, w5.frozen? ⟨N1, o, none⟩ = false := fun o => (hb5.frozen (p := ⟨N1, o, none⟩) hm1).trans (hz1 o)
  have hN : N1 < w5.heap.size := Nat.lt_of_lt_of_le hm1 hb5.size
  have FIN := hid (thr_close (w := w) (w1 := w5) (M := w.heap.size + 1 + 1 + 1) (vs := [.int .i64 s0, .string s1, .int .i64 s2, .int .i64 s3, .slice s5 s4 s6, .int .i64 s7, .slice s9 s8 s10, .int .i64 s11, .slice s13 s12 s14]) hu5 (by omega) (by omega) hm2 hf2 hz2 hN (fun x hx => HLT.out x hx) (HB.out.1.trans (hk5.mono (by have := HB.out.2; omega))) (by omega) (by omega))
  simp only [put, Nat.zero_add, Nat.reduceAdd] at FIN
  clear hu3 hu5 hb3 hb5 hk3 hk5 HS HE HF HG HB HZ hz1 hz2 hf2
  go_wp2_with fail
  exact bodyPost_ret (v := .agg #[.int .i64 s0, .string s1, .int .i64 s2, .int .i64 s3, .slice s5 s4 s6, .int .i64 s7, .slice s9 s8 s10, .int .i64 s11, .slice s13 s12 s14]) (by simp [results, Tryd.results65, go_sem, y0, y1, y2, y3, y4, y5, y6, y7, y8]) rfl FIN.out

theorem th_fresh {B : Nat} {w W w' : World} {e : Ending} {ef ff gf : List Nat} {u : Tm} (hFs : Fresh B w (gf ++ (ff ++ ef))) (hW : Below w.heap.size w W) (hz : w.heap.size + 2 ≤ W.heap.size) (hB : B ≤ w.heap.size) (h : ThOut W ef ff gf u e w') :
    ∃ v5 f5, e = .returned v5 ∧ u.At w' v5 f5 ∧ Fresh B w' f5 ∧ (∀ x ∈ f5, x ≠ w.heap.size + 1) ∧ (∀ x ∈ f5, x ∈ gf ++ (ff ++ ef) ∨ w.heap.size ≤ x) ∧ Below W.heap.size W w' := by
  obtain ⟨N1, N2, v, rfl, h1, hN1, hN2, hN3, z1, z2, hb⟩ := h
  have hlt : ∀ x ∈ gf ++ (ff ++ ef), x < w.heap.size := fun x hx => (hFs.2 x hx).2.1
  have hf' := (hFs.below hW).below hb
  have P : (gf ++ (N2 :: (ff ++ (N1 :: ef)))).Perm (N2 :: N1 :: (gf ++ (ff ++ ef))) := List.perm_middle.trans (((List.perm_middle.append_left gf).trans List.perm_middle).cons N2)
  have hb2 := hb.size
  refine ⟨_, _, rfl, h1, ⟨P.nodup_iff.2 (List.nodup_cons.2 ⟨fun hm => ?_, List.nodup_cons.2 ⟨fun hm => ?_, hf'.1⟩⟩), fun b hb => ?_⟩, fun x hx => ?_, fun x hx => ?_, hb⟩
  · rcases List.mem_cons.1 hm with hm | hm
    · omega
    · have := hlt _ hm; omega
  · have := hlt _ hm; omega
  · rcases List.mem_cons.1 (P.mem_iff.1 hb) with rfl | hb
    · exact ⟨by omega, hN3, z2⟩
    · rcases List.mem_cons.1 hb with rfl | hb
      · exact ⟨by omega, by omega, z1⟩
      · exact hf'.2 b hb
  · rcases List.mem_cons.1 (P.mem_iff.1 hx) with rfl | hx
    · omega
    · rcases List.mem_cons.1 hx with rfl | hx
      · omega
      · have := hlt _ hx; omega
  · rcases List.mem_cons.1 (P.mem_iff.1 hx) with rfl | hx
    · exact .inr (by omega)
    · rcases List.mem_cons.1 hx with rfl | hx
      · exact .inr (by omega)
      · exact .inl hx

set_option linter.unusedVariables false in
set_option linter.unusedSimpArgs false in
set_option maxRecDepth 100000 in
set_option maxHeartbeats 4000000 in
theorem splitK_any : RuC 42 ruK := by
  refine ⟨fun _ _ => by kernel_rfl, ?_⟩
  intro t v fp B w hat hf hBw hg
  have hlt := hat.lt
  obtain ⟨k, nm, num, ty, fr, lb, ts, rfl⟩ := t.shape
  obtain ⟨k1, n1, a1, c1, k2, n2, a2, c2, a3, c3, f1, f2, f3, rfl, hnm, ht1, ht2, rfl, hs⟩ := hat.parts
  simp only [gdM] at hg
  have hF1 := hf.sub (List.sublist_append_left f1 (f2 ++ f3))
  have hF23 := hf.sub (List.sublist_append_right f1 (f2 ++ f3))
  have hF2 := hF23.sub (List.sublist_append_left f2 f3)
  have hF3 := hF23.sub (List.sublist_append_right f2 f3)
  have hl3 : ∀ x ∈ f3, x < w.heap.size := fun x hx => hlt x (by simp [hx])
  have r1 := Fresh.raw ht1 hF1
  have r2 := Fresh.raw ht2 hF2
  generalize hR : ruK (.mk k nm num ty fr lb ts) = R
  by_cases hk : k = 14
  case neg =>
    have hk' : (k == 14) = false := by simpa using hk
    have HR := hid (show R = none from by rw [← hR]; simp [ruK, hk])
    have hb0 : Below w.heap.size w ((w.alloc (Obj.cells #[.int .i64 k, .string nm, .int .i64 num, .int .i64 k1, .slice a1 n1 c1, .int .i64 k2, .slice a2 n2 c2, .int .i64 lb, .slice a3 ts.length c3] 34)).alloc (Obj.cells #[.int .i64 0, .string ⟨#[]⟩, .int .i64 0, .int .i64 0, .slice none 0 0, .int .i64 0, .slice none 0 0, .int .i64 0, .slice none 0 0] 34)) := ((Below.refl _ _).alloc (Nat.le_refl _) _).alloc (by simp) _
    have hs0 : ((w.alloc (Obj.cells #[.int .i64 k, .string nm, .int .i64 num, .int .i64 k1, .slice a1 n1 c1, .int .i64 k2, .slice a2 n2 c2, .int .i64 lb, .slice a3 ts.length c3] 34)).alloc (Obj.cells #[.int .i64 0, .string ⟨#[]⟩, .int .i64 0, .int .i64 0, .slice none 0 0, .int .i64 0, .slice none 0 0, .int .i64 0, .slice none 0 0] 34)).heap.size = w.heap.size + 1 + 1 := by simp
    obtain ⟨hB0, hZ0⟩ := two_out (Below.refl ((w.alloc (Obj.cells #[.int .i64 k, .string nm, .int .i64 num, .int .i64 k1, .slice a1 n1 c1, .int .i64 k2, .slice a2 n2 c2, .int .i64 lb, .slice a3 ts.length c3] 34)).alloc (Obj.cells #[.int .i64 0, .string ⟨#[]⟩, .int .i64 0, .int .i64 0, .slice none 0 0, .int .i64 0, .slice none 0 0, .int .i64 0, .slice none 0 0] 34)).heap.size ((w.alloc (Obj.cells #[.int .i64 k, .string nm, .int .i64 num, .int .i64 k1, .slice a1 n1 c1, .int .i64 k2, .slice a2 n2 c2, .int .i64 lb, .slice a3 ts.length c3] 34)).alloc (Obj.cells #[.int .i64 0, .string ⟨#[]⟩, .int .i64 0, .int .i64 0, .slice none 0 0, .int .i64 0, .slice none 0 0, .int .i64 0, .slice none 0 0] 34)))
    clear hat r1 r2 hF1 hF2 hF3 hF23 hs ht1 ht2 hf hR hg hl3 hlt
    go_enter Tryd.func42, Tryd.ntmps42
    go_upto_region 1 with (fail)
    generalize ((w.alloc (Obj.cells #[.int .i64 k, .string nm, .int .i64 num, .int .i64 k1, .slice a1 n1 c1, .int .i64 k2, .slice a2 n2 c2, .int .i64 lb, .slice a3 ts.length c3] 34)).alloc (Obj.cells #[.int .i64 0, .string ⟨#[]⟩, .int .i64 0, .int .i64 0, .slice none 0 0, .int .i64 0, .slice none 0 0, .int .i64 0, .slice none 0 0] 34)) = W1 at hB0 hZ0 hb0 ⊢
    obtain ⟨x0, x1, x2, x3, x4, x5, x6, x7, x8⟩ := cells9 hB0
    obtain ⟨y0, y1, y2, y3, y4, y5, y6, y7, y8⟩ := cells9 hZ0
    have yz := fun o => frozen_of_block (o := o) hZ0
    have hM := lt_of_block hZ0
    obtain rfl := HR.out
    have FIN := hid (zero_ru (B := B) (fp := f1 ++ (f2 ++ f3)) (M := w.heap.size + 1) hb0 (by omega))
    simp only [put, Nat.zero_add, Nat.reduceAdd] at FIN
    go_wp2_with fail
    exact bodyPost_ret (v := .tuple #[.agg (Array.mk [.int .i64 0, .string ⟨#[]⟩, .int .i64 0, .int .i64 0, .slice none 0 0, .int .i64 0, .slice none 0 0, .int .i64 0, .slice none 0 0]), .bool false]) (by simp [results, Tryd.results42, go_sem, y0, y1, y2, y3, y4, y5, y6, y7, y8]) rfl FIN.out
  subst hk
  obtain ⟨hl0, hc1, hc2⟩ := hg.1 rfl
  have hk2 : kdY fr = k2 := by
    obtain ⟨kk, tt, rfl⟩ := fr.shape
    obtain ⟨s, e, _⟩ := Ty.at_mk.1 ht2
    cases e
    rfl
  have hk1 : kdY ty = k1 := by
    obtain ⟨kk, tt, rfl⟩ := ty.shape
    obtain ⟨s, e, _⟩ := Ty.at_mk.1 ht1
    cases e
    rfl
  obtain ⟨b, o, q0, q1, q2, q3, q4, q5, q6, q7, q8, q9, q10, q11, q12, q13, q14, g, rfl, -, hcc, hmm, hblt, d0, d1, d2, d3, d4, d5, d6, d7, d8, hdat, hsub⟩ := headAt hs hl0
  have hpos : (0 : Int) < (ts.length : Int) := by omega
  have hdF := hF3.sub hsub
  have hdlt : ∀ x ∈ g, x < w.heap.size := fun x hx => hl3 x (hsub.subset hx)
  have HR := hid (show R = if kdY fr ≠ 1 ∧ kdY ty ≠ 1 then some (cast2 (headT ts) fr ty lb) else none from by rw [← hR]; simp [ruK])
  simp only [hk1, hk2] at HR
  by_cases h2 : k2 = 1
  case pos =>
    subst h2
    replace HR := hid (HR.out.trans (if_neg (fun h => h.1 rfl)))
    have hb0 : Below w.heap.size w ((w.alloc (Obj.cells #[.int .i64 14, .string nm, .int .i64 num, .int .i64 k1, .slice a1 n1 c1, .int .i64 1, .slice a2 n2 c2, .int .i64 lb, .slice (some ⟨b, o, none⟩) ts.length c3] 34)).alloc (Obj.cells #[.int .i64 0, .string ⟨#[]⟩, .int .i64 0, .int .i64 0, .slice none 0 0, .int .i64 0, .slice none 0 0, .int .i64 0, .slice none 0 0] 34)) := ((Below.refl _ _).alloc (Nat.le_refl _) _).alloc (by simp) _
    have hs0 : ((w.alloc (Obj.cells #[.int .i64 14, .string nm, .int .i64 num, .int .i64 k1, .slice a1 n1 c1, .int .i64 1, .slice a2 n2 c2, .int .i64 lb, .slice (some ⟨b, o, none⟩) ts.length c3] 34)).alloc (Obj.cells #[.int .i64 0, .string ⟨#[]⟩, .int .i64 0, .int .i64 0, .slice none 0 0, .int .i64 0, .slice none 0 0, .int .i64 0, .slice none 0 0] 34)).heap.size = w.heap.size + 1 + 1 := by simp
    obtain ⟨hB0, hZ0⟩ := two_out (Below.refl ((w.alloc (Obj.cells #[.int .i64 14, .string nm, .int .i64 num, .int .i64 k1, .slice a1 n1 c1, .int .i64 1, .slice a2 n2 c2, .int .i64 lb, .slice (some ⟨b, o, none⟩) ts.length c3] 34)).alloc (Obj.cells #[.int .i64 0, .string ⟨#[]⟩, .int .i64 0, .int .i64 0, .slice none 0 0, .int .i64 0, .slice none 0 0, .int .i64 0, .slice none 0 0] 34)).heap.size ((w.alloc (Obj.cells #[.int .i64 14, .string nm, .int .i64 num, .int .i64 k1, .slice a1 n1 c1, .int .i64 1, .slice a2 n2 c2, .int .i64 lb, .slice (some ⟨b, o, none⟩) ts.length c3] 34)).alloc (Obj.cells #[.int .i64 0, .string ⟨#[]⟩, .int .i64 0, .int .i64 0, .slice none 0 0, .int .i64 0, .slice none 0 0, .int .i64 0, .slice none 0 0] 34)))
    clear hat r1 r2 hF1 hF2 hF3 hF23 hs ht1 ht2 hf hR hg hl3 hlt hdat
    go_enter Tryd.func42, Tryd.ntmps42
    go_upto_region 1 with (fail)
    generalize ((w.alloc (Obj.cells #[.int .i64 14, .string nm, .int .i64 num, .int .i64 k1, .slice a1 n1 c1, .int .i64 1, .slice a2 n2 c2, .int .i64 lb, .slice (some ⟨b, o, none⟩) ts.length c3] 34)).alloc (Obj.cells #[.int .i64 0, .string ⟨#[]⟩, .int .i64 0, .int .i64 0, .slice none 0 0, .int .i64 0, .slice none 0 0, .int .i64 0, .slice none 0 0] 34)) = W1 at hB0 hZ0 hb0 hs0 ⊢
    obtain ⟨x0, x1, x2, x3, x4, x5, x6, x7, x8⟩ := cells9 hB0
    obtain ⟨y0, y1, y2, y3, y4, y5, y6, y7, y8⟩ := cells9 hZ0
    have yz := fun o => frozen_of_block (o := o) hZ0
    have hM := lt_of_block hZ0
    obtain rfl := HR.out
    have FIN := hid (zero_ru (B := B) (fp := f1 ++ (f2 ++ f3)) (M := w.heap.size + 1) hb0 (by omega))
    simp only [put, Nat.zero_add, Nat.reduceAdd] at FIN
    go_wp2_with fail
    exact bodyPost_ret (v := .tuple #[.agg (Array.mk [.int .i64 0, .string ⟨#[]⟩, .int .i64 0, .int .i64 0, .slice none 0 0, .int .i64 0, .slice none 0 0, .int .i64 0, .slice none 0 0]), .bool false]) (by simp [results, Tryd.results42, go_sem, y0, y1, y2, y3, y4, y5, y6, y7, y8]) rfl FIN.out
  have h2' : (k2 == 1) = false := by simpa using h2
  by_cases h3 : k1 = 1
  case pos =>
    subst h3
    replace HR := hid (HR.out.trans (if_neg (fun h => h.2 rfl)))
    have hb0 : Below w.heap.size w ((w.alloc (Obj.cells #[.int .i64 14, .string nm, .int .i64 num, .int .i64 1, .slice a1 n1 c1, .int .i64 k2, .slice a2 n2 c2, .int .i64 lb, .slice (some ⟨b, o, none⟩) ts.length c3] 34)).alloc (Obj.cells #[.int .i64 0, .string ⟨#[]⟩, .int .i64 0, .int .i64 0, .slice none 0 0, .int .i64 0, .slice none 0 0, .int .i64 0, .slice none 0 0] 34)) := ((Below.refl _ _).alloc (Nat.le_refl _) _).alloc (by simp) _
    have hs0 : ((w.alloc (Obj.cells #[.int .i64 14, .string nm, .int .i64 num, .int .i64 1, .slice a1 n1 c1, .int .i64 k2, .slice a2 n2 c2, .int .i64 lb, .slice (some ⟨b, o, none⟩) ts.length c3] 34)).alloc (Obj.cells #[.int .i64 0, .string ⟨#[]⟩, .int .i64 0, .int .i64 0, .slice none 0 0, .int .i64 0, .slice none 0 0, .int .i64 0, .slice none 0 0] 34)).heap.size = w.heap.size + 1 + 1 := by simp
    obtain ⟨hB0, hZ0⟩ := two_out (Below.refl ((w.alloc (Obj.cells #[.int .i64 14, .string nm, .int .i64 num, .int .i64 1, .slice a1 n1 c1, .int .i64 k2, .slice a2 n2 c2, .int .i64 lb, .slice (some ⟨b, o, none⟩) ts.length c3] 34)).alloc (Obj.cells #[.int .i64 0, .string ⟨#[]⟩, .int .i64 0, .int .i64 0, .slice none 0 0, .int .i64 0, .slice none 0 0, .int .i64 0, .slice none 0 0] 34)).heap.size ((w.alloc (Obj.cells #[.int .i64 14, .string nm, .int .i64 num, .int .i64 1, .slice a1 n1 c1, .int .i64 k2, .slice a2 n2 c2, .int .i64 lb, .slice (some ⟨b, o, none⟩) ts.length c3] 34)).alloc (Obj.cells #[.int .i64 0, .string ⟨#[]⟩, .int .i64 0, .int .i64 0, .slice none 0 0, .int .i64 0, .slice none 0 0, .int .i64 0, .slice none 0 0] 34)))
    clear hat r1 r2 hF1 hF2 hF3 hF23 hs ht1 ht2 hf hR hg hl3 hlt hdat
    go_enter Tryd.func42, Tryd.ntmps42
    go_upto_region 1 with (fail)
    generalize ((w.alloc (Obj.cells #[.int .i64 14, .string nm, .int .i64 num, .int .i64 1, .slice a1 n1 c1, .int .i64 k2, .slice a2 n2 c2, .int .i64 lb, .slice (some ⟨b, o, none⟩) ts.length c3] 34)).alloc (Obj.cells #[.int .i64 0, .string ⟨#[]⟩, .int .i64 0, .int .i64 0, .slice none 0 0, .int .i64 0, .slice none 0 0, .int .i64 0, .slice none 0 0] 34)) = W1 at hB0 hZ0 hb0 hs0 ⊢
    obtain ⟨x0, x1, x2, x3, x4, x5, x6, x7, x8⟩ := cells9 hB0
    obtain ⟨y0, y1, y2, y3, y4, y5, y6, y7, y8⟩ := cells9 hZ0
    have yz := fun o => frozen_of_block (o := o) hZ0
    have hM := lt_of_block hZ0
    obtain rfl := HR.out
    have FIN := hid (zero_ru (B := B) (fp := f1 ++ (f2 ++ f3)) (M := w.heap.size + 1) hb0 (by omega))
    simp only [put, Nat.zero_add, Nat.reduceAdd] at FIN
    go_wp2_with fail
    exact bodyPost_ret (v := .tuple #[.agg (Array.mk [.int .i64 0, .string ⟨#[]⟩, .int .i64 0, .int .i64 0, .slice none 0 0, .int .i64 0, .slice none 0 0, .int .i64 0, .slice none 0 0]), .bool false]) (by simp [results, Tryd.results42, go_sem, y0, y1, y2, y3, y4, y5, y6, y7, y8]) rfl FIN.out
  have h3' : (k1 == 1) = false := by simpa using h3
  replace HR := hid (HR.out.trans (if_pos ⟨h2, h3⟩))
  have hFs := hf.sub ((List.Sublist.append_left ((List.Sublist.refl f2).append hsub) f1))
  have HIN := hid (fun (l : List Nat) (h : ∀ x ∈ l, x ∈ f1 ++ (f2 ++ g) ∨ w.heap.size ≤ x) => (show ∀ x ∈ l, x ∈ f1 ++ (f2 ++ f3) ∨ w.heap.size ≤ x from fun x hx => (h x hx).imp (fun h => ((List.Sublist.append_left ((List.Sublist.refl f2).append hsub) f1)).subset h) id))
  have HTH := hid (fun (W : World) (hW : Below w.heap.size w W) (hz : w.heap.size + 2 ≤ W.heap.size) => (through_any (headT ts) fr ty lb _ _ _ g f2 f1 W (hdat.below hW) (ht2.below hW) (ht1.below hW)).mono (fun e w' h => th_fresh hFs hW hz hBw h))
  have hb0 : Below w.heap.size w ((w.alloc (Obj.cells #[.int .i64 14, .string nm, .int .i64 num, .int .i64 k1, .slice a1 n1 c1, .int .i64 k2, .slice a2 n2 c2, .int .i64 lb, .slice (some ⟨b, o, none⟩) ts.length c3] 34)).alloc (Obj.cells #[.int .i64 0, .string ⟨#[]⟩, .int .i64 0, .int .i64 0, .slice none 0 0, .int .i64 0, .slice none 0 0, .int .i64 0, .slice none 0 0] 34)) := ((Below.refl _ _).alloc (Nat.le_refl _) _).alloc (by simp) _
  have hs0 : ((w.alloc (Obj.cells #[.int .i64 14, .string nm, .int .i64 num, .int .i64 k1, .slice a1 n1 c1, .int .i64 k2, .slice a2 n2 c2, .int .i64 lb, .slice (some ⟨b, o, none⟩) ts.length c3] 34)).alloc (Obj.cells #[.int .i64 0, .string ⟨#[]⟩, .int .i64 0, .int .i64 0, .slice none 0 0, .int .i64 0, .slice none 0 0, .int .i64 0, .slice none 0 0] 34)).heap.size = w.heap.size + 1 + 1 := by simp
  obtain ⟨hB0, hZ0⟩ := two_out (Below.refl ((w.alloc (Obj.cells #[.int .i64 14, .string nm, .int .i64 num, .int .i64 k1, .slice a1 n1 c1, .int .i64 k2, .slice a2 n2 c2, .int .i64 lb, .slice (some ⟨b, o, none⟩) ts.length c3] 34)).alloc (Obj.cells #[.int .i64 0, .string ⟨#[]⟩, .int .i64 0, .int .i64 0, .slice none 0 0, .int .i64 0, .slice none 0 0, .int .i64 0, .slice none 0 0] 34)).heap.size ((w.alloc (Obj.cells #[.int .i64 14, .string nm, .int .i64 num, .int .i64 k1, .slice a1 n1 c1, .int .i64 k2, .slice a2 n2 c2, .int .i64 lb, .slice (some ⟨b, o, none⟩) ts.length c3] 34)).alloc (Obj.cells #[.int .i64 0, .string ⟨#[]⟩, .int .i64 0, .int .i64 0, .slice none 0 0, .int .i64 0, .slice none 0 0, .int .i64 0, .slice none 0 0] 34)))
  clear hat r1 r2 hF1 hF2 hF3 hF23 hs ht1 ht2 hf hR hg hl3 hlt hdat
  go_enter Tryd.func42, Tryd.ntmps42
  go_upto_region 1 with (fail)
  generalize ((w.alloc (Obj.cells #[.int .i64 14, .string nm, .int .i64 num, .int .i64 k1, .slice a1 n1 c1, .int .i64 k2, .slice a2 n2 c2, .int .i64 lb, .slice (some ⟨b, o, none⟩) ts.length c3] 34)).alloc (Obj.cells #[.int .i64 0, .string ⟨#[]⟩, .int .i64 0, .int .i64 0, .slice none 0 0, .int .i64 0, .slice none 0 0, .int .i64 0, .slice none 0 0] 34)) = W1 at hB0 hZ0 hb0 hs0 ⊢
  obtain ⟨x0, x1, x2, x3, x4, x5, x6, x7, x8⟩ := cells9 hB0
  obtain ⟨y0, y1, y2, y3, y4, y5, y6, y7, y8⟩ := cells9 hZ0
  have yz := fun o => frozen_of_block (o := o) hZ0
  have hM := lt_of_block hZ0
  clear x0 x1 x2 x3 x4 x5 x6 x7 x8 y0 y1 y2 y3 y4 y5 y6 y7 y8 yz hM
  have HS := hid (show ∀ W, Below W1.heap.size W1 W → W.cell? ⟨w.heap.size, 0, none⟩ = some (.int .i64 14) ∧ W.cell? ⟨w.heap.size, 1, none⟩ = some (.string nm) ∧ W.cell? ⟨w.heap.size, 2, none⟩ = some (.int .i64 num) ∧ W.cell? ⟨w.heap.size, 3, none⟩ = some (.int .i64 k1) ∧ W.cell? ⟨w.heap.size, 4, none⟩ = some (.slice a1 n1 c1) ∧ W.cell? ⟨w.heap.size, 5, none⟩ = some (.int .i64 k2) ∧ W.cell? ⟨w.heap.size, 6, none⟩ = some (.slice a2 n2 c2) ∧ W.cell? ⟨w.heap.size, 7, none⟩ = some (.int .i64 lb) ∧ W.cell? ⟨w.heap.size, 8, none⟩ = some (.slice (some ⟨b, o, none⟩) ts.length c3) ∧ W.cell? ⟨b, o, none⟩ = some (.int .i64 q0) ∧ W.cell? ⟨b, o + 1, none⟩ = some (.string q1) ∧ W.cell? ⟨b, o + 2, none⟩ = some (.int .i64 q2) ∧ W.cell? ⟨b, o + 3, none⟩ = some (.int .i64 q3) ∧ W.cell? ⟨b, o + 4, none⟩ = some (.slice q5 q4 q6) ∧ W.cell? ⟨b, o + 5, none⟩ = some (.int .i64 q7) ∧ W.cell? ⟨b, o + 6, none⟩ = some (.slice q9 q8 q10) ∧ W.cell? ⟨b, o + 7, none⟩ = some (.int .i64 q11) ∧ W.cell? ⟨b, o + 8, none⟩ = some (.slice q13 q12 q14) from fun W hW => by
    obtain ⟨x0, x1, x2, x3, x4, x5, x6, x7, x8⟩ := cells9 (blk hB0 hW)
    have hk := below_trans hb0 hW
    exact ⟨x0, x1, x2, x3, x4, x5, x6, x7, x8, cell_keep d0 hk, cell_keep d1 hk, cell_keep d2 hk, cell_keep d3 hk, cell_keep d4 hk, cell_keep d5 hk, cell_keep d6 hk, cell_keep d7 hk, cell_keep d8 hk⟩)
  obtain ⟨x0, x1, x2, x3, x4, x5, x6, x7, x8⟩ := cells9 hB0
  go_upto_region 3 with (fail)
  refine regionL (s := 11) (S0 := (fun w' => w'.cell? ⟨w.heap.size, 0, none⟩ = some (.int .i64 14) ∧ w'.cell? ⟨w.heap.size, 1, none⟩ = some (.string nm) ∧ w'.cell? ⟨w.heap.size, 2, none⟩ = some (.int .i64 num) ∧ w'.cell? ⟨w.heap.size, 3, none⟩ = some (.int .i64 k1) ∧ w'.cell? ⟨w.heap.size, 4, none⟩ = some (.slice a1 n1 c1) ∧ w'.cell? ⟨w.heap.size, 5, none⟩ = some (.int .i64 k2) ∧ w'.cell? ⟨w.heap.size, 6, none⟩ = some (.slice a2 n2 c2) ∧ w'.cell? ⟨w.heap.size, 7, none⟩ = some (.int .i64 lb) ∧ w'.cell? ⟨w.heap.size, 8, none⟩ = some (.slice (some ⟨b, o, none⟩) ts.length c3) ∧ w'.cell? ⟨b, o, none⟩ = some (.int .i64 q0) ∧ w'.cell? ⟨b, o + 1, none⟩ = some (.string q1) ∧ w'.cell? ⟨b, o + 2, none⟩ = some (.int .i64 q2) ∧ w'.cell? ⟨b, o + 3, none⟩ = some (.int .i64 q3) ∧ w'.cell? ⟨b, o + 4, none⟩ = some (.slice q5 q4 q6) ∧ w'.cell? ⟨b, o + 5, none⟩ = some (.int .i64 q7) ∧ w'.cell? ⟨b, o + 6, none⟩ = some (.slice q9 q8 q10) ∧ w'.cell? ⟨b, o + 7, none⟩ = some (.int .i64 q11) ∧ w'.cell? ⟨b, o + 8, none⟩ = some (.slice q13 q12 q14))) (S1 := (fun _ => True)) (by kernel_rfl) (HS.out _ (below_drew W1)) (trivial) (fun hS0 => ?_)
  refine takeL0 (i := 0) (v := ?vs1) rfl rfl (by kernel_rfl) (by kernel_rfl) (by kernel_rfl) (by decide) (by kernel_rfl) (by kernel_rfl) (fun _ _ _ h => h) (Or.inl ⟨by rfl, ?hys1⟩) (by assumption) ?_
  case hys1 => (intro w hSw; (try dsimp only at hSw); go_simp; (try with_reducible rfl))
  try simp only [Act.put, List.setIfInBounds_toArray, List.set_cons_zero, List.set_cons_succ]
  refine takeL0 (i := 1) (v := ?vs2) rfl rfl (by kernel_rfl) (by kernel_rfl) (by kernel_rfl) (by decide) (by kernel_rfl) (by kernel_rfl) (fun _ _ _ h => h) (Or.inl ⟨by rfl, ?hys2⟩) (by assumption) ?_
  case hys2 => (intro w hSw; (try dsimp only at hSw); go_simp; (try with_reducible rfl))
  try simp only [Act.put, List.setIfInBounds_toArray, List.set_cons_zero, List.set_cons_succ]
  refine takeL0 (i := 2) (v := ?vs3) rfl rfl (by kernel_rfl) (by kernel_rfl) (by kernel_rfl) (by decide) (by kernel_rfl) (by kernel_rfl) (fun _ _ _ h => h) (Or.inl ⟨by rfl, ?hys3⟩) (by assumption) ?_
  case hys3 => (intro w hSw; (try dsimp only at hSw); go_simp; (try with_reducible rfl))
  try simp only [Act.put, List.setIfInBounds_toArray, List.set_cons_zero, List.set_cons_succ]
  refine takeL0 (i := 3) (v := ?vs4) rfl rfl (by kernel_rfl) (by kernel_rfl) (by kernel_rfl) (by decide) (by kernel_rfl) (by kernel_rfl) (fun _ _ _ h => h) (Or.inl ⟨by rfl, ?hys4⟩) (by assumption) ?_
  case hys4 => (intro w hSw; (try dsimp only at hSw); go_simp; (try with_reducible rfl))
  try simp only [Act.put, List.setIfInBounds_toArray, List.set_cons_zero, List.set_cons_succ]
  refine takeL0 (i := 4) (v := ?vs5) rfl rfl (by kernel_rfl) (by kernel_rfl) (by kernel_rfl) (by decide) (by kernel_rfl) (by kernel_rfl) (fun _ _ _ h => h) (Or.inl ⟨by rfl, ?hys5⟩) (by assumption) ?_
  case hys5 => (intro w hSw; (try dsimp only at hSw); go_simp; (try with_reducible rfl))
  try simp only [Act.put, List.setIfInBounds_toArray, List.set_cons_zero, List.set_cons_succ]
  refine takeL0 (i := 5) (v := ?vs6) rfl rfl (by kernel_rfl) (by kernel_rfl) (by kernel_rfl) (by decide) (by kernel_rfl) (by kernel_rfl) (fun _ _ _ h => h) (Or.inl ⟨by rfl, ?hys6⟩) (by assumption) ?_
  case hys6 => (intro w hSw; (try dsimp only at hSw); go_simp; (try with_reducible rfl))
  try simp only [Act.put, List.setIfInBounds_toArray, List.set_cons_zero, List.set_cons_succ]
  refine takeL0 (i := 6) (v := ?vs7) rfl rfl (by kernel_rfl) (by kernel_rfl) (by kernel_rfl) (by decide) (by kernel_rfl) (by kernel_rfl) (fun _ _ _ h => h) (Or.inl ⟨by rfl, ?hys7⟩) (by assumption) ?_
  case hys7 => (intro w hSw; (try dsimp only at hSw); go_simp; (try with_reducible rfl))
  try simp only [Act.put, List.setIfInBounds_toArray, List.set_cons_zero, List.set_cons_succ]
  refine takeL0 (i := 7) (v := ?vs8) rfl rfl (by kernel_rfl) (by kernel_rfl) (by kernel_rfl) (by decide) (by kernel_rfl) (by kernel_rfl) (fun _ _ _ h => h) (Or.inl ⟨by rfl, ?hys8⟩) (by assumption) ?_
  case hys8 => (intro w hSw; (try dsimp only at hSw); go_simp; (try with_reducible rfl))
  try simp only [Act.put, List.setIfInBounds_toArray, List.set_cons_zero, List.set_cons_succ]
  refine takeL0 (i := 8) (v := ?vs9) rfl rfl (by kernel_rfl) (by kernel_rfl) (by kernel_rfl) (by decide) (by kernel_rfl) (by kernel_rfl) (fun _ _ _ h => h) (Or.inl ⟨by rfl, ?hys9⟩) (by assumption) ?_
  case hys9 => (intro w hSw; (try dsimp only at hSw); go_simp; (try with_reducible rfl))
  try simp only [Act.put, List.setIfInBounds_toArray, List.set_cons_zero, List.set_cons_succ]
  refine takeL0 (i := 9) (v := ?vs10) rfl rfl (by kernel_rfl) (by kernel_rfl) (by kernel_rfl) (by decide) (by kernel_rfl) (by kernel_rfl) (fun _ _ _ h => h) (Or.inl ⟨by rfl, ?hys10⟩) (by assumption) ?_
  case hys10 => (intro w hSw; (try dsimp only at hSw); go_simp; (try with_reducible rfl))
  try simp only [Act.put, List.setIfInBounds_toArray, List.set_cons_zero, List.set_cons_succ]
  refine readyL (rs := [10]) (by kernel_rfl) (by simp) ?_
  refine AllReadyL.cons rfl (fun K hK => ?_) AllReadyL.nil
  go_simp
  refine (HTH.out _ (below_trans hb0 (below_drew W1)) (by have : W1.drew.heap.size = W1.heap.size := rfl; omega)).mono ?_
  rintro e w5 ⟨v5, f5, rfl, hu5, hf5, hfb5, hin5, hb5⟩
  obtain ⟨s0, s1, s2, s3, s4, s5, s6, s7, s8, s9, s10, s11, s12, s13, s14, rfl⟩ := hu5.agg
  have hk5 := below_trans (below_drew W1) hb5
  refine hK.out _ _ ?_ (fun hS1 => ?_)
  · exact ⟨trivial, fun _ => HS.out _ hk5⟩
  clear hK K hS0
  try simp only [Act.put, List.setIfInBounds_toArray, List.set_cons_zero, List.set_cons_succ]
  refine readyL (rs := [11]) (by kernel_rfl) (by simp) ?_
  refine AllReadyL.cons rfl (fun K hK => ?_) AllReadyL.nil
  have hZ5 := blk hZ0 hk5
  obtain ⟨y0, y1, y2, y3, y4, y5, y6, y7, y8⟩ := cells9 hZ5
  have yz := fun o => frozen_of_block (o := o) hZ5
  have hM5 := lt_of_block hZ5
  go_simp
  refine hK.out _ _ ?_ (fun hS2 => ?_)
  · exact ⟨trivial, fun h => absurd (h.symm.trans (show _ = true by kernel_rfl)) (by decide)⟩
  clear hK K hS1
  try simp only [Act.put, List.setIfInBounds_toArray, List.set_cons_zero, List.set_cons_succ]
  refine readyL (rs := [12]) (by kernel_rfl) (by simp) ?_
  refine AllReadyL.cons rfl (fun K hK => ?_) AllReadyL.nil
  go_simp
  refine hK.out _ _ ?_ (fun hS3 => ?_)
  · exact ⟨trivial, fun h => absurd (h.symm.trans (show _ = true by kernel_rfl)) (by decide)⟩
  clear hK K hS2
  try simp only [Act.put, List.setIfInBounds_toArray, List.set_cons_zero, List.set_cons_succ]
  refine doneL (by kernel_rfl) ?_ _
  obtain rfl := HR.out
  have FIN := hid (some_ru (B := B) (M := w.heap.size + 1) (vs := [.int .i64 s0, .string s1, .int .i64 s2, .int .i64 s3, .slice s5 s4 s6, .int .i64 s7, .slice s9 s8 s10, .int .i64 s11, .slice s13 s12 s14]) hu5 hf5 hfb5 (HIN.out _ hin5) (hb0.trans (hk5.mono (by omega))) (by omega))
  simp only [put, Nat.zero_add, Nat.reduceAdd] at FIN
  clear hu5 hf5 hfb5 hin5 hb5 hk5 HS HTH HIN
  go_wp2_with fail
  exact bodyPost_ret (v := .tuple #[.agg (Array.mk [.int .i64 s0, .string s1, .int .i64 s2, .int .i64 s3, .slice s5 s4 s6, .int .i64 s7, .slice s9 s8 s10, .int .i64 s11, .slice s13 s12 s14]), .bool true]) (by simp [results, Tryd.results42, go_sem, y0, y1, y2, y3, y4, y5, y6, y7, y8]) rfl FIN.out
end Go.Proofs.YtjpmlmdbldcbjaaDoor
