/- The program's rules: a cast that changes no type, and a cast to the unknown type and the one back. -/
import Derived.Test.YtjpmlmdbldcbjaaDoorQLv2
import Derived.Test.YtjpmlmdbldcbjaaDoorQTsm
namespace Go.Proofs.YtjpmlmdbldcbjaaDoor
open Go.RowKit

/-- What a rule says of a node whose memory is new from B on. -/
def RuOut (B : Nat) (fp : List Nat) (w : World) (o : Option Tm) (e : Ending) (w' : World) : Prop :=
  ∃ v' f', e = .returned (.tuple #[v', .bool o.isSome]) ∧ (o.getD zTm).At w' v' f' ∧ Fresh B w' f' ∧ (∀ x ∈ f', x ∈ fp ∨ w.heap.size ≤ x) ∧ Below w.heap.size w w'
def RuC (fc : FuncId) (r : Tm → Option Tm) : Prop :=
  CallOkT fc ∧ ∀ t v fp B w, t.At w v fp → Fresh B w fp → B ≤ w.heap.size → gdM t → Calls Tryd.prog fc #[v] w (RuOut B fp w (r t))

theorem zero_ru {w w1 : World} {B M : Nat} {fp : List Nat} (hb : Below w.heap.size w w1) (hB : w.heap.size ≤ M) : RuOut B fp w none (.returned (.tuple #[.agg (Array.mk [.int .i64 0, .string ⟨#[]⟩, .int .i64 0, .int .i64 0, .slice none 0 0, .int .i64 0, .slice none 0 0, .int .i64 0, .slice none 0 0]), .bool false])) (put w1 M 0 [.int .i64 0, .string ⟨#[]⟩, .int .i64 0, .int .i64 0, .slice none 0 0, .int .i64 0, .slice none 0 0, .int .i64 0, .slice none 0 0]) :=
  ⟨_, [], rfl, (show zTm.At _ (.agg #[.int .i64 0, .string ByteArray.empty, .int .i64 0, .int .i64 0, .slice none 0 0, .int .i64 0, .slice none 0 0, .int .i64 0, .slice none 0 0]) [] from zTm_at _), Fresh.nil _ _, fun _ h => (by cases h), below_put hb hB⟩
theorem some_ru {w w1 : World} {B M : Nat} {u : Tm} {vs : List Value} {g fp : List Nat} (h1 : u.At w1 (.agg vs.toArray) g) (h2 : Fresh B w1 g) (h3 : ∀ x ∈ g, x ≠ M) (h4 : ∀ x ∈ g, x ∈ fp ∨ w.heap.size ≤ x) (hb : Below w.heap.size w w1) (hM : w.heap.size ≤ M) : RuOut B fp w (some u) (.returned (.tuple #[.agg (Array.mk vs), .bool true])) (put w1 M 0 vs) :=
  ⟨_, g, rfl, h1.congr fun x hx o => World.cell?_of_block (w := w1) (a := ⟨x, o, none⟩) (heap_put_ne (h3 x hx)), h2.putne h3, h4, below_put hb hM⟩

set_option linter.unusedVariables false in
set_option linter.unusedSimpArgs false in
set_option maxRecDepth 100000 in
set_option maxHeartbeats 4000000 in
theorem dropEq_any : RuC 28 ruE := by
  refine ⟨fun _ _ => by kernel_rfl, ?_⟩
  intro t v fp B w hat hf hBw hg
  have hlt := hat.lt
  obtain ⟨k, nm, num, ty, fr, lb, ts, rfl⟩ := t.shape
  obtain ⟨k1, n1, a1, c1, k2, n2, a2, c2, a3, c3, f1, f2, f3, rfl, hnm, ht1, ht2, rfl, hs⟩ := hat.parts
  simp only [gdM] at hg
  have hF1 := hf.sub (List.sublist_append_left f1 (f2 ++ f3))
  have hF23 := hf.sub (List.sublist_append_right f1 (f2 ++ f3))
  have hF2 := hF23.sub (List.sublist_append_left f2 f3)
  have hF3 := hF23.sub (List.sublist_append_right f2 f3)
  have hl3 : ∀ x ∈ f3, x < w.heap.size := fun x hx => hlt x (by simp [hx])
  have r1 := Fresh.raw ht1 hF1
  have r2 := Fresh.raw ht2 hF2
  generalize hR : ruE (.mk k nm num ty fr lb ts) = R
  by_cases hk : k = 14
  case neg =>
    have hk' : (k == 14) = false := by simpa using hk
    have HR := hid (show R = none from by rw [← hR]; simp [ruE, hk])
    have hb0 : Below w.heap.size w ((w.alloc (Obj.cells #[.int .i64 k, .string nm, .int .i64 num, .int .i64 k1, .slice a1 n1 c1, .int .i64 k2, .slice a2 n2 c2, .int .i64 lb, .slice a3 ts.length c3] 34)).alloc (Obj.cells #[.int .i64 0, .string ⟨#[]⟩, .int .i64 0, .int .i64 0, .slice none 0 0, .int .i64 0, .slice none 0 0, .int .i64 0, .slice none 0 0] 34)) := ((Below.refl _ _).alloc (Nat.le_refl _) _).alloc (by simp) _
    have hs0 : ((w.alloc (Obj.cells #[.int .i64 k, .string nm, .int .i64 num, .int .i64 k1, .slice a1 n1 c1, .int .i64 k2, .slice a2 n2 c2, .int .i64 lb, .slice a3 ts.length c3] 34)).alloc (Obj.cells #[.int .i64 0, .string ⟨#[]⟩, .int .i64 0, .int .i64 0, .slice none 0 0, .int .i64 0, .slice none 0 0, .int .i64 0, .slice none 0 0] 34)).heap.size = w.heap.size + 1 + 1 := by simp
    obtain ⟨hB0, hZ0⟩ := two_out (Below.refl ((w.alloc (Obj.cells #[.int .i64 k, .string nm, .int .i64 num, .int .i64 k1, .slice a1 n1 c1, .int .i64 k2, .slice a2 n2 c2, .int .i64 lb, .slice a3 ts.length c3] 34)).alloc (Obj.cells #[.int .i64 0, .string ⟨#[]⟩, .int .i64 0, .int .i64 0, .slice none 0 0, .int .i64 0, .slice none 0 0, .int .i64 0, .slice none 0 0] 34)).heap.size ((w.alloc (Obj.cells #[.int .i64 k, .string nm, .int .i64 num, .int .i64 k1, .slice a1 n1 c1, .int .i64 k2, .slice a2 n2 c2, .int .i64 lb, .slice a3 ts.length c3] 34)).alloc (Obj.cells #[.int .i64 0, .string ⟨#[]⟩, .int .i64 0, .int .i64 0, .slice none 0 0, .int .i64 0, .slice none 0 0, .int .i64 0, .slice none 0 0] 34)))
    clear hat r1 r2 hF1 hF2 hF3 hF23 hs ht1 ht2 hf hR hg hl3 hlt
    go_enter Tryd.func28, Tryd.ntmps28
    go_upto_region 1 with (fail)
    generalize ((w.alloc (Obj.cells #[.int .i64 k, .string nm, .int .i64 num, .int .i64 k1, .slice a1 n1 c1, .int .i64 k2, .slice a2 n2 c2, .int .i64 lb, .slice a3 ts.length c3] 34)).alloc (Obj.cells #[.int .i64 0, .string ⟨#[]⟩, .int .i64 0, .int .i64 0, .slice none 0 0, .int .i64 0, .slice none 0 0, .int .i64 0, .slice none 0 0] 34)) = W1 at hB0 hZ0 hb0 ⊢
    obtain ⟨x0, x1, x2, x3, x4, x5, x6, x7, x8⟩ := cells9 hB0
    obtain ⟨y0, y1, y2, y3, y4, y5, y6, y7, y8⟩ := cells9 hZ0
    have yz := fun o => frozen_of_block (o := o) hZ0
    have hM := lt_of_block hZ0
    obtain rfl := HR.out
    have FIN := hid (zero_ru (B := B) (fp := f1 ++ (f2 ++ f3)) (M := w.heap.size + 1) hb0 (by omega))
    simp only [put, Nat.zero_add, Nat.reduceAdd] at FIN
    go_wp2_with fail
    exact bodyPost_ret (v := .tuple #[.agg (Array.mk [.int .i64 0, .string ⟨#[]⟩, .int .i64 0, .int .i64 0, .slice none 0 0, .int .i64 0, .slice none 0 0, .int .i64 0, .slice none 0 0]), .bool false]) (by simp [results, Tryd.results28, go_sem, y0, y1, y2, y3, y4, y5, y6, y7, y8]) rfl FIN.out
  subst hk
  obtain ⟨hl0, hc1, hc2⟩ := hg.1 rfl
  obtain ⟨b, o, q0, q1, q2, q3, q4, q5, q6, q7, q8, q9, q10, q11, q12, q13, q14, g, rfl, -, hcc, hmm, hblt, d0, d1, d2, d3, d4, d5, d6, d7, d8, hdat, hsub⟩ := headAt hs hl0
  have hpos : (0 : Int) < (ts.length : Int) := by omega
  have hdF := hF3.sub hsub
  have hdlt : ∀ x ∈ g, x < w.heap.size := fun x hx => hl3 x (hsub.subset hx)
  have hb0 : Below w.heap.size w ((w.alloc (Obj.cells #[.int .i64 14, .string nm, .int .i64 num, .int .i64 k1, .slice a1 n1 c1, .int .i64 k2, .slice a2 n2 c2, .int .i64 lb, .slice (some ⟨b, o, none⟩) ts.length c3] 34)).alloc (Obj.cells #[.int .i64 0, .string ⟨#[]⟩, .int .i64 0, .int .i64 0, .slice none 0 0, .int .i64 0, .slice none 0 0, .int .i64 0, .slice none 0 0] 34)) := ((Below.refl _ _).alloc (Nat.le_refl _) _).alloc (by simp) _
  have hs0 : ((w.alloc (Obj.cells #[.int .i64 14, .string nm, .int .i64 num, .int .i64 k1, .slice a1 n1 c1, .int .i64 k2, .slice a2 n2 c2, .int .i64 lb, .slice (some ⟨b, o, none⟩) ts.length c3] 34)).alloc (Obj.cells #[.int .i64 0, .string ⟨#[]⟩, .int .i64 0, .int .i64 0, .slice none 0 0, .int .i64 0, .slice none 0 0, .int .i64 0, .slice none 0 0] 34)).heap.size = w.heap.size + 1 + 1 := by simp
  obtain ⟨hB0, hZ0⟩ := two_out (Below.refl ((w.alloc (Obj.cells #[.int .i64 14, .string nm, .int .i64 num, .int .i64 k1, .slice a1 n1 c1, .int .i64 k2, .slice a2 n2 c2, .int .i64 lb, .slice (some ⟨b, o, none⟩) ts.length c3] 34)).alloc (Obj.cells #[.int .i64 0, .string ⟨#[]⟩, .int .i64 0, .int .i64 0, .slice none 0 0, .int .i64 0, .slice none 0 0, .int .i64 0, .slice none 0 0] 34)).heap.size ((w.alloc (Obj.cells #[.int .i64 14, .string nm, .int .i64 num, .int .i64 k1, .slice a1 n1 c1, .int .i64 k2, .slice a2 n2 c2, .int .i64 lb, .slice (some ⟨b, o, none⟩) ts.length c3] 34)).alloc (Obj.cells #[.int .i64 0, .string ⟨#[]⟩, .int .i64 0, .int .i64 0, .slice none 0 0, .int .i64 0, .slice none 0 0, .int .i64 0, .slice none 0 0] 34)))
  have HR := hid (show R = if tyEq fr ty = true then some (headT ts) else none from by rw [← hR]; simp [ruE])
  have HTS := hid (implTypeSame fr ty _ _ f2 f1 ((w.alloc (Obj.cells #[.int .i64 14, .string nm, .int .i64 num, .int .i64 k1, .slice a1 n1 c1, .int .i64 k2, .slice a2 n2 c2, .int .i64 lb, .slice (some ⟨b, o, none⟩) ts.length c3] 34)).alloc (Obj.cells #[.int .i64 0, .string ⟨#[]⟩, .int .i64 0, .int .i64 0, .slice none 0 0, .int .i64 0, .slice none 0 0, .int .i64 0, .slice none 0 0] 34)) (by omega) (ht2.below hb0) (ht1.below hb0) (fun x hx => (r2 x hx).below hb0) (fun x hx => (r1 x hx).below hb0))
  have HD := hid (And.intro hdat (And.intro hdF (And.intro hdlt (fun x (hx : x ∈ g) => (show x ∈ f1 ++ (f2 ++ f3) by have := hsub.subset hx; simp [this])))))
  generalize tyEq fr ty = bb at *
  obtain ⟨x0, x1, x2, x3, x4, x5, x6, x7, x8⟩ := cells9 hB0
  have HB0 := hid hb0
  clear hat r1 r2 hF1 hF2 hF3 hF23 hs ht1 ht2 hf hR hg hl3 hlt hdat hdF hdlt hb0 hB0 hZ0
  go_enter Tryd.func28, Tryd.ntmps28
  go_wp2_with fail
  refine HTS.out.mono ?_
  rintro e w1 ⟨rfl, hb1⟩
  obtain ⟨hB, hZ⟩ := two_out hb1
  have hbb := below_trans HB0.out hb1
  clear x0 x1 x2 x3 x4 x5 x6 x7 x8 hb1
  obtain ⟨x0, x1, x2, x3, x4, x5, x6, x7, x8⟩ := cells9 hB
  obtain ⟨y0, y1, y2, y3, y4, y5, y6, y7, y8⟩ := cells9 hZ
  have yz := fun o => frozen_of_block (o := o) hZ
  have hM := lt_of_block hZ
  cases bb with
  | false =>
    obtain rfl := (HR.out.trans (if_neg (by decide)))
    have FIN := hid (zero_ru (B := B) (fp := f1 ++ (f2 ++ f3)) (M := w.heap.size + 1) hbb (by omega))
    simp only [put, Nat.zero_add, Nat.reduceAdd] at FIN
    go_wp2_with fail
    exact bodyPost_ret (v := .tuple #[.agg (Array.mk [.int .i64 0, .string ⟨#[]⟩, .int .i64 0, .int .i64 0, .slice none 0 0, .int .i64 0, .slice none 0 0, .int .i64 0, .slice none 0 0]), .bool false]) (by simp [results, Tryd.results28, go_sem, y0, y1, y2, y3, y4, y5, y6, y7, y8]) rfl FIN.out
  | true =>
    have e0 := cell_keep d0 hbb
    have e1 := cell_keep d1 hbb
    have e2 := cell_keep d2 hbb
    have e3 := cell_keep d3 hbb
    have e4 := cell_keep d4 hbb
    have e5 := cell_keep d5 hbb
    have e6 := cell_keep d6 hbb
    have e7 := cell_keep d7 hbb
    have e8 := cell_keep d8 hbb
    obtain rfl := (HR.out.trans (if_pos rfl))
    have FIN := hid (some_ru (B := B) (M := w.heap.size + 1) (vs := [.int .i64 q0, .string q1, .int .i64 q2, .int .i64 q3, .slice q5 q4 q6, .int .i64 q7, .slice q9 q8 q10, .int .i64 q11, .slice q13 q12 q14]) (HD.out.1.below hbb) (HD.out.2.1.below hbb) (fun x hx => by have := HD.out.2.2.1 x hx; omega) (fun x hx => .inl (HD.out.2.2.2 x hx)) hbb (by omega))
    simp only [put, Nat.zero_add, Nat.reduceAdd] at FIN
    go_wp2_with fail
    exact bodyPost_ret (v := .tuple #[.agg (Array.mk [.int .i64 q0, .string q1, .int .i64 q2, .int .i64 q3, .slice q5 q4 q6, .int .i64 q7, .slice q9 q8 q10, .int .i64 q11, .slice q13 q12 q14]), .bool true]) (by simp [results, Tryd.results28, go_sem, y0, y1, y2, y3, y4, y5, y6, y7, y8]) rfl FIN.out

set_option linter.unusedVariables false in
set_option linter.unusedSimpArgs false in
set_option maxRecDepth 100000 in
set_option maxHeartbeats 4000000 in
theorem dropBack_any : RuC 29 ruB := by
  refine ⟨fun _ _ => by kernel_rfl, ?_⟩
  intro t v fp B w hat hf hBw hg
  have hlt := hat.lt
  obtain ⟨k, nm, num, ty, fr, lb, ts, rfl⟩ := t.shape
  obtain ⟨k1, n1, a1, c1, k2, n2, a2, c2, a3, c3, f1, f2, f3, rfl, hnm, ht1, ht2, rfl, hs⟩ := hat.parts
  simp only [gdM] at hg
  have hF1 := hf.sub (List.sublist_append_left f1 (f2 ++ f3))
  have hF23 := hf.sub (List.sublist_append_right f1 (f2 ++ f3))
  have hF2 := hF23.sub (List.sublist_append_left f2 f3)
  have hF3 := hF23.sub (List.sublist_append_right f2 f3)
  have hl3 : ∀ x ∈ f3, x < w.heap.size := fun x hx => hlt x (by simp [hx])
  have r1 := Fresh.raw ht1 hF1
  have r2 := Fresh.raw ht2 hF2
  generalize hR : ruB (.mk k nm num ty fr lb ts) = R
  by_cases hk : k = 14
  case neg =>
    have hk' : (k == 14) = false := by simpa using hk
    have HR := hid (show R = none from by rw [← hR]; simp [ruB, hk])
    have hb0 : Below w.heap.size w ((w.alloc (Obj.cells #[.int .i64 k, .string nm, .int .i64 num, .int .i64 k1, .slice a1 n1 c1, .int .i64 k2, .slice a2 n2 c2, .int .i64 lb, .slice a3 ts.length c3] 34)).alloc (Obj.cells #[.int .i64 0, .string ⟨#[]⟩, .int .i64 0, .int .i64 0, .slice none 0 0, .int .i64 0, .slice none 0 0, .int .i64 0, .slice none 0 0] 34)) := ((Below.refl _ _).alloc (Nat.le_refl _) _).alloc (by simp) _
    have hs0 : ((w.alloc (Obj.cells #[.int .i64 k, .string nm, .int .i64 num, .int .i64 k1, .slice a1 n1 c1, .int .i64 k2, .slice a2 n2 c2, .int .i64 lb, .slice a3 ts.length c3] 34)).alloc (Obj.cells #[.int .i64 0, .string ⟨#[]⟩, .int .i64 0, .int .i64 0, .slice none 0 0, .int .i64 0, .slice none 0 0, .int .i64 0, .slice none 0 0] 34)).heap.size = w.heap.size + 1 + 1 := by simp
    obtain ⟨hB0, hZ0⟩ := two_out (Below.refl ((w.alloc (Obj.cells #[.int .i64 k, .string nm, .int .i64 num, .int .i64 k1, .slice a1 n1 c1, .int .i64 k2, .slice a2 n2 c2, .int .i64 lb, .slice a3 ts.length c3] 34)).alloc (Obj.cells #[.int .i64 0, .string ⟨#[]⟩, .int .i64 0, .int .i64 0, .slice none 0 0, .int .i64 0, .slice none 0 0, .int .i64 0, .slice none 0 0] 34)).heap.size ((w.alloc (Obj.cells #[.int .i64 k, .string nm, .int .i64 num, .int .i64 k1, .slice a1 n1 c1, .int .i64 k2, .slice a2 n2 c2, .int .i64 lb, .slice a3 ts.length c3] 34)).alloc (Obj.cells #[.int .i64 0, .string ⟨#[]⟩, .int .i64 0, .int .i64 0, .slice none 0 0, .int .i64 0, .slice none 0 0, .int .i64 0, .slice none 0 0] 34)))
    clear hat r1 r2 hF1 hF2 hF3 hF23 hs ht1 ht2 hf hR hg hl3 hlt
    go_enter Tryd.func29, Tryd.ntmps29
    go_upto_region 1 with (fail)
    generalize ((w.alloc (Obj.cells #[.int .i64 k, .string nm, .int .i64 num, .int .i64 k1, .slice a1 n1 c1, .int .i64 k2, .slice a2 n2 c2, .int .i64 lb, .slice a3 ts.length c3] 34)).alloc (Obj.cells #[.int .i64 0, .string ⟨#[]⟩, .int .i64 0, .int .i64 0, .slice none 0 0, .int .i64 0, .slice none 0 0, .int .i64 0, .slice none 0 0] 34)) = W1 at hB0 hZ0 hb0 ⊢
    obtain ⟨x0, x1, x2, x3, x4, x5, x6, x7, x8⟩ := cells9 hB0
    obtain ⟨y0, y1, y2, y3, y4, y5, y6, y7, y8⟩ := cells9 hZ0
    have yz := fun o => frozen_of_block (o := o) hZ0
    have hM := lt_of_block hZ0
    obtain rfl := HR.out
    have FIN := hid (zero_ru (B := B) (fp := f1 ++ (f2 ++ f3)) (M := w.heap.size + 1) hb0 (by omega))
    simp only [put, Nat.zero_add, Nat.reduceAdd] at FIN
    go_wp2_with fail
    exact bodyPost_ret (v := .tuple #[.agg (Array.mk [.int .i64 0, .string ⟨#[]⟩, .int .i64 0, .int .i64 0, .slice none 0 0, .int .i64 0, .slice none 0 0, .int .i64 0, .slice none 0 0]), .bool false]) (by simp [results, Tryd.results29, go_sem, y0, y1, y2, y3, y4, y5, y6, y7, y8]) rfl FIN.out
  subst hk
  obtain ⟨hl0, hc1, hc2⟩ := hg.1 rfl
  have hk2 : kdY fr = k2 := by
    obtain ⟨kk, tt, rfl⟩ := fr.shape
    obtain ⟨s, e, _⟩ := Ty.at_mk.1 ht2
    cases e
    rfl
  obtain ⟨b, o, q0, q1, q2, q3, q4, q5, q6, q7, q8, q9, q10, q11, q12, q13, q14, g, rfl, -, hcc, hmm, hblt, d0, d1, d2, d3, d4, d5, d6, d7, d8, hdat, hsub⟩ := headAt hs hl0
  have hpos : (0 : Int) < (ts.length : Int) := by omega
  have hdF := hF3.sub hsub
  have hdlt : ∀ x ∈ g, x < w.heap.size := fun x hx => hl3 x (hsub.subset hx)
  have hgx := gdL_mem hg.2 _ (headT_mem hl0)
  have HR := hid (show R = if kdY fr = 1 ∧ kdM (headT ts) = 14 ∧ kdY (tyTm (headT ts)) = 1 ∧ tyEq ty (frTm (headT ts)) = true then some (headT (ksTm (headT ts))) else none from by rw [← hR]; simp [ruB])
  simp only [hk2] at HR
  obtain ⟨xk, xnm, xnum, xty, xfr, xlb, xs, hx⟩ := (headT ts).shape
  rw [hx] at HR hdat hgx
  simp only [kdM, tyTm, frTm, ksTm] at HR
  simp only [gdM] at hgx
  obtain ⟨u1, u2, u3, u4, u5, u6, u7, u8, u9, u10, h1f, h2f, h3f, hu, hxn, hx1, hx2, rfl, hxs⟩ := hdat.parts
  simp only [Value.agg.injEq, Array.mk.injEq, List.cons.injEq, Value.int.injEq, Value.string.injEq, Value.slice.injEq, true_and, and_true] at hu
  obtain ⟨rfl, rfl, rfl, rfl, ⟨rfl, rfl, rfl⟩, rfl, ⟨rfl, rfl, rfl⟩, rfl, rfl, rfl, rfl⟩ := hu
  have hq3 : kdY xty = q3 := by
    obtain ⟨kk, tt, rfl⟩ := xty.shape
    obtain ⟨s, e, _⟩ := Ty.at_mk.1 hx1
    cases e
    rfl
  simp only [hq3] at HR
  by_cases h2 : k2 = 1
  case neg =>
    have h2' : (k2 == 1) = false := by simpa using h2
    have HR2 := hid (HR.out.trans (if_neg (fun h => h2 h.1)))
    clear HR
    have hb0 : Below w.heap.size w ((w.alloc (Obj.cells #[.int .i64 14, .string nm, .int .i64 num, .int .i64 k1, .slice a1 n1 c1, .int .i64 k2, .slice a2 n2 c2, .int .i64 lb, .slice (some ⟨b, o, none⟩) ts.length c3] 34)).alloc (Obj.cells #[.int .i64 0, .string ⟨#[]⟩, .int .i64 0, .int .i64 0, .slice none 0 0, .int .i64 0, .slice none 0 0, .int .i64 0, .slice none 0 0] 34)) := ((Below.refl _ _).alloc (Nat.le_refl _) _).alloc (by simp) _
    have hs0 : ((w.alloc (Obj.cells #[.int .i64 14, .string nm, .int .i64 num, .int .i64 k1, .slice a1 n1 c1, .int .i64 k2, .slice a2 n2 c2, .int .i64 lb, .slice (some ⟨b, o, none⟩) ts.length c3] 34)).alloc (Obj.cells #[.int .i64 0, .string ⟨#[]⟩, .int .i64 0, .int .i64 0, .slice none 0 0, .int .i64 0, .slice none 0 0, .int .i64 0, .slice none 0 0] 34)).heap.size = w.heap.size + 1 + 1 := by simp
    obtain ⟨hB0, hZ0⟩ := two_out (Below.refl ((w.alloc (Obj.cells #[.int .i64 14, .string nm, .int .i64 num, .int .i64 k1, .slice a1 n1 c1, .int .i64 k2, .slice a2 n2 c2, .int .i64 lb, .slice (some ⟨b, o, none⟩) ts.length c3] 34)).alloc (Obj.cells #[.int .i64 0, .string ⟨#[]⟩, .int .i64 0, .int .i64 0, .slice none 0 0, .int .i64 0, .slice none 0 0, .int .i64 0, .slice none 0 0] 34)).heap.size ((w.alloc (Obj.cells #[.int .i64 14, .string nm, .int .i64 num, .int .i64 k1, .slice a1 n1 c1, .int .i64 k2, .slice a2 n2 c2, .int .i64 lb, .slice (some ⟨b, o, none⟩) ts.length c3] 34)).alloc (Obj.cells #[.int .i64 0, .string ⟨#[]⟩, .int .i64 0, .int .i64 0, .slice none 0 0, .int .i64 0, .slice none 0 0, .int .i64 0, .slice none 0 0] 34)))
    clear hat r1 r2 hF1 hF2 hF3 hF23 hs ht1 ht2 hf hR hg hl3 hlt hdat hgx
    go_enter Tryd.func29, Tryd.ntmps29
    go_upto_region 1 with (fail)
    generalize ((w.alloc (Obj.cells #[.int .i64 14, .string nm, .int .i64 num, .int .i64 k1, .slice a1 n1 c1, .int .i64 k2, .slice a2 n2 c2, .int .i64 lb, .slice (some ⟨b, o, none⟩) ts.length c3] 34)).alloc (Obj.cells #[.int .i64 0, .string ⟨#[]⟩, .int .i64 0, .int .i64 0, .slice none 0 0, .int .i64 0, .slice none 0 0, .int .i64 0, .slice none 0 0] 34)) = W1 at hB0 hZ0 hb0 hs0 ⊢
    obtain ⟨x0, x1, x2, x3, x4, x5, x6, x7, x8⟩ := cells9 hB0
    obtain ⟨y0, y1, y2, y3, y4, y5, y6, y7, y8⟩ := cells9 hZ0
    have yz := fun o => frozen_of_block (o := o) hZ0
    have hM := lt_of_block hZ0
    obtain rfl := HR2.out
    have FIN := hid (zero_ru (B := B) (fp := f1 ++ (f2 ++ f3)) (M := w.heap.size + 1) hb0 (by omega))
    simp only [put, Nat.zero_add, Nat.reduceAdd] at FIN
    go_wp2_with fail
    exact bodyPost_ret (v := .tuple #[.agg (Array.mk [.int .i64 0, .string ⟨#[]⟩, .int .i64 0, .int .i64 0, .slice none 0 0, .int .i64 0, .slice none 0 0, .int .i64 0, .slice none 0 0]), .bool false]) (by simp [results, Tryd.results29, go_sem, y0, y1, y2, y3, y4, y5, y6, y7, y8]) rfl FIN.out
  subst h2
  by_cases h3 : q0 = 14
  case neg =>
    have h3' : (q0 == 14) = false := by simpa using h3
    have HR2 := hid (HR.out.trans (if_neg (fun h => h3 h.2.1)))
    clear HR
    have hb0 : Below w.heap.size w ((w.alloc (Obj.cells #[.int .i64 14, .string nm, .int .i64 num, .int .i64 k1, .slice a1 n1 c1, .int .i64 1, .slice a2 n2 c2, .int .i64 lb, .slice (some ⟨b, o, none⟩) ts.length c3] 34)).alloc (Obj.cells #[.int .i64 0, .string ⟨#[]⟩, .int .i64 0, .int .i64 0, .slice none 0 0, .int .i64 0, .slice none 0 0, .int .i64 0, .slice none 0 0] 34)) := ((Below.refl _ _).alloc (Nat.le_refl _) _).alloc (by simp) _
    have hs0 : ((w.alloc (Obj.cells #[.int .i64 14, .string nm, .int .i64 num, .int .i64 k1, .slice a1 n1 c1, .int .i64 1, .slice a2 n2 c2, .int .i64 lb, .slice (some ⟨b, o, none⟩) ts.length c3] 34)).alloc (Obj.cells #[.int .i64 0, .string ⟨#[]⟩, .int .i64 0, .int .i64 0, .slice none 0 0, .int .i64 0, .slice none 0 0, .int .i64 0, .slice none 0 0] 34)).heap.size = w.heap.size + 1 + 1 := by simp
    obtain ⟨hB0, hZ0⟩ := two_out (Below.refl ((w.alloc (Obj.cells #[.int .i64 14, .string nm, .int .i64 num, .int .i64 k1, .slice a1 n1 c1, .int .i64 1, .slice a2 n2 c2, .int .i64 lb, .slice (some ⟨b, o, none⟩) ts.length c3] 34)).alloc (Obj.cells #[.int .i64 0, .string ⟨#[]⟩, .int .i64 0, .int .i64 0, .slice none 0 0, .int .i64 0, .slice none 0 0, .int .i64 0, .slice none 0 0] 34)).heap.size ((w.alloc (Obj.cells #[.int .i64 14, .string nm, .int .i64 num, .int .i64 k1, .slice a1 n1 c1, .int .i64 1, .slice a2 n2 c2, .int .i64 lb, .slice (some ⟨b, o, none⟩) ts.length c3] 34)).alloc (Obj.cells #[.int .i64 0, .string ⟨#[]⟩, .int .i64 0, .int .i64 0, .slice none 0 0, .int .i64 0, .slice none 0 0, .int .i64 0, .slice none 0 0] 34)))
    clear hat r1 r2 hF1 hF2 hF3 hF23 hs ht1 ht2 hf hR hg hl3 hlt hdat hgx
    go_enter Tryd.func29, Tryd.ntmps29
    go_upto_region 1 with (fail)
    generalize ((w.alloc (Obj.cells #[.int .i64 14, .string nm, .int .i64 num, .int .i64 k1, .slice a1 n1 c1, .int .i64 1, .slice a2 n2 c2, .int .i64 lb, .slice (some ⟨b, o, none⟩) ts.length c3] 34)).alloc (Obj.cells #[.int .i64 0, .string ⟨#[]⟩, .int .i64 0, .int .i64 0, .slice none 0 0, .int .i64 0, .slice none 0 0, .int .i64 0, .slice none 0 0] 34)) = W1 at hB0 hZ0 hb0 hs0 ⊢
    obtain ⟨x0, x1, x2, x3, x4, x5, x6, x7, x8⟩ := cells9 hB0
    obtain ⟨y0, y1, y2, y3, y4, y5, y6, y7, y8⟩ := cells9 hZ0
    have yz := fun o => frozen_of_block (o := o) hZ0
    have hM := lt_of_block hZ0
    have e0 := cell_keep d0 hb0
    have e1 := cell_keep d1 hb0
    have e2 := cell_keep d2 hb0
    have e3 := cell_keep d3 hb0
    have e4 := cell_keep d4 hb0
    have e5 := cell_keep d5 hb0
    have e6 := cell_keep d6 hb0
    have e7 := cell_keep d7 hb0
    have e8 := cell_keep d8 hb0
    go_upto_region 4 with (fail)
    have hal : Below W1.heap.size W1 (W1.alloc (Obj.cells #[.int .i64 q0, .string q1, .int .i64 q2, .int .i64 q3, .slice q5 q4 q6, .int .i64 q7, .slice q9 q8 q10, .int .i64 q11, .slice q13 xs.length q14] 34)) := (Below.refl _ _).alloc (Nat.le_refl _) _
    have hI := alloc_new W1 (Obj.cells #[.int .i64 q0, .string q1, .int .i64 q2, .int .i64 q3, .slice q5 q4 q6, .int .i64 q7, .slice q9 q8 q10, .int .i64 q11, .slice q13 xs.length q14] 34)
    rw [hs0] at hI
    have hB2 := blk hB0 hal
    have hZ2 := blk hZ0 hal
    have hb2 := below_trans hb0 hal
    clear x0 x1 x2 x3 x4 x5 x6 x7 x8 y0 y1 y2 y3 y4 y5 y6 y7 y8 yz hM e0 e1 e2 e3 e4 e5 e6 e7 e8 hB0 hZ0
    generalize W1.alloc (Obj.cells #[.int .i64 q0, .string q1, .int .i64 q2, .int .i64 q3, .slice q5 q4 q6, .int .i64 q7, .slice q9 q8 q10, .int .i64 q11, .slice q13 xs.length q14] 34) = W2 at hI hB2 hZ2 hb2 ⊢
    clear hal hb0 hs0
    obtain ⟨x0, x1, x2, x3, x4, x5, x6, x7, x8⟩ := cells9 hB2
    obtain ⟨u0, u1, u2, u3, u4, u5, u6, u7, u8⟩ := cells9 hI
    obtain ⟨y0, y1, y2, y3, y4, y5, y6, y7, y8⟩ := cells9 hZ2
    have yz := fun o => frozen_of_block (o := o) hZ2
    have hM := lt_of_block hZ2
    obtain rfl := HR2.out
    have FIN := hid (zero_ru (B := B) (fp := f1 ++ (f2 ++ f3)) (M := w.heap.size + 1) hb2 (by omega))
    simp only [put, Nat.zero_add, Nat.reduceAdd] at FIN
    go_wp2_with fail
    exact bodyPost_ret (v := .tuple #[.agg (Array.mk [.int .i64 0, .string ⟨#[]⟩, .int .i64 0, .int .i64 0, .slice none 0 0, .int .i64 0, .slice none 0 0, .int .i64 0, .slice none 0 0]), .bool false]) (by simp [results, Tryd.results29, go_sem, y0, y1, y2, y3, y4, y5, y6, y7, y8]) rfl FIN.out
  subst h3
  by_cases h4 : q3 = 1
  case neg =>
    have h4' : (q3 == 1) = false := by simpa using h4
    have HR2 := hid (HR.out.trans (if_neg (fun h => h4 h.2.2.1)))
    clear HR
    have hb0 : Below w.heap.size w ((w.alloc (Obj.cells #[.int .i64 14, .string nm, .int .i64 num, .int .i64 k1, .slice a1 n1 c1, .int .i64 1, .slice a2 n2 c2, .int .i64 lb, .slice (some ⟨b, o, none⟩) ts.length c3] 34)).alloc (Obj.cells #[.int .i64 0, .string ⟨#[]⟩, .int .i64 0, .int .i64 0, .slice none 0 0, .int .i64 0, .slice none 0 0, .int .i64 0, .slice none 0 0] 34)) := ((Below.refl _ _).alloc (Nat.le_refl _) _).alloc (by simp) _
    have hs0 : ((w.alloc (Obj.cells #[.int .i64 14, .string nm, .int .i64 num, .int .i64 k1, .slice a1 n1 c1, .int .i64 1, .slice a2 n2 c2, .int .i64 lb, .slice (some ⟨b, o, none⟩) ts.length c3] 34)).alloc (Obj.cells #[.int .i64 0, .string ⟨#[]⟩, .int .i64 0, .int .i64 0, .slice none 0 0, .int .i64 0, .slice none 0 0, .int .i64 0, .slice none 0 0] 34)).heap.size = w.heap.size + 1 + 1 := by simp
    obtain ⟨hB0, hZ0⟩ := two_out (Below.refl ((w.alloc (Obj.cells #[.int .i64 14, .string nm, .int .i64 num, .int .i64 k1, .slice a1 n1 c1, .int .i64 1, .slice a2 n2 c2, .int .i64 lb, .slice (some ⟨b, o, none⟩) ts.length c3] 34)).alloc (Obj.cells #[.int .i64 0, .string ⟨#[]⟩, .int .i64 0, .int .i64 0, .slice none 0 0, .int .i64 0, .slice none 0 0, .int .i64 0, .slice none 0 0] 34)).heap.size ((w.alloc (Obj.cells #[.int .i64 14, .string nm, .int .i64 num, .int .i64 k1, .slice a1 n1 c1, .int .i64 1, .slice a2 n2 c2, .int .i64 lb, .slice (some ⟨b, o, none⟩) ts.length c3] 34)).alloc (Obj.cells #[.int .i64 0, .string ⟨#[]⟩, .int .i64 0, .int .i64 0, .slice none 0 0, .int .i64 0, .slice none 0 0, .int .i64 0, .slice none 0 0] 34)))
    clear hat r1 r2 hF1 hF2 hF3 hF23 hs ht1 ht2 hf hR hg hl3 hlt hdat hgx
    go_enter Tryd.func29, Tryd.ntmps29
    go_upto_region 1 with (fail)
    generalize ((w.alloc (Obj.cells #[.int .i64 14, .string nm, .int .i64 num, .int .i64 k1, .slice a1 n1 c1, .int .i64 1, .slice a2 n2 c2, .int .i64 lb, .slice (some ⟨b, o, none⟩) ts.length c3] 34)).alloc (Obj.cells #[.int .i64 0, .string ⟨#[]⟩, .int .i64 0, .int .i64 0, .slice none 0 0, .int .i64 0, .slice none 0 0, .int .i64 0, .slice none 0 0] 34)) = W1 at hB0 hZ0 hb0 hs0 ⊢
    obtain ⟨x0, x1, x2, x3, x4, x5, x6, x7, x8⟩ := cells9 hB0
    obtain ⟨y0, y1, y2, y3, y4, y5, y6, y7, y8⟩ := cells9 hZ0
    have yz := fun o => frozen_of_block (o := o) hZ0
    have hM := lt_of_block hZ0
    have e0 := cell_keep d0 hb0
    have e1 := cell_keep d1 hb0
    have e2 := cell_keep d2 hb0
    have e3 := cell_keep d3 hb0
    have e4 := cell_keep d4 hb0
    have e5 := cell_keep d5 hb0
    have e6 := cell_keep d6 hb0
    have e7 := cell_keep d7 hb0
    have e8 := cell_keep d8 hb0
    go_upto_region 4 with (fail)
    have hal : Below W1.heap.size W1 (W1.alloc (Obj.cells #[.int .i64 14, .string q1, .int .i64 q2, .int .i64 q3, .slice q5 q4 q6, .int .i64 q7, .slice q9 q8 q10, .int .i64 q11, .slice q13 xs.length q14] 34)) := (Below.refl _ _).alloc (Nat.le_refl _) _
    have hI := alloc_new W1 (Obj.cells #[.int .i64 14, .string q1, .int .i64 q2, .int .i64 q3, .slice q5 q4 q6, .int .i64 q7, .slice q9 q8 q10, .int .i64 q11, .slice q13 xs.length q14] 34)
    rw [hs0] at hI
    have hB2 := blk hB0 hal
    have hZ2 := blk hZ0 hal
    have hb2 := below_trans hb0 hal
    clear x0 x1 x2 x3 x4 x5 x6 x7 x8 y0 y1 y2 y3 y4 y5 y6 y7 y8 yz hM e0 e1 e2 e3 e4 e5 e6 e7 e8 hB0 hZ0
    generalize W1.alloc (Obj.cells #[.int .i64 14, .string q1, .int .i64 q2, .int .i64 q3, .slice q5 q4 q6, .int .i64 q7, .slice q9 q8 q10, .int .i64 q11, .slice q13 xs.length q14] 34) = W2 at hI hB2 hZ2 hb2 ⊢
    clear hal hb0 hs0
    obtain ⟨x0, x1, x2, x3, x4, x5, x6, x7, x8⟩ := cells9 hB2
    obtain ⟨u0, u1, u2, u3, u4, u5, u6, u7, u8⟩ := cells9 hI
    obtain ⟨y0, y1, y2, y3, y4, y5, y6, y7, y8⟩ := cells9 hZ2
    have yz := fun o => frozen_of_block (o := o) hZ2
    have hM := lt_of_block hZ2
    obtain rfl := HR2.out
    have FIN := hid (zero_ru (B := B) (fp := f1 ++ (f2 ++ f3)) (M := w.heap.size + 1) hb2 (by omega))
    simp only [put, Nat.zero_add, Nat.reduceAdd] at FIN
    go_wp2_with fail
    exact bodyPost_ret (v := .tuple #[.agg (Array.mk [.int .i64 0, .string ⟨#[]⟩, .int .i64 0, .int .i64 0, .slice none 0 0, .int .i64 0, .slice none 0 0, .int .i64 0, .slice none 0 0]), .bool false]) (by simp [results, Tryd.results29, go_sem, y0, y1, y2, y3, y4, y5, y6, y7, y8]) rfl FIN.out
  subst h4
  have hxl := (hgx.1 rfl).1
  have hxF := hF3.sub hsub
  have hxr := Fresh.raw hx2 ((hxF.sub (List.sublist_append_right h1f (h2f ++ h3f))).sub (List.sublist_append_left h2f h3f))
  obtain ⟨b2, o2, p0, p1, p2, p3, p4, p5, p6, p7, p8, p9, p10, p11, p12, p13, p14, gg, rfl, -, hcc2, hmm2, hblt2, t0, t1, t2, t3, t4, t5, t6, t7, t8, hdat2, hsub2⟩ := headAt hxs hxl
  have hpos2 : (0 : Int) < (xs.length : Int) := by omega
  have HTS := hid (fun (W : World) (hW : Below w.heap.size w W) => implTypeSame ty xfr _ _ f1 h2f W (by omega) (ht1.below hW) (hx2.below hW) (fun x hx => (r1 x hx).below hW) (fun x hx => (hxr x hx).below hW))
  have hsb : gg.Sublist (h1f ++ (h2f ++ h3f)) := (hsub2.trans (List.sublist_append_right h2f h3f)).trans (List.sublist_append_right h1f (h2f ++ h3f))
  have HD := hid (And.intro hdat2 (And.intro (hxF.sub hsb) (And.intro (fun x (hx : x ∈ gg) => hdlt x (hsb.subset hx)) (fun x (hx : x ∈ gg) => (show x ∈ f1 ++ (f2 ++ f3) by have := hsub.subset (hsb.subset hx); simp only [List.mem_append]; exact .inr (.inr this))))))
  have HC2 := hid (And.intro t0 (And.intro t1 (And.intro t2 (And.intro t3 (And.intro t4 (And.intro t5 (And.intro t6 (And.intro t7 t8))))))))
  clear t0 t1 t2 t3 t4 t5 t6 t7 t8 hdat2 hxF hxr hx1 hx2 hxs hx
  simp only [true_and] at HR
  generalize tyEq ty xfr = bb at *
  have hb0 : Below w.heap.size w ((w.alloc (Obj.cells #[.int .i64 14, .string nm, .int .i64 num, .int .i64 k1, .slice a1 n1 c1, .int .i64 1, .slice a2 n2 c2, .int .i64 lb, .slice (some ⟨b, o, none⟩) ts.length c3] 34)).alloc (Obj.cells #[.int .i64 0, .string ⟨#[]⟩, .int .i64 0, .int .i64 0, .slice none 0 0, .int .i64 0, .slice none 0 0, .int .i64 0, .slice none 0 0] 34)) := ((Below.refl _ _).alloc (Nat.le_refl _) _).alloc (by simp) _
  have hs0 : ((w.alloc (Obj.cells #[.int .i64 14, .string nm, .int .i64 num, .int .i64 k1, .slice a1 n1 c1, .int .i64 1, .slice a2 n2 c2, .int .i64 lb, .slice (some ⟨b, o, none⟩) ts.length c3] 34)).alloc (Obj.cells #[.int .i64 0, .string ⟨#[]⟩, .int .i64 0, .int .i64 0, .slice none 0 0, .int .i64 0, .slice none 0 0, .int .i64 0, .slice none 0 0] 34)).heap.size = w.heap.size + 1 + 1 := by simp
  obtain ⟨hB0, hZ0⟩ := two_out (Below.refl ((w.alloc (Obj.cells #[.int .i64 14, .string nm, .int .i64 num, .int .i64 k1, .slice a1 n1 c1, .int .i64 1, .slice a2 n2 c2, .int .i64 lb, .slice (some ⟨b, o, none⟩) ts.length c3] 34)).alloc (Obj.cells #[.int .i64 0, .string ⟨#[]⟩, .int .i64 0, .int .i64 0, .slice none 0 0, .int .i64 0, .slice none 0 0, .int .i64 0, .slice none 0 0] 34)).heap.size ((w.alloc (Obj.cells #[.int .i64 14, .string nm, .int .i64 num, .int .i64 k1, .slice a1 n1 c1, .int .i64 1, .slice a2 n2 c2, .int .i64 lb, .slice (some ⟨b, o, none⟩) ts.length c3] 34)).alloc (Obj.cells #[.int .i64 0, .string ⟨#[]⟩, .int .i64 0, .int .i64 0, .slice none 0 0, .int .i64 0, .slice none 0 0, .int .i64 0, .slice none 0 0] 34)))
  clear hat r1 r2 hF1 hF2 hF3 hF23 hs ht1 ht2 hf hR hg hl3 hlt hdat hgx
  go_enter Tryd.func29, Tryd.ntmps29
  go_upto_region 1 with (fail)
  generalize ((w.alloc (Obj.cells #[.int .i64 14, .string nm, .int .i64 num, .int .i64 k1, .slice a1 n1 c1, .int .i64 1, .slice a2 n2 c2, .int .i64 lb, .slice (some ⟨b, o, none⟩) ts.length c3] 34)).alloc (Obj.cells #[.int .i64 0, .string ⟨#[]⟩, .int .i64 0, .int .i64 0, .slice none 0 0, .int .i64 0, .slice none 0 0, .int .i64 0, .slice none 0 0] 34)) = W1 at hB0 hZ0 hb0 hs0 ⊢
  obtain ⟨x0, x1, x2, x3, x4, x5, x6, x7, x8⟩ := cells9 hB0
  obtain ⟨y0, y1, y2, y3, y4, y5, y6, y7, y8⟩ := cells9 hZ0
  have yz := fun o => frozen_of_block (o := o) hZ0
  have hM := lt_of_block hZ0
  have e0 := cell_keep d0 hb0
  have e1 := cell_keep d1 hb0
  have e2 := cell_keep d2 hb0
  have e3 := cell_keep d3 hb0
  have e4 := cell_keep d4 hb0
  have e5 := cell_keep d5 hb0
  have e6 := cell_keep d6 hb0
  have e7 := cell_keep d7 hb0
  have e8 := cell_keep d8 hb0
  go_upto_region 4 with (fail)
  have hal : Below W1.heap.size W1 (W1.alloc (Obj.cells #[.int .i64 14, .string q1, .int .i64 q2, .int .i64 1, .slice q5 q4 q6, .int .i64 q7, .slice q9 q8 q10, .int .i64 q11, .slice (some ⟨b2, o2, none⟩) xs.length q14] 34)) := (Below.refl _ _).alloc (Nat.le_refl _) _
  have hI := alloc_new W1 (Obj.cells #[.int .i64 14, .string q1, .int .i64 q2, .int .i64 1, .slice q5 q4 q6, .int .i64 q7, .slice q9 q8 q10, .int .i64 q11, .slice (some ⟨b2, o2, none⟩) xs.length q14] 34)
  rw [hs0] at hI
  have hB2 := blk hB0 hal
  have hZ2 := blk hZ0 hal
  have hb2 := below_trans hb0 hal
  clear x0 x1 x2 x3 x4 x5 x6 x7 x8 y0 y1 y2 y3 y4 y5 y6 y7 y8 yz hM e0 e1 e2 e3 e4 e5 e6 e7 e8 hB0 hZ0
  generalize W1.alloc (Obj.cells #[.int .i64 14, .string q1, .int .i64 q2, .int .i64 1, .slice q5 q4 q6, .int .i64 q7, .slice q9 q8 q10, .int .i64 q11, .slice (some ⟨b2, o2, none⟩) xs.length q14] 34) = W2 at hI hB2 hZ2 hb2 ⊢
  clear hal hb0 hs0
  obtain ⟨x0, x1, x2, x3, x4, x5, x6, x7, x8⟩ := cells9 hB2
  obtain ⟨u0, u1, u2, u3, u4, u5, u6, u7, u8⟩ := cells9 hI
  obtain ⟨y0, y1, y2, y3, y4, y5, y6, y7, y8⟩ := cells9 hZ2
  have yz := fun o => frozen_of_block (o := o) hZ2
  have hM := lt_of_block hZ2
  clear d0 d1 d2 d3 d4 d5 d6 d7 d8
  go_wp2_with fail
  refine (HTS.out _ hb2).mono ?_
  rintro e w4 ⟨rfl, hb4⟩
  have hI4 := blk hI hb4
  have hZ4 := blk hZ2 hb4
  have hbb := below_trans hb2 hb4
  clear x0 x1 x2 x3 x4 x5 x6 x7 x8 y0 y1 y2 y3 y4 y5 y6 y7 y8 u0 u1 u2 u3 u4 u5 u6 u7 u8 yz hM
  obtain ⟨x0, x1, x2, x3, x4, x5, x6, x7, x8⟩ := cells9 hI4
  obtain ⟨y0, y1, y2, y3, y4, y5, y6, y7, y8⟩ := cells9 hZ4
  have yz := fun o => frozen_of_block (o := o) hZ4
  have hM := lt_of_block hZ4
  cases bb with
  | false =>
    obtain rfl := (HR.out.trans (if_neg (by decide)))
    have FIN := hid (zero_ru (B := B) (fp := f1 ++ (f2 ++ f3)) (M := w.heap.size + 1) hbb (by omega))
    simp only [put, Nat.zero_add, Nat.reduceAdd] at FIN
    go_wp2_with fail
    exact bodyPost_ret (v := .tuple #[.agg (Array.mk [.int .i64 0, .string ⟨#[]⟩, .int .i64 0, .int .i64 0, .slice none 0 0, .int .i64 0, .slice none 0 0, .int .i64 0, .slice none 0 0]), .bool false]) (by simp [results, Tryd.results29, go_sem, y0, y1, y2, y3, y4, y5, y6, y7, y8]) rfl FIN.out
  | true =>
    obtain ⟨d0, d1, d2, d3, d4, d5, d6, d7, d8⟩ := HC2.out
    have e0 := cell_keep d0 hbb
    have e1 := cell_keep d1 hbb
    have e2 := cell_keep d2 hbb
    have e3 := cell_keep d3 hbb
    have e4 := cell_keep d4 hbb
    have e5 := cell_keep d5 hbb
    have e6 := cell_keep d6 hbb
    have e7 := cell_keep d7 hbb
    have e8 := cell_keep d8 hbb
    obtain rfl := (HR.out.trans (if_pos rfl))
    have FIN := hid (some_ru (B := B) (M := w.heap.size + 1) (vs := [.int .i64 p0, .string p1, .int .i64 p2, .int .i64 p3, .slice p5 p4 p6, .int .i64 p7, .slice p9 p8 p10, .int .i64 p11, .slice p13 p12 p14]) (HD.out.1.below hbb) (HD.out.2.1.below hbb) (fun x hx => by have := HD.out.2.2.1 x hx; omega) (fun x hx => .inl (HD.out.2.2.2 x hx)) hbb (by omega))
    simp only [put, Nat.zero_add, Nat.reduceAdd] at FIN
    go_wp2_with fail
    exact bodyPost_ret (v := .tuple #[.agg (Array.mk [.int .i64 p0, .string p1, .int .i64 p2, .int .i64 p3, .slice p5 p4 p6, .int .i64 p7, .slice p9 p8 p10, .int .i64 p11, .slice p13 p12 p14]), .bool true]) (by simp [results, Tryd.results29, go_sem, y0, y1, y2, y3, y4, y5, y6, y7, y8]) rfl FIN.out
end Go.Proofs.YtjpmlmdbldcbjaaDoor
