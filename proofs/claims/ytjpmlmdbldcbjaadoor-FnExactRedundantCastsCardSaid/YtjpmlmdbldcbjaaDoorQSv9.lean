/- The specification's l5Cast. -/
import Derived.Test.YtjpmlmdbldcbjaaDoorQG23
import Derived.Test.YtjpmlmdbldcbjaaDoorQG1
namespace Go.Proofs.YtjpmlmdbldcbjaaDoor
open Go.RowKit

/-- What a call says that makes a term out of others. -/
def CastX (w : World) (A : List Nat) (t : Tm) (e : Ending) (w' : World) : Prop :=
  ∃ v fp, e = .returned v ∧ t.At w' v fp ∧ (∀ b ∈ fp, b ∈ A ∨ w.heap.size ≤ b) ∧ Below w.heap.size w w'

theorem l1Copy_from {W0 w1 : World} {t : Ty} {v : Value} {f : List Nat} (u : Below W0.heap.size W0 w1) (h : t.At W0 v f) (hn : t.cnt ≤ 1048576) :
    Calls Tryd.prog 69 #[v] w1 fun e w' => MadeT w1 t e w' ∧ Below W0.heap.size W0 w1 :=
  (l1Copy_any t v f w1 (h.below u) hn).mono fun _ _ h => ⟨h, u⟩

/-- A new cast, behind the stores into the result's box. -/
theorem cast_close {w wF : World} {t : Tm} {fr tg : Ty} {lb kt ks : Int} {nt ct ns cs M b : Nat} {at' as' : Option Addr} {g1 g2 ef : List Nat} {v0 v1 v2 v3 v4 v5 v6 v7 v8 : Value}
    (h2 : tg.At wF (.agg #[.int .i64 kt, .slice at' nt ct]) g2) (h1 : fr.At wF (.agg #[.int .i64 ks, .slice as' ns cs]) g1) (hE : wF.heap[b]? = some (.cells #[v0, v1, v2, v3, v4, v5, v6, v7, v8] 34 (0, 0))) (he : t.At wF (.agg #[v0, v1, v2, v3, v4, v5, v6, v7, v8]) ef)
    (hef : ∀ x ∈ ef, x < w.heap.size) (hM : w.heap.size ≤ M) (hg1 : ∀ x ∈ g1, M < x) (hg2 : ∀ x ∈ g2, M < x) (hb : M < b) (hbw : Below w.heap.size w wF) :
    CastX w ef (castT t fr tg lb) (.returned (.agg (Array.mk [.int .i64 14, .string ⟨#[]⟩, .int .i64 0, .int .i64 kt, .slice at' nt ct, .int .i64 ks, .slice as' ns cs, .int .i64 lb, .slice (some ⟨b, 0, none⟩) 1 1]))) (put wF M 0 [.int .i64 14, .string ⟨#[]⟩, .int .i64 0, .int .i64 kt, .slice at' nt ct, .int .i64 ks, .slice as' ns cs, .int .i64 lb, .slice (some ⟨b, 0, none⟩) 1 1]) := by
  have he0 : (⟨#[]⟩ : ByteArray) = ByteArray.empty := rfl
  rw [he0]
  have hs := sm_one hE he
  have hat := castT_at (lb := lb) h2 h1 hs
  have hne : ∀ x ∈ g2 ++ (g1 ++ (b :: ef)), x ≠ M := by
    intro x hx
    simp only [List.mem_append, List.mem_cons] at hx
    rcases hx with hx | hx | hx | hx
    · have := hg2 x hx; omega
    · have := hg1 x hx; omega
    · omega
    · have := hef x hx; omega
  refine ⟨_, _, rfl, hat.congr fun x hx o => World.cell?_of_block (w := wF) (a := ⟨x, o, none⟩) (heap_put_ne (hne x hx)), fun x hx => ?_, below_put hbw hM⟩
  simp only [List.mem_append, List.mem_cons] at hx
  rcases hx with hx | hx | hx | hx
  · have := hg2 x hx; exact .inr (by omega)
  · have := hg1 x hx; exact .inr (by omega)
  · exact .inr (by omega)
  · exact .inl hx

set_option maxRecDepth 100000 in
set_option maxHeartbeats 16000000 in
theorem l5Cast_any (t : Tm) (fr tg : Ty) (lb : Int) (v vf vg : Value) (ef ff gf : List Nat) (w : World) (hat : t.At w v ef) (hfr : fr.At w vf ff) (htg : tg.At w vg gf) (hcf : fr.cnt ≤ 1048576) (hcg : tg.cnt ≤ 1048576) :
    Calls Tryd.prog 63 #[v, vf, vg, .int .i64 lb] w (CastX w ef (castT t fr tg lb)) := by
  obtain ⟨ek, enm, enum, ek1, en1, ea1, ec1, ek2, en2, ea2, ec2, elb, en3, ea3, ec3, rfl⟩ := hat.agg
  obtain ⟨kf, nf, af, cf, rfl⟩ := hfr.agg
  obtain ⟨kg, ng, ag, cg, rfl⟩ := htg.agg
  have hb0 : Below w.heap.size w ((((w.alloc (Obj.cells #[.int .i64 ek, .string enm, .int .i64 enum, .int .i64 ek1, .slice ea1 en1 ec1, .int .i64 ek2, .slice ea2 en2 ec2, .int .i64 elb, .slice ea3 en3 ec3] 34)).alloc (Obj.cells #[.int .i64 kf, .slice af nf cf] 31)).alloc (Obj.cells #[.int .i64 kg, .slice ag ng cg] 31)).alloc (Obj.cells #[.int .i64 0, .string ByteArray.empty, .int .i64 0, .int .i64 0, .slice none 0 0, .int .i64 0, .slice none 0 0, .int .i64 0, .slice none 0 0] 34)) := (((((Below.refl _ _).alloc (Nat.le_refl _) _).alloc (by simp) _).alloc (by simp; omega) _)).alloc (by simp; omega) _
  have hs0 : (((((w.alloc (Obj.cells #[.int .i64 ek, .string enm, .int .i64 enum, .int .i64 ek1, .slice ea1 en1 ec1, .int .i64 ek2, .slice ea2 en2 ec2, .int .i64 elb, .slice ea3 en3 ec3] 34)).alloc (Obj.cells #[.int .i64 kf, .slice af nf cf] 31)).alloc (Obj.cells #[.int .i64 kg, .slice ag ng cg] 31)).alloc (Obj.cells #[.int .i64 0, .string ByteArray.empty, .int .i64 0, .int .i64 0, .slice none 0 0, .int .i64 0, .slice none 0 0, .int .i64 0, .slice none 0 0] 34))).heap.size = w.heap.size + 1 + 1 + 1 + 1 := by simp
  obtain ⟨hB, hV, hG, hZ⟩ := four_out (Below.refl (((((w.alloc (Obj.cells #[.int .i64 ek, .string enm, .int .i64 enum, .int .i64 ek1, .slice ea1 en1 ec1, .int .i64 ek2, .slice ea2 en2 ec2, .int .i64 elb, .slice ea3 en3 ec3] 34)).alloc (Obj.cells #[.int .i64 kf, .slice af nf cf] 31)).alloc (Obj.cells #[.int .i64 kg, .slice ag ng cg] 31)).alloc (Obj.cells #[.int .i64 0, .string ByteArray.empty, .int .i64 0, .int .i64 0, .slice none 0 0, .int .i64 0, .slice none 0 0, .int .i64 0, .slice none 0 0] 34))).heap.size ((((w.alloc (Obj.cells #[.int .i64 ek, .string enm, .int .i64 enum, .int .i64 ek1, .slice ea1 en1 ec1, .int .i64 ek2, .slice ea2 en2 ec2, .int .i64 elb, .slice ea3 en3 ec3] 34)).alloc (Obj.cells #[.int .i64 kf, .slice af nf cf] 31)).alloc (Obj.cells #[.int .i64 kg, .slice ag ng cg] 31)).alloc (Obj.cells #[.int .i64 0, .string ByteArray.empty, .int .i64 0, .int .i64 0, .slice none 0 0, .int .i64 0, .slice none 0 0, .int .i64 0, .slice none 0 0] 34)))
  obtain ⟨x0, x1, x2, x3, x4, x5, x6, x7, x8⟩ := cells9 hB
  have HEF := hid (hat.lt)
  have HAT := hid (hat.below hb0)
  have HFR := hid (hfr.below hb0)
  have HTG := hid (htg.below hb0)
  have HM := hid (fun (w' : World) (h : Below (((((w.alloc (Obj.cells #[.int .i64 ek, .string enm, .int .i64 enum, .int .i64 ek1, .slice ea1 en1 ec1, .int .i64 ek2, .slice ea2 en2 ec2, .int .i64 elb, .slice ea3 en3 ec3] 34)).alloc (Obj.cells #[.int .i64 kf, .slice af nf cf] 31)).alloc (Obj.cells #[.int .i64 kg, .slice ag ng cg] 31)).alloc (Obj.cells #[.int .i64 0, .string ByteArray.empty, .int .i64 0, .int .i64 0, .slice none 0 0, .int .i64 0, .slice none 0 0, .int .i64 0, .slice none 0 0] 34))).heap.size ((((w.alloc (Obj.cells #[.int .i64 ek, .string enm, .int .i64 enum, .int .i64 ek1, .slice ea1 en1 ec1, .int .i64 ek2, .slice ea2 en2 ec2, .int .i64 elb, .slice ea3 en3 ec3] 34)).alloc (Obj.cells #[.int .i64 kf, .slice af nf cf] 31)).alloc (Obj.cells #[.int .i64 kg, .slice ag ng cg] 31)).alloc (Obj.cells #[.int .i64 0, .string ByteArray.empty, .int .i64 0, .int .i64 0, .slice none 0 0, .int .i64 0, .slice none 0 0, .int .i64 0, .slice none 0 0] 34)) w') => (h.block (w.heap.size + 1 + 1 + 1) (by omega)).trans hZ)
  have s0 : (((((w.alloc (Obj.cells #[.int .i64 ek, .string enm, .int .i64 enum, .int .i64 ek1, .slice ea1 en1 ec1, .int .i64 ek2, .slice ea2 en2 ec2, .int .i64 elb, .slice ea3 en3 ec3] 34)).alloc (Obj.cells #[.int .i64 kf, .slice af nf cf] 31)).alloc (Obj.cells #[.int .i64 kg, .slice ag ng cg] 31)).alloc (Obj.cells #[.int .i64 0, .string ByteArray.empty, .int .i64 0, .int .i64 0, .slice none 0 0, .int .i64 0, .slice none 0 0, .int .i64 0, .slice none 0 0] 34))).cell? ⟨w.heap.size + 1, 0, none⟩ = some (.int .i64 kf) := by rw [cell_of_block hV]; rfl
  have s1 : (((((w.alloc (Obj.cells #[.int .i64 ek, .string enm, .int .i64 enum, .int .i64 ek1, .slice ea1 en1 ec1, .int .i64 ek2, .slice ea2 en2 ec2, .int .i64 elb, .slice ea3 en3 ec3] 34)).alloc (Obj.cells #[.int .i64 kf, .slice af nf cf] 31)).alloc (Obj.cells #[.int .i64 kg, .slice ag ng cg] 31)).alloc (Obj.cells #[.int .i64 0, .string ByteArray.empty, .int .i64 0, .int .i64 0, .slice none 0 0, .int .i64 0, .slice none 0 0, .int .i64 0, .slice none 0 0] 34))).cell? ⟨w.heap.size + 1, 1, none⟩ = some (.slice af nf cf) := by rw [cell_of_block hV]; rfl
  have t0 : (((((w.alloc (Obj.cells #[.int .i64 ek, .string enm, .int .i64 enum, .int .i64 ek1, .slice ea1 en1 ec1, .int .i64 ek2, .slice ea2 en2 ec2, .int .i64 elb, .slice ea3 en3 ec3] 34)).alloc (Obj.cells #[.int .i64 kf, .slice af nf cf] 31)).alloc (Obj.cells #[.int .i64 kg, .slice ag ng cg] 31)).alloc (Obj.cells #[.int .i64 0, .string ByteArray.empty, .int .i64 0, .int .i64 0, .slice none 0 0, .int .i64 0, .slice none 0 0, .int .i64 0, .slice none 0 0] 34))).cell? ⟨w.heap.size + 1 + 1, 0, none⟩ = some (.int .i64 kg) := by rw [cell_of_block hG]; rfl
  have t1 : (((((w.alloc (Obj.cells #[.int .i64 ek, .string enm, .int .i64 enum, .int .i64 ek1, .slice ea1 en1 ec1, .int .i64 ek2, .slice ea2 en2 ec2, .int .i64 elb, .slice ea3 en3 ec3] 34)).alloc (Obj.cells #[.int .i64 kf, .slice af nf cf] 31)).alloc (Obj.cells #[.int .i64 kg, .slice ag ng cg] 31)).alloc (Obj.cells #[.int .i64 0, .string ByteArray.empty, .int .i64 0, .int .i64 0, .slice none 0 0, .int .i64 0, .slice none 0 0, .int .i64 0, .slice none 0 0] 34))).cell? ⟨w.heap.size + 1 + 1, 1, none⟩ = some (.slice ag ng cg) := by rw [cell_of_block hG]; rfl
  have HS0 := hid (show ∀ w', Below (((((w.alloc (Obj.cells #[.int .i64 ek, .string enm, .int .i64 enum, .int .i64 ek1, .slice ea1 en1 ec1, .int .i64 ek2, .slice ea2 en2 ec2, .int .i64 elb, .slice ea3 en3 ec3] 34)).alloc (Obj.cells #[.int .i64 kf, .slice af nf cf] 31)).alloc (Obj.cells #[.int .i64 kg, .slice ag ng cg] 31)).alloc (Obj.cells #[.int .i64 0, .string ByteArray.empty, .int .i64 0, .int .i64 0, .slice none 0 0, .int .i64 0, .slice none 0 0, .int .i64 0, .slice none 0 0] 34))).heap.size ((((w.alloc (Obj.cells #[.int .i64 ek, .string enm, .int .i64 enum, .int .i64 ek1, .slice ea1 en1 ec1, .int .i64 ek2, .slice ea2 en2 ec2, .int .i64 elb, .slice ea3 en3 ec3] 34)).alloc (Obj.cells #[.int .i64 kf, .slice af nf cf] 31)).alloc (Obj.cells #[.int .i64 kg, .slice ag ng cg] 31)).alloc (Obj.cells #[.int .i64 0, .string ByteArray.empty, .int .i64 0, .int .i64 0, .slice none 0 0, .int .i64 0, .slice none 0 0, .int .i64 0, .slice none 0 0] 34)) w' → (fun w' => w'.cell? ⟨w.heap.size, 0, none⟩ = some (.int .i64 ek) ∧ w'.cell? ⟨w.heap.size, 1, none⟩ = some (.string enm) ∧ w'.cell? ⟨w.heap.size, 2, none⟩ = some (.int .i64 enum) ∧ w'.cell? ⟨w.heap.size, 3, none⟩ = some (.int .i64 ek1) ∧ w'.cell? ⟨w.heap.size, 4, none⟩ = some (.slice ea1 en1 ec1) ∧ w'.cell? ⟨w.heap.size, 5, none⟩ = some (.int .i64 ek2) ∧ w'.cell? ⟨w.heap.size, 6, none⟩ = some (.slice ea2 en2 ec2) ∧ w'.cell? ⟨w.heap.size, 7, none⟩ = some (.int .i64 elb) ∧ w'.cell? ⟨w.heap.size, 8, none⟩ = some (.slice ea3 en3 ec3) ∧ w'.cell? ⟨w.heap.size + 1, 0, none⟩ = some (.int .i64 kf) ∧ w'.cell? ⟨w.heap.size + 1, 1, none⟩ = some (.slice af nf cf) ∧ w'.cell? ⟨w.heap.size + 1 + 1, 0, none⟩ = some (.int .i64 kg) ∧ w'.cell? ⟨w.heap.size + 1 + 1, 1, none⟩ = some (.slice ag ng cg)) w' from fun w' h => ⟨cell_keep x0 h, cell_keep x1 h, cell_keep x2 h, cell_keep x3 h, cell_keep x4 h, cell_keep x5 h, cell_keep x6 h, cell_keep x7 h, cell_keep x8 h, cell_keep s0 h, cell_keep s1 h, cell_keep t0 h, cell_keep t1 h⟩)
  have HB := hid hb0
  have HZ0 := hid hs0
  have HCF := hid hcf
  have HCG := hid hcg
  clear hb0 hs0 hB hV hG hZ hat hfr htg hcf hcg x0 x1 x2 x3 x4 x5 x6 x7 x8 s0 s1 t0 t1
  go_enter Tryd.func63, Tryd.ntmps63
  go_wp2_with fail
  refine regionL (s := 8) (S0 := (fun w' => w'.cell? ⟨w.heap.size, 0, none⟩ = some (.int .i64 ek) ∧ w'.cell? ⟨w.heap.size, 1, none⟩ = some (.string enm) ∧ w'.cell? ⟨w.heap.size, 2, none⟩ = some (.int .i64 enum) ∧ w'.cell? ⟨w.heap.size, 3, none⟩ = some (.int .i64 ek1) ∧ w'.cell? ⟨w.heap.size, 4, none⟩ = some (.slice ea1 en1 ec1) ∧ w'.cell? ⟨w.heap.size, 5, none⟩ = some (.int .i64 ek2) ∧ w'.cell? ⟨w.heap.size, 6, none⟩ = some (.slice ea2 en2 ec2) ∧ w'.cell? ⟨w.heap.size, 7, none⟩ = some (.int .i64 elb) ∧ w'.cell? ⟨w.heap.size, 8, none⟩ = some (.slice ea3 en3 ec3) ∧ w'.cell? ⟨w.heap.size + 1, 0, none⟩ = some (.int .i64 kf) ∧ w'.cell? ⟨w.heap.size + 1, 1, none⟩ = some (.slice af nf cf) ∧ w'.cell? ⟨w.heap.size + 1 + 1, 0, none⟩ = some (.int .i64 kg) ∧ w'.cell? ⟨w.heap.size + 1 + 1, 1, none⟩ = some (.slice ag ng cg))) (S1 := (fun _ => True)) (by kernel_rfl) (HS0.out _ (below_drew _)) (trivial) (fun hS0 => ?_)
  refine takeL0 (i := 0) (v := ?vq1) rfl rfl (by kernel_rfl) (by kernel_rfl) (by kernel_rfl) (by decide) (by kernel_rfl) (by kernel_rfl) (fun _ _ _ h => h) (Or.inl ⟨by rfl, ?hyq1⟩) (by assumption) ?_
  case hyq1 => (intro w hSw; (try dsimp only at hSw); go_simp; (try with_reducible rfl))
  try simp only [Act.put, List.setIfInBounds_toArray, List.set_cons_zero, List.set_cons_succ]
  refine takeL0 (i := 2) (v := ?vq2) rfl rfl (by kernel_rfl) (by kernel_rfl) (by kernel_rfl) (by decide) (by kernel_rfl) (by kernel_rfl) (fun _ _ _ h => h) (Or.inl ⟨by rfl, ?hyq2⟩) (by assumption) ?_
  case hyq2 => (intro w hSw; (try dsimp only at hSw); go_simp; (try with_reducible rfl))
  try simp only [Act.put, List.setIfInBounds_toArray, List.set_cons_zero, List.set_cons_succ]
  refine takeL0 (i := 4) (v := ?vq3) rfl rfl (by kernel_rfl) (by kernel_rfl) (by kernel_rfl) (by decide) (by kernel_rfl) (by kernel_rfl) (fun _ _ _ h => h) (Or.inl ⟨by rfl, ?hyq3⟩) (by assumption) ?_
  case hyq3 => (intro w hSw; (try dsimp only at hSw); go_simp; (try with_reducible rfl))
  try simp only [Act.put, List.setIfInBounds_toArray, List.set_cons_zero, List.set_cons_succ]
  refine takeL0 (i := 5) (v := ?vq4) rfl rfl (by kernel_rfl) (by kernel_rfl) (by kernel_rfl) (by decide) (by kernel_rfl) (by kernel_rfl) (fun _ _ _ h => h) (Or.inl ⟨by rfl, ?hyq4⟩) (by assumption) ?_
  case hyq4 => (intro w hSw; (try dsimp only at hSw); go_simp; (try with_reducible rfl))
  try simp only [Act.put, List.setIfInBounds_toArray, List.set_cons_zero, List.set_cons_succ]
  refine readyL (rs := [1, 6]) (by kernel_rfl) (by simp) ?_
  refine AllReadyL.cons rfl (fun K hK => ?_) ?_
  · go_simp
    refine (l1Copy_from (W0 := ((((w.alloc (Obj.cells #[.int .i64 ek, .string enm, .int .i64 enum, .int .i64 ek1, .slice ea1 en1 ec1, .int .i64 ek2, .slice ea2 en2 ec2, .int .i64 elb, .slice ea3 en3 ec3] 34)).alloc (Obj.cells #[.int .i64 kf, .slice af nf cf] 31)).alloc (Obj.cells #[.int .i64 kg, .slice ag ng cg] 31)).alloc (Obj.cells #[.int .i64 0, .string ByteArray.empty, .int .i64 0, .int .i64 0, .slice none 0 0, .int .i64 0, .slice none 0 0, .int .i64 0, .slice none 0 0] 34))) (below_drew _) HFR.out HCF.out).mono ?_
    rintro e w1 ⟨⟨v1, g1, rfl, hat1, hf1, hb1⟩, hU1⟩
    obtain ⟨ks, ns, as', cs, rfl⟩ := hat1.agg
    have hB1 := below_trans hU1 hb1
    have hf1n := hf1.mono hU1.size
    refine hK.out _ _ ?_ (fun hS1 => ?_)
    · exact ⟨trivial, fun _ => HS0.out _ hB1⟩
    clear hK K hS0
    try simp only [Act.put, List.setIfInBounds_toArray, List.set_cons_zero, List.set_cons_succ]
    refine readyL (rs := [3, 6]) (by kernel_rfl) (by simp) ?_
    refine AllReadyL.cons rfl (fun K hK => ?_) ?_
    · go_simp
      refine (l1Copy_from (W0 := ((((w.alloc (Obj.cells #[.int .i64 ek, .string enm, .int .i64 enum, .int .i64 ek1, .slice ea1 en1 ec1, .int .i64 ek2, .slice ea2 en2 ec2, .int .i64 elb, .slice ea3 en3 ec3] 34)).alloc (Obj.cells #[.int .i64 kf, .slice af nf cf] 31)).alloc (Obj.cells #[.int .i64 kg, .slice ag ng cg] 31)).alloc (Obj.cells #[.int .i64 0, .string ByteArray.empty, .int .i64 0, .int .i64 0, .slice none 0 0, .int .i64 0, .slice none 0 0, .int .i64 0, .slice none 0 0] 34))) hB1 HTG.out HCG.out).mono ?_
      rintro e w2 ⟨⟨v2, g2, rfl, hat2, hf2, hb2⟩, hU2⟩
      obtain ⟨kt, nt, at', ct, rfl⟩ := hat2.agg
      have hB2 := below_trans hU2 hb2
      have hf2n := hf2.mono hU2.size
      refine hK.out _ _ ?_ (fun hS2 => ?_)
      · exact ⟨trivial, fun _ => HS0.out _ hB2⟩
      clear hK K hS1
      try simp only [Act.put, List.setIfInBounds_toArray, List.set_cons_zero, List.set_cons_succ]
      refine readyL (rs := [6]) (by kernel_rfl) (by simp) ?_
      refine AllReadyL.cons rfl (fun K hK => ?_) AllReadyL.nil
      go_simp
      refine hK.out _ _ ?_ (fun hS3 => ?_)
      · exact ⟨trivial, fun _ => HS0.out _ (hB2.alloc hB2.size _)⟩
      clear hK K hS2
      try simp only [Act.put, List.setIfInBounds_toArray, List.set_cons_zero, List.set_cons_succ]
      refine readyL (rs := [7]) (by kernel_rfl) (by simp) ?_
      refine AllReadyL.cons rfl (fun K hK => ?_) AllReadyL.nil
      go_simp
      refine hK.out _ _ ?_ (fun hS4 => ?_)
      · exact ⟨trivial, fun _ => HS0.out _ (hB2.alloc hB2.size _)⟩
      clear hK K hS3
      try simp only [Act.put, List.setIfInBounds_toArray, List.set_cons_zero, List.set_cons_succ]
      refine readyL (rs := [8]) (by kernel_rfl) (by simp) ?_
      refine AllReadyL.cons rfl (fun K hK => ?_) AllReadyL.nil
      obtain ⟨y0, y1, y2, y3, y4, y5, y6, y7, y8⟩ := cells9 (HM.out _ (hB2.alloc hB2.size (Obj.cells #[.int .i64 ek, .string enm, .int .i64 enum, .int .i64 ek1, .slice ea1 en1 ec1, .int .i64 ek2, .slice ea2 en2 ec2, .int .i64 elb, .slice ea3 en3 ec3] 34)))
      have yz := fun o => frozen_of_block (o := o) (HM.out _ (hB2.alloc hB2.size (Obj.cells #[.int .i64 ek, .string enm, .int .i64 enum, .int .i64 ek1, .slice ea1 en1 ec1, .int .i64 ek2, .slice ea2 en2 ec2, .int .i64 elb, .slice ea3 en3 ec3] 34)))
      go_simp
      refine hK.out _ _ ?_ (fun hS5 => ?_)
      · exact ⟨trivial, fun h => absurd (h.symm.trans (show _ = true by kernel_rfl)) (by decide)⟩
      clear hK K hS4
      try simp only [Act.put, List.setIfInBounds_toArray, List.set_cons_zero, List.set_cons_succ]
      refine doneL (by kernel_rfl) ?_ _
      have FIN := hid (cast_close (wF := w2.alloc (Obj.cells #[.int .i64 ek, .string enm, .int .i64 enum, .int .i64 ek1, .slice ea1 en1 ec1, .int .i64 ek2, .slice ea2 en2 ec2, .int .i64 elb, .slice ea3 en3 ec3] 34)) ((hat2).below ((Below.refl _ _).alloc (Nat.le_refl _) _)) ((hat1.below (below_trans hb2 ((Below.refl _ _).alloc (Nat.le_refl _) _)))) (alloc_new w2 (Obj.cells #[.int .i64 ek, .string enm, .int .i64 enum, .int .i64 ek1, .slice ea1 en1 ec1, .int .i64 ek2, .slice ea2 en2 ec2, .int .i64 elb, .slice ea3 en3 ec3] 34)) (HAT.out.below (hB2.alloc hB2.size _)) HEF.out (M := w.heap.size + 1 + 1 + 1) (by omega) (fun x hx => by have := hf1n.ge x hx; have := HZ0.out; omega) (fun x hx => by have := hf2n.ge x hx; have := HZ0.out; omega) (by have := HZ0.out; have := hB2.size; simp only [World.drew] at *; omega) (below_trans HB.out (hB2.alloc hB2.size _)) (lb := lb))
      simp only [put, Nat.zero_add, Nat.reduceAdd] at FIN
      go_wp2_with fail
      exact bodyPost_ret (v := .agg (Array.mk [.int .i64 14, .string ⟨#[]⟩, .int .i64 0, .int .i64 kt, .slice at' nt ct, .int .i64 ks, .slice as' ns cs, .int .i64 lb, .slice (some ⟨w2.heap.size, 0, none⟩) 1 1])) (by simp [results, Tryd.results63, go_sem, y0, y1, y2, y3, y4, y5, y6, y7, y8]) rfl FIN.out
    refine AllReadyL.cons rfl (fun K hK => ?_) AllReadyL.nil
    go_simp
    refine hK.out _ _ ?_ (fun hS2 => ?_)
    · exact ⟨trivial, fun _ => HS0.out _ (hB1.alloc hB1.size _)⟩
    clear hK K hS1
    try simp only [Act.put, List.setIfInBounds_toArray, List.set_cons_zero, List.set_cons_succ]
    refine readyL (rs := [3]) (by kernel_rfl) (by simp) ?_
    refine AllReadyL.cons rfl (fun K hK => ?_) AllReadyL.nil
    go_simp
    refine (l1Copy_from (W0 := ((((w.alloc (Obj.cells #[.int .i64 ek, .string enm, .int .i64 enum, .int .i64 ek1, .slice ea1 en1 ec1, .int .i64 ek2, .slice ea2 en2 ec2, .int .i64 elb, .slice ea3 en3 ec3] 34)).alloc (Obj.cells #[.int .i64 kf, .slice af nf cf] 31)).alloc (Obj.cells #[.int .i64 kg, .slice ag ng cg] 31)).alloc (Obj.cells #[.int .i64 0, .string ByteArray.empty, .int .i64 0, .int .i64 0, .slice none 0 0, .int .i64 0, .slice none 0 0, .int .i64 0, .slice none 0 0] 34))) (below_trans hB1 ((Below.refl w1.heap.size w1).alloc (Nat.le_refl _) (Obj.cells #[.int .i64 ek, .string enm, .int .i64 enum, .int .i64 ek1, .slice ea1 en1 ec1, .int .i64 ek2, .slice ea2 en2 ec2, .int .i64 elb, .slice ea3 en3 ec3] 34))) HTG.out HCG.out).mono ?_
    rintro e w2 ⟨⟨v2, g2, rfl, hat2, hf2, hb2⟩, hU2⟩
    obtain ⟨kt, nt, at', ct, rfl⟩ := hat2.agg
    have hB2 := below_trans hU2 hb2
    have hf2n := hf2.mono hU2.size
    refine hK.out _ _ ?_ (fun hS3 => ?_)
    · exact ⟨trivial, fun _ => HS0.out _ hB2⟩
    clear hK K hS2
    try simp only [Act.put, List.setIfInBounds_toArray, List.set_cons_zero, List.set_cons_succ]
    refine readyL (rs := [7]) (by kernel_rfl) (by simp) ?_
    refine AllReadyL.cons rfl (fun K hK => ?_) AllReadyL.nil
    go_simp
    refine hK.out _ _ ?_ (fun hS4 => ?_)
    · exact ⟨trivial, fun _ => HS0.out _ hB2⟩
    clear hK K hS3
    try simp only [Act.put, List.setIfInBounds_toArray, List.set_cons_zero, List.set_cons_succ]
    refine readyL (rs := [8]) (by kernel_rfl) (by simp) ?_
    refine AllReadyL.cons rfl (fun K hK => ?_) AllReadyL.nil
    obtain ⟨y0, y1, y2, y3, y4, y5, y6, y7, y8⟩ := cells9 (HM.out _ hB2)
    have yz := fun o => frozen_of_block (o := o) (HM.out _ hB2)
    go_simp
    refine hK.out _ _ ?_ (fun hS5 => ?_)
    · exact ⟨trivial, fun h => absurd (h.symm.trans (show _ = true by kernel_rfl)) (by decide)⟩
    clear hK K hS4
    try simp only [Act.put, List.setIfInBounds_toArray, List.set_cons_zero, List.set_cons_succ]
    refine doneL (by kernel_rfl) ?_ _
    have FIN := hid (cast_close (wF := w2) hat2 (hat1.below (below_trans ((Below.refl _ _).alloc (Nat.le_refl _) _) hb2)) ((hb2.block _ (lt_of_block (alloc_new w1 (Obj.cells #[.int .i64 ek, .string enm, .int .i64 enum, .int .i64 ek1, .slice ea1 en1 ec1, .int .i64 ek2, .slice ea2 en2 ec2, .int .i64 elb, .slice ea3 en3 ec3] 34)))).trans (alloc_new w1 (Obj.cells #[.int .i64 ek, .string enm, .int .i64 enum, .int .i64 ek1, .slice ea1 en1 ec1, .int .i64 ek2, .slice ea2 en2 ec2, .int .i64 elb, .slice ea3 en3 ec3] 34))) (HAT.out.below hB2) HEF.out (M := w.heap.size + 1 + 1 + 1) (by omega) (fun x hx => by have := hf1n.ge x hx; have := HZ0.out; omega) (fun x hx => by have := hf2n.ge x hx; have := HZ0.out; omega) (by have := HZ0.out; have := hB1.size; simp only [World.drew] at *; omega) (below_trans HB.out (hB2)) (lb := lb))
    simp only [put, Nat.zero_add, Nat.reduceAdd] at FIN
    go_wp2_with fail
    exact bodyPost_ret (v := .agg (Array.mk [.int .i64 14, .string ⟨#[]⟩, .int .i64 0, .int .i64 kt, .slice at' nt ct, .int .i64 ks, .slice as' ns cs, .int .i64 lb, .slice (some ⟨w1.heap.size, 0, none⟩) 1 1])) (by simp [results, Tryd.results63, go_sem, y0, y1, y2, y3, y4, y5, y6, y7, y8]) rfl FIN.out
  refine AllReadyL.cons rfl (fun K hK => ?_) AllReadyL.nil
  go_simp
  refine hK.out _ _ ?_ (fun hS1 => ?_)
  · exact ⟨trivial, fun _ => HS0.out _ ((below_drew _).alloc (by simp) _)⟩
  clear hK K hS0
  try simp only [Act.put, List.setIfInBounds_toArray, List.set_cons_zero, List.set_cons_succ]
  refine readyL (rs := [1]) (by kernel_rfl) (by simp) ?_
  refine AllReadyL.cons rfl (fun K hK => ?_) AllReadyL.nil
  go_simp
  refine (l1Copy_from (W0 := ((((w.alloc (Obj.cells #[.int .i64 ek, .string enm, .int .i64 enum, .int .i64 ek1, .slice ea1 en1 ec1, .int .i64 ek2, .slice ea2 en2 ec2, .int .i64 elb, .slice ea3 en3 ec3] 34)).alloc (Obj.cells #[.int .i64 kf, .slice af nf cf] 31)).alloc (Obj.cells #[.int .i64 kg, .slice ag ng cg] 31)).alloc (Obj.cells #[.int .i64 0, .string ByteArray.empty, .int .i64 0, .int .i64 0, .slice none 0 0, .int .i64 0, .slice none 0 0, .int .i64 0, .slice none 0 0] 34))) ((below_drew _).alloc (by simp) _) HFR.out HCF.out).mono ?_
  rintro e w1 ⟨⟨v1, g1, rfl, hat1, hf1, hb1⟩, hU1⟩
  obtain ⟨ks, ns, as', cs, rfl⟩ := hat1.agg
  have hB1 := below_trans hU1 hb1
  have hf1n := hf1.mono hU1.size
  refine hK.out _ _ ?_ (fun hS2 => ?_)
  · exact ⟨trivial, fun _ => HS0.out _ hB1⟩
  clear hK K hS1
  try simp only [Act.put, List.setIfInBounds_toArray, List.set_cons_zero, List.set_cons_succ]
  refine readyL (rs := [3]) (by kernel_rfl) (by simp) ?_
  refine AllReadyL.cons rfl (fun K hK => ?_) AllReadyL.nil
  go_simp
  refine (l1Copy_from (W0 := ((((w.alloc (Obj.cells #[.int .i64 ek, .string enm, .int .i64 enum, .int .i64 ek1, .slice ea1 en1 ec1, .int .i64 ek2, .slice ea2 en2 ec2, .int .i64 elb, .slice ea3 en3 ec3] 34)).alloc (Obj.cells #[.int .i64 kf, .slice af nf cf] 31)).alloc (Obj.cells #[.int .i64 kg, .slice ag ng cg] 31)).alloc (Obj.cells #[.int .i64 0, .string ByteArray.empty, .int .i64 0, .int .i64 0, .slice none 0 0, .int .i64 0, .slice none 0 0, .int .i64 0, .slice none 0 0] 34))) hB1 HTG.out HCG.out).mono ?_
  rintro e w2 ⟨⟨v2, g2, rfl, hat2, hf2, hb2⟩, hU2⟩
  obtain ⟨kt, nt, at', ct, rfl⟩ := hat2.agg
  have hB2 := below_trans hU2 hb2
  have hf2n := hf2.mono hU2.size
  refine hK.out _ _ ?_ (fun hS3 => ?_)
  · exact ⟨trivial, fun _ => HS0.out _ hB2⟩
  clear hK K hS2
  try simp only [Act.put, List.setIfInBounds_toArray, List.set_cons_zero, List.set_cons_succ]
  refine readyL (rs := [7]) (by kernel_rfl) (by simp) ?_
  refine AllReadyL.cons rfl (fun K hK => ?_) AllReadyL.nil
  go_simp
  refine hK.out _ _ ?_ (fun hS4 => ?_)
  · exact ⟨trivial, fun _ => HS0.out _ hB2⟩
  clear hK K hS3
  try simp only [Act.put, List.setIfInBounds_toArray, List.set_cons_zero, List.set_cons_succ]
  refine readyL (rs := [8]) (by kernel_rfl) (by simp) ?_
  refine AllReadyL.cons rfl (fun K hK => ?_) AllReadyL.nil
  obtain ⟨y0, y1, y2, y3, y4, y5, y6, y7, y8⟩ := cells9 (HM.out _ hB2)
  have yz := fun o => frozen_of_block (o := o) (HM.out _ hB2)
  go_simp
  refine hK.out _ _ ?_ (fun hS5 => ?_)
  · exact ⟨trivial, fun h => absurd (h.symm.trans (show _ = true by kernel_rfl)) (by decide)⟩
  clear hK K hS4
  try simp only [Act.put, List.setIfInBounds_toArray, List.set_cons_zero, List.set_cons_succ]
  refine doneL (by kernel_rfl) ?_ _
  have HE2 := (hb2.block _ (Nat.lt_of_lt_of_le (lt_of_block (alloc_new (((((w.alloc (Obj.cells #[.int .i64 ek, .string enm, .int .i64 enum, .int .i64 ek1, .slice ea1 en1 ec1, .int .i64 ek2, .slice ea2 en2 ec2, .int .i64 elb, .slice ea3 en3 ec3] 34)).alloc (Obj.cells #[.int .i64 kf, .slice af nf cf] 31)).alloc (Obj.cells #[.int .i64 kg, .slice ag ng cg] 31)).alloc (Obj.cells #[.int .i64 0, .string ByteArray.empty, .int .i64 0, .int .i64 0, .slice none 0 0, .int .i64 0, .slice none 0 0, .int .i64 0, .slice none 0 0] 34))).drew (Obj.cells #[.int .i64 ek, .string enm, .int .i64 enum, .int .i64 ek1, .slice ea1 en1 ec1, .int .i64 ek2, .slice ea2 en2 ec2, .int .i64 elb, .slice ea3 en3 ec3] 34))) hb1.size)).trans ((hb1.block _ (lt_of_block (alloc_new (((((w.alloc (Obj.cells #[.int .i64 ek, .string enm, .int .i64 enum, .int .i64 ek1, .slice ea1 en1 ec1, .int .i64 ek2, .slice ea2 en2 ec2, .int .i64 elb, .slice ea3 en3 ec3] 34)).alloc (Obj.cells #[.int .i64 kf, .slice af nf cf] 31)).alloc (Obj.cells #[.int .i64 kg, .slice ag ng cg] 31)).alloc (Obj.cells #[.int .i64 0, .string ByteArray.empty, .int .i64 0, .int .i64 0, .slice none 0 0, .int .i64 0, .slice none 0 0, .int .i64 0, .slice none 0 0] 34))).drew (Obj.cells #[.int .i64 ek, .string enm, .int .i64 enum, .int .i64 ek1, .slice ea1 en1 ec1, .int .i64 ek2, .slice ea2 en2 ec2, .int .i64 elb, .slice ea3 en3 ec3] 34)))).trans (alloc_new (((((w.alloc (Obj.cells #[.int .i64 ek, .string enm, .int .i64 enum, .int .i64 ek1, .slice ea1 en1 ec1, .int .i64 ek2, .slice ea2 en2 ec2, .int .i64 elb, .slice ea3 en3 ec3] 34)).alloc (Obj.cells #[.int .i64 kf, .slice af nf cf] 31)).alloc (Obj.cells #[.int .i64 kg, .slice ag ng cg] 31)).alloc (Obj.cells #[.int .i64 0, .string ByteArray.empty, .int .i64 0, .int .i64 0, .slice none 0 0, .int .i64 0, .slice none 0 0, .int .i64 0, .slice none 0 0] 34))).drew (Obj.cells #[.int .i64 ek, .string enm, .int .i64 enum, .int .i64 ek1, .slice ea1 en1 ec1, .int .i64 ek2, .slice ea2 en2 ec2, .int .i64 elb, .slice ea3 en3 ec3] 34)))
  rw [show ((((((w.alloc (Obj.cells #[.int .i64 ek, .string enm, .int .i64 enum, .int .i64 ek1, .slice ea1 en1 ec1, .int .i64 ek2, .slice ea2 en2 ec2, .int .i64 elb, .slice ea3 en3 ec3] 34)).alloc (Obj.cells #[.int .i64 kf, .slice af nf cf] 31)).alloc (Obj.cells #[.int .i64 kg, .slice ag ng cg] 31)).alloc (Obj.cells #[.int .i64 0, .string ByteArray.empty, .int .i64 0, .int .i64 0, .slice none 0 0, .int .i64 0, .slice none 0 0, .int .i64 0, .slice none 0 0] 34))).drew).heap.size = w.heap.size + 1 + 1 + 1 + 1 from HZ0.out] at HE2
  have FIN := hid (cast_close (wF := w2) hat2 (hat1.below hb2) HE2 (HAT.out.below hB2) HEF.out (M := w.heap.size + 1 + 1 + 1) (by omega) (fun x hx => by have := hf1n.ge x hx; have := HZ0.out; omega) (fun x hx => by have := hf2n.ge x hx; have := HZ0.out; omega) (by have := HZ0.out; have := (trivial : True); simp only [World.drew] at *; omega) (below_trans HB.out (hB2)) (lb := lb))
  simp only [put, Nat.zero_add, Nat.reduceAdd] at FIN
  go_wp2_with fail
  exact bodyPost_ret (v := .agg (Array.mk [.int .i64 14, .string ⟨#[]⟩, .int .i64 0, .int .i64 kt, .slice at' nt ct, .int .i64 ks, .slice as' ns cs, .int .i64 lb, .slice (some ⟨w.heap.size + 1 + 1 + 1 + 1, 0, none⟩) 1 1])) (by simp [results, Tryd.results63, go_sem, y0, y1, y2, y3, y4, y5, y6, y7, y8]) rfl FIN.out
end Go.Proofs.YtjpmlmdbldcbjaaDoor
