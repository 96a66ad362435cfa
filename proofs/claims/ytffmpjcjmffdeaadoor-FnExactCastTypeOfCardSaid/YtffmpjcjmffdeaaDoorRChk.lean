/- The program's check, over any fitter that has a contract. -/
import Derived.Deep.RegionHeld3
import Derived.Test.YtffmpjcjmffdeaaDoorRG23
import Derived.Test.YtffmpjcjmffdeaaDoorRG1
namespace Go.Proofs.YtffmpjcjmffdeaaDoor
open Go.RowKit

/-- What is asked of a fitter: the method that a dynamic call of it reaches, and what that says. -/
structure FitC (Z : Bool) (U : Option Nat) (I : Int → World → Prop) (F : FitF) (ft : TypeId) (recv : Value) (fn : FuncId) (rv : Value) : Prop where
  meth : ∀ (N : Nat) (w : World), N = Tryd.prog.types.size + Made.depth → (method N ft recv "loop.example/gradual/impl.fit").run Tryd.prog w = .ok (fn, rv) w
  ahead : ∀ (N : Nat) (w : World), N = Tryd.prog.types.size + Made.depth → (nilAhead N ft recv "loop.example/gradual/impl.fit").run Tryd.prog w = .ok (some false) w
  enter : ∀ (args : Array Value) (w : World), (callFunc fn args).run Tryd.prog w = .ok (.enter fn args) w
  call : ∀ (s : Int) (e : Tm) (t u : Ty) (ve vt vu : Value) (fe gt gu : List Nat) (w : World), e.At w ve fe → t.At w vt gt → u.At w vu gu → vld t = true → (∀ b ∈ fe ++ (gt ++ gu), Gd Z U w b) → UL U w.heap.size → I s w →
    Calls Tryd.prog fn #[rv, ve, vt, vu] w (FitOut Z U I (fe ++ (gt ++ gu)) w (F s e t u))

/-- What a check of a term says. -/
def ChC (Z : Bool) (U : Option Nat) (I : Int → World → Prop) (F : FitF) (ft : TypeId) (recv : Value) (t : Tm) : Prop :=
  ∀ (xs : List Bd) (p : Option Addr) (fps : List Nat) (v : Value) (fe : List Nat) (w : World) (s : Int), ScAt w xs (.pointer p) fps → t.At w v fe → kOk t = true → (∀ b ∈ fe ++ fps, Gd Z U w b) → UL U w.heap.size → I s w →
    Calls Tryd.prog 62 #[.pointer p, v, .iface ft recv] w (ChOut Z U I (fe ++ fps) w (chM F xs t s))

/-- The check held: the term and the type stored into the results' boxes. -/
theorem ChOut.yes {Z : Bool} {U : Option Nat} {I : Int → World → Prop} {A : List Nat} {w X : World} {s : Int} {e' : Tm} {t' : Ty} {r0 : Int} {r1 : ByteArray} {r2 r3 : Int} {r4 r6 : Nat} {r5 : Option Addr} {r7 : Int} {r8 r10 : Nat} {r9 : Option Addr} {r11 : Int} {r12 r14 : Nat} {r13 : Option Addr} {k : Int} {n c : Nat} {a : Option Addr} {f1 f2 : List Nat} {P1 P2 : Nat}
    (hK : KeepI U I) (h1 : e'.At X (.agg #[.int .i64 r0, .string r1, .int .i64 r2, .int .i64 r3, .slice r5 r4 r6, .int .i64 r7, .slice r9 r8 r10, .int .i64 r11, .slice r13 r12 r14]) f1) (h2 : t'.At X (.agg #[.int .i64 k, .slice a n c]) f2) (hs : Src Z U A w X (f1 ++ f2)) (hn : ∀ b ∈ f1 ++ f2, b ≠ P1 ∧ b ≠ P2) (hb : Bo U w X) (hI : I s X) (hU : UL U w.heap.size) (hP1 : w.heap.size ≤ P1) (hP2 : w.heap.size ≤ P2) :
    ChOut Z U I A w (some (e', t'), s) (.returned (.tuple #[.agg #[.int .i64 r0, .string r1, .int .i64 r2, .int .i64 r3, .slice r5 r4 r6, .int .i64 r7, .slice r9 r8 r10, .int .i64 r11, .slice r13 r12 r14], .agg #[.int .i64 k, .slice a n c], .bool true]))
      (put (put X P1 0 [.int .i64 r0, .string r1, .int .i64 r2, .int .i64 r3, .slice r5 r4 r6, .int .i64 r7, .slice r9 r8 r10, .int .i64 r11, .slice r13 r12 r14]) P2 0 [.int .i64 k, .slice a n c]) := by
  refine ⟨e', t', _, _, _, _, _, _, _, _, _, _, _, _, _, _, _, _, _, _, _, f1, f2, rfl, (h1.putne (fun b hb => (hn b (by simp [hb])).1)).putne (fun b hb => (hn b (by simp [hb])).2), (h2.putne (fun b hb => (hn b (by simp [hb])).1)).putne (fun b hb => (hn b (by simp [hb])).2), fun p h => by cases h; rfl, (hs.put (fun b hb => (hn b hb).1)).put (fun b hb => (hn b hb).2), (hb.put hP1).put hP2, hK.put (hK.put hI hU hP1) hU hP2⟩

theorem ChOut.drew {Z : Bool} {U : Option Nat} {I : Int → World → Prop} {A : List Nat} {w W : World} {o : Option (Tm × Ty) × Int} {e : Ending} (h : ChOut Z U I A w o e W) (hK : KeepI U I) (hU : UL U w.heap.size) : ChOut Z U I A w o e W.drew := by
  obtain ⟨e', t', r0, r1, r2, r3, r4, r5, r6, r7, r8, r9, r10, r11, r12, r13, r14, k, n, a, c, f1, f2, he, h1, h2, hp, hs, hb, hI⟩ := h
  exact ⟨e', t', r0, r1, r2, r3, r4, r5, r6, r7, r8, r9, r10, r11, r12, r13, r14, k, n, a, c, f1, f2, he, h1.below (below_drew W), h2.below (below_drew W), hp, hs.later (fun b hb => by
    rcases List.mem_append.1 hb with h | h
    · exact h1.lt b h
    · exact h2.lt b h) (Bo.of_below (below_drew W)), hb.trans (Bo.of_below (below_drew W)), hK.below hI (hU.mono hb.size) (below_drew W)⟩

set_option maxRecDepth 100000 in
set_option maxHeartbeats 8000000 in
theorem check_of {Z : Bool} {U : Option Nat} {I : Int → World → Prop} {F : FitF} {ft : TypeId} {recv : Value} {fn : FuncId} {rv : Value} (HFIT : FitC Z U I F ft recv fn rv) (HK : KeepI U I)
    (k : Int) (nm : ByteArray) (num : Int) (ty fr : Ty) (lb : Int) (ts : List Tm) (ih : ∀ t ∈ ts, ChC Z U I F ft recv t) : ChC Z U I F ft recv (.mk k nm num ty fr lb ts) := by
  intro xs p fps v fe w s hsc hat hko hgd hul hI
  have hltA : ∀ b ∈ fe ++ fps, b < w.heap.size := fun b hb => by
    rcases List.mem_append.1 hb with h | h
    · exact hat.lt b h
    · exact hsc.lt b h
  have HAT := hid hat
  obtain ⟨k1, n1, a1, c1, k2, n2, a2, c2, a3, c3, f1, f2, f3, rfl, hnm, ht1, ht2, hfe, hs3⟩ := hat.parts
  simp only [kOk, Bool.and_eq_true, beq_iff_eq] at hko
  obtain ⟨hkd, hkL⟩ := hko
  obtain ⟨hk1, hk14, hn3⟩ := kids_rng hkd
  have HB := hid (show Below w.heap.size w (((w.alloc (Obj.cells #[.int .i64 k, .string nm, .int .i64 num, .int .i64 k1, .slice a1 n1 c1, .int .i64 k2, .slice a2 n2 c2, .int .i64 lb, .slice a3 ts.length c3] 35)).alloc (Obj.cells #[.int .i64 0, .string ⟨#[]⟩, .int .i64 0, .int .i64 0, .slice none 0 0, .int .i64 0, .slice none 0 0, .int .i64 0, .slice none 0 0] 35)).alloc (Obj.cells #[.int .i64 0, .slice none 0 0] 32)) from (((Below.refl _ _).alloc (Nat.le_refl _) _).alloc (by simp) _).alloc (by simp; omega) _)
  have HSZ := hid (show ((((w.alloc (Obj.cells #[.int .i64 k, .string nm, .int .i64 num, .int .i64 k1, .slice a1 n1 c1, .int .i64 k2, .slice a2 n2 c2, .int .i64 lb, .slice a3 ts.length c3] 35)).alloc (Obj.cells #[.int .i64 0, .string ⟨#[]⟩, .int .i64 0, .int .i64 0, .slice none 0 0, .int .i64 0, .slice none 0 0, .int .i64 0, .slice none 0 0] 35)).alloc (Obj.cells #[.int .i64 0, .slice none 0 0] 32))).heap.size = w.heap.size + 1 + 1 + 1 by simp)
  have HN3 := hid (fun (W : World) (h : Below ((((w.alloc (Obj.cells #[.int .i64 k, .string nm, .int .i64 num, .int .i64 k1, .slice a1 n1 c1, .int .i64 k2, .slice a2 n2 c2, .int .i64 lb, .slice a3 ts.length c3] 35)).alloc (Obj.cells #[.int .i64 0, .string ⟨#[]⟩, .int .i64 0, .int .i64 0, .slice none 0 0, .int .i64 0, .slice none 0 0, .int .i64 0, .slice none 0 0] 35)).alloc (Obj.cells #[.int .i64 0, .slice none 0 0] 32))).heap.size (((w.alloc (Obj.cells #[.int .i64 k, .string nm, .int .i64 num, .int .i64 k1, .slice a1 n1 c1, .int .i64 k2, .slice a2 n2 c2, .int .i64 lb, .slice a3 ts.length c3] 35)).alloc (Obj.cells #[.int .i64 0, .string ⟨#[]⟩, .int .i64 0, .int .i64 0, .slice none 0 0, .int .i64 0, .slice none 0 0, .int .i64 0, .slice none 0 0] 35)).alloc (Obj.cells #[.int .i64 0, .slice none 0 0] 32)) W) => three_out h)
  obtain ⟨z0, z1, z2, z3, z4, z5, z6, z7, z8⟩ := cells9 (three_out (Below.refl _ (((w.alloc (Obj.cells #[.int .i64 k, .string nm, .int .i64 num, .int .i64 k1, .slice a1 n1 c1, .int .i64 k2, .slice a2 n2 c2, .int .i64 lb, .slice a3 ts.length c3] 35)).alloc (Obj.cells #[.int .i64 0, .string ⟨#[]⟩, .int .i64 0, .int .i64 0, .slice none 0 0, .int .i64 0, .slice none 0 0, .int .i64 0, .slice none 0 0] 35)).alloc (Obj.cells #[.int .i64 0, .slice none 0 0] 32)))).1
  have HSC := hid hsc
  have HKD := hid (And.intro hkd hkL)
  have HRG := hid (And.intro hk1 (And.intro hk14 hn3))
  have HGD := hid hgd
  have HUL := hid hul
  have HI := hid hI
  have HLA := hid hltA
  have HT1 := hid ht1
  have HT2 := hid ht2
  have HS3 := hid hs3
  have HIH := hid ih
  have HFE := hid hfe
  clear hat hsc hkd hkL hgd hul hI hltA ht1 ht2 hs3 hk1 hk14 hn3 ih hfe
  go_enter Tryd.func62, Tryd.ntmps62
  go_upto_if 20 with (fail)
  obtain ⟨Z0, hZ0⟩ : ∃ Z0, Z0 = (((w.alloc (Obj.cells #[.int .i64 k, .string nm, .int .i64 num, .int .i64 k1, .slice a1 n1 c1, .int .i64 k2, .slice a2 n2 c2, .int .i64 lb, .slice a3 ts.length c3] 35)).alloc (Obj.cells #[.int .i64 0, .string ⟨#[]⟩, .int .i64 0, .int .i64 0, .slice none 0 0, .int .i64 0, .slice none 0 0, .int .i64 0, .slice none 0 0] 35)).alloc (Obj.cells #[.int .i64 0, .slice none 0 0] 32)) := ⟨_, rfl⟩
  rw [← hZ0]
  rw [← hZ0] at HB HSZ HN3 z0 z1 z2 z3 z4 z5 z6 z7 z8
  clear hZ0
  go_cut [9] (fun s9 wx => ∃ p9 f9, s9 = .pointer p9 ∧ ScAt wx (inS xs k nm ty) (.pointer p9) f9 ∧ SrcB (f1 ++ fps) Z0 wx f9 ∧ Below Z0.heap.size Z0 wx)
  case first =>
    by_cases h5 : k = 5
    · subst h5
      have HW := hid (with_any xs p fps nm ty k1 n1 a1 c1 f1 Z0 (HSC.out.below HB.out) hnm (HT1.out.below HB.out))
      go_wp2_with fail
      refine HW.out.mono ?_
      rintro e w1 ⟨b, g, rfl, hs1, hsr, hb1⟩
      go_wp2_with fail
      go_meet
      exact ⟨_, g, rfl, hs1, hsr, hb1⟩
    · have hk5 : (k == 5) = false := by simpa using h5
      go_wp2_with fail
      go_meet
      exact ⟨p, fps, rfl, by unfold inS; rw [if_neg h5]; exact HSC.out.below HB.out, SrcB.given (fun b hb => by simp [hb]), Below.refl _ _⟩
  case rest =>
  obtain ⟨p9, f9, rfl, hs9, hsr9, hb9⟩ := hcut
  rename World => X1
  have HS9 := hid hs9
  have HF9 := hid hsr9
  have HB9 := hid hb9
  replace z0 := cell_keep z0 hb9
  replace z1 := cell_keep z1 hb9
  replace z2 := cell_keep z2 hb9
  replace z3 := cell_keep z3 hb9
  replace z4 := cell_keep z4 hb9
  replace z5 := cell_keep z5 hb9
  replace z6 := cell_keep z6 hb9
  replace z7 := cell_keep z7 hb9
  replace z8 := cell_keep z8 hb9
  obtain ⟨ZM, hZM, hmk1⟩ : ∃ Z : Array Value, Z.size = ts.length * 9 ∧ ∀ w : World, (Instr.makeSlice 33 (.int .i64 (ts.length : Int)) (.int .i64 (ts.length : Int))).run Tryd.prog w = .ok (.slice (some ⟨w.heap.size, 0, none⟩) ts.length ts.length) (w.alloc (.cells Z 35)) := by
    have hN := HRG.out.2.2
    obtain ⟨i0, hi, hz0, hz1, hz2⟩ := info_parts (P := Tryd.prog) (e := 35) Tryd.infoTm
    have r := fun w : World => run_make w _ _ i0 _ Tryd.underTms hi hz0 .i64 .i64 (ts.length : Int) (ts.length : Int) (by omega) (by omega) (by rw [hz2]; omega) (by omega)
    simp only [Int.toNat_natCast, hz1] at r
    exact ⟨_, size_madeCells _ _, r⟩
  obtain ⟨ZT, hZT, hmk2⟩ : ∃ Z : Array Value, Z.size = ts.length * 2 ∧ ∀ w : World, (Instr.makeSlice 30 (.int .i64 (ts.length : Int)) (.int .i64 (ts.length : Int))).run Tryd.prog w = .ok (.slice (some ⟨w.heap.size, 0, none⟩) ts.length ts.length) (w.alloc (.cells Z 32)) := by
    have hN := HRG.out.2.2
    obtain ⟨i0, hi, hz0, hz1, hz2⟩ := info_parts (P := Tryd.prog) (e := 32) Tryd.infoTy2
    have r := fun w : World => run_make w _ _ i0 _ Tryd.underTys2 hi hz0 .i64 .i64 (ts.length : Int) (ts.length : Int) (by omega) (by omega) (by rw [hz2]; omega) (by omega)
    simp only [Int.toNat_natCast, hz1] at r
    exact ⟨_, size_madeCells _ _, r⟩
  have HZ := hid (And.intro hZM hZT)
  clear hs9 hsr9 hb9 hZM hZT
  have HKZ := hid (fun (W : World) (h : Below X1.heap.size X1 W) => (show W.cell? ⟨w.heap.size, 8, none⟩ = some (.slice a3 ts.length c3) from cell_keep z8 h))
  go_upto_region 4 with (fail)
  go_cut [10, 11] (fun s10 s11 wx => ∃ M1 M2 C1 C2, s10 = .slice (some ⟨M1, 0, none⟩) ts.length ts.length ∧ s11 = .slice (some ⟨M2, 0, none⟩) ts.length ts.length ∧ wx.heap[M1]? = some (.cells C1 35 (0, 0)) ∧ C1.size = ts.length * 9 ∧ wx.heap[M2]? = some (.cells C2 32 (0, 0)) ∧ C2.size = ts.length * 2 ∧ M1 ≠ M2 ∧ X1.heap.size ≤ M1 ∧ X1.heap.size ≤ M2 ∧ Below X1.heap.size X1 wx)
  case first =>
    go_region_held3 (fun w' => w'.cell? ⟨w.heap.size, 8, none⟩ = some (.slice a3 ts.length c3))
      ((refine HKZ.out _ ?_; (first | with_reducible exact below_drew _ | exact ((Below.refl _ _).alloc (Nat.le_refl _) _).drew | exact (((Below.refl _ _).alloc (Nat.le_refl _) _).alloc (by simp) _).drew | exact (below_drew X1).alloc (below_drew X1).size _ | exact ((below_drew X1).alloc (below_drew X1).size _).alloc (by simp) _ | exact (Below.refl _ _).alloc (Nat.le_refl _) _ | exact ((Below.refl _ _).alloc (Nat.le_refl _) _).alloc (by simp) _)))
      (fail)
    all_goals
      go_wp2_with fail
      go_meet
      first
        | (refine ⟨X1.heap.size, X1.heap.size + 1, ZM, ZT, ?_, ?_, ?_, HZ.out.1, ?_, HZ.out.2, by omega, Nat.le_refl _, by omega, ?_⟩; (with_reducible rfl); (with_reducible rfl); (obtain ⟨g1, g2, -⟩ := fin_a (y := X1) (.cells ZM 35) (.cells ZT 32); exact g1); (obtain ⟨g1, g2, -⟩ := fin_a (y := X1) (.cells ZM 35) (.cells ZT 32); exact g2); (first | exact (((Below.refl _ _).alloc (Nat.le_refl _) _).alloc (by simp) _).drew | exact ((below_drew X1).alloc (below_drew X1).size _).alloc (by simp) _))
        | (refine ⟨X1.heap.size + 1, X1.heap.size, ZM, ZT, ?_, ?_, ?_, HZ.out.1, ?_, HZ.out.2, by omega, by omega, Nat.le_refl _, ?_⟩; (with_reducible rfl); (with_reducible rfl); (obtain ⟨g1, g2, -⟩ := fin_a (y := X1) (.cells ZT 32) (.cells ZM 35); exact g2); (obtain ⟨g1, g2, -⟩ := fin_a (y := X1) (.cells ZT 32) (.cells ZM 35); exact g1); (first | exact (((Below.refl _ _).alloc (Nat.le_refl _) _).alloc (by simp) _).drew | exact ((below_drew X1).alloc (below_drew X1).size _).alloc (by simp) _))
        | (trace_state; fail)
  case rest =>
  obtain ⟨M1, M2, C1, C2, rfl, rfl, hm1, hC1, hm2, hC2, hne, hg1, hg2, hb10⟩ := hcut
  rename World => X2
  have hbX : Below Z0.heap.size Z0 X2 := below_trans HB9.out hb10
  have hbw : Below w.heap.size w X2 := below_trans HB.out hbX
  obtain ⟨hBX, hZB, hTZ⟩ := HN3.out X2 hbX
  have hX1s : w.heap.size + 1 + 1 + 1 ≤ X1.heap.size := by have := HB9.out.size; rw [HSZ.out] at this; exact this
  have HST := hid (CkI.start (Z := Z) (U := U) (I := I) (A := fe ++ fps) (n := ts.length) hBX hZB hTZ hm1 hC1 hm2 hC2 (Bo.of_below hbw) (HK.below HI.out HUL.out hbw) HUL.out (by omega) (by omega) hne)
  have HS92 := hid (HS9.out.below hb10)
  have HOL := hid (show ∀ b ∈ f9, (b ∈ fe ++ fps ∨ w.heap.size ≤ b) ∧ Gd Z U X2 b ∧ Nb w.heap.size M1 M2 b from fun b hb => by
    have hlt1 := HS9.out.lt b hb
    rcases HF9.out b hb with h | h
    · have hA : b ∈ fe ++ fps := by
        rw [HFE.out]
        rcases List.mem_append.1 h with h | h <;> simp [h]
      have h1 := HLA.out b hA
      exact ⟨.inl hA, (HGD.out b hA).bo h1 (Bo.of_below hbw), .inl h1⟩
    · have h1 : w.heap.size + 1 + 1 + 1 ≤ b := by have := h.1; rw [HSZ.out] at this; exact this
      have h2 : ∀ o, X2.frozen? ⟨b, o, none⟩ = false := fun o => (hb10.frozen (p := ⟨b, o, none⟩) hlt1).trans (h.2 o)
      exact ⟨.inr (by omega), ⟨fun _ => h2, HUL.out.ne (by omega)⟩, .inr ⟨by omega, by omega, by omega⟩⟩)
  have HNE := hid (And.intro hne (And.intro (show w.heap.size + 2 < M1 by omega) (show w.heap.size + 2 < M2 by omega)))
  have HLX := hid (show w.heap.size ≤ X2.heap.size from hbw.size)
  have HBK := hid (show ∀ b o, a3 = some ⟨b, o, none⟩ → 0 < ts.length → b ∈ fe from fun b o e hp => by
    rw [HFE.out]
    rcases HS3.out with ⟨h0, _⟩ | ⟨b', o', cap', f, e', _, _, _, _, h⟩
    · rw [h0] at hp; simp at hp
    · rw [e] at e'
      cases e'
      simp [h])
  have HFK := hid (show ∀ b ∈ f3, b ∈ fe from fun b hb => by rw [HFE.out]; simp [hb])
  obtain ⟨ak, ck, hssk, hck, hmk, hgetk⟩ := HS3.out.open
  cases hssk
  have HG := hid hgetk
  clear hm1 hC1 hm2 hC2 hne hg1 hg2 hb10 hbX hbw hBX hZB hTZ hX1s hgetk hmk1 hmk2 z0 z1 z2 z3 z4 z5 z6 z7 z8 HKZ HZ HS9 HF9 HB9 HN3 HB HSZ HI
  obtain ⟨z0, z1, z2, z3, z4, z5, z6, z7, z8⟩ := cells9 HST.out.box
  go_wp2_with fail
  go_loopw [39] (fun i wr => ∃ (j : Nat) (ps : List (Tm × Ty)) (s1 : Int), j ≤ ts.length ∧ i = .int .i64 j ∧ chL F (inS xs k nm ty) (ts.take j) s = (some ps, s1) ∧ CkI Z U I (fe ++ fps) w M1 M2 M2 ts.length #[.int .i64 k, .string nm, .int .i64 num, .int .i64 k1, .slice a1 n1 c1, .int .i64 k2, .slice a2 n2 c2, .int .i64 lb, .slice a3 ts.length c3] (ps.map Prod.fst) (ps.map Prod.snd) s1 wr ∧ ScAt wr (inS xs k nm ty) (.pointer p9) f9 ∧ Src Z U (fe ++ fps) w wr f9) (fun i _ => ts.length - (intOf i).toNat)
  case atStart => exact ⟨0, [], s, Nat.zero_le _, rfl, rfl, HST.out, HS92.out, fun b hb => ⟨(HOL.out b hb).1, (HOL.out b hb).2.1⟩⟩
  case round =>
    obtain ⟨j, ps, s1, hj, rfl, hch, hI, hsc9, hsr9⟩ := hrel
    have hlen : ps.length = j := by rw [chL_len hch, List.length_take]; omega
    clear z0 z1 z2 z3 z4 z5 z6 z7 z8
    obtain ⟨z0, z1, z2, z3, z4, z5, z6, z7, z8⟩ := cells9 hI.box
    by_cases hlk : j < ts.length
    · obtain ⟨b, o, q0, q1, q2, q3, q4, q5, q6, q7, q8, q9, q10, q11, q12, q13, q14, fk, rfl, hblt, c0, c1', c2', c3', c4, c5, c6, c7, c8, hatk, hfk⟩ := HG.out j hlk
      have hbU : some b ≠ U := (HGD.out b (by simp [HBK.out b o rfl (by omega)])).2
      have d0 := hI.bo.cell c0 hbU
      have d1 := hI.bo.cell c1' hbU
      have d2 := hI.bo.cell c2' hbU
      have d3 := hI.bo.cell c3' hbU
      have d4 := hI.bo.cell c4 hbU
      have d5 := hI.bo.cell c5 hbU
      have d6 := hI.bo.cell c6 hbU
      have d7 := hI.bo.cell c7 hbU
      have d8 := hI.bo.cell c8 hbU
      have hal : Below wr.heap.size wr (wr.alloc (Obj.cells #[.int .i64 q0, .string q1, .int .i64 q2, .int .i64 q3, .slice q5 q4 q6, .int .i64 q7, .slice q9 q8 q10, .int .i64 q11, .slice q13 q12 q14] 35)) := (Below.refl _ _).alloc (Nat.le_refl _) _
      have hbA : Bo U w (wr.alloc (Obj.cells #[.int .i64 q0, .string q1, .int .i64 q2, .int .i64 q3, .slice q5 q4 q6, .int .i64 q7, .slice q9 q8 q10, .int .i64 q11, .slice q13 q12 q14] 35)) := hI.bo.trans (Bo.of_below hal)
      have hscA : ScAt (wr.alloc (Obj.cells #[.int .i64 q0, .string q1, .int .i64 q2, .int .i64 q3, .slice q5 q4 q6, .int .i64 q7, .slice q9 q8 q10, .int .i64 q11, .slice q13 q12 q14] 35)) (inS xs k nm ty) (.pointer p9) f9 := hsc9.below hal
      have hsrA : Src Z U (fe ++ fps) w (wr.alloc (Obj.cells #[.int .i64 q0, .string q1, .int .i64 q2, .int .i64 q3, .slice q5 q4 q6, .int .i64 q7, .slice q9 q8 q10, .int .i64 q11, .slice q13 q12 q14] 35)) f9 := hsr9.later hsc9.lt (Bo.of_below hal)
      have hfk2 : ∀ x ∈ fk, x ∈ fe ++ fps := fun x hx => by simp [HFK.out x (hfk x hx)]
      have HCALL := hid (HIH.out ts[j] (List.getElem_mem hlk) (inS xs k nm ty) p9 f9 _ fk (wr.alloc (Obj.cells #[.int .i64 q0, .string q1, .int .i64 q2, .int .i64 q3, .slice q5 q4 q6, .int .i64 q7, .slice q9 q8 q10, .int .i64 q11, .slice q13 q12 q14] 35)) s1 hscA (hbA.tm hatk (fun x hx => (HGD.out x (hfk2 x hx)).2)) (kOkL_get HKD.out.2 j hlk)
        (fun b hb => by
          rcases List.mem_append.1 hb with h | h
          · exact (HGD.out b (hfk2 b h)).bo (HLA.out b (hfk2 b h)) hbA
          · exact (hsrA b h).2) (HUL.out.mono hbA.size) (HK.below hI.st HUL.out (hal.mono hI.bo.size)))
      have HNX := hid (show ∀ (w2 : World) (g : List Nat), Src Z U (fk ++ f9) (wr.alloc (Obj.cells #[.int .i64 q0, .string q1, .int .i64 q2, .int .i64 q3, .slice q5 q4 q6, .int .i64 q7, .slice q9 q8 q10, .int .i64 q11, .slice q13 q12 q14] 35)) w2 g → (∀ b ∈ g, Nb w.heap.size M1 M2 b) ∧ Src Z U (fe ++ fps) w w2 g from fun w2 g hg => by
        have hM := (hI.cells hlk).2.2.2.2
        have hws := hI.bo.size
        have key : ∀ b ∈ g, Nb w.heap.size M1 M2 b ∧ (b ∈ fe ++ fps ∨ w.heap.size ≤ b) := fun b hb => by
          rcases (hg b hb).1 with h | h
          · rcases List.mem_append.1 h with h | h
            · exact ⟨.inl (HLA.out b (hfk2 b h)), .inl (hfk2 b h)⟩
            · exact ⟨(HOL.out b h).2.2, (HOL.out b h).1⟩
          · have h' : wr.heap.size + 1 ≤ b := by simpa using h
            have := HNE.out.2.1
            exact ⟨.inr ⟨by omega, by omega, by omega⟩, .inr (by omega)⟩
        exact ⟨fun b hb => (key b hb).1, fun b hb => ⟨(key b hb).2, (hg b hb).2⟩⟩)
      have HMV := hid (fun (w2 : World) (s2 : Int) (h : Bo U (wr.alloc (Obj.cells #[.int .i64 q0, .string q1, .int .i64 q2, .int .i64 q3, .slice q5 q4 q6, .int .i64 q7, .slice q9 q8 q10, .int .i64 q11, .slice q13 q12 q14] 35)) w2) (h2 : I s2 w2) => hI.move ((Bo.of_below hal).trans h) h2)
      have HBX2 := hid (And.intro hscA hsrA)
      have HTK := chL_take (F := F) (xs := inS xs k nm ty) hlk s
      rw [hch] at HTK
      simp only at HTK
      have HLEN := hid hlen
      have hj0 : (0 : Int) ≤ (j : Int) := by omega
      have hj1 : (j : Int) < (ts.length : Int) := by omega
      rcases hcm : chM F (inS xs k nm ty) ts[j] s1 with ⟨oo, s2⟩
      rw [hcm] at HCALL HTK
      replace HTK := hid HTK
      clear hcm hch hI hsc9 hsr9 hal hbA hscA hsrA hfk2 c0 c1' c2' c3' c4 c5 c6 c7 c8 hatk hfk hblt hlen HIH HG
      cases oo with
      | none =>
        have HTK2 : chL F (inS xs k nm ty) (ts.take (j + 1)) s = (none, s2) := HTK.out
        have HRES := hid (show chM F xs (.mk k nm num ty fr lb ts) s = (none, s2) by simp only [chM, chL_none HTK2])
        clear HTK HTK2
        go_wp2_with fail
        refine HCALL.out.mono ?_
        rintro e w2 ⟨e', t', r0, r1, r2, r3, r4, r5, r6, r7, r8, r9, r10, r11, r12, r13, r14, kk, nn, aa, cc, g1, g2, rfl, hE, hT, -, hsrc, hbo2, hI2⟩
        have hmv := HMV.out w2 s2 hbo2 hI2
        obtain ⟨⟨y0, y1, y2, y3, y4, y5, y6, y7, y8, v0, v1, v2, v3, v4, v5, v6, v7, v8⟩, ⟨x0, x1, l0, l1⟩, mz, tz, mlt, tlt⟩ := hmv.cells hlk
        obtain ⟨b0, b1, b2, b3, b4, b5, b6, b7, b8⟩ := cells9 hmv.zb
        have bz := fun o => frozen_of_block (o := o) hmv.zb
        have e0 : w2.cell? ⟨w.heap.size + 1 + 1, 0, none⟩ = some (.int .i64 0) := by rw [cell_of_block hmv.tz]; rfl
        have e1 : w2.cell? ⟨w.heap.size + 1 + 1, 1, none⟩ = some (.slice none 0 0) := by rw [cell_of_block hmv.tz]; rfl
        have ez := fun o => frozen_of_block (o := o) hmv.tz
        have blt : w.heap.size + 1 < w2.heap.size := lt_of_block hmv.zb
        have elt : w.heap.size + 1 + 1 < w2.heap.size := lt_of_block hmv.tz
        have n1' : M1 ≠ w.heap.size + 1 := by have := HNE.out.2.1; omega
        have n2' : M2 ≠ w.heap.size + 1 := by have := HNE.out.2.2; omega
        have n3' : M1 ≠ w.heap.size + 1 + 1 := by have := HNE.out.2.1; omega
        have n4' : M2 ≠ w.heap.size + 1 + 1 := by have := HNE.out.2.2; omega
        have n5' : M1 ≠ M2 := HNE.out.1
        have hM1 := hmv.m1
        have hM2 := hmv.m2
        have FIN := hid (ChOut.no (Z := Z) (U := U) (I := I) (A := fe ++ fps) (w := w) (s := s2) (w' := put (put (put (put w2 M1 (j * 9) [.int .i64 r0, .string r1, .int .i64 r2, .int .i64 r3, .slice r5 r4 r6, .int .i64 r7, .slice r9 r8 r10, .int .i64 r11, .slice r13 r12 r14]) M2 (j * 2) [.int .i64 kk, .slice aa nn cc]) (w.heap.size + 1) 0 [.int .i64 0, .string ⟨#[]⟩, .int .i64 0, .int .i64 0, .slice none 0 0, .int .i64 0, .slice none 0 0, .int .i64 0, .slice none 0 0]) (w.heap.size + 1 + 1) 0 [.int .i64 0, .slice none 0 0])
          ((((hmv.bo.put (by omega)).put (by omega)).put (by omega)).put (by omega)) (HK.put (HK.put (HK.put (HK.put hI2 HUL.out (by omega)) HUL.out (by omega)) HUL.out (by omega)) HUL.out (by omega)))
        rw [← HRES.out] at FIN
        simp only [put, Nat.zero_add, Nat.reduceAdd] at FIN
        clear hE hT hsrc hbo2 hI2 hmv hM1 hM2 HCALL HNX HMV HBX2 HOL HNE HST HS92 HGD HLA HRES
        go_wp2_with fail
        exact bodyPost_ret (v := .tuple #[.agg #[.int .i64 0, .string ⟨#[]⟩, .int .i64 0, .int .i64 0, .slice none 0 0, .int .i64 0, .slice none 0 0, .int .i64 0, .slice none 0 0], .agg #[.int .i64 0, .slice none 0 0], .bool false]) (by simp [results, Tryd.results62, go_sem, b0, b1, b2, b3, b4, b5, b6, b7, b8, e0, e1]) rfl FIN.out
      | some pp =>
        go_wp2_with fail
        refine HCALL.out.mono ?_
        rintro e w2 ⟨e', t', r0, r1, r2, r3, r4, r5, r6, r7, r8, r9, r10, r11, r12, r13, r14, kk, nn, aa, cc, g1, g2, rfl, hE, hT, hpp, hsrc, hbo2, hI2⟩
        obtain rfl := hpp pp rfl
        have hmv := HMV.out w2 s2 hbo2 hI2
        obtain ⟨⟨y0, y1, y2, y3, y4, y5, y6, y7, y8, v0, v1, v2, v3, v4, v5, v6, v7, v8⟩, ⟨x0, x1, l0, l1⟩, mz, tz, mlt, tlt⟩ := hmv.cells hlk
        have n5' : M1 ≠ M2 := HNE.out.1
        have NX := HNX.out w2 _ hsrc
        have FIN := hid (hmv.push (vs := [.int .i64 r0, .string r1, .int .i64 r2, .int .i64 r3, .slice r5 r4 r6, .int .i64 r7, .slice r9 r8 r10, .int .i64 r11, .slice r13 r12 r14]) HK (by rw [List.length_map]; exact HLEN.out) (by rw [List.length_map]; exact HLEN.out) hlk hE hT NX.2 NX.1)
        have hsc2 := HBX2.out.1.bo hbo2 (fun b hb => (HBX2.out.2 b hb).2.2)
        have hsr2 := HBX2.out.2.later HBX2.out.1.lt hbo2
        have nb9 : ∀ b ∈ f9, b ≠ M1 ∧ b ≠ M2 := fun b hb => by
          rcases (HOL.out b hb).2.2 with h | h
          · have h1 := HNE.out.2.1; have h2 := HNE.out.2.2; exact ⟨by omega, by omega⟩
          · exact h.2
        have HBF := hid (And.intro ((hsc2.putne (M := M1) (o := j * 9) (vs := [.int .i64 r0, .string r1, .int .i64 r2, .int .i64 r3, .slice r5 r4 r6, .int .i64 r7, .slice r9 r8 r10, .int .i64 r11, .slice r13 r12 r14]) (fun b hb => (nb9 b hb).1)).putne (M := M2) (o := j * 2) (vs := [.int .i64 kk, .slice aa nn cc]) (fun b hb => (nb9 b hb).2)) ((hsr2.put (P := M1) (o := j * 9) (vs := [.int .i64 r0, .string r1, .int .i64 r2, .int .i64 r3, .slice r5 r4 r6, .int .i64 r7, .slice r9 r8 r10, .int .i64 r11, .slice r13 r12 r14]) (fun b hb => (nb9 b hb).1)).put (P := M2) (o := j * 2) (vs := [.int .i64 kk, .slice aa nn cc]) (fun b hb => (nb9 b hb).2)))
        clear hsc2 hsr2 nb9
        clear hE hT hsrc hbo2 hI2 hmv HCALL HNX HMV HBX2 HOL HNE HST HS92 HGD HLA NX
        go_wp2_with fail
        refine ⟨⟨j + 1, ps ++ [(e', t')], s2, by omega, by go_num, HTK.out, ?_, HBF.out.1, HBF.out.2⟩, by simp [intOf]; omega⟩
        rw [List.map_append, List.map_append]; exact FIN.out
    · obtain rfl : j = ts.length := by omega
      rw [List.take_of_length_le (Nat.le_refl _)] at hch
      have hus : (ps.map Prod.snd).length = ts.length := by rw [List.length_map]; exact hlen
      have hes : (ps.map Prod.fst).length = ts.length := by rw [List.length_map]; exact hlen
      have hvl := chL_vld hch
      obtain ⟨fm, ft', lm, lt, sr, nb⟩ := hI.lm
      obtain ⟨fu, hslu, hfu⟩ := lt.sl (by have := HRG.out.2.2; unfold maxLen; omega)
      rw [hus] at hslu
      have hMs := lm.lt.1
      have hTs := lt.lt.1
      have hgd2 : ∀ b ∈ fe ++ (fps ++ fu), ((b ∈ fe ++ fps ∨ w.heap.size ≤ b) ∧ Gd Z U wr b) ∧ Nb w.heap.size M1 M1 b := fun b hb => by
        have hb' : b ∈ fe ++ fps ∨ b ∈ fu := by simp only [List.mem_append] at hb ⊢; rcases hb with h | h | h <;> simp [h]
        rcases hb' with h | h
        · exact ⟨⟨.inl h, (HGD.out b h).bo (HLA.out b h) hI.bo⟩, .inl (HLA.out b h)⟩
        · rcases hfu b h with h | h
          · subst h
            obtain ⟨D, hD, -⟩ := lt
            exact ⟨⟨.inr (by have := HNE.out.2.2; omega), ⟨fun _ o => frozen_of_block hD, HUL.out.ne (by have := HNE.out.2.2; omega)⟩⟩, .inr ⟨HNE.out.2.2, Ne.symm HNE.out.1, Ne.symm HNE.out.1⟩⟩
          · refine ⟨sr b (by simp [h]), ?_⟩
            exact (nb b (by simp [h])).imp_right fun h => ⟨h.1, h.2.1, h.2.1⟩
      have hscw : ScAt wr xs (.pointer p) fps := HSC.out.bo hI.bo (fun b hb => (HGD.out b (by simp [hb])).2)
      have hatw := hI.bo.tm HAT.out (fun b hb => (HGD.out b (by simp [hb])).2)
      have hlt2 : ∀ b ∈ fe ++ (fps ++ fu), b < wr.heap.size := fun b hb => by
        simp only [List.mem_append] at hb
        rcases hb with h | h | h
        · exact hatw.lt b h
        · exact hscw.lt b h
        · exact hslu.lt b h
      have HRU := hid (rule_any HRG.out.1 HRG.out.2.1 xs p fps nm num ty fr lb ts _ fe (ps.map Prod.snd) _ fu wr hscw hatw hslu (by rw [hus]; exact HKD.out.1) hvl)
      have HCN := hid (show chM F xs (.mk k nm num ty fr lb ts) s = chN F xs k nm num ty fr lb (ps.map Prod.fst) (ps.map Prod.snd) s1 by simp only [chM, hch])
      have HVL := hid hvl
      have HUS := hid (And.intro hes hus)
      have HII := hid hI
      have HGG := hid hgd2
      have HLL := hid hlt2
      have HMT := hid (And.intro hMs hTs)
      clear hch hvl hI lm lt sr nb hslu hfu hgd2 hscw hatw hlt2 hsc9 hsr9 HST HS92 HOL HIH HG HSC HAT HBK HFK hMs hTs
      unfold chN at HCN
      have HRL := hid (fun ws r h => ruleM_len (xs := xs) (k := k) (nm := nm) (ty := ty) (fr := fr) (us := ps.map Prod.snd) (ws := ws) (r := r) h (by rw [HUS.out.2]; exact HKD.out.1))
      cases hrm : ruleM xs k nm ty fr (ps.map Prod.snd) with
      | none =>
        rw [hrm] at HCN HRU
        simp only at HCN
        go_wp2_with fail
        refine HRU.out.mono ?_
        rintro e w3 ⟨ws, r, ta, tn, tc, kr, nr, ar, cr, g1, g2, rfl, hsl, hr, -, hsrc, hb3⟩
        have hmv := HII.out.move (Bo.of_below hb3) (HK.below HII.out.st (HUL.out.mono HII.out.bo.size) hb3)
        obtain ⟨b0, b1, b2, b3, b4, b5, b6, b7, b8⟩ := cells9 hmv.zb
        have bz := fun o => frozen_of_block (o := o) hmv.zb
        have e0 : w3.cell? ⟨w.heap.size + 1 + 1, 0, none⟩ = some (.int .i64 0) := by rw [cell_of_block hmv.tz]; rfl
        have e1 : w3.cell? ⟨w.heap.size + 1 + 1, 1, none⟩ = some (.slice none 0 0) := by rw [cell_of_block hmv.tz]; rfl
        have ez := fun o => frozen_of_block (o := o) hmv.tz
        have blt : w.heap.size + 1 < w3.heap.size := lt_of_block hmv.zb
        have elt : w.heap.size + 1 + 1 < w3.heap.size := lt_of_block hmv.tz
        have FIN0 := ChOut.no (Z := Z) (U := U) (I := I) (A := fe ++ fps) (w := w) (s := s1) (w' := (put (put w3 (w.heap.size + 1) 0 [.int .i64 0, .string ⟨#[]⟩, .int .i64 0, .int .i64 0, .slice none 0 0, .int .i64 0, .slice none 0 0, .int .i64 0, .slice none 0 0]) (w.heap.size + 1 + 1) 0 [.int .i64 0, .slice none 0 0]).alloc (Obj.cells #[.slice ta tn tc, .int .i64 kr, .slice ar nr cr] 135))
          (((hmv.bo.put (by omega)).put (by omega)).trans (Bo.of_below ((Below.refl _ _).alloc (Nat.le_refl _) _))) (HK.below (HK.put (HK.put hmv.st HUL.out (by omega)) HUL.out (by omega)) (HUL.out.mono (by rw [size_put, size_put]; exact hmv.bo.size)) ((Below.refl _ _).alloc (Nat.le_refl _) _))
        rw [← HCN.out] at FIN0
        have FIN := hid FIN0
        simp only [put, Nat.zero_add, Nat.reduceAdd] at FIN
        clear FIN0 hsl hr hsrc hb3 hmv HRU HCN HII HGG HLL
        go_wp2_with fail
        exact bodyPost_ret (v := .tuple #[.agg #[.int .i64 0, .string ⟨#[]⟩, .int .i64 0, .int .i64 0, .slice none 0 0, .int .i64 0, .slice none 0 0, .int .i64 0, .slice none 0 0], .agg #[.int .i64 0, .slice none 0 0], .bool false]) (by simp [results, Tryd.results62, go_sem, b0, b1, b2, b3, b4, b5, b6, b7, b8, e0, e1, blt, elt]) rfl FIN.out
      | some wsr =>
        obtain ⟨ws', r'⟩ := wsr
        have HLW := hid (HRL.out ws' r' hrm)
        rw [hrm] at HCN HRU
        simp only at HCN
        clear HRL hrm
        go_wp2_with fail
        refine HRU.out.mono ?_
        rintro e w3 ⟨ws, r, ta, tn, tc, kr, nr, ar, cr, g1, g2, rfl, hsl, hr, hwr, hsrc, hb3⟩
        have hwr2 := hwr _ rfl
        simp only [Prod.mk.injEq] at hwr2
        obtain ⟨rfl, rfl⟩ := hwr2
        have hal : Below w3.heap.size w3 (w3.alloc (Obj.cells #[.slice ta tn tc, .int .i64 kr, .slice ar nr cr] 135)) := (Below.refl _ _).alloc (Nat.le_refl _) _
        have HTV := hid (implTypeValid_any r' _ g2 (w3.alloc (Obj.cells #[.slice ta tn tc, .int .i64 kr, .slice ar nr cr] 135)) (hr.below hal))
        have HQR := hid (alloc_new w3 (Obj.cells #[.slice ta tn tc, .int .i64 kr, .slice ar nr cr] 135))
        have HSL := hid (And.intro (hsl.below hal) (hr.below hal))
        have HB3 := hid hb3
        have HSRC := hid hsrc
        have HG12 := hid (And.intro hsl.lt hr.lt)
        clear hsl hr hwr hsrc hb3 HRU
        go_wp2_with fail
        refine HTV.out.mono ?_
        rintro e w5 ⟨rfl, hb5⟩
        have hb35 : Below w3.heap.size w3 w5 := below_trans hal hb5
        have hmv := HII.out.move (Bo.of_below (below_trans HB3.out hb35)) (HK.below HII.out.st (HUL.out.mono HII.out.bo.size) (below_trans HB3.out hb35))
        obtain ⟨b0, b1, b2, b3, b4, b5, b6, b7, b8⟩ := cells9 hmv.zb
        have bz := fun o => frozen_of_block (o := o) hmv.zb
        have e0 : w5.cell? ⟨w.heap.size + 1 + 1, 0, none⟩ = some (.int .i64 0) := by rw [cell_of_block hmv.tz]; rfl
        have e1 : w5.cell? ⟨w.heap.size + 1 + 1, 1, none⟩ = some (.slice none 0 0) := by rw [cell_of_block hmv.tz]; rfl
        have ez := fun o => frozen_of_block (o := o) hmv.tz
        have blt : w.heap.size + 1 < w5.heap.size := lt_of_block hmv.zb
        have elt : w.heap.size + 1 + 1 < w5.heap.size := lt_of_block hmv.tz
        cases hvr : vld r' with
        | false =>
          rw [hvr, if_neg (by simp)] at HCN
          have FIN0 := ChOut.no (Z := Z) (U := U) (I := I) (A := fe ++ fps) (w := w) (s := s1) (w' := put (put w5 (w.heap.size + 1) 0 [.int .i64 0, .string ⟨#[]⟩, .int .i64 0, .int .i64 0, .slice none 0 0, .int .i64 0, .slice none 0 0, .int .i64 0, .slice none 0 0]) (w.heap.size + 1 + 1) 0 [.int .i64 0, .slice none 0 0])
            ((hmv.bo.put (by omega)).put (by omega)) (HK.put (HK.put hmv.st HUL.out (by omega)) HUL.out (by omega))
          rw [← HCN.out] at FIN0
          have FIN := hid FIN0
          simp only [put, Nat.zero_add, Nat.reduceAdd] at FIN
          clear FIN0 hb5 hb35 hmv HCN HII HGG HLL HSL HQR HTV HB3 HSRC HG12
          go_wp2_with fail
          exact bodyPost_ret (v := .tuple #[.agg #[.int .i64 0, .string ⟨#[]⟩, .int .i64 0, .int .i64 0, .slice none 0 0, .int .i64 0, .slice none 0 0, .int .i64 0, .slice none 0 0], .agg #[.int .i64 0, .slice none 0 0], .bool false]) (by simp [results, Tryd.results62, go_sem, b0, b1, b2, b3, b4, b5, b6, b7, b8, e0, e1]) rfl FIN.out
        | true =>
          rw [hvr, if_pos rfl] at HCN
          have hqr : w5.heap[w3.heap.size]? = some (Obj.cells #[.slice ta tn tc, .int .i64 kr, .slice ar nr cr] 135) := (hb5.block _ (lt_of_block HQR.out)).trans HQR.out
          have hsrc5 : Src Z U (fe ++ fps) w w5 (g1 ++ g2) := (Src.of HSRC.out (fun b hb => (HGG.out b hb).1) HLL.out HII.out.bo.size (HUL.out.mono HII.out.bo.size) HB3.out).later (fun b hb => by
            rcases List.mem_append.1 hb with h | h
            · exact HG12.out.1 b h
            · exact HG12.out.2 b h) (Bo.of_below hb35)
          have HNM1 := hid (show ∀ b ∈ g1 ++ g2, Nb w.heap.size M1 M1 b ∧ b < w3.heap.size from fun b hb => ⟨by
            rcases HSRC.out b hb with h | h
            · exact (HGG.out b h).2
            · have h1 := HMT.out.1; have h2 := HNE.out.2.1; exact .inr ⟨by omega, by omega, by omega⟩, by
            rcases List.mem_append.1 hb with h | h
            · exact HG12.out.1 b h
            · exact HG12.out.2 b h⟩)
          have HST2 := hid (And.intro hmv (And.intro ((HSL.out.1).below hb5) (And.intro ((HSL.out.2).below hb5) (And.intro hqr hsrc5))))
          have HM3 := hid (show M1 < w3.heap.size ∧ w.heap.size + 2 < M1 ∧ M2 < w3.heap.size from ⟨Nat.lt_of_lt_of_le HMT.out.1 HB3.out.size, HNE.out.2.1, Nat.lt_of_lt_of_le HMT.out.2 HB3.out.size⟩)
          clear hb5 hb35 hmv hqr hsrc5 HSL HQR HTV HSRC HG12 HGG HLL HII b0 b1 b2 b3 b4 b5 b6 b7 b8 bz e0 e1 ez blt elt hal HB3
          clear z0 z1 z2 z3 z4 z5 z6 z7 z8
          have qr0 : w5.cell? ⟨w3.heap.size, 0, none⟩ = some (.slice ta tn tc) := by rw [cell_of_block HST2.out.2.2.2.1]; rfl
          go_wp2_with fail
          go_loopw [82] (fun i wr => ∃ (j : Nat) (es' : List Tm) (s2 : Int), j ≤ ts.length ∧ i = .int .i64 j ∧ fitL F ((ps.map Prod.fst).take j) ((ps.map Prod.snd).take j) (ws'.take j) s1 = (some es', s2) ∧ CkI Z U I (fe ++ fps) w M1 M2 M1 ts.length #[.int .i64 k, .string nm, .int .i64 num, .int .i64 k1, .slice a1 n1 c1, .int .i64 k2, .slice a2 n2 c2, .int .i64 lb, .slice a3 ts.length c3] (es' ++ (ps.map Prod.fst).drop j) (ps.map Prod.snd) s2 wr ∧ SlAt wr ws' (.slice ta tn tc) g1 ∧ r'.At wr (.agg #[.int .i64 kr, .slice ar nr cr]) g2 ∧ wr.heap[w3.heap.size]? = some (Obj.cells #[.slice ta tn tc, .int .i64 kr, .slice ar nr cr] 135) ∧ Src Z U (fe ++ fps) w wr (g1 ++ g2)) (fun i _ => ts.length - (intOf i).toNat)
          case atStart => exact ⟨0, [], s1, Nat.zero_le _, rfl, rfl, HST2.out.1.weaken, HST2.out.2.1, HST2.out.2.2.1, HST2.out.2.2.2.1, HST2.out.2.2.2.2⟩
          case round =>
            obtain ⟨j, es', s2, hj, rfl, hft, hI, hsl, hr, hqr, hsr⟩ := hrel
            clear qr0
            have hle : es'.length = j := by rw [fitL_len (by rw [List.length_take, List.length_take, HUS.out.1, HUS.out.2]) (by rw [List.length_take, List.length_take, HUS.out.1, HLW.out, HUS.out.2]) hft, List.length_take, HUS.out.1]; omega
            by_cases hlk : j < ts.length
            · obtain ⟨fm, ft', lm, lt, sr, nb⟩ := hI.lm
              have hjl : j < (es' ++ (ps.map Prod.fst).drop j).length := by rw [List.length_append, hle, List.length_drop, HUS.out.1]; omega
              have hje : j < (ps.map Prod.fst).length := by rw [HUS.out.1]; exact hlk
              have hju : j < (ps.map Prod.snd).length := by rw [HUS.out.2]; exact hlk
              have hjw : j < ws'.length := by rw [HLW.out, HUS.out.2]; exact hlk
              obtain ⟨q0, q1, q2, q3, q4, q5, q6, q7, q8, q9, q10, q11, q12, q13, q14, fk, c0, c1', c2', c3', c4, c5, c6, c7, c8, hatk, hfk⟩ := lm.get j hjl
              obtain ⟨kt, mt, at', ct, gt, t0, t1, hatt, hgt⟩ := lt.get j hju
              have hdr : (ps.map Prod.fst).drop j = (ps.map Prod.fst)[j] :: (ps.map Prod.fst).drop (j + 1) := List.drop_eq_getElem_cons hje
              have hge : (es' ++ (ps.map Prod.fst).drop j)[j] = (ps.map Prod.fst)[j] := by
                rw [List.getElem_append_right (by omega)]
                simp [hle]
              rw [hge] at hatk
              have hbk : ∀ b o, ta = some ⟨b, o, none⟩ → b ∈ g1 := fun b o e => by
                rcases hsl with ⟨h0, _⟩ | ⟨b', o', cap', f, e', _, _, _, _, h⟩
                · rw [h0] at hjw; simp at hjw
                · rw [e] at e'
                  cases e'
                  simp [h]
              obtain ⟨aw', cw', hss, -, hmxw, hgetw⟩ := hsl.openA
              obtain ⟨bw, ow, kw, nw, aw, cw, gw, hpw, -, u0, u1, hatw, hgw⟩ := hgetw j hjw
              simp only [Value.slice.injEq] at hss
              obtain ⟨hss1, hss2, hss3⟩ := hss
              subst hss1
              subst hss2
              subst hss3
              subst hpw
              have hbw := hbk bw ow rfl
              have hqr0 : wr.cell? ⟨w3.heap.size, 0, none⟩ = some (.slice (some ⟨bw, ow, none⟩) ws'.length tc) := by rw [cell_of_block hqr]; rfl
              have HNU := hid (show some M1 ≠ U ∧ some M2 ≠ U ∧ some w3.heap.size ≠ U ∧ some bw ≠ U from ⟨HUL.out.ne (by have := HNE.out.2.1; omega), HUL.out.ne (by have := HNE.out.2.2; omega), HUL.out.ne (by have := HM3.out; omega), (hsr bw (by simp [hbw])).2.2⟩)
              have HS0 := hid (show ∀ W, Bo U wr W → (W.cell? ⟨M1, j * 9, none⟩ = some (.int .i64 q0) ∧ W.cell? ⟨M1, j * 9 + 1, none⟩ = some (.string q1) ∧ W.cell? ⟨M1, j * 9 + 2, none⟩ = some (.int .i64 q2) ∧ W.cell? ⟨M1, j * 9 + 3, none⟩ = some (.int .i64 q3) ∧ W.cell? ⟨M1, j * 9 + 4, none⟩ = some (.slice q5 q4 q6) ∧ W.cell? ⟨M1, j * 9 + 5, none⟩ = some (.int .i64 q7) ∧ W.cell? ⟨M1, j * 9 + 6, none⟩ = some (.slice q9 q8 q10) ∧ W.cell? ⟨M1, j * 9 + 7, none⟩ = some (.int .i64 q11) ∧ W.cell? ⟨M1, j * 9 + 8, none⟩ = some (.slice q13 q12 q14) ∧ W.cell? ⟨M2, j * 2, none⟩ = some (.int .i64 kt) ∧ W.cell? ⟨M2, j * 2 + 1, none⟩ = some (.slice at' mt ct) ∧ W.cell? ⟨w3.heap.size, 0, none⟩ = some (.slice (some ⟨bw, ow, none⟩) ws'.length tc) ∧ W.cell? ⟨bw, ow + j * 2, none⟩ = some (.int .i64 kw) ∧ W.cell? ⟨bw, ow + j * 2 + 1, none⟩ = some (.slice aw nw cw)) from fun W hB => ⟨hB.cell c0 (HNU.out.1), hB.cell c1' (HNU.out.1), hB.cell c2' (HNU.out.1), hB.cell c3' (HNU.out.1), hB.cell c4 (HNU.out.1), hB.cell c5 (HNU.out.1), hB.cell c6 (HNU.out.1), hB.cell c7 (HNU.out.1), hB.cell c8 (HNU.out.1), hB.cell t0 HNU.out.2.1, hB.cell t1 HNU.out.2.1, hB.cell hqr0 HNU.out.2.2.1, hB.cell u0 HNU.out.2.2.2, hB.cell u1 HNU.out.2.2.2⟩)
              have hgdA : ∀ b ∈ fk ++ (gt ++ gw), ((b ∈ fe ++ fps ∨ w.heap.size ≤ b) ∧ Gd Z U wr b) ∧ Nb w.heap.size M1 M1 b ∧ b < wr.heap.size := fun b hb => by
                have hb' : b ∈ fm ++ ft' ∨ b ∈ gw := by
                  simp only [List.mem_append] at hb ⊢
                  rcases hb with h | h | h
                  · exact .inl (.inl (hfk b h))
                  · exact .inl (.inr (hgt b h))
                  · exact .inr h
                rcases hb' with h | h
                · refine ⟨sr b h, nb b h, ?_⟩
                  rcases List.mem_append.1 h with h | h
                  · exact lm.lt.2 b h
                  · exact lt.lt.2 b h
                · exact ⟨hsr b (by simp [hgw b h]), (HNM1.out b (by simp [hgw b h])).1, hatw.lt b h⟩
              have HFC := hid (HFIT.call s2 _ _ _ _ _ _ fk gt gw wr.drew (hatk.below (below_drew wr)) (hatt.below (below_drew wr)) (hatw.below (below_drew wr)) (HVL.out _ (List.getElem_mem hju)) (fun b hb => (hgdA b hb).1.2.bo (hgdA b hb).2.2 (Bo.of_below (below_drew wr))) (HUL.out.mono hI.bo.size) (HK.below hI.st (HUL.out.mono hI.bo.size) (below_drew wr)))
              have HTK := fitL_take (F := F) hje hju hjw s1
              rw [hft] at HTK
              simp only at HTK
              have HNX := hid (show ∀ (w2 : World) (g : List Nat), Src Z U (fk ++ (gt ++ gw)) wr.drew w2 g → (∀ b ∈ g, Nb w.heap.size M1 M1 b) ∧ Src Z U (fe ++ fps) w w2 g from fun w2 g hg => by
                have hws := hI.bo.size
                have hM := lm.lt.1
                have key : ∀ b ∈ g, Nb w.heap.size M1 M1 b ∧ (b ∈ fe ++ fps ∨ w.heap.size ≤ b) := fun b hb => by
                  rcases (hg b hb).1 with h | h
                  · exact ⟨(hgdA b h).2.1, (hgdA b h).1.1⟩
                  · have h' : wr.heap.size ≤ b := h
                    have := HNE.out.2.1
                    exact ⟨.inr ⟨by omega, by omega, by omega⟩, .inr (by omega)⟩
                exact ⟨fun b hb => (key b hb).1, fun b hb => ⟨(key b hb).2, (hg b hb).2⟩⟩)
              have HSLR := hid (show ∀ W, Bo U wr W → True from fun _ _ => trivial)
              have HSLP := hid (show ∀ W, Bo U wr W → ∀ (vs : List Value) (o : Nat), SlAt (put W M1 o vs) ws' (.slice (some ⟨bw, ow, none⟩) ws'.length tc) g1 ∧ r'.At (put W M1 o vs) (.agg #[.int .i64 kr, .slice ar nr cr]) g2 ∧ (put W M1 o vs).heap[w3.heap.size]? = some (Obj.cells #[.slice (some ⟨bw, ow, none⟩) ws'.length tc, .int .i64 kr, .slice ar nr cr] 135) ∧ Src Z U (fe ++ fps) w (put W M1 o vs) (g1 ++ g2) from fun W hB vs o => by
                have hne : ∀ b ∈ g1 ++ g2, b ≠ M1 := fun b hb => by
                  rcases (HNM1.out b hb).1 with h | h
                  · have := HNE.out.2.1; omega
                  · exact h.2.1
                have hU : ∀ b ∈ g1 ++ g2, some b ≠ U := fun b hb => (hsr b hb).2.2
                have k1 : SlAt W ws' (.slice (some ⟨bw, ow, none⟩) ws'.length tc) g1 := hsl.congr fun b hb i => World.grownBy.cell_far hB ⟨b, i, none⟩ (hsl.lt b hb) (hU b (by simp [hb]))
                have k2 := hB.ty hr (fun b hb => hU b (by simp [hb]))
                refine ⟨k1.congr fun b hb i => World.cell?_of_block (w := W) (a := ⟨b, i, none⟩) (heap_put_ne (hne b (by simp [hb]))), k2.putne (fun b hb => hne b (by simp [hb])), (heap_put_ne (by have := HM3.out; omega)).trans (hB.block' hqr HNU.out.2.2.1), (hsr.later (fun b hb => ?_) hB).put hne⟩
                rcases List.mem_append.1 hb with h | h
                · exact hsl.lt b h
                · exact hr.lt b h)
              have HII2 := hid hI
              rw [hdr] at HII2
              have HLE := hid hle
              have hmeth := fun w => HFIT.meth 313 w (by kernel_rfl)
              have henter := HFIT.enter
              have hah := fun w => HFIT.ahead 313 w (by kernel_rfl)
              have hj0 : (0 : Int) ≤ (j : Int) := by omega
              have hj1 : (j : Int) < (ts.length : Int) := by omega
              have hj2 : (j : Int) < (ws'.length : Int) := by omega
              rcases hfc : F s2 (ps.map Prod.fst)[j] (ps.map Prod.snd)[j] ws'[j] with ⟨oo, s3⟩
              rw [hfc] at HFC HTK
              replace HTK := hid HTK
              clear hfc hft hI lm lt sr nb hatk hatt hatw hfk hgt hgw hgetw hsl hr hqr hsr hgdA hbk hge hbw hdr hle hjl c0 c1' c2' c3' c4 c5 c6 c7 c8 t0 t1 u0 u1 hqr0
              cases oo with
              | none =>
                have HTK2 : fitL F ((ps.map Prod.fst).take (j + 1)) ((ps.map Prod.snd).take (j + 1)) (ws'.take (j + 1)) s1 = (none, s3) := HTK.out
                rw [fitL_none (by rw [HUS.out.1, HUS.out.2]) (by rw [HLW.out, HUS.out.1, HUS.out.2]) HTK2] at HCN
                simp only at HCN
                clear HTK HTK2 HNX HSLR HSLP
                go_upto_region 19 with (fail)
                refine regionL (s := 24) (S0 := (fun w' => w'.cell? ⟨M1, j * 9, none⟩ = some (.int .i64 q0) ∧ w'.cell? ⟨M1, j * 9 + 1, none⟩ = some (.string q1) ∧ w'.cell? ⟨M1, j * 9 + 2, none⟩ = some (.int .i64 q2) ∧ w'.cell? ⟨M1, j * 9 + 3, none⟩ = some (.int .i64 q3) ∧ w'.cell? ⟨M1, j * 9 + 4, none⟩ = some (.slice q5 q4 q6) ∧ w'.cell? ⟨M1, j * 9 + 5, none⟩ = some (.int .i64 q7) ∧ w'.cell? ⟨M1, j * 9 + 6, none⟩ = some (.slice q9 q8 q10) ∧ w'.cell? ⟨M1, j * 9 + 7, none⟩ = some (.int .i64 q11) ∧ w'.cell? ⟨M1, j * 9 + 8, none⟩ = some (.slice q13 q12 q14) ∧ w'.cell? ⟨M2, j * 2, none⟩ = some (.int .i64 kt) ∧ w'.cell? ⟨M2, j * 2 + 1, none⟩ = some (.slice at' mt ct) ∧ w'.cell? ⟨w3.heap.size, 0, none⟩ = some (.slice (some ⟨bw, ow, none⟩) ws'.length tc) ∧ w'.cell? ⟨bw, ow + j * 2, none⟩ = some (.int .i64 kw) ∧ w'.cell? ⟨bw, ow + j * 2 + 1, none⟩ = some (.slice aw nw cw))) (S1 := (fun _ => True)) (by kernel_rfl) (HS0.out _ (Bo.of_below (below_drew wr))) (trivial) (fun hS0 => ?_)
                refine takeL0 (i := 0) (v := ?va1) rfl rfl (by kernel_rfl) (by kernel_rfl) (by kernel_rfl) (by decide) (by kernel_rfl) (by kernel_rfl) (fun _ _ _ h => h) (Or.inl ⟨by rfl, ?hya1⟩) (by assumption) ?_
                case hya1 => (intro w hSw; (try dsimp only at hSw); go_simp; (try with_reducible rfl))
                try simp only [Act.put, List.setIfInBounds_toArray, List.set_cons_zero, List.set_cons_succ]
                refine takeL0 (i := 1) (v := ?va2) rfl rfl (by kernel_rfl) (by kernel_rfl) (by kernel_rfl) (by decide) (by kernel_rfl) (by kernel_rfl) (fun _ _ _ h => h) (Or.inl ⟨by rfl, ?hya2⟩) (by assumption) ?_
                case hya2 => (intro w hSw; (try dsimp only at hSw); go_simp; (try with_reducible rfl))
                try simp only [Act.put, List.setIfInBounds_toArray, List.set_cons_zero, List.set_cons_succ]
                refine takeL0 (i := 2) (v := ?va3) rfl rfl (by kernel_rfl) (by kernel_rfl) (by kernel_rfl) (by decide) (by kernel_rfl) (by kernel_rfl) (fun _ _ _ h => h) (Or.inl ⟨by rfl, ?hya3⟩) (by assumption) ?_
                case hya3 => (intro w hSw; (try dsimp only at hSw); go_simp; (try with_reducible rfl))
                try simp only [Act.put, List.setIfInBounds_toArray, List.set_cons_zero, List.set_cons_succ]
                refine takeL0 (i := 3) (v := ?va4) rfl rfl (by kernel_rfl) (by kernel_rfl) (by kernel_rfl) (by decide) (by kernel_rfl) (by kernel_rfl) (fun _ _ _ h => h) (Or.inl ⟨by rfl, ?hya4⟩) (by assumption) ?_
                case hya4 => (intro w hSw; (try dsimp only at hSw); go_simp; (try with_reducible rfl))
                try simp only [Act.put, List.setIfInBounds_toArray, List.set_cons_zero, List.set_cons_succ]
                refine takeL0 (i := 4) (v := ?va5) rfl rfl (by kernel_rfl) (by kernel_rfl) (by kernel_rfl) (by decide) (by kernel_rfl) (by kernel_rfl) (fun _ _ _ h => h) (Or.inl ⟨by rfl, ?hya5⟩) (by assumption) ?_
                case hya5 => (intro w hSw; (try dsimp only at hSw); go_simp; (try with_reducible rfl))
                try simp only [Act.put, List.setIfInBounds_toArray, List.set_cons_zero, List.set_cons_succ]
                refine takeL0 (i := 5) (v := ?va6) rfl rfl (by kernel_rfl) (by kernel_rfl) (by kernel_rfl) (by decide) (by kernel_rfl) (by kernel_rfl) (fun _ _ _ h => h) (Or.inl ⟨by rfl, ?hya6⟩) (by assumption) ?_
                case hya6 => (intro w hSw; (try dsimp only at hSw); go_simp; (try with_reducible rfl))
                try simp only [Act.put, List.setIfInBounds_toArray, List.set_cons_zero, List.set_cons_succ]
                refine takeL0 (i := 6) (v := ?va7) rfl rfl (by kernel_rfl) (by kernel_rfl) (by kernel_rfl) (by decide) (by kernel_rfl) (by kernel_rfl) (fun _ _ _ h => h) (Or.inl ⟨by rfl, ?hya7⟩) (by assumption) ?_
                case hya7 => (intro w hSw; (try dsimp only at hSw); go_simp; (try with_reducible rfl))
                try simp only [Act.put, List.setIfInBounds_toArray, List.set_cons_zero, List.set_cons_succ]
                refine takeL0 (i := 7) (v := ?va8) rfl rfl (by kernel_rfl) (by kernel_rfl) (by kernel_rfl) (by decide) (by kernel_rfl) (by kernel_rfl) (fun _ _ _ h => h) (Or.inl ⟨by rfl, ?hya8⟩) (by assumption) ?_
                case hya8 => (intro w hSw; (try dsimp only at hSw); go_simp; (try with_reducible rfl))
                try simp only [Act.put, List.setIfInBounds_toArray, List.set_cons_zero, List.set_cons_succ]
                refine takeL0 (i := 8) (v := ?va9) rfl rfl (by kernel_rfl) (by kernel_rfl) (by kernel_rfl) (by decide) (by kernel_rfl) (by kernel_rfl) (fun _ _ _ h => h) (Or.inl ⟨by rfl, ?hya9⟩) (by assumption) ?_
                case hya9 => (intro w hSw; (try dsimp only at hSw); go_simp; (try with_reducible rfl))
                try simp only [Act.put, List.setIfInBounds_toArray, List.set_cons_zero, List.set_cons_succ]
                refine takeL0 (i := 9) (v := ?va10) rfl rfl (by kernel_rfl) (by kernel_rfl) (by kernel_rfl) (by decide) (by kernel_rfl) (by kernel_rfl) (fun _ _ _ h => h) (Or.inl ⟨by rfl, ?hya10⟩) (by assumption) ?_
                case hya10 => (intro w hSw; (try dsimp only at hSw); go_simp; (try with_reducible rfl))
                try simp only [Act.put, List.setIfInBounds_toArray, List.set_cons_zero, List.set_cons_succ]
                refine takeL0 (i := 10) (v := ?va11) rfl rfl (by kernel_rfl) (by kernel_rfl) (by kernel_rfl) (by decide) (by kernel_rfl) (by kernel_rfl) (fun _ _ _ h => h) (Or.inl ⟨by rfl, ?hya11⟩) (by assumption) ?_
                case hya11 => (intro w hSw; (try dsimp only at hSw); go_simp; (try with_reducible rfl))
                try simp only [Act.put, List.setIfInBounds_toArray, List.set_cons_zero, List.set_cons_succ]
                refine takeL0 (i := 11) (v := ?va12) rfl rfl (by kernel_rfl) (by kernel_rfl) (by kernel_rfl) (by decide) (by kernel_rfl) (by kernel_rfl) (fun _ _ _ h => h) (Or.inl ⟨by rfl, ?hya12⟩) (by assumption) ?_
                case hya12 => (intro w hSw; (try dsimp only at hSw); go_simp; (try with_reducible rfl))
                try simp only [Act.put, List.setIfInBounds_toArray, List.set_cons_zero, List.set_cons_succ]
                refine takeL0 (i := 12) (v := ?va13) rfl rfl (by kernel_rfl) (by kernel_rfl) (by kernel_rfl) (by decide) (by kernel_rfl) (by kernel_rfl) (fun _ _ _ h => h) (Or.inl ⟨by rfl, ?hya13⟩) (by assumption) ?_
                case hya13 => (intro w hSw; (try dsimp only at hSw); go_simp; (try with_reducible rfl))
                try simp only [Act.put, List.setIfInBounds_toArray, List.set_cons_zero, List.set_cons_succ]
                refine takeL0 (i := 13) (v := ?va14) rfl rfl (by kernel_rfl) (by kernel_rfl) (by kernel_rfl) (by decide) (by kernel_rfl) (by kernel_rfl) (fun _ _ _ h => h) (Or.inl ⟨by rfl, ?hya14⟩) (by assumption) ?_
                case hya14 => (intro w hSw; (try dsimp only at hSw); go_simp; (try with_reducible rfl))
                try simp only [Act.put, List.setIfInBounds_toArray, List.set_cons_zero, List.set_cons_succ]
                refine takeL0 (i := 14) (v := ?va15) rfl rfl (by kernel_rfl) (by kernel_rfl) (by kernel_rfl) (by decide) (by kernel_rfl) (by kernel_rfl) (fun _ _ _ h => h) (Or.inl ⟨by rfl, ?hya15⟩) (by assumption) ?_
                case hya15 => (intro w hSw; (try dsimp only at hSw); go_simp; (try with_reducible rfl))
                try simp only [Act.put, List.setIfInBounds_toArray, List.set_cons_zero, List.set_cons_succ]
                refine takeL0 (i := 15) (v := ?va16) rfl rfl (by kernel_rfl) (by kernel_rfl) (by kernel_rfl) (by decide) (by kernel_rfl) (by kernel_rfl) (fun _ _ _ h => h) (Or.inl ⟨by rfl, ?hya16⟩) (by assumption) ?_
                case hya16 => (intro w hSw; (try dsimp only at hSw); go_simp; (try with_reducible rfl))
                try simp only [Act.put, List.setIfInBounds_toArray, List.set_cons_zero, List.set_cons_succ]
                refine takeL0 (i := 16) (v := ?va17) rfl rfl (by kernel_rfl) (by kernel_rfl) (by kernel_rfl) (by decide) (by kernel_rfl) (by kernel_rfl) (fun _ _ _ h => h) (Or.inl ⟨by rfl, ?hya17⟩) (by assumption) ?_
                case hya17 => (intro w hSw; (try dsimp only at hSw); go_simp; (try with_reducible rfl))
                try simp only [Act.put, List.setIfInBounds_toArray, List.set_cons_zero, List.set_cons_succ]
                refine takeL0 (i := 17) (v := ?va18) rfl rfl (by kernel_rfl) (by kernel_rfl) (by kernel_rfl) (by decide) (by kernel_rfl) (by kernel_rfl) (fun _ _ _ h => h) (Or.inl ⟨by rfl, ?hya18⟩) (by assumption) ?_
                case hya18 => (intro w hSw; (try dsimp only at hSw); go_simp; (try with_reducible rfl))
                try simp only [Act.put, List.setIfInBounds_toArray, List.set_cons_zero, List.set_cons_succ]
                refine takeL0 (i := 18) (v := ?va19) rfl rfl (by kernel_rfl) (by kernel_rfl) (by kernel_rfl) (by decide) (by kernel_rfl) (by kernel_rfl) (fun _ _ _ h => h) (Or.inl ⟨by rfl, ?hya19⟩) (by assumption) ?_
                case hya19 => (intro w hSw; (try dsimp only at hSw); go_simp; (try with_reducible rfl))
                try simp only [Act.put, List.setIfInBounds_toArray, List.set_cons_zero, List.set_cons_succ]
                refine readyL (rs := [19]) (by kernel_rfl) (by simp) ?_
                refine AllReadyL.cons rfl (fun K hK => ?_) AllReadyL.nil
                go_simp
                refine HFC.out.mono ?_
                rintro e w6 ⟨e2, r0, r1, r2, r3, r4, r5, r6, r7, r8, r9, r10, r11, r12, r13, r14, f6, rfl, hE6, hp6, hs6, hb6, hI6⟩
                have hB6 : Bo U wr w6 := (Bo.of_below (below_drew wr)).trans hb6
                refine hK.out _ _ ?_ (fun hS1 => ?_)
                · exact ⟨trivial, fun _ => HS0.out _ hB6⟩
                clear hK K hS0
                refine takeL0 (i := 20) (v := ?va20) rfl rfl (by kernel_rfl) (by kernel_rfl) (by kernel_rfl) (by decide) (by kernel_rfl) (by kernel_rfl) (fun _ _ _ h => h) (Or.inl ⟨by rfl, ?hya20⟩) (by assumption) ?_
                case hya20 => (intro w hSw; (try dsimp only at hSw); go_simp; (try with_reducible rfl))
                try simp only [Act.put, List.setIfInBounds_toArray, List.set_cons_zero, List.set_cons_succ]
                refine takeL0 (i := 21) (v := ?va21) rfl rfl (by kernel_rfl) (by kernel_rfl) (by kernel_rfl) (by decide) (by kernel_rfl) (by kernel_rfl) (fun _ _ _ h => h) (Or.inl ⟨by rfl, ?hya21⟩) (by assumption) ?_
                case hya21 => (intro w hSw; (try dsimp only at hSw); go_simp; (try with_reducible rfl))
                try simp only [Act.put, List.setIfInBounds_toArray, List.set_cons_zero, List.set_cons_succ]
                refine takeL (i := 22) (v := ?va22) rfl (by kernel_rfl) (by kernel_rfl) (by kernel_rfl) (by decide) (fun _ _ _ h => h) (Or.inl ⟨by rfl, ?hya22⟩) (by assumption) ?_
                case hya22 => (intro w hSw; (try dsimp only at hSw); go_simp; (try with_reducible rfl))
                try simp only [Act.put, List.setIfInBounds_toArray, List.set_cons_zero, List.set_cons_succ]
                refine takeL0 (i := 23) (v := ?va23) rfl rfl (by kernel_rfl) (by kernel_rfl) (by kernel_rfl) (by decide) (by kernel_rfl) (by kernel_rfl) (fun _ _ _ h => h) (Or.inl ⟨by rfl, ?hya23⟩) (by assumption) ?_
                case hya23 => (intro w hSw; (try dsimp only at hSw); go_simp; (try with_reducible rfl))
                try simp only [Act.put, List.setIfInBounds_toArray, List.set_cons_zero, List.set_cons_succ]
                refine readyL (rs := [24]) (by kernel_rfl) (by simp) ?_
                refine AllReadyL.cons rfl (fun K hK => ?_) AllReadyL.nil
                have hmv := HII2.out.move hB6 hI6
                obtain ⟨⟨y0, y1, y2, y3, y4, y5, y6, y7, y8, v0, v1, v2, v3, v4, v5, v6, v7, v8⟩, -, mz, -, mlt, -⟩ := hmv.cells hlk
                go_simp
                refine hK.out _ _ ?_ (fun hS2 => ?_)
                · exact ⟨trivial, fun h => absurd (h.symm.trans (show _ = true by kernel_rfl)) (by decide)⟩
                clear hK K hS1
                try simp only [Act.put, List.setIfInBounds_toArray, List.set_cons_zero, List.set_cons_succ]
                refine readyL (rs := [25]) (by kernel_rfl) (by simp) ?_
                refine AllReadyL.cons rfl (fun K hK => ?_) AllReadyL.nil
                go_simp
                refine hK.out _ _ ?_ (fun hS3 => ?_)
                · exact ⟨trivial, fun h => absurd (h.symm.trans (show _ = true by kernel_rfl)) (by decide)⟩
                clear hK K hS2
                try simp only [Act.put, List.setIfInBounds_toArray, List.set_cons_zero, List.set_cons_succ]
                refine doneL (by kernel_rfl) ?_ _
                obtain ⟨b0, b1, b2, b3, b4, b5, b6, b7, b8⟩ := cells9 hmv.zb
                have bz := fun o => frozen_of_block (o := o) hmv.zb
                have e0 : w6.cell? ⟨w.heap.size + 1 + 1, 0, none⟩ = some (.int .i64 0) := by rw [cell_of_block hmv.tz]; rfl
                have e1 : w6.cell? ⟨w.heap.size + 1 + 1, 1, none⟩ = some (.slice none 0 0) := by rw [cell_of_block hmv.tz]; rfl
                have ez := fun o => frozen_of_block (o := o) hmv.tz
                have blt : w.heap.size + 1 < w6.heap.size := lt_of_block hmv.zb
                have elt : w.heap.size + 1 + 1 < w6.heap.size := lt_of_block hmv.tz
                have n1' : M1 ≠ w.heap.size + 1 := by have := HNE.out.2.1; omega
                have n3' : M1 ≠ w.heap.size + 1 + 1 := by have := HNE.out.2.1; omega
                have hM1 := hmv.m1
                have FIN0 := ChOut.no (Z := Z) (U := U) (I := I) (A := fe ++ fps) (w := w) (s := s3) (w' := put (put (put w6 M1 (j * 9) [.int .i64 r0, .string r1, .int .i64 r2, .int .i64 r3, .slice r5 r4 r6, .int .i64 r7, .slice r9 r8 r10, .int .i64 r11, .slice r13 r12 r14]) (w.heap.size + 1) 0 [.int .i64 0, .string ⟨#[]⟩, .int .i64 0, .int .i64 0, .slice none 0 0, .int .i64 0, .slice none 0 0, .int .i64 0, .slice none 0 0]) (w.heap.size + 1 + 1) 0 [.int .i64 0, .slice none 0 0]) (((hmv.bo.put (by omega)).put (by omega)).put (by omega)) (HK.put (HK.put (HK.put hI6 HUL.out (by omega)) HUL.out (by omega)) HUL.out (by omega))
                rw [← HCN.out] at FIN0
                have FIN := hid FIN0
                simp only [put, Nat.zero_add, Nat.reduceAdd] at FIN
                clear FIN0 hE6 hp6 hs6 hb6 hI6 hB6 hmv hM1 HFC HS0 HII2 HCN
                go_wp2_with fail
                exact bodyPost_ret (v := .tuple #[.agg #[.int .i64 0, .string ⟨#[]⟩, .int .i64 0, .int .i64 0, .slice none 0 0, .int .i64 0, .slice none 0 0, .int .i64 0, .slice none 0 0], .agg #[.int .i64 0, .slice none 0 0], .bool false]) (by simp [results, Tryd.results62, go_sem, b0, b1, b2, b3, b4, b5, b6, b7, b8, e0, e1]) rfl FIN.out
              | some ee =>
                go_upto_region 19 with (fail)
                refine regionL (s := 24) (S0 := (fun w' => w'.cell? ⟨M1, j * 9, none⟩ = some (.int .i64 q0) ∧ w'.cell? ⟨M1, j * 9 + 1, none⟩ = some (.string q1) ∧ w'.cell? ⟨M1, j * 9 + 2, none⟩ = some (.int .i64 q2) ∧ w'.cell? ⟨M1, j * 9 + 3, none⟩ = some (.int .i64 q3) ∧ w'.cell? ⟨M1, j * 9 + 4, none⟩ = some (.slice q5 q4 q6) ∧ w'.cell? ⟨M1, j * 9 + 5, none⟩ = some (.int .i64 q7) ∧ w'.cell? ⟨M1, j * 9 + 6, none⟩ = some (.slice q9 q8 q10) ∧ w'.cell? ⟨M1, j * 9 + 7, none⟩ = some (.int .i64 q11) ∧ w'.cell? ⟨M1, j * 9 + 8, none⟩ = some (.slice q13 q12 q14) ∧ w'.cell? ⟨M2, j * 2, none⟩ = some (.int .i64 kt) ∧ w'.cell? ⟨M2, j * 2 + 1, none⟩ = some (.slice at' mt ct) ∧ w'.cell? ⟨w3.heap.size, 0, none⟩ = some (.slice (some ⟨bw, ow, none⟩) ws'.length tc) ∧ w'.cell? ⟨bw, ow + j * 2, none⟩ = some (.int .i64 kw) ∧ w'.cell? ⟨bw, ow + j * 2 + 1, none⟩ = some (.slice aw nw cw))) (S1 := (fun _ => True)) (by kernel_rfl) (HS0.out _ (Bo.of_below (below_drew wr))) (trivial) (fun hS0 => ?_)
                refine takeL0 (i := 0) (v := ?vb1) rfl rfl (by kernel_rfl) (by kernel_rfl) (by kernel_rfl) (by decide) (by kernel_rfl) (by kernel_rfl) (fun _ _ _ h => h) (Or.inl ⟨by rfl, ?hyb1⟩) (by assumption) ?_
                case hyb1 => (intro w hSw; (try dsimp only at hSw); go_simp; (try with_reducible rfl))
                try simp only [Act.put, List.setIfInBounds_toArray, List.set_cons_zero, List.set_cons_succ]
                refine takeL0 (i := 1) (v := ?vb2) rfl rfl (by kernel_rfl) (by kernel_rfl) (by kernel_rfl) (by decide) (by kernel_rfl) (by kernel_rfl) (fun _ _ _ h => h) (Or.inl ⟨by rfl, ?hyb2⟩) (by assumption) ?_
                case hyb2 => (intro w hSw; (try dsimp only at hSw); go_simp; (try with_reducible rfl))
                try simp only [Act.put, List.setIfInBounds_toArray, List.set_cons_zero, List.set_cons_succ]
                refine takeL0 (i := 2) (v := ?vb3) rfl rfl (by kernel_rfl) (by kernel_rfl) (by kernel_rfl) (by decide) (by kernel_rfl) (by kernel_rfl) (fun _ _ _ h => h) (Or.inl ⟨by rfl, ?hyb3⟩) (by assumption) ?_
                case hyb3 => (intro w hSw; (try dsimp only at hSw); go_simp; (try with_reducible rfl))
                try simp only [Act.put, List.setIfInBounds_toArray, List.set_cons_zero, List.set_cons_succ]
                refine takeL0 (i := 3) (v := ?vb4) rfl rfl (by kernel_rfl) (by kernel_rfl) (by kernel_rfl) (by decide) (by kernel_rfl) (by kernel_rfl) (fun _ _ _ h => h) (Or.inl ⟨by rfl, ?hyb4⟩) (by assumption) ?_
                case hyb4 => (intro w hSw; (try dsimp only at hSw); go_simp; (try with_reducible rfl))
                try simp only [Act.put, List.setIfInBounds_toArray, List.set_cons_zero, List.set_cons_succ]
                refine takeL0 (i := 4) (v := ?vb5) rfl rfl (by kernel_rfl) (by kernel_rfl) (by kernel_rfl) (by decide) (by kernel_rfl) (by kernel_rfl) (fun _ _ _ h => h) (Or.inl ⟨by rfl, ?hyb5⟩) (by assumption) ?_
                case hyb5 => (intro w hSw; (try dsimp only at hSw); go_simp; (try with_reducible rfl))
                try simp only [Act.put, List.setIfInBounds_toArray, List.set_cons_zero, List.set_cons_succ]
                refine takeL0 (i := 5) (v := ?vb6) rfl rfl (by kernel_rfl) (by kernel_rfl) (by kernel_rfl) (by decide) (by kernel_rfl) (by kernel_rfl) (fun _ _ _ h => h) (Or.inl ⟨by rfl, ?hyb6⟩) (by assumption) ?_
                case hyb6 => (intro w hSw; (try dsimp only at hSw); go_simp; (try with_reducible rfl))
                try simp only [Act.put, List.setIfInBounds_toArray, List.set_cons_zero, List.set_cons_succ]
                refine takeL0 (i := 6) (v := ?vb7) rfl rfl (by kernel_rfl) (by kernel_rfl) (by kernel_rfl) (by decide) (by kernel_rfl) (by kernel_rfl) (fun _ _ _ h => h) (Or.inl ⟨by rfl, ?hyb7⟩) (by assumption) ?_
                case hyb7 => (intro w hSw; (try dsimp only at hSw); go_simp; (try with_reducible rfl))
                try simp only [Act.put, List.setIfInBounds_toArray, List.set_cons_zero, List.set_cons_succ]
                refine takeL0 (i := 7) (v := ?vb8) rfl rfl (by kernel_rfl) (by kernel_rfl) (by kernel_rfl) (by decide) (by kernel_rfl) (by kernel_rfl) (fun _ _ _ h => h) (Or.inl ⟨by rfl, ?hyb8⟩) (by assumption) ?_
                case hyb8 => (intro w hSw; (try dsimp only at hSw); go_simp; (try with_reducible rfl))
                try simp only [Act.put, List.setIfInBounds_toArray, List.set_cons_zero, List.set_cons_succ]
                refine takeL0 (i := 8) (v := ?vb9) rfl rfl (by kernel_rfl) (by kernel_rfl) (by kernel_rfl) (by decide) (by kernel_rfl) (by kernel_rfl) (fun _ _ _ h => h) (Or.inl ⟨by rfl, ?hyb9⟩) (by assumption) ?_
                case hyb9 => (intro w hSw; (try dsimp only at hSw); go_simp; (try with_reducible rfl))
                try simp only [Act.put, List.setIfInBounds_toArray, List.set_cons_zero, List.set_cons_succ]
                refine takeL0 (i := 9) (v := ?vb10) rfl rfl (by kernel_rfl) (by kernel_rfl) (by kernel_rfl) (by decide) (by kernel_rfl) (by kernel_rfl) (fun _ _ _ h => h) (Or.inl ⟨by rfl, ?hyb10⟩) (by assumption) ?_
                case hyb10 => (intro w hSw; (try dsimp only at hSw); go_simp; (try with_reducible rfl))
                try simp only [Act.put, List.setIfInBounds_toArray, List.set_cons_zero, List.set_cons_succ]
                refine takeL0 (i := 10) (v := ?vb11) rfl rfl (by kernel_rfl) (by kernel_rfl) (by kernel_rfl) (by decide) (by kernel_rfl) (by kernel_rfl) (fun _ _ _ h => h) (Or.inl ⟨by rfl, ?hyb11⟩) (by assumption) ?_
                case hyb11 => (intro w hSw; (try dsimp only at hSw); go_simp; (try with_reducible rfl))
                try simp only [Act.put, List.setIfInBounds_toArray, List.set_cons_zero, List.set_cons_succ]
                refine takeL0 (i := 11) (v := ?vb12) rfl rfl (by kernel_rfl) (by kernel_rfl) (by kernel_rfl) (by decide) (by kernel_rfl) (by kernel_rfl) (fun _ _ _ h => h) (Or.inl ⟨by rfl, ?hyb12⟩) (by assumption) ?_
                case hyb12 => (intro w hSw; (try dsimp only at hSw); go_simp; (try with_reducible rfl))
                try simp only [Act.put, List.setIfInBounds_toArray, List.set_cons_zero, List.set_cons_succ]
                refine takeL0 (i := 12) (v := ?vb13) rfl rfl (by kernel_rfl) (by kernel_rfl) (by kernel_rfl) (by decide) (by kernel_rfl) (by kernel_rfl) (fun _ _ _ h => h) (Or.inl ⟨by rfl, ?hyb13⟩) (by assumption) ?_
                case hyb13 => (intro w hSw; (try dsimp only at hSw); go_simp; (try with_reducible rfl))
                try simp only [Act.put, List.setIfInBounds_toArray, List.set_cons_zero, List.set_cons_succ]
                refine takeL0 (i := 13) (v := ?vb14) rfl rfl (by kernel_rfl) (by kernel_rfl) (by kernel_rfl) (by decide) (by kernel_rfl) (by kernel_rfl) (fun _ _ _ h => h) (Or.inl ⟨by rfl, ?hyb14⟩) (by assumption) ?_
                case hyb14 => (intro w hSw; (try dsimp only at hSw); go_simp; (try with_reducible rfl))
                try simp only [Act.put, List.setIfInBounds_toArray, List.set_cons_zero, List.set_cons_succ]
                refine takeL0 (i := 14) (v := ?vb15) rfl rfl (by kernel_rfl) (by kernel_rfl) (by kernel_rfl) (by decide) (by kernel_rfl) (by kernel_rfl) (fun _ _ _ h => h) (Or.inl ⟨by rfl, ?hyb15⟩) (by assumption) ?_
                case hyb15 => (intro w hSw; (try dsimp only at hSw); go_simp; (try with_reducible rfl))
                try simp only [Act.put, List.setIfInBounds_toArray, List.set_cons_zero, List.set_cons_succ]
                refine takeL0 (i := 15) (v := ?vb16) rfl rfl (by kernel_rfl) (by kernel_rfl) (by kernel_rfl) (by decide) (by kernel_rfl) (by kernel_rfl) (fun _ _ _ h => h) (Or.inl ⟨by rfl, ?hyb16⟩) (by assumption) ?_
                case hyb16 => (intro w hSw; (try dsimp only at hSw); go_simp; (try with_reducible rfl))
                try simp only [Act.put, List.setIfInBounds_toArray, List.set_cons_zero, List.set_cons_succ]
                refine takeL0 (i := 16) (v := ?vb17) rfl rfl (by kernel_rfl) (by kernel_rfl) (by kernel_rfl) (by decide) (by kernel_rfl) (by kernel_rfl) (fun _ _ _ h => h) (Or.inl ⟨by rfl, ?hyb17⟩) (by assumption) ?_
                case hyb17 => (intro w hSw; (try dsimp only at hSw); go_simp; (try with_reducible rfl))
                try simp only [Act.put, List.setIfInBounds_toArray, List.set_cons_zero, List.set_cons_succ]
                refine takeL0 (i := 17) (v := ?vb18) rfl rfl (by kernel_rfl) (by kernel_rfl) (by kernel_rfl) (by decide) (by kernel_rfl) (by kernel_rfl) (fun _ _ _ h => h) (Or.inl ⟨by rfl, ?hyb18⟩) (by assumption) ?_
                case hyb18 => (intro w hSw; (try dsimp only at hSw); go_simp; (try with_reducible rfl))
                try simp only [Act.put, List.setIfInBounds_toArray, List.set_cons_zero, List.set_cons_succ]
                refine takeL0 (i := 18) (v := ?vb19) rfl rfl (by kernel_rfl) (by kernel_rfl) (by kernel_rfl) (by decide) (by kernel_rfl) (by kernel_rfl) (fun _ _ _ h => h) (Or.inl ⟨by rfl, ?hyb19⟩) (by assumption) ?_
                case hyb19 => (intro w hSw; (try dsimp only at hSw); go_simp; (try with_reducible rfl))
                try simp only [Act.put, List.setIfInBounds_toArray, List.set_cons_zero, List.set_cons_succ]
                refine readyL (rs := [19]) (by kernel_rfl) (by simp) ?_
                refine AllReadyL.cons rfl (fun K hK => ?_) AllReadyL.nil
                go_simp
                refine HFC.out.mono ?_
                rintro e w6 ⟨e2, r0, r1, r2, r3, r4, r5, r6, r7, r8, r9, r10, r11, r12, r13, r14, f6, rfl, hE6, hp6, hs6, hb6, hI6⟩
                have hB6 : Bo U wr w6 := (Bo.of_below (below_drew wr)).trans hb6
                refine hK.out _ _ ?_ (fun hS1 => ?_)
                · exact ⟨trivial, fun _ => HS0.out _ hB6⟩
                clear hK K hS0
                refine takeL0 (i := 20) (v := ?vb20) rfl rfl (by kernel_rfl) (by kernel_rfl) (by kernel_rfl) (by decide) (by kernel_rfl) (by kernel_rfl) (fun _ _ _ h => h) (Or.inl ⟨by rfl, ?hyb20⟩) (by assumption) ?_
                case hyb20 => (intro w hSw; (try dsimp only at hSw); go_simp; (try with_reducible rfl))
                try simp only [Act.put, List.setIfInBounds_toArray, List.set_cons_zero, List.set_cons_succ]
                refine takeL0 (i := 21) (v := ?vb21) rfl rfl (by kernel_rfl) (by kernel_rfl) (by kernel_rfl) (by decide) (by kernel_rfl) (by kernel_rfl) (fun _ _ _ h => h) (Or.inl ⟨by rfl, ?hyb21⟩) (by assumption) ?_
                case hyb21 => (intro w hSw; (try dsimp only at hSw); go_simp; (try with_reducible rfl))
                try simp only [Act.put, List.setIfInBounds_toArray, List.set_cons_zero, List.set_cons_succ]
                refine takeL (i := 22) (v := ?vb22) rfl (by kernel_rfl) (by kernel_rfl) (by kernel_rfl) (by decide) (fun _ _ _ h => h) (Or.inl ⟨by rfl, ?hyb22⟩) (by assumption) ?_
                case hyb22 => (intro w hSw; (try dsimp only at hSw); go_simp; (try with_reducible rfl))
                try simp only [Act.put, List.setIfInBounds_toArray, List.set_cons_zero, List.set_cons_succ]
                refine takeL0 (i := 23) (v := ?vb23) rfl rfl (by kernel_rfl) (by kernel_rfl) (by kernel_rfl) (by decide) (by kernel_rfl) (by kernel_rfl) (fun _ _ _ h => h) (Or.inl ⟨by rfl, ?hyb23⟩) (by assumption) ?_
                case hyb23 => (intro w hSw; (try dsimp only at hSw); go_simp; (try with_reducible rfl))
                try simp only [Act.put, List.setIfInBounds_toArray, List.set_cons_zero, List.set_cons_succ]
                refine readyL (rs := [24]) (by kernel_rfl) (by simp) ?_
                refine AllReadyL.cons rfl (fun K hK => ?_) AllReadyL.nil
                have hmv := HII2.out.move hB6 hI6
                obtain ⟨⟨y0, y1, y2, y3, y4, y5, y6, y7, y8, v0, v1, v2, v3, v4, v5, v6, v7, v8⟩, -, mz, -, mlt, -⟩ := hmv.cells hlk
                go_simp
                refine hK.out _ _ ?_ (fun hS2 => ?_)
                · exact ⟨trivial, fun h => absurd (h.symm.trans (show _ = true by kernel_rfl)) (by decide)⟩
                clear hK K hS1
                try simp only [Act.put, List.setIfInBounds_toArray, List.set_cons_zero, List.set_cons_succ]
                refine readyL (rs := [25]) (by kernel_rfl) (by simp) ?_
                refine AllReadyL.cons rfl (fun K hK => ?_) AllReadyL.nil
                go_simp
                refine hK.out _ _ ?_ (fun hS3 => ?_)
                · exact ⟨trivial, fun h => absurd (h.symm.trans (show _ = true by kernel_rfl)) (by decide)⟩
                clear hK K hS2
                try simp only [Act.put, List.setIfInBounds_toArray, List.set_cons_zero, List.set_cons_succ]
                refine doneL (by kernel_rfl) ?_ _
                obtain rfl := hp6 ee rfl
                have NX := HNX.out w6 f6 hs6
                have FIN := hid (hmv.repl (vs := [.int .i64 r0, .string r1, .int .i64 r2, .int .i64 r3, .slice r5 r4 r6, .int .i64 r7, .slice r9 r8 r10, .int .i64 r11, .slice r13 r12 r14]) HK HLE.out hE6 NX.2 NX.1)
                have hslk := HSLR.out w6 hB6
                have FIN2 := hid (HSLP.out w6 hB6 [.int .i64 r0, .string r1, .int .i64 r2, .int .i64 r3, .slice r5 r4 r6, .int .i64 r7, .slice r9 r8 r10, .int .i64 r11, .slice r13 r12 r14] (j * 9))
                clear hE6 hp6 hs6 hb6 hI6 hB6 hmv NX hslk HFC HS0 HII2
                go_wp2_with fail
                refine ⟨⟨j + 1, es' ++ [ee], s3, by omega, by go_num, HTK.out, ?_, FIN2.out⟩, by simp [intOf]; omega⟩
                rw [List.append_assoc]
                exact FIN.out
            · obtain rfl : j = ts.length := by omega
              rw [List.take_of_length_le (by rw [HUS.out.1]; exact Nat.le_refl _), List.take_of_length_le (by rw [HUS.out.2]; exact Nat.le_refl _), List.take_of_length_le (by rw [HLW.out, HUS.out.2]; exact Nat.le_refl _)] at hft
              rw [hft] at HCN
              simp only at HCN
              rw [List.drop_of_length_le (by rw [HUS.out.1]; exact Nat.le_refl _), List.append_nil] at hI
              have hI0 := hI
              obtain ⟨b0, b1, b2, b3, b4, b5, b6, b7, b8⟩ := cells9 hI.zb
              have bz := fun o => frozen_of_block (o := o) hI.zb
              have e0 : wr.cell? ⟨w.heap.size + 1 + 1, 0, none⟩ = some (.int .i64 0) := by rw [cell_of_block hI.tz]; rfl
              have e1 : wr.cell? ⟨w.heap.size + 1 + 1, 1, none⟩ = some (.slice none 0 0) := by rw [cell_of_block hI.tz]; rfl
              have ez := fun o => frozen_of_block (o := o) hI.tz
              have blt : w.heap.size + 1 < wr.heap.size := lt_of_block hI.zb
              have elt : w.heap.size + 1 + 1 < wr.heap.size := lt_of_block hI.tz
              obtain ⟨z0, z1, z2, z3, z4, z5, z6, z7, z8⟩ := cells9 hI.box
              have zz := fun o => frozen_of_block (o := o) hI.box
              have zlt : w.heap.size < wr.heap.size := lt_of_block hI.box
              have hq1 : wr.cell? ⟨w3.heap.size, 1, none⟩ = some (.int .i64 kr) := by rw [cell_of_block hqr]; rfl
              have hq2 : wr.cell? ⟨w3.heap.size, 2, none⟩ = some (.slice ar nr cr) := by rw [cell_of_block hqr]; rfl
              obtain ⟨fm, ft', lm, lt, sr, nb⟩ := hI.lm
              have hNbS : ∀ b, Nb w.heap.size M1 M1 b → b ≠ w.heap.size ∧ b ≠ w.heap.size + 1 ∧ b ≠ w.heap.size + 1 + 1 := fun b hb => by
                rcases hb with h | h
                · exact ⟨by omega, by omega, by omega⟩
                · exact ⟨by omega, by omega, by omega⟩
              have hm3 := HM3.out
              have hne1 : w3.heap.size ≠ w.heap.size + 1 := by omega
              have hne0 : w3.heap.size ≠ w.heap.size := by omega
              have hneM : M1 ≠ w.heap.size + 1 := by omega
              by_cases h13 : k = 13
              · subst h13
                have hl1 : es'.length = 1 := by
                  have h1 : kidsM 13 = 1 := (by decide)
                  have h2 := HKD.out.1
                  omega
                obtain ⟨ee, rfl⟩ := List.length_eq_one_iff.1 hl1
                obtain ⟨q0, q1, q2, q3, q4, q5, q6, q7, q8, q9, q10, q11, q12, q13, q14, fk, c0, c1', c2', c3', c4, c5, c6, c7, c8, hatk, hfk⟩ := lm.get 0 (by simp)
                simp only [Nat.zero_mul, Nat.zero_add, List.getElem_cons_zero] at c0 c1' c2' c3' c4 c5 c6 c7 c8 hatk
                have hout : outM 13 nm num ty fr lb [ee] = ee := by
                  unfold outM
                  rw [if_pos rfl]
                  rfl
                have hp0 : (0 : Int) < (ts.length : Int) := by omega
                have hp1 : 0 < ts.length := by omega
                have HS0 := hid (show ∀ W, Below wr.heap.size wr W → (W.cell? ⟨M1, 0, none⟩ = some (.int .i64 q0) ∧ W.cell? ⟨M1, 1, none⟩ = some (.string q1) ∧ W.cell? ⟨M1, 2, none⟩ = some (.int .i64 q2) ∧ W.cell? ⟨M1, 3, none⟩ = some (.int .i64 q3) ∧ W.cell? ⟨M1, 4, none⟩ = some (.slice q5 q4 q6) ∧ W.cell? ⟨M1, 5, none⟩ = some (.int .i64 q7) ∧ W.cell? ⟨M1, 6, none⟩ = some (.slice q9 q8 q10) ∧ W.cell? ⟨M1, 7, none⟩ = some (.int .i64 q11) ∧ W.cell? ⟨M1, 8, none⟩ = some (.slice q13 q12 q14) ∧ W.cell? ⟨w3.heap.size, 1, none⟩ = some (.int .i64 kr) ∧ W.cell? ⟨w3.heap.size, 2, none⟩ = some (.slice ar nr cr)) from fun W hB => ⟨cell_keep c0 hB, cell_keep c1' hB, cell_keep c2' hB, cell_keep c3' hB, cell_keep c4 hB, cell_keep c5 hB, cell_keep c6 hB, cell_keep c7 hB, cell_keep c8 hB, cell_keep hq1 hB, cell_keep hq2 hB⟩)
                have HSN : ∀ b o v, b ≠ w.heap.size + 1 → wr.cell? ⟨b, o, none⟩ = some v → (put wr (w.heap.size + 1) 0 [.int .i64 q0, .string q1, .int .i64 q2, .int .i64 q3, .slice q5 q4 q6, .int .i64 q7, .slice q9 q8 q10, .int .i64 q11, .slice q13 q12 q14]).drew.cell? ⟨b, o, none⟩ = some v := fun b o v hb h => cell_keep ((putB hb o).1.trans h) (below_drew _)
                have HS1 := hid (show ((put wr (w.heap.size + 1) 0 [.int .i64 q0, .string q1, .int .i64 q2, .int .i64 q3, .slice q5 q4 q6, .int .i64 q7, .slice q9 q8 q10, .int .i64 q11, .slice q13 q12 q14]).drew.cell? ⟨M1, 0, none⟩ = some (.int .i64 q0) ∧ (put wr (w.heap.size + 1) 0 [.int .i64 q0, .string q1, .int .i64 q2, .int .i64 q3, .slice q5 q4 q6, .int .i64 q7, .slice q9 q8 q10, .int .i64 q11, .slice q13 q12 q14]).drew.cell? ⟨M1, 1, none⟩ = some (.string q1) ∧ (put wr (w.heap.size + 1) 0 [.int .i64 q0, .string q1, .int .i64 q2, .int .i64 q3, .slice q5 q4 q6, .int .i64 q7, .slice q9 q8 q10, .int .i64 q11, .slice q13 q12 q14]).drew.cell? ⟨M1, 2, none⟩ = some (.int .i64 q2) ∧ (put wr (w.heap.size + 1) 0 [.int .i64 q0, .string q1, .int .i64 q2, .int .i64 q3, .slice q5 q4 q6, .int .i64 q7, .slice q9 q8 q10, .int .i64 q11, .slice q13 q12 q14]).drew.cell? ⟨M1, 3, none⟩ = some (.int .i64 q3) ∧ (put wr (w.heap.size + 1) 0 [.int .i64 q0, .string q1, .int .i64 q2, .int .i64 q3, .slice q5 q4 q6, .int .i64 q7, .slice q9 q8 q10, .int .i64 q11, .slice q13 q12 q14]).drew.cell? ⟨M1, 4, none⟩ = some (.slice q5 q4 q6) ∧ (put wr (w.heap.size + 1) 0 [.int .i64 q0, .string q1, .int .i64 q2, .int .i64 q3, .slice q5 q4 q6, .int .i64 q7, .slice q9 q8 q10, .int .i64 q11, .slice q13 q12 q14]).drew.cell? ⟨M1, 5, none⟩ = some (.int .i64 q7) ∧ (put wr (w.heap.size + 1) 0 [.int .i64 q0, .string q1, .int .i64 q2, .int .i64 q3, .slice q5 q4 q6, .int .i64 q7, .slice q9 q8 q10, .int .i64 q11, .slice q13 q12 q14]).drew.cell? ⟨M1, 6, none⟩ = some (.slice q9 q8 q10) ∧ (put wr (w.heap.size + 1) 0 [.int .i64 q0, .string q1, .int .i64 q2, .int .i64 q3, .slice q5 q4 q6, .int .i64 q7, .slice q9 q8 q10, .int .i64 q11, .slice q13 q12 q14]).drew.cell? ⟨M1, 7, none⟩ = some (.int .i64 q11) ∧ (put wr (w.heap.size + 1) 0 [.int .i64 q0, .string q1, .int .i64 q2, .int .i64 q3, .slice q5 q4 q6, .int .i64 q7, .slice q9 q8 q10, .int .i64 q11, .slice q13 q12 q14]).drew.cell? ⟨M1, 8, none⟩ = some (.slice q13 q12 q14) ∧ (put wr (w.heap.size + 1) 0 [.int .i64 q0, .string q1, .int .i64 q2, .int .i64 q3, .slice q5 q4 q6, .int .i64 q7, .slice q9 q8 q10, .int .i64 q11, .slice q13 q12 q14]).drew.cell? ⟨w3.heap.size, 1, none⟩ = some (.int .i64 kr) ∧ (put wr (w.heap.size + 1) 0 [.int .i64 q0, .string q1, .int .i64 q2, .int .i64 q3, .slice q5 q4 q6, .int .i64 q7, .slice q9 q8 q10, .int .i64 q11, .slice q13 q12 q14]).drew.cell? ⟨w3.heap.size, 2, none⟩ = some (.slice ar nr cr)) from ⟨HSN _ _ _ hneM c0, HSN _ _ _ hneM c1', HSN _ _ _ hneM c2', HSN _ _ _ hneM c3', HSN _ _ _ hneM c4, HSN _ _ _ hneM c5, HSN _ _ _ hneM c6, HSN _ _ _ hneM c7, HSN _ _ _ hneM c8, HSN _ _ _ hne1 hq1, HSN _ _ _ hne1 hq2⟩)
                have hsA : Src Z U (fe ++ fps) w wr (fk ++ g2) := Src.append (sr.sub (fun b hb => by simp [hfk b hb])) (hsr.sub (fun b hb => by simp [hb]))
                have FIN0 := (ChOut.yes (I := I) (s := s2) (P1 := w.heap.size + 1) (P2 := w.heap.size + 1 + 1) HK hatk hr hsA (fun b hb => by
                  have hn : Nb w.heap.size M1 M1 b := by
                    rcases List.mem_append.1 hb with h | h
                    · exact nb b (by simp [hfk b h])
                    · exact (HNM1.out b (by simp [h])).1
                  exact (hNbS b hn).2) hI.bo hI.st HUL.out (by omega) (by omega)).drew HK HUL.out
                rw [← hout, ← HCN.out] at FIN0
                have FIN := hid FIN0
                simp only [put, Nat.zero_add, Nat.reduceAdd] at FIN HS1
                clear FIN0 hI hI0 lm lt sr nb hsl hr hqr hsr hatk hfk hsA hNbS hout hl1 hft hle c0 c1' c2' c3' c4 c5 c6 c7 c8 hq1 hq2
                go_upto_region 24 with (fail)
                refine regionL (s := 6) (S0 := (fun w' => w'.cell? ⟨M1, 0, none⟩ = some (.int .i64 q0) ∧ w'.cell? ⟨M1, 1, none⟩ = some (.string q1) ∧ w'.cell? ⟨M1, 2, none⟩ = some (.int .i64 q2) ∧ w'.cell? ⟨M1, 3, none⟩ = some (.int .i64 q3) ∧ w'.cell? ⟨M1, 4, none⟩ = some (.slice q5 q4 q6) ∧ w'.cell? ⟨M1, 5, none⟩ = some (.int .i64 q7) ∧ w'.cell? ⟨M1, 6, none⟩ = some (.slice q9 q8 q10) ∧ w'.cell? ⟨M1, 7, none⟩ = some (.int .i64 q11) ∧ w'.cell? ⟨M1, 8, none⟩ = some (.slice q13 q12 q14) ∧ w'.cell? ⟨w3.heap.size, 1, none⟩ = some (.int .i64 kr) ∧ w'.cell? ⟨w3.heap.size, 2, none⟩ = some (.slice ar nr cr))) (S1 := (fun _ => True)) (by kernel_rfl) (HS0.out _ (below_drew _)) (trivial) (fun hS0 => ?_)
                refine takeL0 (i := 0) (v := ?vc1) rfl rfl (by kernel_rfl) (by kernel_rfl) (by kernel_rfl) (by decide) (by kernel_rfl) (by kernel_rfl) (fun _ _ _ h => h) (Or.inl ⟨by rfl, ?hyc1⟩) (by assumption) ?_
                case hyc1 => (intro w hSw; (try dsimp only at hSw); go_simp; (try with_reducible rfl))
                try simp only [Act.put, List.setIfInBounds_toArray, List.set_cons_zero, List.set_cons_succ]
                refine takeL0 (i := 1) (v := ?vc2) rfl rfl (by kernel_rfl) (by kernel_rfl) (by kernel_rfl) (by decide) (by kernel_rfl) (by kernel_rfl) (fun _ _ _ h => h) (Or.inl ⟨by rfl, ?hyc2⟩) (by assumption) ?_
                case hyc2 => (intro w hSw; (try dsimp only at hSw); go_simp; (try with_reducible rfl))
                try simp only [Act.put, List.setIfInBounds_toArray, List.set_cons_zero, List.set_cons_succ]
                refine takeL0 (i := 2) (v := ?vc3) rfl rfl (by kernel_rfl) (by kernel_rfl) (by kernel_rfl) (by decide) (by kernel_rfl) (by kernel_rfl) (fun _ _ _ h => h) (Or.inl ⟨by rfl, ?hyc3⟩) (by assumption) ?_
                case hyc3 => (intro w hSw; (try dsimp only at hSw); go_simp; (try with_reducible rfl))
                try simp only [Act.put, List.setIfInBounds_toArray, List.set_cons_zero, List.set_cons_succ]
                refine takeL0 (i := 3) (v := ?vc4) rfl rfl (by kernel_rfl) (by kernel_rfl) (by kernel_rfl) (by decide) (by kernel_rfl) (by kernel_rfl) (fun _ _ _ h => h) (Or.inl ⟨by rfl, ?hyc4⟩) (by assumption) ?_
                case hyc4 => (intro w hSw; (try dsimp only at hSw); go_simp; (try with_reducible rfl))
                try simp only [Act.put, List.setIfInBounds_toArray, List.set_cons_zero, List.set_cons_succ]
                refine takeL0 (i := 4) (v := ?vc5) rfl rfl (by kernel_rfl) (by kernel_rfl) (by kernel_rfl) (by decide) (by kernel_rfl) (by kernel_rfl) (fun _ _ _ h => h) (Or.inl ⟨by rfl, ?hyc5⟩) (by assumption) ?_
                case hyc5 => (intro w hSw; (try dsimp only at hSw); go_simp; (try with_reducible rfl))
                try simp only [Act.put, List.setIfInBounds_toArray, List.set_cons_zero, List.set_cons_succ]
                refine readyL (rs := [5]) (by kernel_rfl) (by simp) ?_
                refine AllReadyL.cons rfl (fun K hK => ?_) AllReadyL.nil
                go_simp
                refine hK.out _ _ ?_ (fun hS1 => ?_)
                · exact ⟨trivial, fun _ => HS1.out⟩
                clear hK K hS0
                try simp only [Act.put, List.setIfInBounds_toArray, List.set_cons_zero, List.set_cons_succ]
                refine readyL (rs := [6]) (by kernel_rfl) (by simp) ?_
                refine AllReadyL.cons rfl (fun K hK => ?_) AllReadyL.nil
                go_simp
                refine hK.out _ _ ?_ (fun hS2 => ?_)
                · exact ⟨trivial, fun h => absurd (h.symm.trans (show _ = true by kernel_rfl)) (by decide)⟩
                clear hK K hS1
                try simp only [Act.put, List.setIfInBounds_toArray, List.set_cons_zero, List.set_cons_succ]
                refine readyL (rs := [7]) (by kernel_rfl) (by simp) ?_
                refine AllReadyL.cons rfl (fun K hK => ?_) AllReadyL.nil
                go_simp
                refine hK.out _ _ ?_ (fun hS3 => ?_)
                · exact ⟨trivial, fun h => absurd (h.symm.trans (show _ = true by kernel_rfl)) (by decide)⟩
                clear hK K hS2
                try simp only [Act.put, List.setIfInBounds_toArray, List.set_cons_zero, List.set_cons_succ]
                refine doneL (by kernel_rfl) ?_ _
                go_wp2_with fail
                exact bodyPost_ret (v := .tuple #[.agg #[.int .i64 q0, .string q1, .int .i64 q2, .int .i64 q3, .slice q5 q4 q6, .int .i64 q7, .slice q9 q8 q10, .int .i64 q11, .slice q13 q12 q14], .agg #[.int .i64 kr, .slice ar nr cr], .bool true]) (by simp [results, Tryd.results62, go_sem, b0, b1, b2, b3, b4, b5, b6, b7, b8, e0, e1]) rfl FIN.out
              · have hk13 : (k == 13) = false := by simpa using h13
                clear hneM
                have hzQ : (wr.setCell ⟨w.heap.size, 8, none⟩ (.slice (some ⟨M1, 0, none⟩) ts.length ts.length)).heap[w.heap.size]? = some (.cells #[.int .i64 k, .string nm, .int .i64 num, .int .i64 k1, .slice a1 n1 c1, .int .i64 k2, .slice a2 n2 c2, .int .i64 lb, .slice (some ⟨M1, 0, none⟩) ts.length ts.length] 35 (0, 0)) := heap_setCell_at hI.box _
                have hlen : es'.length = ts.length := hle
                obtain ⟨fq, hsm, hfq⟩ := lm.sm (by have := HRG.out.2.2; unfold maxLen; omega)
                rw [hlen] at hsm
                have hout : outM k nm num ty fr lb es' = .mk k nm num ty fr lb es' := by unfold outM; rw [if_neg h13]
                have hf1 : ∀ b ∈ f1 ++ f2, b ∈ fe ++ fps := fun b hb => by
                  rw [HFE.out]
                  rcases List.mem_append.1 hb with h | h <;> simp [h]
                have hat1 := hI.bo.ty HT1.out (fun b hb => (HGD.out b (hf1 b (by simp [hb]))).2)
                have hat2 := hI.bo.ty HT2.out (fun b hb => (HGD.out b (hf1 b (by simp [hb]))).2)
                have hTm : Tm.At wr (.mk k nm num ty fr lb es') (.agg #[.int .i64 k, .string nm, .int .i64 num, .int .i64 k1, .slice a1 n1 c1, .int .i64 k2, .slice a2 n2 c2, .int .i64 lb, .slice (some ⟨M1, 0, none⟩) ts.length ts.length]) (f1 ++ (f2 ++ fq)) := Tm.at_mk.2 ⟨_, _, _, _, _, f1, f2, fq, rfl, hnm, hat1, hat2, rfl, hsm⟩
                have hM1z : Gd Z U wr M1 := by
                  obtain ⟨D, hD, -⟩ := lm
                  exact ⟨fun _ o => frozen_of_block hD, HUL.out.ne (by omega)⟩
                have hall : ∀ b ∈ (f1 ++ (f2 ++ fq)) ++ g2, ((b ∈ fe ++ fps ∨ w.heap.size ≤ b) ∧ Gd Z U wr b) ∧ (b ≠ w.heap.size ∧ b ≠ w.heap.size + 1 ∧ b ≠ w.heap.size + 1 + 1) := fun b hb => by
                  have h5 : b ∈ f1 ++ f2 ∨ b ∈ fq ∨ b ∈ g2 := by
                    simp only [List.mem_append] at hb ⊢
                    rcases hb with (h | h | h) | h <;> simp [h]
                  rcases h5 with h | h | h
                  · have h1 := HLA.out b (hf1 b h)
                    exact ⟨⟨.inl (hf1 b h), (HGD.out b (hf1 b h)).bo h1 hI.bo⟩, by omega, by omega, by omega⟩
                  · rcases hfq b h with h | h
                    · subst h
                      exact ⟨⟨.inr (by omega), hM1z⟩, by omega, by omega, by omega⟩
                    · exact ⟨sr b (by simp [h]), hNbS b (nb b (by simp [h]))⟩
                  · exact ⟨hsr b (by simp [h]), hNbS b (HNM1.out b (by simp [h])).1⟩
                have hsA : Src Z U (fe ++ fps) w wr ((f1 ++ (f2 ++ fq)) ++ g2) := fun b hb => (hall b hb).1
                have hTq := hTm.putne (M := w.heap.size) (o := 8) (vs := [.slice (some ⟨M1, 0, none⟩) ts.length ts.length]) (fun b hb => (hall b (List.mem_append_left _ hb)).2.1)
                have hRq := hr.putne (M := w.heap.size) (o := 8) (vs := [.slice (some ⟨M1, 0, none⟩) ts.length ts.length]) (fun b hb => (hall b (List.mem_append_right _ hb)).2.1)
                have hsq := hsA.put (P := w.heap.size) (o := 8) (vs := [.slice (some ⟨M1, 0, none⟩) ts.length ts.length]) (fun b hb => (hall b hb).2.1)
                have hbq : Bo U w (put wr w.heap.size 8 [.slice (some ⟨M1, 0, none⟩) ts.length ts.length]) := hI.bo.put (Nat.le_refl _)
                have FIN0 := (ChOut.yes (I := I) (s := s2) (P1 := w.heap.size + 1) (P2 := w.heap.size + 1 + 1) HK hTq hRq hsq (fun b hb => (hall b hb).2.2) hbq (HK.put hI.st HUL.out (Nat.le_refl _)) HUL.out (by omega) (by omega)).drew HK HUL.out
                rw [← hout, ← HCN.out] at FIN0
                have FIN := hid FIN0
                have hqz : ∀ b o, b ≠ w.heap.size → (wr.setCell ⟨w.heap.size, 8, none⟩ (.slice (some ⟨M1, 0, none⟩) ts.length ts.length)).cell? ⟨b, o, none⟩ = wr.cell? ⟨b, o, none⟩ := fun b o hb => cell_setCell_ne _ _ _ b o hb
                have hqf : ∀ b o, b ≠ w.heap.size → (wr.setCell ⟨w.heap.size, 8, none⟩ (.slice (some ⟨M1, 0, none⟩) ts.length ts.length)).frozen? ⟨b, o, none⟩ = wr.frozen? ⟨b, o, none⟩ := fun b o hb => frozen_setCell_ne _ _ _ b o hb
                obtain ⟨x0, x1, x2, x3, x4, x5, x6, x7, x8⟩ := cells9 hzQ
                have HS0 := hid (show ∀ W, Below (wr.setCell ⟨w.heap.size, 8, none⟩ (.slice (some ⟨M1, 0, none⟩) ts.length ts.length)).heap.size (wr.setCell ⟨w.heap.size, 8, none⟩ (.slice (some ⟨M1, 0, none⟩) ts.length ts.length)) W → (W.cell? ⟨w.heap.size, 0, none⟩ = some (.int .i64 k) ∧ W.cell? ⟨w.heap.size, 1, none⟩ = some (.string nm) ∧ W.cell? ⟨w.heap.size, 2, none⟩ = some (.int .i64 num) ∧ W.cell? ⟨w.heap.size, 3, none⟩ = some (.int .i64 k1) ∧ W.cell? ⟨w.heap.size, 4, none⟩ = some (.slice a1 n1 c1) ∧ W.cell? ⟨w.heap.size, 5, none⟩ = some (.int .i64 k2) ∧ W.cell? ⟨w.heap.size, 6, none⟩ = some (.slice a2 n2 c2) ∧ W.cell? ⟨w.heap.size, 7, none⟩ = some (.int .i64 lb) ∧ W.cell? ⟨w.heap.size, 8, none⟩ = some (.slice (some ⟨M1, 0, none⟩) ts.length ts.length) ∧ W.cell? ⟨w3.heap.size, 1, none⟩ = some (.int .i64 kr) ∧ W.cell? ⟨w3.heap.size, 2, none⟩ = some (.slice ar nr cr)) from fun W hB => ⟨cell_keep x0 hB, cell_keep x1 hB, cell_keep x2 hB, cell_keep x3 hB, cell_keep x4 hB, cell_keep x5 hB, cell_keep x6 hB, cell_keep x7 hB, cell_keep x8 hB, cell_keep ((hqz _ 1 hne0).trans hq1) hB, cell_keep ((hqz _ 2 hne0).trans hq2) hB⟩)
                have HSN : ∀ b o v, b ≠ w.heap.size + 1 → (wr.setCell ⟨w.heap.size, 8, none⟩ (.slice (some ⟨M1, 0, none⟩) ts.length ts.length)).cell? ⟨b, o, none⟩ = some v → (put (wr.setCell ⟨w.heap.size, 8, none⟩ (.slice (some ⟨M1, 0, none⟩) ts.length ts.length)) (w.heap.size + 1) 0 [.int .i64 k, .string nm, .int .i64 num, .int .i64 k1, .slice a1 n1 c1, .int .i64 k2, .slice a2 n2 c2, .int .i64 lb, .slice (some ⟨M1, 0, none⟩) ts.length ts.length]).drew.cell? ⟨b, o, none⟩ = some v := fun b o v hb h => cell_keep ((putB hb o).1.trans h) (below_drew _)
                have hneS : w.heap.size ≠ w.heap.size + 1 := by omega
                have HS1 := hid (show ((put (wr.setCell ⟨w.heap.size, 8, none⟩ (.slice (some ⟨M1, 0, none⟩) ts.length ts.length)) (w.heap.size + 1) 0 [.int .i64 k, .string nm, .int .i64 num, .int .i64 k1, .slice a1 n1 c1, .int .i64 k2, .slice a2 n2 c2, .int .i64 lb, .slice (some ⟨M1, 0, none⟩) ts.length ts.length]).drew.cell? ⟨w.heap.size, 0, none⟩ = some (.int .i64 k) ∧ (put (wr.setCell ⟨w.heap.size, 8, none⟩ (.slice (some ⟨M1, 0, none⟩) ts.length ts.length)) (w.heap.size + 1) 0 [.int .i64 k, .string nm, .int .i64 num, .int .i64 k1, .slice a1 n1 c1, .int .i64 k2, .slice a2 n2 c2, .int .i64 lb, .slice (some ⟨M1, 0, none⟩) ts.length ts.length]).drew.cell? ⟨w.heap.size, 1, none⟩ = some (.string nm) ∧ (put (wr.setCell ⟨w.heap.size, 8, none⟩ (.slice (some ⟨M1, 0, none⟩) ts.length ts.length)) (w.heap.size + 1) 0 [.int .i64 k, .string nm, .int .i64 num, .int .i64 k1, .slice a1 n1 c1, .int .i64 k2, .slice a2 n2 c2, .int .i64 lb, .slice (some ⟨M1, 0, none⟩) ts.length ts.length]).drew.cell? ⟨w.heap.size, 2, none⟩ = some (.int .i64 num) ∧ (put (wr.setCell ⟨w.heap.size, 8, none⟩ (.slice (some ⟨M1, 0, none⟩) ts.length ts.length)) (w.heap.size + 1) 0 [.int .i64 k, .string nm, .int .i64 num, .int .i64 k1, .slice a1 n1 c1, .int .i64 k2, .slice a2 n2 c2, .int .i64 lb, .slice (some ⟨M1, 0, none⟩) ts.length ts.length]).drew.cell? ⟨w.heap.size, 3, none⟩ = some (.int .i64 k1) ∧ (put (wr.setCell ⟨w.heap.size, 8, none⟩ (.slice (some ⟨M1, 0, none⟩) ts.length ts.length)) (w.heap.size + 1) 0 [.int .i64 k, .string nm, .int .i64 num, .int .i64 k1, .slice a1 n1 c1, .int .i64 k2, .slice a2 n2 c2, .int .i64 lb, .slice (some ⟨M1, 0, none⟩) ts.length ts.length]).drew.cell? ⟨w.heap.size, 4, none⟩ = some (.slice a1 n1 c1) ∧ (put (wr.setCell ⟨w.heap.size, 8, none⟩ (.slice (some ⟨M1, 0, none⟩) ts.length ts.length)) (w.heap.size + 1) 0 [.int .i64 k, .string nm, .int .i64 num, .int .i64 k1, .slice a1 n1 c1, .int .i64 k2, .slice a2 n2 c2, .int .i64 lb, .slice (some ⟨M1, 0, none⟩) ts.length ts.length]).drew.cell? ⟨w.heap.size, 5, none⟩ = some (.int .i64 k2) ∧ (put (wr.setCell ⟨w.heap.size, 8, none⟩ (.slice (some ⟨M1, 0, none⟩) ts.length ts.length)) (w.heap.size + 1) 0 [.int .i64 k, .string nm, .int .i64 num, .int .i64 k1, .slice a1 n1 c1, .int .i64 k2, .slice a2 n2 c2, .int .i64 lb, .slice (some ⟨M1, 0, none⟩) ts.length ts.length]).drew.cell? ⟨w.heap.size, 6, none⟩ = some (.slice a2 n2 c2) ∧ (put (wr.setCell ⟨w.heap.size, 8, none⟩ (.slice (some ⟨M1, 0, none⟩) ts.length ts.length)) (w.heap.size + 1) 0 [.int .i64 k, .string nm, .int .i64 num, .int .i64 k1, .slice a1 n1 c1, .int .i64 k2, .slice a2 n2 c2, .int .i64 lb, .slice (some ⟨M1, 0, none⟩) ts.length ts.length]).drew.cell? ⟨w.heap.size, 7, none⟩ = some (.int .i64 lb) ∧ (put (wr.setCell ⟨w.heap.size, 8, none⟩ (.slice (some ⟨M1, 0, none⟩) ts.length ts.length)) (w.heap.size + 1) 0 [.int .i64 k, .string nm, .int .i64 num, .int .i64 k1, .slice a1 n1 c1, .int .i64 k2, .slice a2 n2 c2, .int .i64 lb, .slice (some ⟨M1, 0, none⟩) ts.length ts.length]).drew.cell? ⟨w.heap.size, 8, none⟩ = some (.slice (some ⟨M1, 0, none⟩) ts.length ts.length) ∧ (put (wr.setCell ⟨w.heap.size, 8, none⟩ (.slice (some ⟨M1, 0, none⟩) ts.length ts.length)) (w.heap.size + 1) 0 [.int .i64 k, .string nm, .int .i64 num, .int .i64 k1, .slice a1 n1 c1, .int .i64 k2, .slice a2 n2 c2, .int .i64 lb, .slice (some ⟨M1, 0, none⟩) ts.length ts.length]).drew.cell? ⟨w3.heap.size, 1, none⟩ = some (.int .i64 kr) ∧ (put (wr.setCell ⟨w.heap.size, 8, none⟩ (.slice (some ⟨M1, 0, none⟩) ts.length ts.length)) (w.heap.size + 1) 0 [.int .i64 k, .string nm, .int .i64 num, .int .i64 k1, .slice a1 n1 c1, .int .i64 k2, .slice a2 n2 c2, .int .i64 lb, .slice (some ⟨M1, 0, none⟩) ts.length ts.length]).drew.cell? ⟨w3.heap.size, 2, none⟩ = some (.slice ar nr cr)) from ⟨HSN _ _ _ hneS x0, HSN _ _ _ hneS x1, HSN _ _ _ hneS x2, HSN _ _ _ hneS x3, HSN _ _ _ hneS x4, HSN _ _ _ hneS x5, HSN _ _ _ hneS x6, HSN _ _ _ hneS x7, HSN _ _ _ hneS x8, HSN _ _ _ hne1 ((hqz _ 1 hne0).trans hq1), HSN _ _ _ hne1 ((hqz _ 2 hne0).trans hq2)⟩)
                simp only [put, Nat.zero_add, Nat.reduceAdd] at FIN HS1
                clear FIN0 hI hI0 lm lt sr nb hsl hr hqr hsr hsA hNbS hout hft hle hlen hsm hfq hf1 hat1 hat2 hTm hM1z hall hTq hRq hsq hbq hzQ hqz hqf hneS x0 x1 x2 x3 x4 x5 x6 x7 x8 hq1 hq2
                go_upto_region 26 with (fail)
                refine regionL (s := 4) (S0 := (fun w' => w'.cell? ⟨w.heap.size, 0, none⟩ = some (.int .i64 k) ∧ w'.cell? ⟨w.heap.size, 1, none⟩ = some (.string nm) ∧ w'.cell? ⟨w.heap.size, 2, none⟩ = some (.int .i64 num) ∧ w'.cell? ⟨w.heap.size, 3, none⟩ = some (.int .i64 k1) ∧ w'.cell? ⟨w.heap.size, 4, none⟩ = some (.slice a1 n1 c1) ∧ w'.cell? ⟨w.heap.size, 5, none⟩ = some (.int .i64 k2) ∧ w'.cell? ⟨w.heap.size, 6, none⟩ = some (.slice a2 n2 c2) ∧ w'.cell? ⟨w.heap.size, 7, none⟩ = some (.int .i64 lb) ∧ w'.cell? ⟨w.heap.size, 8, none⟩ = some (.slice (some ⟨M1, 0, none⟩) ts.length ts.length) ∧ w'.cell? ⟨w3.heap.size, 1, none⟩ = some (.int .i64 kr) ∧ w'.cell? ⟨w3.heap.size, 2, none⟩ = some (.slice ar nr cr))) (S1 := (fun _ => True)) (by kernel_rfl) (HS0.out _ (below_drew _)) (trivial) (fun hS0 => ?_)
                refine takeL0 (i := 0) (v := ?vd1) rfl rfl (by kernel_rfl) (by kernel_rfl) (by kernel_rfl) (by decide) (by kernel_rfl) (by kernel_rfl) (fun _ _ _ h => h) (Or.inl ⟨by rfl, ?hyd1⟩) (by assumption) ?_
                case hyd1 => (intro w hSw; (try dsimp only at hSw); go_simp; (try with_reducible rfl))
                try simp only [Act.put, List.setIfInBounds_toArray, List.set_cons_zero, List.set_cons_succ]
                refine takeL0 (i := 1) (v := ?vd2) rfl rfl (by kernel_rfl) (by kernel_rfl) (by kernel_rfl) (by decide) (by kernel_rfl) (by kernel_rfl) (fun _ _ _ h => h) (Or.inl ⟨by rfl, ?hyd2⟩) (by assumption) ?_
                case hyd2 => (intro w hSw; (try dsimp only at hSw); go_simp; (try with_reducible rfl))
                try simp only [Act.put, List.setIfInBounds_toArray, List.set_cons_zero, List.set_cons_succ]
                refine takeL0 (i := 2) (v := ?vd3) rfl rfl (by kernel_rfl) (by kernel_rfl) (by kernel_rfl) (by decide) (by kernel_rfl) (by kernel_rfl) (fun _ _ _ h => h) (Or.inl ⟨by rfl, ?hyd3⟩) (by assumption) ?_
                case hyd3 => (intro w hSw; (try dsimp only at hSw); go_simp; (try with_reducible rfl))
                try simp only [Act.put, List.setIfInBounds_toArray, List.set_cons_zero, List.set_cons_succ]
                refine readyL (rs := [3]) (by kernel_rfl) (by simp) ?_
                refine AllReadyL.cons rfl (fun K hK => ?_) AllReadyL.nil
                go_simp
                refine hK.out _ _ ?_ (fun hS1 => ?_)
                · exact ⟨trivial, fun _ => HS1.out⟩
                clear hK K hS0
                try simp only [Act.put, List.setIfInBounds_toArray, List.set_cons_zero, List.set_cons_succ]
                refine readyL (rs := [4]) (by kernel_rfl) (by simp) ?_
                refine AllReadyL.cons rfl (fun K hK => ?_) AllReadyL.nil
                go_simp
                refine hK.out _ _ ?_ (fun hS2 => ?_)
                · exact ⟨trivial, fun h => absurd (h.symm.trans (show _ = true by kernel_rfl)) (by decide)⟩
                clear hK K hS1
                try simp only [Act.put, List.setIfInBounds_toArray, List.set_cons_zero, List.set_cons_succ]
                refine readyL (rs := [5]) (by kernel_rfl) (by simp) ?_
                refine AllReadyL.cons rfl (fun K hK => ?_) AllReadyL.nil
                go_simp
                refine hK.out _ _ ?_ (fun hS3 => ?_)
                · exact ⟨trivial, fun h => absurd (h.symm.trans (show _ = true by kernel_rfl)) (by decide)⟩
                clear hK K hS2
                try simp only [Act.put, List.setIfInBounds_toArray, List.set_cons_zero, List.set_cons_succ]
                refine doneL (by kernel_rfl) ?_ _
                go_wp2_with fail
                exact bodyPost_ret (v := .tuple #[.agg #[.int .i64 k, .string nm, .int .i64 num, .int .i64 k1, .slice a1 n1 c1, .int .i64 k2, .slice a2 n2 c2, .int .i64 lb, .slice (some ⟨M1, 0, none⟩) ts.length ts.length], .agg #[.int .i64 kr, .slice ar nr cr], .bool true]) (by simp [results, Tryd.results62, go_sem, b0, b1, b2, b3, b4, b5, b6, b7, b8, e0, e1]) rfl FIN.out
end Go.Proofs.YtffmpjcjmffdeaaDoor
