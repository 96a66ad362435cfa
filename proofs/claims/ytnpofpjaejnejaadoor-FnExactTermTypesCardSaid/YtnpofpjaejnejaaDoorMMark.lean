/- The laws' own helpers markTermS and markTerm. -/
import Derived.Test.YtnpofpjaejnejaaDoorMMark0
namespace Go.Proofs.YtnpofpjaejnejaaDoor
open Go.RowKit

/-- What the marking of a slice of terms says. -/
def MkMC (ts : List Tm) : Prop := ∀ (s : Value) (fp : List Nat) (m : Nat) (n : Int) (w : World), SmAt w ts s fp → fp.Nodup → (∀ b ∈ fp, ∀ o, w.frozen? ⟨b, o, none⟩ = false) → n = (m : Int) → m + numL ts ≤ 1073741824 →
  Calls Tryd.prog 62 #[s, .int .i64 n] w fun e w' => e = .returned (.int .i64 ((m + numL ts : Nat) : Int)) ∧ SmAt w' (mkML ts m) s fp ∧ Only fp w w'

/-- Which terms stand in the row behind j rounds. -/
def partM (ts : List Tm) (m j i : Nat) : Tm := if i < j then (mkML ts m)[i]?.getD (.mk 0 ⟨#[]⟩ 0 (.mk 0 []) (.mk 0 []) 0 []) else ts[i]?.getD (.mk 0 ⟨#[]⟩ 0 (.mk 0 []) (.mk 0 []) 0 [])

theorem partM_at {ts : List Tm} {m j : Nat} (h : j < ts.length) : partM ts m (j + 1) j = mk1 ts[j] (m + offM ts j) := by
  have h' : j < (mkML ts m).length := by rw [mkML_len]; exact h
  rw [partM, if_pos (by omega), List.getElem?_eq_getElem h', Option.getD_some, mkML_get h h']

theorem partM_now {ts : List Tm} {m j : Nat} (h : j < ts.length) : partM ts m j j = ts[j] := by
  rw [partM, if_neg (by omega), List.getElem?_eq_getElem h, Option.getD_some]

theorem partM_other {ts : List Tm} {m i j : Nat} (h : i ≠ j) : partM ts m (j + 1) i = partM ts m j i := by
  unfold partM
  by_cases hi : i < j
  · rw [if_pos hi, if_pos (by omega)]
  · rw [if_neg hi, if_neg (by omega)]

def tkids : Tm → List Tm
  | .mk _ _ _ _ _ _ ts => ts

set_option maxRecDepth 100000 in
set_option maxHeartbeats 8000000 in
theorem markTermS_of (ts : List Tm) (ih : ∀ t ∈ ts, MkMC (tkids t)) : MkMC ts := by
  intro s fp m n w hs hnd hfz hn hm1
  subst hn
  have HIH := hid ih
  clear ih
  rcases hs with ⟨rfl, rfl, a, cap, rfl⟩ | ⟨b, o, cap, f, rfl, hp, hc, hm, hl, rfl⟩
  · go_enter Tryd.func62, Tryd.ntmps62
    go_wp2_with fail
    go_loop [1, 5] (fun k i => k = .int .i64 (m : Int) ∧ i = .int .i64 0) (fun _ _ => 0)
    case atStart => exact ⟨rfl, rfl⟩
    case round =>
      obtain ⟨rfl, rfl⟩ := hrel
      go_wp2_with fail
      go_ret
      exact ⟨ret_i (by simp [numL]), .inl ⟨by simp only [mkML], rfl, a, cap, rfl⟩, Only.refl _ _⟩
  · unfold maxLen at hm
    obtain ⟨fps, hfl, rfl, hel⟩ := atML_idx hl
    obtain ⟨hbn, hnf⟩ := List.nodup_cons.1 hnd
    have HEL := hid hel
    have HND := hid hnf
    have HBN := hid hbn
    have HFZ := hid hfz
    have HFL := hid hfl
    have hblt : b < w.heap.size := by
      obtain ⟨L, e0, e1, _⟩ := hel 0 hp (by omega)
      have := e1 0 (by omega)
      rw [List.getElem?_eq_getElem (by omega)] at this
      exact World.block_lt_of_cell? _ _ this
    have hzb : ∀ o, w.frozen? ⟨b, o, none⟩ = false := hfz b (by simp)
    have HZB := hid hzb
    have HM1 := hid hm1
    clear hel hbn hnf hnd hfz hl hfl hzb hm1
    go_enter Tryd.func62, Tryd.ntmps62
    go_wp2_with fail
    go_loopw [1, 5] (fun k i wr => ∃ (j M : Nat), j ≤ ts.length ∧ M = m + offM ts j ∧ i = .int .i64 j ∧ k = .int .i64 (M : Int) ∧ Only (b :: fps.flatten) w wr ∧ ∀ i (h : i < ts.length) (h' : i < fps.length), ElemM wr b o i (partM ts m j i) fps[i])
      (fun _ i _ => ts.length - (intOf i).toNat)
    case atStart =>
      refine ⟨0, m, Nat.zero_le _, by rw [offM_zero]; rfl, rfl, rfl, Only.refl _ _, fun i h h' => ?_⟩
      have := HEL.out i h h'
      simpa [partM, List.getElem?_eq_getElem h] using this
    case round =>
      obtain ⟨j, M, hj, hM, rfl, rfl, hon, hel⟩ := hrel
      by_cases hlk : j < ts.length
      · have hjf : j < fps.length := by rw [HFL.out]; exact hlk
        obtain ⟨L, hL, hrow, hat⟩ := hel j hlk hjf
        rw [partM_now hlk] at hat
        obtain ⟨k, nm, num, ty, fr, lb, kids, htj⟩ := (ts[j]).shape
        have HTJ := hid htj
        rw [htj] at hat
        obtain ⟨ky, us, rfl⟩ := ty.shape
        obtain ⟨kf, vs, rfl⟩ := fr.shape
        obtain ⟨k1, s1, k2, s2, s3, f1, f2, f3, hv, _, ht1, ht2, hfj, hs3⟩ := Tm.at_mk.1 hat
        obtain ⟨s1', e1, hs1⟩ := Ty.at_mk.1 ht1
        obtain ⟨s2', e2, hs2⟩ := Ty.at_mk.1 ht2
        simp only [Value.agg.injEq, Array.mk.injEq, List.cons.injEq, and_true] at e1 e2
        obtain ⟨rfl, rfl⟩ := e1
        obtain ⟨rfl, rfl⟩ := e2
        obtain ⟨L, rfl⟩ : ∃ L' : List Value, L = L' := ⟨_, rfl⟩
        have hLL : L = [.int .i64 k, .string nm, .int .i64 num, .int .i64 ky, s1, .int .i64 kf, s2, .int .i64 lb, s3] := by
          have := congrArg Array.toList (Value.agg.inj hv)
          simpa using this
        subst hLL
        obtain ⟨a1, d1, hsh1⟩ := hs1.shape
        obtain ⟨a2, d2, hsh2⟩ := hs2.shape
        obtain ⟨a3, d3, hsh3⟩ := hs3.shape
        subst hsh1 hsh2 hsh3
        have hbf : ∀ x ∈ fps[j], x ≠ b := fun x hx e => HBN.out (by rw [← e]; exact flatten_sub hjf x hx)
        have hndj := flatten_nodup hjf HND.out
        rw [hfj] at hndj
        have hb1 : b ∉ f1 := fun hx => hbf b (by rw [hfj]; simp [hx]) rfl
        have hb2 : b ∉ f2 := fun hx => hbf b (by rw [hfj]; simp [hx]) rfl
        have hb3 : b ∉ f3 := fun hx => hbf b (by rw [hfj]; simp [hx]) rfl
        obtain ⟨nd1, nd23, d123⟩ := List.nodup_append.1 hndj
        obtain ⟨nd2, nd3, d23⟩ := List.nodup_append.1 nd23
        have hltr : b < wr.heap.size := Nat.lt_of_lt_of_le hblt hon.size
        have hzr : ∀ o', wr.frozen? ⟨b, o', none⟩ = false := fun o' => (hon.frozen b o' hblt).trans (HZB.out o')
        have hzf : ∀ x ∈ fps[j], ∀ o', wr.frozen? ⟨x, o', none⟩ = false := fun x hx o' => by
          obtain ⟨_, _, _, hat0⟩ := HEL.out j hlk hjf
          rw [hon.frozen x o' (hat0.lt x hx)]
          exact HFZ.out x (List.mem_cons_of_mem _ (flatten_sub hjf x hx)) o'
        have hnum : ts[j].num = (Ty.mk 0 us).cnt + (Ty.mk 0 vs).cnt + numL kids := by rw [htj, Tm.num, cnt_any ky 0 us, cnt_any kf 0 vs]
        have hofs := offM_succ hlk
        have hbd := offM_bd ts (j + 1)
        have hM3 : M + 6 + (Ty.mk 0 us).cnt + (Ty.mk 0 vs).cnt + numL kids ≤ 1073741824 := by have := HM1.out; omega
        have HNUM := hid hnum
        have HOFS := hid hofs
        have HEL2 := hid hel
        have HON := hid hon
        have HZF := hid hzf
        have HFJ := hid hfj
        have HNDJ := hid hndj
        have HM := hid hM
        have HD1 := hid d123
        have HD2 := hid d23
        clear hel hnum hofs hbd hzf hv hat hfj hndj nd23 d123 d23 htj hL hon ht1 ht2 hM
        obtain ⟨c0, c1, c2, c3, c4, c5, c6, c7, c8⟩ := hrow.cells
        go_wp2_with fail
        refine (markText_at (M + 1) _ (by simp) (by omega) (by omega) _).mono ?_
        rintro e w1 ⟨rfl, hnsz, hbl1⟩
        have R1 : RowIs w1 b (o + j * 9) [.int .i64 (M : Int), .string nm, .int .i64 num, .int .i64 ky, .slice a1 us.length d1, .int .i64 kf, .slice a2 vs.length d2, .int .i64 lb, .slice a3 kids.length d3] := (hrow.set (p := 0) (by simp) (.int .i64 (M : Int))).below hbl1 (by rw [size_setCell]; exact hltr)
        have RO1 : RowOnly b (o + j * 9) (o + j * 9 + 9) fps[j] wr w1 := ((RowOnly.refl b (o + j * 9) (o + j * 9 + 9) fps[j] wr).set (o := o + j * 9) (Nat.le_refl _) (by omega) (.int .i64 (M : Int))).call (only_of_below (fp := []) hbl1) (by simp) (by simp) hltr
        have q1 := (hs1.setB hb1 (o + j * 9) (.int .i64 (M : Int))).below hbl1
        have q2 := (hs2.setB hb2 (o + j * 9) (.int .i64 (M : Int))).below hbl1
        have q3 := (hs3.setB hb3 (o + j * 9) (.int .i64 (M : Int))).below hbl1
        have hlt1 := hs1.lt
        have hlt2 := hs2.lt
        have hlt3 := hs3.lt
        clear c0 c1 c2 c3 c4 c5 c6 c7 c8 hrow hs1 hs2 hs3 hbl1
        obtain ⟨c0, c1, c2, c3, c4, c5, c6, c7, c8⟩ := R1.cells
        have z1 : ∀ o', w1.frozen? ⟨b, o', none⟩ = false := fun o' => (RO1.only.frozen b o' hltr).trans (hzr o')
        go_wp2_with fail
        have hsub1 : ∀ x ∈ f1, x ∈ fps[j] := fun x hx => by rw [HFJ.out]; simp [hx]
        have hsub2 : ∀ x ∈ f2, x ∈ fps[j] := fun x hx => by rw [HFJ.out]; simp [hx]
        have hsub3 : ∀ x ∈ f3, x ∈ fps[j] := fun x hx => by rw [HFJ.out]; simp [hx]
        refine (markTypeS_any us _ f1 _ _ (((q1.setB hb1 _ _).setB hb1 _ _).setB hb1 _ _) nd1 ?_ (by omega) (by omega)).mono ?_
        · intro x hx o'
          simp only [frozen_setCell]
          rw [RO1.only.frozen x o' (hlt1 x hx)]
          exact HZF.out x (hsub1 x hx) o'
        rintro e w2 ⟨rfl, r1, on2⟩
        have hlt1w : b < w1.heap.size := Nat.lt_of_lt_of_le hltr RO1.only.size
        have R2 : RowIs w2 b (o + j * 9) [.int .i64 (M : Int), .string (mtx (M + 1)), .int .i64 ((M : Int) + 1 + 1), .int .i64 ((M : Int) + 1 + 1 + 1), .slice a1 us.length d1, .int .i64 kf, .slice a2 vs.length d2, .int .i64 lb, .slice a3 kids.length d3] :=
          RowIs.only (RowIs.set (p := 3) (RowIs.set (p := 2) (RowIs.set (p := 1) R1 (by simp) (.string (mtx (M + 1)))) (by simp) (.int .i64 ((M : Int) + 1 + 1))) (by simp) (.int .i64 ((M : Int) + 1 + 1 + 1))) on2 hb1 (by simp only [size_setCell]; exact hlt1w)
        have RO2 : RowOnly b (o + j * 9) (o + j * 9 + 9) fps[j] wr w2 := (((RO1.set (o := o + j * 9 + 1) (by omega) (by omega) (.string (mtx (M + 1)))).set (o := o + j * 9 + 2) (by omega) (by omega) (.int .i64 ((M : Int) + 1 + 1))).set (o := o + j * 9 + 3) (by omega) (by omega) (.int .i64 ((M : Int) + 1 + 1 + 1))).call on2 hsub1 hb1 hltr
        have q2' := (((q2.setB hb2 (o + j * 9 + 1) (.string (mtx (M + 1)))).setB hb2 (o + j * 9 + 2) (.int .i64 ((M : Int) + 1 + 1))).setB hb2 (o + j * 9 + 3) (.int .i64 ((M : Int) + 1 + 1 + 1))).onlyD on2 (fun x hx hx' => HD1.out x hx' x (List.mem_append_left _ hx) rfl)
        have q3' := (((q3.setB hb3 (o + j * 9 + 1) (.string (mtx (M + 1)))).setB hb3 (o + j * 9 + 2) (.int .i64 ((M : Int) + 1 + 1))).setB hb3 (o + j * 9 + 3) (.int .i64 ((M : Int) + 1 + 1 + 1))).onlyD on2 (fun x hx hx' => HD1.out x hx' x (List.mem_append_right _ hx) rfl)
        clear c0 c1 c2 c3 c4 c5 c6 c7 c8 z1 R1 RO1 q1 q2 q3 on2
        obtain ⟨c0, c1, c2, c3, c4, c5, c6, c7, c8⟩ := R2.cells
        have z1 : ∀ o', w2.frozen? ⟨b, o', none⟩ = false := fun o' => (RO2.only.frozen b o' hltr).trans (hzr o')
        go_wp2_with fail
        refine (markTypeS_any vs _ f2 _ _ (q2'.setB hb2 _ _) nd2 ?_ (by omega) (by omega)).mono ?_
        · intro x hx o'
          simp only [frozen_setCell]
          rw [RO2.only.frozen x o' (hlt2 x hx)]
          exact HZF.out x (hsub2 x hx) o'
        rintro e w3 ⟨rfl, r2, on3⟩
        have hlt2w : b < w2.heap.size := Nat.lt_of_lt_of_le hltr RO2.only.size
        have R3 : RowIs w3 b (o + j * 9) [.int .i64 (M : Int), .string (mtx (M + 1)), .int .i64 ((M : Int) + 1 + 1), .int .i64 ((M : Int) + 1 + 1 + 1), .slice a1 us.length d1, .int .i64 ((M : Int) + 1 + 1 + 1 + 1 + ((Ty.mk 0 us).cnt : Int)), .slice a2 vs.length d2, .int .i64 lb, .slice a3 kids.length d3] :=
          RowIs.only (RowIs.set (p := 5) R2 (by simp) (.int .i64 ((M : Int) + 1 + 1 + 1 + 1 + ((Ty.mk 0 us).cnt : Int)))) on3 hb2 (by simp only [size_setCell]; exact hlt2w)
        have RO3 : RowOnly b (o + j * 9) (o + j * 9 + 9) fps[j] wr w3 := (RO2.set (o := o + j * 9 + 5) (by omega) (by omega) (.int .i64 ((M : Int) + 1 + 1 + 1 + 1 + ((Ty.mk 0 us).cnt : Int)))).call on3 hsub2 hb2 hltr
        have r1' := (r1.setB hb1 (o + j * 9 + 5) (.int .i64 ((M : Int) + 1 + 1 + 1 + 1 + ((Ty.mk 0 us).cnt : Int)))).onlyD on3 (fun x hx hx' => HD1.out x hx x (List.mem_append_left _ hx') rfl)
        have q3'' := (q3'.setB hb3 (o + j * 9 + 5) (.int .i64 ((M : Int) + 1 + 1 + 1 + 1 + ((Ty.mk 0 us).cnt : Int)))).onlyD on3 (fun x hx hx' => HD2.out x hx' x hx rfl)
        clear c0 c1 c2 c3 c4 c5 c6 c7 c8 z1 R2 RO2 q2' q3' r1 on3
        obtain ⟨c0, c1, c2, c3, c4, c5, c6, c7, c8⟩ := R3.cells
        have z1 : ∀ o', w3.frozen? ⟨b, o', none⟩ = false := fun o' => (RO3.only.frozen b o' hltr).trans (hzr o')
        have hkids : MkMC kids := by
          have := HIH.out _ (List.getElem_mem hlk)
          rw [HTJ.out] at this
          exact this
        have HK := hid hkids
        clear hkids
        go_wp2_with fail
        refine (HK.out _ f3 (M + 6 + (Ty.mk 0 us).cnt + (Ty.mk 0 vs).cnt) _ _ (q3''.setB hb3 _ _) nd3 ?_ (by push_cast; omega) (by omega)).mono ?_
        · intro x hx o'
          simp only [frozen_setCell]
          rw [RO3.only.frozen x o' (hlt3 x hx)]
          exact HZF.out x (hsub3 x hx) o'
        rintro e w4 ⟨rfl, r3, on4⟩
        have hlt3w : b < w3.heap.size := Nat.lt_of_lt_of_le hltr RO3.only.size
        have R4 : RowIs w4 b (o + j * 9) [.int .i64 (M : Int), .string (mtx (M + 1)), .int .i64 ((M : Int) + 1 + 1), .int .i64 ((M : Int) + 1 + 1 + 1), .slice a1 us.length d1, .int .i64 ((M : Int) + 1 + 1 + 1 + 1 + ((Ty.mk 0 us).cnt : Int)), .slice a2 vs.length d2, .int .i64 ((M : Int) + 1 + 1 + 1 + 1 + ((Ty.mk 0 us).cnt : Int) + 1 + ((Ty.mk 0 vs).cnt : Int)), .slice a3 kids.length d3] :=
          RowIs.only (RowIs.set (p := 7) R3 (by simp) (.int .i64 ((M : Int) + 1 + 1 + 1 + 1 + ((Ty.mk 0 us).cnt : Int) + 1 + ((Ty.mk 0 vs).cnt : Int)))) on4 hb3 (by simp only [size_setCell]; exact hlt3w)
        have RO4 : RowOnly b (o + j * 9) (o + j * 9 + 9) fps[j] wr w4 := (RO3.set (o := o + j * 9 + 7) (by omega) (by omega) (.int .i64 ((M : Int) + 1 + 1 + 1 + 1 + ((Ty.mk 0 us).cnt : Int) + 1 + ((Ty.mk 0 vs).cnt : Int)))).call on4 hsub3 hb3 hltr
        have r1'' := (r1'.setB hb1 (o + j * 9 + 7) (.int .i64 ((M : Int) + 1 + 1 + 1 + 1 + ((Ty.mk 0 us).cnt : Int) + 1 + ((Ty.mk 0 vs).cnt : Int)))).onlyD on4 (fun x hx hx' => HD1.out x hx x (List.mem_append_right _ hx') rfl)
        have r2' := (r2.setB hb2 (o + j * 9 + 7) (.int .i64 ((M : Int) + 1 + 1 + 1 + 1 + ((Ty.mk 0 us).cnt : Int) + 1 + ((Ty.mk 0 vs).cnt : Int)))).onlyD on4 (fun x hx hx' => HD2.out x hx x hx' rfl)
        have HEJ := hid (show ElemM w4 b o j (partM ts m (j + 1) j) fps[j] by
          rw [partM_at hlk, ← HM.out, HTJ.out]
          refine ⟨_, rfl, R4, ?_⟩
          simp only [mk1]
          rw [cnt_any ky 0 us, cnt_any kf 0 vs]
          exact Tm.at_mk.2 ⟨_, _, _, _, _, f1, f2, f3, rfl, by unfold maxLen; omega, Ty.at_mk.2 ⟨_, rfl, r1''⟩, Ty.at_mk.2 ⟨_, rfl, r2'⟩, HFJ.out, r3⟩)
        have HEO := hid (show ∀ i (h : i < ts.length) (h' : i < fps.length), i ≠ j → ElemM w4 b o i (partM ts m (j + 1) i) fps[i] from fun i h h' hne => by
          rw [partM_other hne]
          exact (HEL2.out i h h').rowOnly RO4 hne (fun hx => HBN.out (flatten_sub h' b hx)) (flatten_apart h' hjf HND.out hne))
        have HON2 := hid (HON.out.trans (RO4.only.sub (fun x hx => by
          rcases List.mem_cons.1 hx with rfl | hx
          · simp
          · exact List.mem_cons_of_mem _ (flatten_sub hjf x hx))))
        clear c0 c1 c2 c3 c4 c5 c6 c7 c8 z1 R3 RO3 R4 RO4 q3'' r1' r2 r1'' r2' r3 on4
        go_wp2_with fail
        refine ⟨⟨j + 1, M + 6 + (Ty.mk 0 us).cnt + (Ty.mk 0 vs).cnt + numL kids, by omega, by have := HM.out; have := HOFS.out; have := HNUM.out; omega, by go_num, rfl, HON2.out, fun i h h' => ?_⟩, by simp [intOf]; omega⟩
        by_cases hij : i = j
        · subst hij
          exact HEJ.out
        · exact HEO.out i h h' hij
      · have hjl : j = ts.length := by omega
        have HE := hid hel
        have HON := hid hon
        have HM := hid hM
        clear hel hon hM
        go_wp2_with fail
        go_ret
        refine ⟨ret_i (by rw [HM.out, hjl, offM_all]), .inr ⟨b, o, cap, fps.flatten, by rw [mkML_len], by rw [mkML_len]; exact hp, by rw [mkML_len]; exact hc, by rw [mkML_len]; unfold maxLen; omega, idx_atML (by rw [mkML_len]; exact HFL.out) (fun i h h' => ?_), rfl⟩, HON.out⟩
        have hi : i < ts.length := by rw [mkML_len] at h; exact h
        have := HE.out i hi h'
        rw [partM, if_pos (by omega), List.getElem?_eq_getElem h] at this
        exact this

theorem markTermS_any (ts : List Tm) : MkMC ts := by
  have h : ∀ t : Tm, MkMC (tkids t) := Tm.ind fun k nm num ty fr lb ts ih => markTermS_of ts ih
  exact h (.mk 0 ⟨#[]⟩ 0 (.mk 0 []) (.mk 0 []) 0 ts)

/-- A term with all below its root marked. -/
def mkR : Tm → Nat → Tm
  | .mk k nm num ty fr lb ts, m => .mk k nm num (mkT ty (m : Int)) (mkT fr ((m : Int) + (ty.cnt : Int))) lb (mkML ts (m + ty.cnt + fr.cnt))

theorem only_box {fp : List Nat} {w w1 : World} {o : Obj} (h : Only fp (w.alloc o) w1) (hlt : ∀ x ∈ fp, x < w.heap.size) : w1.heap[w.heap.size]? = some o :=
  (h.block w.heap.size (by simp) (fun hm => by have := hlt _ hm; omega)).trans (alloc_new w o)

set_option maxHeartbeats 2000000 in
theorem markTerm_any (t : Tm) (v : Value) (fp : List Nat) (m : Nat) (n : Int) (w : World) (hat : t.At w v fp) (hnd : fp.Nodup) (hfz : ∀ b ∈ fp, ∀ o, w.frozen? ⟨b, o, none⟩ = false) (hn : n = (m : Int)) (hm1 : m + t.num ≤ 1073741824) :
    Calls Tryd.prog 23 #[v, .int .i64 n] w fun e w' => e = .returned (.int .i64 ((m + t.num : Nat) : Int)) ∧ (mkR t m).At w' v fp ∧ Only fp w w' := by
  subst hn
  obtain ⟨k, nm, num, ty, fr, lb, ts, rfl⟩ := t.shape
  obtain ⟨k1, n1, a1, c1, k2, n2, a2, c2, a3, c3, f1, f2, f3, rfl, hnm, ht1, ht2, rfl, hs⟩ := hat.parts
  obtain ⟨nd1, nd23, d123⟩ := List.nodup_append.1 hnd
  obtain ⟨nd2, nd3, d23⟩ := List.nodup_append.1 nd23
  have hlt := hat.lt
  have HLT := hid hlt
  have HFZ := hid hfz
  have HD1 := hid d123
  have HD2 := hid d23
  simp only [Tm.num] at hm1 ⊢
  clear hat hnd nd23 d123 d23 hfz hlt
  have hb0 : Below w.heap.size w (w.alloc (Obj.cells #[.int .i64 k, .string nm, .int .i64 num, .int .i64 k1, .slice a1 n1 c1, .int .i64 k2, .slice a2 n2 c2, .int .i64 lb, .slice a3 ts.length c3] 35)) := (Below.refl _ _).alloc (Nat.le_refl _) _
  have HB0 := hid hb0
  go_enter Tryd.func23, Tryd.ntmps23
  go_wp2_with fail
  refine (markType_any ty _ f1 _ _ (ht1.below hb0) nd1 ?_ (by omega) (by omega)).mono ?_
  · intro x hx o'
    exact (HB0.out.frozen (p := ⟨x, o', none⟩) (HLT.out x (by simp [hx]))).trans (HFZ.out x (by simp [hx]) o')
  rintro e w1 ⟨rfl, r1, on1⟩
  have hB1 := only_box on1 (fun x hx => HLT.out x (by simp [hx]))
  obtain ⟨x0, x1, x2, x3, x4, x5, x6, x7, x8⟩ := cells9 hB1
  have q2 : Ty.At w1 fr _ f2 := (ht2.below hb0).congr fun x hx o' => World.cell?_of_block (a := ⟨x, o', none⟩) (on1.block x ((ht2.below hb0).lt x hx) (fun hx' => HD1.out x hx' x (List.mem_append_left _ hx) rfl))
  have q3 : SmAt w1 ts _ f3 := (hs.below hb0).onlyD on1 (fun x hx hx' => HD1.out x hx' x (List.mem_append_right _ hx) rfl)
  have O1 : Only (f1 ++ (f2 ++ f3)) w w1 := (only_of_below hb0).trans (on1.sub (fun x hx => by simp [hx]))
  clear hb0 ht1 ht2 hs on1
  go_wp2_with fail
  refine (markType_any fr _ f2 _ _ q2 nd2 ?_ (by omega) (by omega)).mono ?_
  · intro x hx o'
    rw [O1.frozen x o' (HLT.out x (by simp [hx]))]
    exact HFZ.out x (by simp [hx]) o'
  rintro e w2 ⟨rfl, r2, on2⟩
  have hB2 : w2.heap[w.heap.size]? = _ := (on2.block _ (lt_of_block hB1) (fun hm => by have := HLT.out _ (show w.heap.size ∈ f1 ++ (f2 ++ f3) by simp [hm]); omega)).trans hB1
  have r1' : Ty.At w2 (mkT ty (m : Int)) _ f1 := r1.congr fun x hx o' => World.cell?_of_block (a := ⟨x, o', none⟩) (on2.block x (r1.lt x hx) (fun hx' => HD1.out x hx x (List.mem_append_left _ hx') rfl))
  have q3' := q3.onlyD on2 (fun x hx hx' => HD2.out x hx' x hx rfl)
  have O2 := O1.trans (on2.sub (fun x hx => by simp [hx]))
  clear x0 x1 x2 x3 x4 x5 x6 x7 x8 O1 q2 q3 r1 on2
  obtain ⟨x0, x1, x2, x3, x4, x5, x6, x7, x8⟩ := cells9 hB2
  go_wp2_with fail
  refine (markTermS_any ts _ f3 (m + ty.cnt + fr.cnt) _ _ q3' nd3 ?_ (by push_cast; omega) (by omega)).mono ?_
  · intro x hx o'
    rw [O2.frozen x o' (HLT.out x (by simp [hx]))]
    exact HFZ.out x (by simp [hx]) o'
  rintro e w3 ⟨rfl, r3, on3⟩
  have r1'' : Ty.At w3 (mkT ty (m : Int)) _ f1 := r1'.congr fun x hx o' => World.cell?_of_block (a := ⟨x, o', none⟩) (on3.block x (r1'.lt x hx) (fun hx' => HD1.out x hx x (List.mem_append_right _ hx') rfl))
  have r2' : Ty.At w3 (mkT fr ((m : Int) + (ty.cnt : Int))) _ f2 := r2.congr fun x hx o' => World.cell?_of_block (a := ⟨x, o', none⟩) (on3.block x (r2.lt x hx) (fun hx' => HD2.out x hx x hx' rfl))
  have O3 := O2.trans (on3.sub (fun x hx => by simp [hx]))
  have hlen := mkML_len ts (m + ty.cnt + fr.cnt)
  have HFIN := hid (show (mkR (.mk k nm num ty fr lb ts) m).At w3 (.agg #[.int .i64 k, .string nm, .int .i64 num, .int .i64 k1, .slice a1 n1 c1, .int .i64 k2, .slice a2 n2 c2, .int .i64 lb, .slice a3 ts.length c3]) (f1 ++ (f2 ++ f3)) from
    Tm.at_mk.2 ⟨_, _, _, _, _, f1, f2, f3, rfl, hnm, r1'', r2', rfl, r3⟩)
  have HO3 := hid O3
  clear x0 x1 x2 x3 x4 x5 x6 x7 x8 O2 O3 q3' r1' r1'' r2 r2' r3 on3 hlen
  go_wp2_with fail
  go_ret
  exact ⟨ret_i (by omega), HFIN.out, HO3.out⟩
end Go.Proofs.YtnpofpjaejnejaaDoor
