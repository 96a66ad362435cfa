/- The program's copyTerm. The program's substitute. How large a valid term is, and one in which a name has been replaced. -/
import Derived.Test.YtgekfnodmgkdaaaDoorRwC
import Derived.Test.YtgekfnodmgkdaaaDoorSb1
import Derived.Test.YtgekfnodmgkdaaaDoorTx0
namespace Go.Proofs.YtgekfnodmgkdaaaDoor
open Go.RowKit

theorem rewrite_any (fc : FuncId) (cs : Array Value) (U S0 : Nat) (St : Nat → World → Prop) (Pre : Nat → Tm → Prop) (nx : Nat → Tm → Nat) (ch : Nat → Tm → Tm ⊕ (Ty × Ty)) (hfc : CallOkT fc) (hU : U < S0) (hCh : ChC fc cs U S0 St Pre nx ch)
    (hSt : ∀ n w w', St n w → Below S0 w w' → St n w')
    (hPre : ∀ k nm num ty fr lb ts n x, Pre n (.mk k nm num ty fr lb ts) → ch n (.mk k nm num ty fr lb ts) = .inr x → ∀ j (h : j < ts.length), Pre (rwNL nx ch (nx n (.mk k nm num ty fr lb ts)) (ts.take j)) ts[j]) :
    ∀ t, RwC fc cs U S0 St Pre nx ch t :=
  Tm.ind fun k nm num ty fr lb ts ih => rewrite_of fc cs U S0 St Pre nx ch hfc hU hCh hSt k nm num ty fr lb ts (fun n x => hPre k nm num ty fr lb ts n x) ih

mutual
/-- Trees whose types are zero or well formed. -/
def okT : Tm → Prop
  | .mk _ _ _ ty fr _ ts => okTy ty ∧ okTy fr ∧ okL ts
def okL : List Tm → Prop
  | [] => True
  | t :: ts => okT t ∧ okL ts
end

theorem okL_get : ∀ {ts : List Tm} (_ : okL ts) (j : Nat) (h : j < ts.length), okT ts[j]
  | t :: ts, h, 0, _ => by simp only [okL] at h; exact h.1
  | t :: ts, h, j + 1, hj => by simp only [okL] at h; exact okL_get h.2 j (by simpa using hj)

def cpNx (n : Nat) (_ : Tm) : Nat := n
def cpCh (_ : Nat) : Tm → Tm ⊕ (Ty × Ty)
  | .mk _ _ _ ty fr _ _ => .inr (ty, fr)

mutual
theorem rwT_copy : ∀ (t : Tm) (n : Nat), rwT cpNx cpCh n t = t
  | .mk k nm num ty fr lb ts, n => by
    rw [rwT]
    simp only [cpCh]
    rw [rwL_copy ts]
theorem rwL_copy : ∀ (ts : List Tm) (n : Nat), rwL cpNx cpCh n ts = ts
  | [], _ => by rw [rwL]
  | t :: ts, n => by rw [rwL, rwT_copy t, rwL_copy ts]
end

theorem callOk_cp : CallOkT 163 := fun _ _ => by kernel_rfl

theorem cp_ch (U S0 : Nat) : ChC 163 #[] U S0 (fun _ _ => True) (fun _ t => okT t) cpNx cpCh := by
  intro n k nm num ty fr lb ts k1 n1 a1 c1 k2 n2 a2 c2 a3 c3 fp w hat hpre _ _ _
  obtain ⟨k1', n1', a1', c1', k2', n2', a2', c2', a3', c3', f1, f2, f3, hv, hnm, ht1, ht2, rfl, hs⟩ := hat.parts
  simp only [Value.agg.injEq, Array.mk.injEq, List.cons.injEq, Value.int.injEq, Value.slice.injEq, true_and, and_true] at hv
  obtain ⟨rfl, ⟨rfl, rfl, rfl⟩, rfl, ⟨rfl, rfl, rfl⟩, rfl, rfl⟩ := hv
  simp only [okT] at hpre
  refine (copyNode_any k nm num ty fr lb a3 ts.length c3 k1 k2 n1 n2 c1 c2 a1 a2 f1 f2 w ht1 ht2 hpre.1 hpre.2.1).mono ?_
  rintro e w' ⟨j1, m1, p1, d1, j2, m2, p2, d2, g1, g2, rfl, q1, q2, q3, q4⟩
  exact ⟨j1, m1, p1, d1, j2, m2, p2, d2, g1, g2, rfl, q1, q2, q3, Bx.of_below q4, trivial⟩

theorem rewriteCopy (U S0 : Nat) (hU : U < S0) : ∀ t, RwC 163 #[] U S0 (fun _ _ => True) (fun _ t => okT t) cpNx cpCh t :=
  rewrite_any _ _ _ _ _ _ _ _ callOk_cp hU (cp_ch U S0) (fun _ _ _ _ _ => trivial) (fun k nm num ty fr lb ts n x h _ j hj => by
    simp only [okT] at h
    exact okL_get h.2.2 j hj)

end Go.Proofs.YtgekfnodmgkdaaaDoor

namespace Go.Proofs.YtgekfnodmgkdaaaDoor
open Go.RowKit

def ssCh (name : ByteArray) (u : Tm) (_ : Nat) : Tm → Tm ⊕ (Ty × Ty)
  | .mk k nm num ty fr lb ts => if k = 5 ∧ nm = name then .inl (.mk k nm num ty fr lb ts) else if k = 1 ∧ nm = name then .inl u else .inr (ty, fr)

mutual
theorem rwT_sub (name : ByteArray) (u : Tm) : ∀ (t : Tm) (n : Nat), rwT cpNx (ssCh name u) n t = subT name u t
  | .mk k nm num ty fr lb ts, n => by
    rw [rwT, subT]
    simp only [ssCh]
    by_cases h5 : k = 5 ∧ nm = name
    · have h1 : ¬ (k = 1 ∧ nm = name) := by omega
      rw [if_pos h5, if_neg h1, if_pos h5]
    · by_cases h1 : k = 1 ∧ nm = name
      · rw [if_neg h5, if_pos h1, if_pos h1]
      · rw [if_neg h5, if_neg h1, if_neg h1, if_neg h5]
        simp only
        rw [rwL_sub name u ts]
theorem rwL_sub (name : ByteArray) (u : Tm) : ∀ (ts : List Tm) (n : Nat), rwL cpNx (ssCh name u) n ts = subL name u ts
  | [], _ => by rw [rwL, subL]
  | t :: ts, n => by rw [rwL, subL, rwT_sub name u t, rwL_sub name u ts]
end

/-- What the closure's boxes hold. -/
def SsSt (name : ByteArray) (u : Tm) (M1 M2 : Nat) (vs : Array Value) (fpu : List Nat) (w : World) : Prop :=
  w.heap[M1]? = some (.cells #[.string name] 9 (0, 0)) ∧ w.heap[M2]? = some (.cells vs 35 (0, 0)) ∧ u.At w (.agg vs) fpu

theorem SsSt.below {name : ByteArray} {u : Tm} {M1 M2 S0 : Nat} {vs : Array Value} {fpu : List Nat} {w w' : World} (h : SsSt name u M1 M2 vs fpu w) (hb : Below S0 w w') (h1 : M1 < S0) (h2 : M2 < S0) (hf : ∀ b ∈ fpu, b < S0) : SsSt name u M1 M2 vs fpu w' :=
  ⟨(hb.block _ h1).trans h.1, (hb.block _ h2).trans h.2.1, h.2.2.congr fun b hm o => hb.cell (p := ⟨b, o, none⟩) (hf b hm)⟩

end Go.Proofs.YtgekfnodmgkdaaaDoor

namespace Go.Proofs.YtgekfnodmgkdaaaDoor
open Go.RowKit

theorem shp_cnt : ∀ (d : Nat) (t : Ty), shp d t = true → t.cnt + 2 ≤ 2 ^ (d + 1)
  | 0, _, h => by simp [shp] at h
  | d + 1, .mk k ts, h => by
    have hp : 0 < 2 ^ (d + 1) := Nat.pow_pos (by omega)
    rcases shp_cases h with ⟨rfl, _⟩ | ⟨x, y, rfl, _, hx, hy⟩
    · simp only [Ty.cnt, cntL, List.length_nil, Nat.pow_succ] at *
      omega
    · have h1 := shp_cnt d x hx
      have h2 := shp_cnt d y hy
      simp only [Ty.cnt, cntL, List.length_cons, List.length_nil, Nat.pow_succ] at *
      omega

theorem vld_cnt {t : Ty} (h : vld t = true) : t.cnt ≤ 30 := by
  have := shp_cnt 4 t h
  omega

theorem noTy_cnt {t : Ty} (h : noTy t = true) : t.cnt = 0 := by
  rw [noTy_eq h]
  simp [Ty.cnt, cntL]

theorem own_sz {k : Int} {nm : ByteArray} {num : Int} {ty fr : Ty} {lb : Int} (h : ownM k nm num ty fr lb = true) (h14 : (k != 14) = true) : nm.size ≤ 1 ∧ ty.cnt ≤ 30 ∧ fr.cnt = 0 := by
  have e14 : (k == 14) = false := by simpa using h14
  simp only [ownM, e14, Bool.false_or, Bool.and_eq_true, beq_iff_eq] at h
  obtain ⟨⟨⟨hn, hty⟩, hfr, -⟩, -⟩ := h
  refine ⟨?_, ?_, noTy_cnt hfr⟩
  · split at hn
    · simp only [isNm, Bool.and_eq_true, beq_iff_eq] at hn
      omega
    · simp only [beq_iff_eq] at hn
      omega
  · split at hty
    · exact vld_cnt hty
    · have := noTy_cnt hty
      omega

theorem okT_shpM : ∀ (d : Nat) (t : Tm), shpM d t = true → okT t
  | 0, _, h => by simp [shpM] at h
  | d + 1, .mk k nm num ty fr lb ts, h => by
    simp only [shpM, Bool.and_eq_true] at h
    obtain ⟨⟨⟨-, h14⟩, hown⟩, hall⟩ := h
    have e14 : (k == 14) = false := by simpa using h14
    simp only [ownM, e14, Bool.false_or, Bool.and_eq_true, beq_iff_eq] at hown
    obtain ⟨⟨⟨-, hty⟩, hfr, -⟩, -⟩ := hown
    simp only [okT]
    refine ⟨?_, .inr hfr, ?_⟩
    · split at hty
      · exact .inl (wf_of_vld hty)
      · exact .inr hty
    · have hl : ∀ us : List Tm, us.all (shpM d) = true → okL us := by
        intro us
        induction us with
        | nil => intro _; simp [okL]
        | cons a bs ih =>
          intro h
          simp only [List.all_cons, Bool.and_eq_true] at h
          simp only [okL]
          exact ⟨okT_shpM d a h.1, ih h.2⟩
      exact hl ts hall

theorem sub_sz (name : ByteArray) (u : Tm) (C : Int) (hC : C = 32 + (u.sz : Int)) : ∀ (d : Nat) (t : Tm), shpM d t = true → ((subT name u t).sz : Int) + 1 ≤ C * cntD d t ∧ (t.sz : Int) + 1 ≤ 32 * cntD d t
  | 0, _, h => by simp [shpM] at h
  | d + 1, .mk k nm num ty fr lb ts, h => by
    simp only [shpM, Bool.and_eq_true] at h
    obtain ⟨⟨⟨-, h14⟩, hown⟩, hall⟩ := h
    obtain ⟨z1, z2, z3⟩ := own_sz hown h14
    have hl : ∀ us : List Tm, us.all (shpM d) = true → (szML (subL name u us) : Int) + (subL name u us).length ≤ C * sumL (cntD d) us ∧ (szML us : Int) + us.length ≤ 32 * sumL (cntD d) us ∧ 0 ≤ sumL (cntD d) us := by
      intro us
      induction us with
      | nil => intro _; simp [szML, subL, sumL]
      | cons a bs ih =>
        intro h
        simp only [List.all_cons, Bool.and_eq_true] at h
        obtain ⟨p1, p2⟩ := sub_sz name u C hC d a h.1
        obtain ⟨q1, q2, q3⟩ := ih h.2
        have hp := cntD_pos d a
        simp only [szML, subL, sumL, List.length_cons, Int.mul_add, Int.natCast_add]
        omega
    obtain ⟨q1, q2, q3⟩ := hl ts hall
    have hCp : C * 1 ≤ C * (1 + sumL (cntD d) ts) := Int.mul_le_mul_of_nonneg_left (by omega) (by omega)
    have h32 : 32 * (1 + sumL (cntD d) ts) ≤ C * (1 + sumL (cntD d) ts) := Int.mul_le_mul_of_nonneg_right (by omega) (by omega)
    have hs2 : ((Tm.mk k nm num ty fr lb ts).sz : Int) + 1 ≤ 32 * (1 + sumL (cntD d) ts) := by
      simp only [Tm.sz, Int.natCast_add]
      omega
    refine ⟨?_, by simpa only [cntD] using hs2⟩
    simp only [cntD]
    rw [subT]
    split
    · omega
    · split
      · omega
      · rw [Int.mul_add]
        simp only [Tm.sz, Int.natCast_add]
        omega

theorem vldM_sz {t : Tm} (h : vldM t = true) : t.sz ≤ 1000 := by
  unfold vldM at h
  simp only [Bool.and_eq_true, decide_eq_true_eq] at h
  have := (sub_sz ByteArray.empty (.mk 0 ByteArray.empty 0 (.mk 0 []) (.mk 0 []) 0 []) _ rfl 12 t h.1).2
  omega

/-- A valid term in which a name has been replaced by a valid term. -/
theorem subT_sz {name : ByteArray} {t u : Tm} (h : vldM t = true) (hu : vldM u = true) : (subT name u t).sz ≤ 40000 := by
  have hz := vldM_sz hu
  unfold vldM at h
  simp only [Bool.and_eq_true, decide_eq_true_eq] at h
  have h1 := (sub_sz name u _ rfl 12 t h.1).1
  have h2 : (32 + (u.sz : Int)) * cntD 12 t ≤ (32 + (u.sz : Int)) * 30 := Int.mul_le_mul_of_nonneg_left h.2 (by omega)
  omega
end Go.Proofs.YtgekfnodmgkdaaaDoor
