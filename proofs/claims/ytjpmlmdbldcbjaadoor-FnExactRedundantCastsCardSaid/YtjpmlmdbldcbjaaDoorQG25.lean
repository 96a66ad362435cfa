/- An element written in a list of the call's own; the first element of a list. Lists of terms under change: an element after the other is rewritten. A simplified term is valid and no larger. -/
import Derived.Test.YtjpmlmdbldcbjaaDoorQLv0
import Derived.Test.YtjpmlmdbldcbjaaDoorQPkA
import Derived.Test.YtjpmlmdbldcbjaaDoorQG23
import Derived.Test.YtjpmlmdbldcbjaaDoorQSb0
namespace Go.Proofs.YtjpmlmdbldcbjaaDoor
open Go.RowKit

theorem Fresh.sub {B : Nat} {w : World} {f g : List Nat} (h : Fresh B w f) (hs : g.Sublist f) : Fresh B w g := ⟨hs.nodup h.1, fun b hb => h.2 b (hs.subset hb)⟩

theorem rowM_set {w : World} {b : Nat} {C : Array Value} {T : TypeId} {fz : Nat × Nat} (hB : w.heap[b]? = some (.cells C T fz)) {t : Tm} {vs : List Value} {g : List Nat} (hT : t.At w (.agg vs.toArray) g) (hbg : b ∉ g) :
    ∀ {ts : List Tm} {o : Nat} {f : List Nat} (j : Nat), j < ts.length → Tm.AtL w ts b o f → b ∉ f → ∃ f', Tm.AtL (put w b (o + j * 9) vs) (ts.set j t) b o f' ∧ (∀ x ∈ f', x ∈ f ∨ x ∈ g) ∧ (f.Nodup → g.Nodup → (∀ x ∈ f, x ∉ g) → f'.Nodup)
  | [], _, _, j, h, _, _ => by simp at h
  | u :: ts, o, f, j, hj, hl, hbf => by
    simp only [Tm.AtL] at hl
    obtain ⟨cs, f1, f2, hc, hu, hl, rfl⟩ := hl
    have h9 : vs.length = 9 := by simpa using Tm.size9 hT
    have h2 := heap_put (vs := vs) (o := o + j * 9) hB
    have hoth : ∀ x, x ≠ b → ∀ o', (put w b (o + j * 9) vs).cell? ⟨x, o', none⟩ = w.cell? ⟨x, o', none⟩ := fun x hx o' => World.cell?_of_block (w := w) (a := ⟨x, o', none⟩) (heap_put_ne hx)
    have hn1 : ∀ x ∈ f1, x ≠ b := fun x hx e => hbf (by simp [← e, hx])
    have hn2 : ∀ x ∈ f2, x ≠ b := fun x hx e => hbf (by simp [← e, hx])
    have hng : ∀ x ∈ g, x ≠ b := fun x hx e => hbg (by simp [← e, hx])
    have hcl : ∀ o', (o' < o + j * 9 ∨ o + j * 9 + 9 ≤ o') → (put w b (o + j * 9) vs).cell? ⟨b, o', none⟩ = w.cell? ⟨b, o', none⟩ := by
      intro o' ho
      rw [cell_of_block h2, cell_of_block hB, putA_out _ _ _ _ (by omega)]
    cases j with
    | zero =>
      have hz : o + 0 * 9 = o := by omega
      rw [hz] at h2 hoth hcl ⊢
      have hC : o + 9 ≤ C.size := by
        have q := hc 8 (by omega)
        rw [cell_of_block hB, Array.getElem?_eq_getElem (show 8 < cs.size by rw [Tm.size9 hu]; omega)] at q
        have : o + 8 < C.size := by
          rcases Nat.lt_or_ge (o + 8) C.size with h | h
          · exact h
          · rw [Array.getElem?_eq_none (by omega)] at q
            cases q
        omega
      refine ⟨g ++ f2, ?_, ?_, ?_⟩
      · simp only [List.set_cons_zero, Tm.AtL]
        refine ⟨vs.toArray, g, f2, fun i hi => ?_, hT.congr fun x hx o' => hoth x (hng x hx) o', hl.congrR (fun o' h1 _ => hcl o' (by omega)) (fun x hx o' => hoth x (hn2 x hx) o'), rfl⟩
        rw [cell_of_block h2, putA_in _ _ _ _ (by omega) (by omega)]
        simp
      · intro x hx
        rcases List.mem_append.1 hx with h | h
        · exact .inr h
        · exact .inl (by simp [h])
      · intro hf hg hd
        rw [List.nodup_append] at hf
        exact List.nodup_append.2 ⟨hg, hf.2.1, fun a ha c hcc e => hd c (by simp [hcc]) (e ▸ ha)⟩
    | succ j =>
      have hz : o + (j + 1) * 9 = o + 9 + j * 9 := by omega
      rw [hz] at h2 hoth hcl ⊢
      obtain ⟨f', q1, q2, q3⟩ := rowM_set hB hT hbg j (by simpa using hj) hl (fun h => hbf (by simp [h]))
      refine ⟨f1 ++ f', ?_, ?_, ?_⟩
      · simp only [List.set_cons_succ, Tm.AtL]
        exact ⟨cs, f1, f', fun i hi => (hcl _ (by omega)).trans (hc i hi), hu.congr fun x hx o' => hoth x (hn1 x hx) o', q1, rfl⟩
      · intro x hx
        rcases List.mem_append.1 hx with h | h
        · exact .inl (by simp [h])
        · rcases q2 x h with h | h
          · exact .inl (by simp [h])
          · exact .inr h
      · intro hf hg hd
        rw [List.nodup_append] at hf
        refine List.nodup_append.2 ⟨hf.1, q3 hf.2.1 hg (fun x hx => hd x (by simp [hx])), fun a ha c hcc e => ?_⟩
        rcases q2 c hcc with h | h
        · exact hf.2.2 a ha c h e
        · exact hd a (by simp [ha]) (e ▸ h)

/-- The first element of a list, its cells written out. -/
theorem headAt {w : World} {ts : List Tm} {a : Option Addr} {n c : Nat} {fp : List Nat} (h : SmAt w ts (.slice a n c) fp) (h0 : 0 < ts.length) :
    ∃ b o q0 q1 q2 q3 q4 q5 q6 q7 q8 q9 q10 q11 q12 q13 q14 f, a = some ⟨b, o, none⟩ ∧ n = ts.length ∧ n ≤ c ∧ n ≤ 9223372036854775807 ∧ b < w.heap.size ∧
      w.cell? ⟨b, o, none⟩ = some (.int .i64 q0) ∧ w.cell? ⟨b, o + 1, none⟩ = some (.string q1) ∧ w.cell? ⟨b, o + 2, none⟩ = some (.int .i64 q2) ∧ w.cell? ⟨b, o + 3, none⟩ = some (.int .i64 q3) ∧ w.cell? ⟨b, o + 4, none⟩ = some (.slice q5 q4 q6) ∧
      w.cell? ⟨b, o + 5, none⟩ = some (.int .i64 q7) ∧ w.cell? ⟨b, o + 6, none⟩ = some (.slice q9 q8 q10) ∧ w.cell? ⟨b, o + 7, none⟩ = some (.int .i64 q11) ∧ w.cell? ⟨b, o + 8, none⟩ = some (.slice q13 q12 q14) ∧
      (headT ts).At w (.agg #[.int .i64 q0, .string q1, .int .i64 q2, .int .i64 q3, .slice q5 q4 q6, .int .i64 q7, .slice q9 q8 q10, .int .i64 q11, .slice q13 q12 q14]) f ∧ f.Sublist fp := by
  rcases h with ⟨rfl, _⟩ | ⟨b, o, cap, f, e, hp, hc, hm, hl, rfl⟩
  · simp at h0
  · cases e
    cases ts with
    | nil => simp at h0
    | cons t ts =>
      simp only [Tm.AtL] at hl
      obtain ⟨cs, f1, f2, hcs, ht, _, rfl⟩ := hl
      obtain ⟨q0, q1, q2, q3, q4, q5, q6, q7, q8, q9, q10, q11, q12, q13, q14, hv⟩ := ht.agg
      cases hv
      have c0 := hcs 0 (by omega)
      have hlt : b < w.heap.size := World.block_lt_of_cell? _ _ (show w.cell? ⟨b, o + 0, none⟩ = some (.int .i64 q0) from c0)
      exact ⟨b, o, q0, q1, q2, q3, q4, q5, q6, q7, q8, q9, q10, q11, q12, q13, q14, f1, rfl, rfl, hc, hm, hlt, c0, hcs 1 (by omega), hcs 2 (by omega), hcs 3 (by omega), hcs 4 (by omega), hcs 5 (by omega), hcs 6 (by omega), hcs 7 (by omega), hcs 8 (by omega), ht, ((List.sublist_append_left f1 f2).cons b)⟩

theorem own_okLv {k : Int} {nm : ByteArray} {num : Int} {ty fr : Ty} {lb : Int} (h : ownM k nm num ty fr lb = true) (h14 : k ≠ 14) : okTy ty ∧ okTy fr := by
  have e14 : (k == 14) = false := by simpa using h14
  simp only [ownM, e14, Bool.false_or, Bool.and_eq_true, beq_iff_eq] at h
  obtain ⟨⟨⟨-, hty⟩, hfr, hlb⟩, -⟩ := h
  by_cases h5 : k = 5 ∨ k = 13 ∨ k = 14
  · rw [if_pos h5] at hty
    exact ⟨.inl (wf_of_vld hty), .inr hfr⟩
  · rw [if_neg h5] at hty
    exact ⟨.inr hty, .inr hfr⟩

mutual
/-- The types of a valid term with casts can be copied. -/
theorem okT_shpC : ∀ (d : Nat) (t : Tm), shpC d t = true → okT t
  | 0, _, h => by simp [shpC] at h
  | d + 1, .mk k nm num ty fr lb ts, h => by
    simp only [shpC, Bool.and_eq_true] at h
    obtain ⟨⟨⟨_, _⟩, ho⟩, hk⟩ := h
    simp only [okT]
    have h2 := okL_shpC d ts hk
    split at ho
    · simp only [own4, Bool.and_eq_true] at ho
      exact ⟨.inl (wf_of_vld (by simp_all)), .inl (wf_of_vld (by simp_all)), h2⟩
    · rename_i h14
      have := own_okLv ho h14
      exact ⟨this.1, this.2, h2⟩
theorem okL_shpC : ∀ (d : Nat) (ts : List Tm), ts.all (shpC d) = true → okL ts
  | _, [], _ => by simp only [okL]
  | d, t :: ts, h => by
    simp only [List.all_cons, Bool.and_eq_true] at h
    simp only [okL]
    exact ⟨okT_shpC d t h.1, okL_shpC d ts h.2⟩
end
end Go.Proofs.YtjpmlmdbldcbjaaDoor

namespace Go.Proofs.YtjpmlmdbldcbjaaDoor
open Go.RowKit

/-- What a call says that makes a term in new memory, which may be shared within it. -/
def MadeX (w : World) (t : Tm) (e : Ending) (w' : World) : Prop := ∃ v fp, e = .returned v ∧ t.At w' v fp ∧ (∀ x ∈ fp, w.heap.size ≤ x) ∧ Below w.heap.size w w'

def cuM (us ts : List Tm) (j : Nat) : List Tm := us.take j ++ ts.drop j
theorem cuM_len {us ts : List Tm} (h : us.length = ts.length) {j : Nat} (hj : j ≤ ts.length) : (cuM us ts j).length = ts.length := by
  simp [cuM, List.length_take, List.length_drop]
  omega
theorem cuM_zero (us ts : List Tm) : cuM us ts 0 = ts := by simp [cuM]
theorem cuM_all {us ts : List Tm} (h : us.length = ts.length) : cuM us ts ts.length = us := by
  simp [cuM, List.take_of_length_le (Nat.le_of_eq h)]
theorem cuM_set {us ts : List Tm} (h : us.length = ts.length) {j : Nat} (hj : j < ts.length) (hj' : j < us.length) : (cuM us ts j).set j us[j] = cuM us ts (j + 1) := by
  have h1 : (us.take j).length = j := by rw [List.length_take]; omega
  simp only [cuM]
  rw [List.set_append_right _ _ (by omega), h1, Nat.sub_self, List.drop_eq_getElem_cons hj, List.set_cons_zero, List.take_succ_eq_append_getElem hj', List.append_assoc]
  simp

theorem cells_of {w : World} {b o : Nat} {v : Value} (hc : w.cell? ⟨b, o, none⟩ = some v) : ∃ C T fz, w.heap[b]? = some (.cells C T fz) := by
  simp only [World.cell?] at hc
  cases hb : w.heap[b]? with
  | none => rw [hb] at hc; cases hc
  | some ob =>
    rw [hb] at hc
    cases ob with
    | cells C T fz => exact ⟨C, T, fz, rfl⟩
    | _ => cases hc

theorem onlyPut {b : Nat} : ∀ {vs : List Value} {w0 w : World} {o : Nat}, Only [b] w0 w → Only [b] w0 (put w b o vs)
  | [], _, _, _, h => h
  | v :: vs, w0, w, o, h => by
    rw [put]
    exact onlyPut (h.trans (Only.setCell (fp := [b]) (b := b) (o := o) (by simp) v))

theorem SmAt.onlyLs {w w' : World} {ts : List Tm} {s : Value} {fp g : List Nat} (h : SmAt w ts s fp) (hg : Only g w w') (hd : ∀ x ∈ fp, x ∉ g) : SmAt w' ts s fp :=
  h.congr fun x hx o' => World.cell?_of_block (w := w) (a := ⟨x, o', none⟩) (hg.block x (h.lt x hx) (hd x hx))
theorem Ty.At.onlyLs {w w' : World} {t : Ty} {v : Value} {fp g : List Nat} (h : t.At w v fp) (hg : Only g w w') (hd : ∀ x ∈ fp, x ∉ g) : t.At w' v fp :=
  h.congr fun x hx o' => World.cell?_of_block (w := w) (a := ⟨x, o', none⟩) (hg.block x (h.lt x hx) (hd x hx))

/-- A round: element j has been rewritten in w4, then it is stored. -/
theorem row_round {w2 wr w4 : World} {us ts : List Tm} {b o j S : Nat} {f g : List Nat} {vs : List Value} (hlen : us.length = ts.length) (hj : j < ts.length) (hj' : j < us.length) (hl : Tm.AtL wr (cuM us ts j) b o f) (hbf : b ∉ f) (hfS : ∀ x ∈ f, S ≤ x) (hon : Only [b] w2 wr) (hb2 : b < w2.heap.size) (hS : S ≤ w2.heap.size)
    (hb : Below wr.heap.size wr w4) (hu : (us[j]).At w4 (.agg vs.toArray) g) (hg : ∀ x ∈ g, wr.heap.size ≤ x) :
    ∃ f', Tm.AtL (put w4 b (o + j * 9) vs) (cuM us ts (j + 1)) b o f' ∧ b ∉ f' ∧ (∀ x ∈ f', S ≤ x) ∧ Only [b] w2 (put w4 b (o + j * 9) vs) := by
  have hs := hon.size
  have hbr : b < wr.heap.size := by omega
  have hl4 : Tm.AtL w4 (cuM us ts j) b o f := hl.congr (fun o => hb.cell (p := ⟨b, o, none⟩) hbr) (fun x hx o => hb.cell (p := ⟨x, o, none⟩) (hl.lt x hx))
  have hjl : j < (cuM us ts j).length := by rw [cuM_len hlen (by omega)]; exact hj
  obtain ⟨cs, g0, hcs, hat, -⟩ := Tm.atL_get hl4 j hjl
  have h9 := Tm.size9 hat
  have hc := hcs 0 (by omega)
  rw [Array.getElem?_eq_getElem (by omega)] at hc
  obtain ⟨C, T, fz, hB⟩ := cells_of hc
  have hbg : b ∉ g := fun hm => by have := hg b hm; omega
  obtain ⟨f', q1, q2, -⟩ := rowM_set hB hu hbg j hjl hl4 hbf
  rw [cuM_set hlen hj hj'] at q1
  refine ⟨f', q1, fun hm => ?_, fun x hx => ?_, onlyPut (hon.trans (only_of_below hb))⟩
  · rcases q2 b hm with h | h
    · exact hbf h
    · exact hbg h
  · rcases q2 x hx with h | h
    · exact hfS x h
    · have := hg x h; omega

mutual
theorem lvN_I : ∀ (t : Tm) (n : Nat), lvN nxI n t = n
  | .mk k nm num ty fr lb ts, n => by simp only [lvN, lvNL_I ts n, nxI]
theorem lvNL_I : ∀ (ts : List Tm) (n : Nat), lvNL nxI n ts = n
  | [], n => by simp only [lvNL]
  | t :: ts, n => by simp only [lvNL, lvN_I t n, lvNL_I ts n]
end
end Go.Proofs.YtjpmlmdbldcbjaaDoor

namespace Go.Proofs.YtjpmlmdbldcbjaaDoor
open Go.RowKit

def Sm (a b : Tm) : Prop := (okN a = true → okN b = true) ∧ dps b ≤ dps a ∧ nds b ≤ nds a ∧ b.sz ≤ a.sz
def SmL (a b : List Tm) : Prop := b.length = a.length ∧ (okNL a = true → okNL b = true) ∧ dpsL b ≤ dpsL a ∧ ndsL b ≤ ndsL a ∧ szML b ≤ szML a
theorem Sm.refl (a : Tm) : Sm a a := ⟨id, Nat.le_refl _, Nat.le_refl _, Nat.le_refl _⟩
theorem Sm.trans {a b c : Tm} (h : Sm a b) (k : Sm b c) : Sm a c := ⟨fun x => k.1 (h.1 x), Nat.le_trans k.2.1 h.2.1, Nat.le_trans k.2.2.1 h.2.2.1, Nat.le_trans k.2.2.2 h.2.2.2⟩

theorem sm_head : ∀ {ts : List Tm}, 0 < ts.length → (okNL ts = true → okN (headT ts) = true) ∧ dps (headT ts) ≤ dpsL ts ∧ nds (headT ts) ≤ ndsL ts ∧ (headT ts).sz ≤ szML ts
  | t :: ts, _ => by
    simp only [headT, okNL, dpsL, ndsL, szML, Bool.and_eq_true]
    exact ⟨fun h => h.1, Nat.le_max_left _ _, by omega, by omega⟩

theorem sm_kid {t : Tm} (h : 0 < (ksTm t).length) : Sm t (headT (ksTm t)) := by
  obtain ⟨k, nm, num, ty, fr, lb, ts, rfl⟩ := t.shape
  simp only [ksTm] at h ⊢
  obtain ⟨h1, h2, h3, h4⟩ := sm_head h
  refine ⟨fun h => h1 ?_, ?_, ?_, ?_⟩
  · simp only [okN, Bool.and_eq_true] at h
    exact h.2
  · simp only [dps]; omega
  · simp only [nds]; omega
  · simp only [Tm.sz]; omega

theorem gd_len {t : Tm} (h : gdM t) (hk : kdM t = 14) : 0 < (ksTm t).length := by
  obtain ⟨k, nm, num, ty, fr, lb, ts, rfl⟩ := t.shape
  simp only [gdM] at h
  exact (h.1 hk).1

theorem sm_rsS : ∀ r ∈ rsS, ∀ t u, gdM t → r t = some u → Sm t u := by
  intro r hr t u h e
  simp only [rsS, List.mem_cons, List.not_mem_nil, or_false] at hr
  rcases hr with rfl | rfl
  · obtain ⟨k, nm, num, ty, fr, lb, ts, rfl⟩ := t.shape
    simp only [ruE] at e
    split at e
    · rename_i hc
      cases e
      exact sm_kid (t := .mk k nm num ty fr lb ts) (gd_len h hc.1)
    · cases e
  · obtain ⟨k, nm, num, ty, fr, lb, ts, rfl⟩ := t.shape
    have hg := h
    simp only [gdM] at hg
    simp only [ruB] at e
    split at e
    · rename_i hc
      cases e
      have h1 := sm_kid (t := .mk k nm num ty fr lb ts) (gd_len h hc.1)
      exact h1.trans (sm_kid (gd_len (gdL_mem hg.2 _ (headT_mem (hg.1 hc.1).1)) hc.2.2.1))
    · cases e
theorem sm_fst : ∀ {rs : List (Tm → Option Tm)}, (∀ r ∈ rs, ∀ t u, gdM t → r t = some u → Sm t u) → ∀ {t : Tm}, gdM t → Sm t (fstR rs t)
  | [], _, t, _ => by simp only [fstR]; exact Sm.refl t
  | r :: rs, hr, t, h => by
    simp only [fstR]
    cases e : r t with
    | some u => exact hr r (by simp) t u h e
    | none => exact sm_fst (fun r' h' => hr r' (by simp [h'])) h

mutual
theorem sm_lv : ∀ (t : Tm) (n : Nat), gdM t → Sm t (lvT nxI (chR rsS) n t)
  | .mk k nm num ty fr lb ts, n, h => by
    have hg := h
    simp only [gdM] at hg
    obtain ⟨h0, h1, h2, h3, h4⟩ := smL_lv ts n hg.2
    have hS : Sm (.mk k nm num ty fr lb ts) (.mk k nm num ty fr lb (lvL nxI (chR rsS) n ts)) := by
      refine ⟨fun h => ?_, ?_, ?_, ?_⟩
      · simp only [okN, Bool.and_eq_true] at h ⊢
        rw [h0]
        exact ⟨h.1, h1 h.2⟩
      · simp only [dps]; omega
      · simp only [nds]; omega
      · simp only [Tm.sz, h0]; omega
    simp only [lvT]
    exact hS.trans (sm_fst sm_rsS (by simp only [gdM, lvL_len]; exact ⟨hg.1, gdL_lv nxI (chR rsS) (fun _ _ => gd_fst gd_rsS) ts n hg.2⟩))
theorem smL_lv : ∀ (ts : List Tm) (n : Nat), gdL ts → SmL ts (lvL nxI (chR rsS) n ts)
  | [], n, _ => by simp only [lvL]; exact ⟨rfl, id, Nat.le_refl _, Nat.le_refl _, Nat.le_refl _⟩
  | t :: ts, n, h => by
    simp only [gdL] at h
    obtain ⟨a1, a2, a3, a4⟩ := sm_lv t n h.1
    obtain ⟨b0, b1, b2, b3, b4⟩ := smL_lv ts (lvN nxI n t) h.2
    simp only [lvL]
    refine ⟨by simp [b0], fun h => ?_, ?_, ?_, ?_⟩
    · simp only [okNL, Bool.and_eq_true] at h ⊢
      exact ⟨a1 h.1, b1 h.2⟩
    · simp only [dpsL]; omega
    · simp only [ndsL]; omega
    · simp only [szML]; omega
end

theorem vld_sm {a b : Tm} (h : Sm a b) (hv : vldC a = true) : vldC b = true := by
  unfold vldC at hv ⊢
  rw [shpC_ok] at hv ⊢
  simp only [Bool.and_eq_true, decide_eq_true_eq] at hv ⊢
  obtain ⟨⟨h1, h2⟩, h3⟩ := hv
  obtain ⟨a1, a2, a3, _⟩ := h
  rw [cntD_nds 40 a h2] at h3
  rw [cntD_nds 40 b (by omega)]
  exact ⟨⟨a1 h1, by omega⟩, by omega⟩

theorem vld_sim {t : Tm} (h : vldC t = true) (hz : t.sz ≤ 1048576) : vldC (simN t) = true := vld_sm (sm_lv t 0 (gd_vld h hz)) h
theorem sz_sim {t : Tm} (h : vldC t = true) (hz : t.sz ≤ 1048576) : (simN t).sz ≤ 1048576 := Nat.le_trans (sm_lv t 0 (gd_vld h hz)).2.2.2 hz
theorem sz_simT {t : Tm} (hz : t.sz ≤ 1048576) : (simT t).sz ≤ 1048576 := by
  unfold simT
  split
  · rename_i h; exact sz_sim h hz
  · decide
theorem red_eq {t : Tm} (h : vldC t = true) (hz : t.sz ≤ 1048576) : redC t = (ccN t : Int) - (ccN (simN t) : Int) := by
  unfold redC simT ccO
  rw [if_pos h, if_pos h, if_pos (vld_sim h hz)]
theorem red_no {t : Tm} (h : vldC t = false) : redC t = 0 := by
  have hz : vldC zTm = false := by decide
  unfold redC simT ccO
  simp [h, hz]
theorem sz_ruK {t u : Tm} (h : gdM t) (e : ruK t = some u) : u.sz ≤ t.sz + 1 := by
  obtain ⟨k, nm, num, ty, fr, lb, ts, rfl⟩ := t.shape
  simp only [gdM] at h
  simp only [ruK] at e
  split at e
  · rename_i hc
    cases e
    have h1 := sm_head (h.1 hc.1).1
    have h2 := (h.1 hc.1).1
    have h4 : (Ty.mk 1 []).cnt = 0 := by decide
    have h5 : ByteArray.empty.size = 0 := rfl
    simp only [cast2, Tm.sz, szML, h4, h5, List.length_cons, List.length_nil]
    omega
  · cases e
mutual
theorem sz_dyn : ∀ (t : Tm) (n : Nat), gdM t → (lvT nxI (chR rsD) n t).sz ≤ 2 * t.sz + 1
  | .mk k nm num ty fr lb ts, n, h => by
    have hg := h
    simp only [gdM] at hg
    have h1 := szL_dyn ts n hg.2
    have hgu : gdM (.mk k nm num ty fr lb (lvL nxI (chR rsD) n ts)) := by simp only [gdM, lvL_len]; exact ⟨hg.1, gdL_lv nxI (chR rsD) (fun _ _ => gd_fst gd_rsD) ts n hg.2⟩
    simp only [lvT, chR, rsD, fstR]
    have h2 : (Tm.mk k nm num ty fr lb (lvL nxI (chR rsD) n ts)).sz ≤ 2 * (Tm.mk k nm num ty fr lb ts).sz := by
      simp only [Tm.sz, lvL_len]
      omega
    cases e : ruK (.mk k nm num ty fr lb (lvL nxI (chR rsD) n ts)) with
    | some u =>
      have := sz_ruK hgu e
      simp only [rsD] at e this h2 ⊢
      simp only [e]
      omega
    | none =>
      simp only [rsD] at e h2 ⊢
      simp only [e]
      omega
theorem szL_dyn : ∀ (ts : List Tm) (n : Nat), gdL ts → szML (lvL nxI (chR rsD) n ts) ≤ 2 * szML ts + ts.length
  | [], n, _ => by simp [lvL, szML]
  | t :: ts, n, h => by
    simp only [gdL] at h
    have h1 := sz_dyn t n h.1
    have h2 := szL_dyn ts (lvN nxI n t) h.2
    simp only [lvL, szML, List.length_cons]
    omega
end
theorem szC_dyn {t : Tm} (h : vldC t = true) : (dynN t).sz ≤ 1048576 := by
  have h1 := vldC_sz h
  have := sz_dyn t 0 (gd_vld h (by omega))
  unfold dynN
  omega
end Go.Proofs.YtjpmlmdbldcbjaaDoor
