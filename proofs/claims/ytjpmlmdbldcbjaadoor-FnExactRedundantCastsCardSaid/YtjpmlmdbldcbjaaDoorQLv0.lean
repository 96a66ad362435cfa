/- Terms rewritten from the leaves, plainly: the simplification of casts, new labels, and casts through the unknown type. -/
import Derived.Test.YtjpmlmdbldcbjaaDoorQG21
import Derived.Test.YtjpmlmdbldcbjaaDoorQG11
import Derived.Test.YtjpmlmdbldcbjaaDoorQG19
import Derived.Test.YtjpmlmdbldcbjaaDoorQMMk
namespace Go.Proofs.YtjpmlmdbldcbjaaDoor
open Go.RowKit

section
variable (nx : Nat → Int → Nat)
mutual
/-- The state behind a term. -/
def lvN : Nat → Tm → Nat
  | n, .mk k _ _ _ _ _ ts => nx (lvNL n ts) k
def lvNL : Nat → List Tm → Nat
  | n, [] => n
  | n, t :: ts => lvNL (lvN n t) ts
end
variable (ch : Nat → Tm → Tm)
mutual
/-- The term, each node changed behind its operands. -/
def lvT : Nat → Tm → Tm
  | n, .mk k nm num ty fr lb ts => ch (lvNL nx n ts) (.mk k nm num ty fr lb (lvL n ts))
def lvL : Nat → List Tm → List Tm
  | _, [] => []
  | n, t :: ts => lvT n t :: lvL (lvN nx n t) ts
end

theorem lvL_len : ∀ (ts : List Tm) (n : Nat), (lvL nx ch n ts).length = ts.length
  | [], _ => by simp only [lvL, List.length_nil]
  | t :: ts, n => by simp only [lvL, List.length_cons, lvL_len ts]

theorem lvNL_take : ∀ (ts : List Tm) (n j : Nat) (h : j < ts.length), lvNL nx n (ts.take (j + 1)) = lvN nx (lvNL nx n (ts.take j)) ts[j]
  | t :: ts, n, 0, _ => by simp [lvNL]
  | t :: ts, n, j + 1, h => by
    simp only [List.take_succ_cons, lvNL, List.getElem_cons_succ]
    exact lvNL_take ts _ j (by simpa using h)

theorem lvL_get : ∀ (ts : List Tm) (n j : Nat) (h : j < ts.length) (h' : j < (lvL nx ch n ts).length), (lvL nx ch n ts)[j] = lvT nx ch (lvNL nx n (ts.take j)) ts[j]
  | t :: ts, n, 0, _, _ => by simp [lvL, lvNL]
  | t :: ts, n, j + 1, h, h' => by
    simp only [lvL, List.take_succ_cons, lvNL, List.getElem_cons_succ]
    exact lvL_get ts _ j (by simpa using h) _

mutual
theorem lvN_le (hnx : ∀ n k, nx n k ≤ n + 1) : ∀ (t : Tm) (n : Nat), lvN nx n t ≤ n + t.sz + 1
  | .mk k nm num ty fr lb ts, n => by
    have h1 := lvNL_le hnx ts n
    have h2 := hnx (lvNL nx n ts) k
    simp only [lvN, Tm.sz]
    omega
theorem lvNL_le (hnx : ∀ n k, nx n k ≤ n + 1) : ∀ (ts : List Tm) (n : Nat), lvNL nx n ts ≤ n + ts.length + szML ts
  | [], n => by simp [lvNL]
  | t :: ts, n => by
    have h1 := lvNL_le hnx ts (lvN nx n t)
    have h2 := lvN_le hnx t n
    simp only [lvNL, List.length_cons, szML]
    omega
end

theorem lvNL_take_le (hnx : ∀ n k, nx n k ≤ n + 1) : ∀ (ts : List Tm) (n j : Nat) (h : j < ts.length), lvNL nx n (ts.take j) + ts[j].sz + 1 ≤ n + ts.length + szML ts
  | t :: ts, n, 0, _ => by
    simp only [List.take_zero, lvNL, List.getElem_cons_zero, List.length_cons, szML]
    omega
  | t :: ts, n, j + 1, h => by
    have h1 := lvNL_take_le hnx ts (lvN nx n t) j (by simpa using h)
    have h2 := lvN_le nx hnx t n
    simp only [List.take_succ_cons, lvNL, List.getElem_cons_succ, List.length_cons, szML]
    omega
end

mutual
/-- Each cast has an operand and types of a size. -/
def gdM : Tm → Prop
  | .mk k _ _ ty fr _ ts => (k = 14 → 0 < ts.length ∧ ty.cnt ≤ 1048576 ∧ fr.cnt ≤ 1048576) ∧ gdL ts
def gdL : List Tm → Prop
  | [] => True
  | t :: ts => gdM t ∧ gdL ts
end

theorem gdL_mem : ∀ {ts : List Tm}, gdL ts → ∀ t ∈ ts, gdM t
  | t :: ts, h, u, hu => by
    simp only [gdL] at h
    rcases List.mem_cons.1 hu with rfl | hu
    · exact h.1
    · exact gdL_mem h.2 u hu
theorem gdL_of : ∀ {ts : List Tm}, (∀ t ∈ ts, gdM t) → gdL ts
  | [], _ => by simp only [gdL]
  | t :: ts, h => by
    simp only [gdL]
    exact ⟨h t (by simp), gdL_of fun u hu => h u (by simp [hu])⟩

theorem gd_shp : ∀ (d : Nat) (t : Tm), shpC d t = true → t.sz ≤ 1048576 → gdM t
  | 0, _, h, _ => by simp [shpC] at h
  | d + 1, .mk k nm num ty fr lb ts, h, hz => by
    simp only [shpC, Bool.and_eq_true, List.all_eq_true] at h
    obtain ⟨⟨⟨h1, _⟩, _⟩, hk⟩ := h
    simp only [Tm.sz] at hz
    simp only [gdM]
    refine ⟨fun e => ?_, gdL_of fun t ht => gd_shp d t (hk t ht) (by have := sz_mem ht; omega)⟩
    subst e
    have hl : (1 : Int) = (ts.length : Int) := by have := eq_of_beq h1; rw [← this]; rfl
    exact ⟨by omega, by omega, by omega⟩

theorem gd_vld {t : Tm} (h : vldC t = true) (hz : t.sz ≤ 1048576) : gdM t := by
  unfold vldC at h
  simp only [Bool.and_eq_true] at h
  exact gd_shp 40 t h.1 hz

mutual
theorem gd_lv (nx : Nat → Int → Nat) (ch : Nat → Tm → Tm) (hch : ∀ n t, gdM t → gdM (ch n t)) : ∀ (t : Tm) (n : Nat), gdM t → gdM (lvT nx ch n t)
  | .mk k nm num ty fr lb ts, n, h => by
    simp only [gdM] at h
    simp only [lvT]
    apply hch
    simp only [gdM, lvL_len]
    exact ⟨h.1, gdL_lv nx ch hch ts n h.2⟩
theorem gdL_lv (nx : Nat → Int → Nat) (ch : Nat → Tm → Tm) (hch : ∀ n t, gdM t → gdM (ch n t)) : ∀ (ts : List Tm) (n : Nat), gdL ts → gdL (lvL nx ch n ts)
  | [], n, _ => by simp only [lvL, gdL]
  | t :: ts, n, h => by
    simp only [gdL] at h
    simp only [lvL, gdL]
    exact ⟨gd_lv nx ch hch t n h.1, gdL_lv nx ch hch ts _ h.2⟩
end

mutual
theorem num_lv (nx : Nat → Int → Nat) (ch : Nat → Tm → Tm) (hg : ∀ n t, gdM t → gdM (ch n t)) (hch : ∀ n t, gdM t → (ch n t).num ≤ t.num + 20) : ∀ (t : Tm) (n : Nat), gdM t → (lvT nx ch n t).num ≤ t.num + 20 * (t.sz + 1)
  | .mk k nm num ty fr lb ts, n, h => by
    simp only [gdM] at h
    have h1 := hch (lvNL nx n ts) (.mk k nm num ty fr lb (lvL nx ch n ts)) (by simp only [gdM, lvL_len]; exact ⟨h.1, gdL_lv nx ch hg ts n h.2⟩)
    have h2 := numL_lv nx ch hg hch ts n h.2
    simp only [Tm.num] at h1
    simp only [lvT, Tm.num, Tm.sz]
    omega
theorem numL_lv (nx : Nat → Int → Nat) (ch : Nat → Tm → Tm) (hg : ∀ n t, gdM t → gdM (ch n t)) (hch : ∀ n t, gdM t → (ch n t).num ≤ t.num + 20) : ∀ (ts : List Tm) (n : Nat), gdL ts → numL (lvL nx ch n ts) ≤ numL ts + 20 * (ts.length + szML ts)
  | [], n, _ => by simp [lvL, numL]
  | t :: ts, n, h => by
    simp only [gdL] at h
    have h1 := num_lv nx ch hg hch t n h.1
    have h2 := numL_lv nx ch hg hch ts (lvN nx n t) h.2
    simp only [lvL, numL, List.length_cons, szML]
    omega
end

def kdM : Tm → Int | .mk k _ _ _ _ _ _ => k
def tyTm : Tm → Ty | .mk _ _ _ ty _ _ _ => ty
def frTm : Tm → Ty | .mk _ _ _ _ fr _ _ => fr
def ksTm : Tm → List Tm | .mk _ _ _ _ _ _ ts => ts
def kdY : Ty → Int | .mk k _ => k
def headT : List Tm → Tm | [] => zTm | t :: _ => t
def cast2 (t : Tm) (fr ty : Ty) (lb : Int) : Tm := .mk 14 ByteArray.empty 0 ty (.mk 1 []) lb [.mk 14 ByteArray.empty 0 (.mk 1 []) fr lb [t]]

/-- The rule that leaves out a cast that changes no type. -/
def ruE : Tm → Option Tm
  | .mk k _ _ ty fr _ ts => if k = 14 ∧ tyEq fr ty = true then some (headT ts) else none
/-- The rule that leaves out a cast to the unknown type and the one back. -/
def ruB : Tm → Option Tm
  | .mk k _ _ ty fr _ ts => if k = 14 ∧ kdY fr = 1 ∧ kdM (headT ts) = 14 ∧ kdY (tyTm (headT ts)) = 1 ∧ tyEq ty (frTm (headT ts)) = true then some (headT (ksTm (headT ts))) else none
/-- The rule that lets a cast between known types go through the unknown type. -/
def ruK : Tm → Option Tm
  | .mk k _ _ ty fr lb ts => if k = 14 ∧ kdY fr ≠ 1 ∧ kdY ty ≠ 1 then some (cast2 (headT ts) fr ty lb) else none
/-- The first rule that applies. -/
def fstR : List (Tm → Option Tm) → Tm → Tm
  | [], t => t
  | r :: rs, t => match r t with | some u => u | none => fstR rs t

def nxI (n : Nat) (_ : Int) : Nat := n
def chR (rs : List (Tm → Option Tm)) (_ : Nat) (t : Tm) : Tm := fstR rs t
def nxL (n : Nat) (k : Int) : Nat := if k = 14 then n + 1 else n
def chL12 (n : Nat) : Tm → Tm
  | .mk k nm num ty fr lb ts => if k = 14 then .mk k nm num ty fr ((n + 1 : Nat) : Int) ts else .mk k nm num ty fr lb ts

theorem headT_mem {ts : List Tm} (h : 0 < ts.length) : headT ts ∈ ts := by
  cases ts with
  | nil => simp at h
  | cons t ts => simp [headT]
theorem gd_ruE {t u : Tm} (h : gdM t) (e : ruE t = some u) : gdM u := by
  obtain ⟨k, nm, num, ty, fr, lb, ts, rfl⟩ := t.shape
  simp only [gdM] at h
  simp only [ruE] at e
  split at e
  · rename_i hc
    cases e
    exact gdL_mem h.2 _ (headT_mem (h.1 hc.1).1)
  · cases e
theorem gd_ruB {t u : Tm} (h : gdM t) (e : ruB t = some u) : gdM u := by
  obtain ⟨k, nm, num, ty, fr, lb, ts, rfl⟩ := t.shape
  simp only [gdM] at h
  simp only [ruB] at e
  split at e
  · rename_i hc
    cases e
    have h1 := gdL_mem h.2 _ (headT_mem (h.1 hc.1).1)
    generalize headT ts = x at *
    obtain ⟨k, nm, num, ty, fr, lb, us, rfl⟩ := x.shape
    simp only [gdM] at h1
    simp only [kdM, ksTm] at *
    exact gdL_mem h1.2 _ (headT_mem (h1.1 hc.2.2.1).1)
  · cases e
theorem gd_ruK {t u : Tm} (h : gdM t) (e : ruK t = some u) : gdM u := by
  obtain ⟨k, nm, num, ty, fr, lb, ts, rfl⟩ := t.shape
  simp only [gdM] at h
  simp only [ruK] at e
  split at e
  · rename_i hc
    cases e
    obtain ⟨h0, h1, h2⟩ := h.1 hc.1
    have h3 := gdL_mem h.2 _ (headT_mem h0)
    have h4 : (Ty.mk 1 []).cnt ≤ 1048576 := by decide
    simp only [cast2, gdM, gdL, List.length_cons, List.length_nil, and_true]
    exact ⟨fun _ => ⟨by omega, h1, h4⟩, fun _ => ⟨by omega, h4, h2⟩, h3⟩
  · cases e
theorem gd_fst : ∀ {rs : List (Tm → Option Tm)}, (∀ r ∈ rs, ∀ t u, gdM t → r t = some u → gdM u) → ∀ {t : Tm}, gdM t → gdM (fstR rs t)
  | [], _, t, h => by simpa only [fstR] using h
  | r :: rs, hr, t, h => by
    simp only [fstR]
    cases e : r t with
    | some u => exact hr r (by simp) t u h e
    | none => exact gd_fst (fun r' h' => hr r' (by simp [h'])) h
theorem gd_L {n : Nat} {t : Tm} (h : gdM t) : gdM (chL12 n t) := by
  obtain ⟨k, nm, num, ty, fr, lb, ts, rfl⟩ := t.shape
  simp only [chL12]
  simp only [gdM] at h
  split <;> simp only [gdM] <;> exact h

theorem num_mem : ∀ {ts : List Tm}, 0 < ts.length → (headT ts).num + 6 ≤ numL ts
  | t :: ts, _ => by simp only [headT, numL]; omega
theorem num_ruE {t u : Tm} (h : gdM t) (e : ruE t = some u) : u.num ≤ t.num + 20 := by
  obtain ⟨k, nm, num, ty, fr, lb, ts, rfl⟩ := t.shape
  simp only [gdM] at h
  simp only [ruE] at e
  split at e
  · rename_i hc
    cases e
    have := num_mem (h.1 hc.1).1
    simp only [Tm.num]
    omega
  · cases e
theorem num_ks {t : Tm} : numL (ksTm t) ≤ t.num := by
  obtain ⟨k, nm, num, ty, fr, lb, ts, rfl⟩ := t.shape
  simp only [ksTm, Tm.num]
  omega
theorem num_ruB {t u : Tm} (h : gdM t) (e : ruB t = some u) : u.num ≤ t.num + 20 := by
  obtain ⟨k, nm, num, ty, fr, lb, ts, rfl⟩ := t.shape
  simp only [gdM] at h
  simp only [ruB] at e
  split at e
  · rename_i hc
    cases e
    have h1 := num_mem (h.1 hc.1).1
    have hx := gdL_mem h.2 _ (headT_mem (h.1 hc.1).1)
    have h3 : 0 < (ksTm (headT ts)).length := by
      generalize headT ts = x at *
      obtain ⟨k, nm, num, ty, fr, lb, us, rfl⟩ := x.shape
      simp only [gdM] at hx
      simp only [kdM, ksTm] at *
      exact (hx.1 hc.2.2.1).1
    have h2 := num_mem h3
    have h4 := num_ks (t := headT ts)
    simp only [Tm.num]
    omega
  · cases e
theorem num_ruK {t u : Tm} (h : gdM t) (e : ruK t = some u) : u.num ≤ t.num + 20 := by
  obtain ⟨k, nm, num, ty, fr, lb, ts, rfl⟩ := t.shape
  simp only [gdM] at h
  simp only [ruK] at e
  split at e
  · rename_i hc
    cases e
    have h1 := num_mem (h.1 hc.1).1
    have h4 : (Ty.mk 1 []).cnt = 0 := by decide
    simp only [cast2, Tm.num, numL, h4]
    omega
  · cases e
theorem num_fst : ∀ {rs : List (Tm → Option Tm)}, (∀ r ∈ rs, ∀ t u, gdM t → r t = some u → u.num ≤ t.num + 20) → ∀ {t : Tm}, gdM t → (fstR rs t).num ≤ t.num + 20
  | [], _, t, h => by simp only [fstR]; omega
  | r :: rs, hr, t, h => by
    simp only [fstR]
    cases e : r t with
    | some u => exact hr r (by simp) t u h e
    | none => exact num_fst (fun r' h' => hr r' (by simp [h'])) h
theorem num_L {n : Nat} {t : Tm} : (chL12 n t).num ≤ t.num + 20 := by
  obtain ⟨k, nm, num, ty, fr, lb, ts, rfl⟩ := t.shape
  simp only [chL12]
  split <;> simp only [Tm.num] <;> omega

def rsS : List (Tm → Option Tm) := [ruE, ruB]
def rsD : List (Tm → Option Tm) := [ruK]
theorem gd_rsS : ∀ r ∈ rsS, ∀ t u, gdM t → r t = some u → gdM u := by
  intro r hr t u h e
  simp only [rsS, List.mem_cons, List.not_mem_nil, or_false] at hr
  rcases hr with rfl | rfl
  · exact gd_ruE h e
  · exact gd_ruB h e
theorem gd_rsD : ∀ r ∈ rsD, ∀ t u, gdM t → r t = some u → gdM u := by
  intro r hr t u h e
  simp only [rsD, List.mem_cons, List.not_mem_nil, or_false] at hr
  subst hr
  exact gd_ruK h e
theorem num_rsS : ∀ r ∈ rsS, ∀ t u, gdM t → r t = some u → u.num ≤ t.num + 20 := by
  intro r hr t u h e
  simp only [rsS, List.mem_cons, List.not_mem_nil, or_false] at hr
  rcases hr with rfl | rfl
  · exact num_ruE h e
  · exact num_ruB h e
theorem num_rsD : ∀ r ∈ rsD, ∀ t u, gdM t → r t = some u → u.num ≤ t.num + 20 := by
  intro r hr t u h e
  simp only [rsD, List.mem_cons, List.not_mem_nil, or_false] at hr
  subst hr
  exact num_ruK h e

/-- The document's SimplifyCasts, RedundantCasts, RelabelCasts, DynamicCasts. -/
def simN (t : Tm) : Tm := lvT nxI (chR rsS) 0 t
def simT (t : Tm) : Tm := if vldC t then simN t else zTm
def redC (t : Tm) : Int := (ccO t : Int) - (ccO (simT t) : Int)
def relB (t : Tm) : Bool := vldC t && decide (ccN t ≤ 99)
def relT (t : Tm) : Tm := if relB t then lvT nxL chL12 0 t else zTm
def dynN (t : Tm) : Tm := lvT nxI (chR rsD) 0 t
def dynB (t : Tm) : Bool := vldC t && vldC (dynN t)
def dynT (t : Tm) : Tm := if dynB t then dynN t else zTm

theorem num_sim {t : Tm} (h : t.num ≤ 6 * t.sz) (hsz : t.sz ≤ 1048576) : (simT t).num ≤ 30000000 := by
  unfold simT
  split
  · rename_i hv
    have := num_lv nxI (chR rsS) (fun _ _ => gd_fst gd_rsS) (fun _ _ => num_fst num_rsS) t 0 (gd_vld hv hsz)
    unfold simN
    omega
  · decide
theorem num_rel {t : Tm} (h : t.num ≤ 6 * t.sz) (hsz : t.sz ≤ 1048576) : (relT t).num ≤ 30000000 := by
  unfold relT
  split
  · rename_i hv
    simp only [relB, Bool.and_eq_true] at hv
    have := num_lv nxL chL12 (fun _ _ => gd_L) (fun _ _ _ => num_L) t 0 (gd_vld hv.1 hsz)
    omega
  · decide
theorem num_dyn {t : Tm} (h : t.num ≤ 6 * t.sz) (hsz : t.sz ≤ 1048576) : (dynT t).num ≤ 30000000 := by
  unfold dynT
  split
  · rename_i hv
    simp only [dynB, Bool.and_eq_true] at hv
    have := num_lv nxI (chR rsD) (fun _ _ => gd_fst gd_rsD) (fun _ _ => num_fst num_rsD) t 0 (gd_vld hv.1 hsz)
    unfold dynN
    omega
  · decide
end Go.Proofs.YtjpmlmdbldcbjaaDoor
