/- Typing, plainly: the types of terms, the rules of the program's check, and that both agree. The specification's l3Two. -/
import Derived.Test.YtffmpjcjmffdeaaDoorQG13
import Derived.Test.YtffmpjcjmffdeaaDoorQMtcD
import Derived.Test.YtffmpjcjmffdeaaDoorQPkA
import Derived.Test.YtffmpjcjmffdeaaDoorQG11
import Derived.Test.YtffmpjcjmffdeaaDoorQG1
namespace Go.Proofs.YtffmpjcjmffdeaaDoor
open Go.RowKit

def tI : Ty := .mk 2 []
def tB : Ty := .mk 3 []
def nth (us : List Ty) (i : Nat) : Ty := us.getD i (.mk 0 [])
def twoV (k : Int) (t u : Ty) : Option Ty := if vld (.mk k [t, u]) = true then some (.mk k [t, u]) else none

/-- The type of a node by the types of its operands: the document's table. -/
def resM (k : Int) (ty : Ty) (us : List Ty) : Option Ty :=
  if k = 6 then (if (mtOk 4 (nth us 0) && cons (nth us 1) (mtOf 4 0 (nth us 0))) = true then some (mtOf 4 1 (nth us 0)) else none)
  else if k = 7 then (if (cons (nth us 0) tI && cons (nth us 1) tI) = true then some tI else none)
  else if k = 8 then (if (cons (nth us 0) tI && cons (nth us 1) tI) = true then some tB else none)
  else if k = 9 then (if (cons (nth us 1) (nth us 2) && cons (nth us 0) tB) = true then some (meet (nth us 1) (nth us 2)) else none)
  else if k = 10 then twoV 5 (nth us 0) (nth us 1)
  else if k = 11 then (if mtOk 5 (nth us 0) = true then some (mtOf 5 0 (nth us 0)) else none)
  else if k = 12 then (if mtOk 5 (nth us 0) = true then some (mtOf 5 1 (nth us 0)) else none)
  else if k = 13 then (if cons (nth us 0) ty = true then some ty else none)
  else none

def nodT (xs : List Bd) (k : Int) (nm : ByteArray) (ty : Ty) (us : List Ty) : Option Ty :=
  if k = 1 then look xs nm else if k = 2 then some tI else if k = 3 ∨ k = 4 then some tB else if k = 5 then twoV 4 ty (nth us 0) else resM k ty us

def inS (xs : List Bd) (k : Int) (nm : ByteArray) (ty : Ty) : List Bd := if k = 5 then ⟨nm, ty⟩ :: xs else xs

mutual
/-- The type of a term in a context, whose innermost binding comes first. -/
def tyM (xs : List Bd) : Tm → Option Ty
  | .mk k nm _ ty _ _ ts => (tyL (inS xs k nm ty) ts).bind (nodT xs k nm ty)
def tyL (xs : List Bd) : List Tm → Option (List Ty)
  | [] => some []
  | t :: ts => (tyM xs t).bind fun u => (tyL xs ts).map (u :: ·)
end

/-- What the operands are wanted to have, and the type of the node. -/
def ruleM (xs : List Bd) (k : Int) (nm : ByteArray) (ty fr : Ty) (us : List Ty) : Option (List Ty × Ty) :=
  if k = 1 then (look xs nm).map fun t => ([], t)
  else if k = 2 then some ([], tI)
  else if k = 3 ∨ k = 4 then some ([], tB)
  else if k = 5 then some (us, .mk 4 [ty, nth us 0])
  else if k = 6 then (if mtOk 4 (nth us 0) = true then some ([.mk 4 [mtOf 4 0 (nth us 0), mtOf 4 1 (nth us 0)], mtOf 4 0 (nth us 0)], mtOf 4 1 (nth us 0)) else none)
  else if k = 7 then some ([tI, tI], tI)
  else if k = 8 then some ([tI, tI], tB)
  else if k = 9 then (if consOf (nth us 1) (nth us 2) = true then some ([tB, meetOf (nth us 1) (nth us 2), meetOf (nth us 1) (nth us 2)], meetOf (nth us 1) (nth us 2)) else none)
  else if k = 10 then some (us, .mk 5 [nth us 0, nth us 1])
  else if k = 11 then (if mtOk 5 (nth us 0) = true then some ([.mk 5 [mtOf 5 0 (nth us 0), mtOf 5 1 (nth us 0)]], mtOf 5 0 (nth us 0)) else none)
  else if k = 12 then (if mtOk 5 (nth us 0) = true then some ([.mk 5 [mtOf 5 0 (nth us 0), mtOf 5 1 (nth us 0)]], mtOf 5 1 (nth us 0)) else none)
  else if k = 13 then some ([ty], ty)
  else if k = 14 then some ([fr], ty)
  else none

/-- What becomes of an operand; the number is the fitter's own state. -/
abbrev FitF := Int → Tm → Ty → Ty → Option Tm × Int

def fitL (F : FitF) : List Tm → List Ty → List Ty → Int → Option (List Tm) × Int
  | e :: es, u :: us, v :: vs, s => match F s e u v with
    | (none, s1) => (none, s1)
    | (some e', s1) => match fitL F es us vs s1 with
      | (none, s2) => (none, s2)
      | (some es', s2) => (some (e' :: es'), s2)
  | _, _, _, s => (some [], s)

def noTm : Tm := .mk 0 ⟨#[]⟩ 0 (.mk 0 []) (.mk 0 []) 0 []
def outM (k : Int) (nm : ByteArray) (num : Int) (ty fr : Ty) (lb : Int) (es : List Tm) : Tm := if k = 13 then es.getD 0 noTm else .mk k nm num ty fr lb es

/-- The node, when its operands are checked. -/
def chN (F : FitF) (xs : List Bd) (k : Int) (nm : ByteArray) (num : Int) (ty fr : Ty) (lb : Int) (es : List Tm) (us : List Ty) (s : Int) : Option (Tm × Ty) × Int :=
  match ruleM xs k nm ty fr us with
  | none => (none, s)
  | some (ws, r) => if vld r = true then (match fitL F es us ws s with
      | (none, s1) => (none, s1)
      | (some es', s1) => (some (outM k nm num ty fr lb es', r), s1)) else (none, s)

mutual
/-- The program's check. -/
def chM (F : FitF) (xs : List Bd) : Tm → Int → Option (Tm × Ty) × Int
  | .mk k nm num ty fr lb ts, s => match chL F (inS xs k nm ty) ts s with
    | (none, s1) => (none, s1)
    | (some ps, s1) => chN F xs k nm num ty fr lb (ps.map Prod.fst) (ps.map Prod.snd) s1
def chL (F : FitF) (xs : List Bd) : List Tm → Int → Option (List (Tm × Ty)) × Int
  | [], s => (some [], s)
  | t :: ts, s => match chM F xs t s with
    | (none, s1) => (none, s1)
    | (some p, s1) => match chL F xs ts s1 with
      | (none, s2) => (none, s2)
      | (some ps, s2) => (some (p :: ps), s2)
end

theorem chL_snoc (F : FitF) (xs : List Bd) : ∀ (ts : List Tm) (t : Tm) (s : Int), chL F xs (ts ++ [t]) s = match chL F xs ts s with
    | (none, s1) => (none, s1)
    | (some ps, s1) => match chM F xs t s1 with
      | (none, s2) => (none, s2)
      | (some p, s2) => (some (ps ++ [p]), s2)
  | [], t, s => by
    simp only [List.nil_append, chL]
    try (rcases chM F xs t s with ⟨_ | p, s1⟩ <;> simp)
  | u :: ts, t, s => by
    simp only [List.cons_append, chL]
    rcases chM F xs u s with ⟨_ | p, s1⟩
    · rfl
    · simp only [chL_snoc F xs ts t s1]
      rcases chL F xs ts s1 with ⟨_ | ps, s2⟩
      · rfl
      · simp only
        rcases chM F xs t s2 with ⟨_ | q, s3⟩ <;> simp

theorem chL_len {F : FitF} {xs : List Bd} : ∀ {ts : List Tm} {s s1 : Int} {ps : List (Tm × Ty)}, chL F xs ts s = (some ps, s1) → ps.length = ts.length
  | [], s, s1, ps, h => by simp only [chL, Prod.mk.injEq, Option.some.injEq] at h; rw [← h.1]; rfl
  | t :: ts, s, s1, ps, h => by
    simp only [chL] at h
    rcases hc : chM F xs t s with ⟨_ | p, s2⟩ <;> rw [hc] at h
    · simp at h
    · simp only at h
      rcases hl : chL F xs ts s2 with ⟨_ | qs, s3⟩ <;> rw [hl] at h
      · simp at h
      · simp only [Prod.mk.injEq, Option.some.injEq] at h
        rw [← h.1, List.length_cons, List.length_cons, chL_len hl]

/-- A prefix that fails fails the whole list. -/
theorem chL_stop {F : FitF} {xs : List Bd} : ∀ {ts us : List Tm} {s s1 : Int}, chL F xs ts s = (none, s1) → chL F xs (ts ++ us) s = (none, s1)
  | [], us, s, s1, h => by simp [chL] at h
  | t :: ts, us, s, s1, h => by
    simp only [List.cons_append, chL] at h ⊢
    rcases hc : chM F xs t s with ⟨_ | p, s2⟩ <;> rw [hc] at h
    · exact h
    · simp only at h ⊢
      rcases hl : chL F xs ts s2 with ⟨_ | qs, s3⟩ <;> rw [hl] at h
      · simp only at h
        rw [chL_stop hl]
        exact h
      · simp at h

theorem chL_take {F : FitF} {xs : List Bd} {ts : List Tm} {j : Nat} (h : j < ts.length) (s : Int) : chL F xs (ts.take (j + 1)) s = match chL F xs (ts.take j) s with
    | (none, s1) => (none, s1)
    | (some ps, s1) => match chM F xs ts[j] s1 with
      | (none, s2) => (none, s2)
      | (some p, s2) => (some (ps ++ [p]), s2) := by
  rw [List.take_succ_eq_append_getElem h]
  exact chL_snoc F xs _ _ s

theorem chL_none {F : FitF} {xs : List Bd} {ts : List Tm} {j : Nat} {s s1 : Int} (h : chL F xs (ts.take j) s = (none, s1)) : chL F xs ts s = (none, s1) := by
  have := chL_stop (us := ts.drop j) h
  rwa [List.take_append_drop] at this
end Go.Proofs.YtffmpjcjmffdeaaDoor

namespace Go.Proofs.YtffmpjcjmffdeaaDoor
open Go.RowKit

set_option maxHeartbeats 2000000 in
set_option maxRecDepth 100000 in
theorem l3Two_any (k : Int) (t u : Ty) (v1 v2 : Value) (f1 f2 : List Nat) (w : World) (h1 : t.At w v1 f1) (h2 : u.At w v2 f2) (hn1 : t.cnt ≤ 1048576) (hn2 : u.cnt ≤ 1048576) :
    Calls Tryd.prog 114 #[.int .i64 k, v1, v2] w (MadeTB w (.mk k [t, u]) (vld (.mk k [t, u]))) := by
  obtain ⟨k1, n1, a1, c1, rfl⟩ := h1.agg
  obtain ⟨k2, n2, a2, c2, rfl⟩ := h2.agg
  have hB := ((((Below.refl w.heap.size w).alloc (Nat.le_refl _) (Obj.cells #[.int .i64 k1, .slice a1 n1 c1] 32)).alloc (by simp) (Obj.cells #[.int .i64 k2, .slice a2 n2 c2] 32)).alloc (by simp; omega) (Obj.cells #[.int .i64 0, .slice none 0 0] 32))
  have H1 := hid (h1.below hB)
  have H2 := hid (h2.below hB)
  obtain ⟨x0, x1, x2, x3, r0, r1, rz⟩ := boxes3 (Below.refl (((w.alloc (Obj.cells #[.int .i64 k1, .slice a1 n1 c1] 32)).alloc (Obj.cells #[.int .i64 k2, .slice a2 n2 c2] 32)).alloc (Obj.cells #[.int .i64 0, .slice none 0 0] 32)).heap.size (((w.alloc (Obj.cells #[.int .i64 k1, .slice a1 n1 c1] 32)).alloc (Obj.cells #[.int .i64 k2, .slice a2 n2 c2] 32)).alloc (Obj.cells #[.int .i64 0, .slice none 0 0] 32)))
  have hs3 : (((w.alloc (Obj.cells #[.int .i64 k1, .slice a1 n1 c1] 32)).alloc (Obj.cells #[.int .i64 k2, .slice a2 n2 c2] 32)).alloc (Obj.cells #[.int .i64 0, .slice none 0 0] 32)).heap.size = w.heap.size + 1 + 1 + 1 := by simp
  have HS3 := hid hs3
  have HB := hid hB
  have RZ := hid rz
  clear h1 h2 hB hs3 rz
  go_enter Tryd.func114, Tryd.ntmps114
  go_wp2_with fail
  generalize (((w.alloc (Obj.cells #[.int .i64 k1, .slice a1 n1 c1] 32)).alloc (Obj.cells #[.int .i64 k2, .slice a2 n2 c2] 32)).alloc (Obj.cells #[.int .i64 0, .slice none 0 0] 32)) = Z at *
  go_cut [8] (fun s8 wx => ∃ (b8 : Nat) (k3 : Int) (n3 : Nat) (c3 : Option Addr) (cap3 : Nat) (g3 : List Nat), s8 = .pointer (some ⟨b8, 0, none⟩) ∧ Z.heap.size ≤ b8 ∧ Below Z.heap.size Z wx ∧ wx.cell? ⟨b8, 0, none⟩ = some (.int .i64 k3) ∧ wx.cell? ⟨b8, 1, none⟩ = some (.slice c3 n3 cap3) ∧ (Ty.mk k [t, u]).At wx (.agg #[.int .i64 k3, .slice c3 n3 cap3]) g3 ∧ Fresh Z.heap.size wx g3)
  case first =>
    go_region_held3 (fun w' => (Below Z.heap.size Z w' ∧ w'.cell? ⟨w.heap.size, 0, none⟩ = some (.int .i64 k1) ∧ w'.cell? ⟨w.heap.size, 1, none⟩ = some (.slice a1 n1 c1) ∧ w'.cell? ⟨w.heap.size + 1, 0, none⟩ = some (.int .i64 k2) ∧ w'.cell? ⟨w.heap.size + 1, 1, none⟩ = some (.slice a2 n2 c2)))
      ((refine (fun hB => ⟨hB, cell_keep x0 hB, cell_keep x1 hB, cell_keep x2 hB, cell_keep x3 hB⟩ : Below Z.heap.size Z _ → _) ?_; (first | exact below_drew Z | exact hk2 | exact hk1 | (go_split_ands; first | exact Below.alloc (by assumption) (Below.size (by assumption)) _ | exact ((hk2.setCell (by first | exact hk1.size | exact Nat.le_refl _ | (simp; done)) _).setCell (by first | exact hk1.size | exact Nat.le_refl _ | (simp; done)) _).alloc (by have := hk2.size; simp; omega) _ | exact (hk2.alloc hk2.size _).alloc (by have := hk2.size; simp; omega) _ | exact ((hk2.alloc hk2.size _).setCell (by first | exact hk1.size | exact Nat.le_refl _ | (simp; done)) _).setCell (by first | exact hk1.size | exact Nat.le_refl _ | (simp; done)) _ | exact (((hk2.alloc hk2.size _).alloc (by have := hk2.size; simp; omega) _).setCell (by have := hk2.size; simp; omega) _).setCell (by have := hk2.size; simp; omega) _))))
      (first
        | (go_at_call 124; have hk0 := hk1; go_split_ands; refine (l1Copy_any u _ _ _ (H2.out.below (by assumption)) hn2).mono ?_; rintro e y2 ⟨u2, g2, rfl, hu2, hg2, hy2⟩; obtain ⟨k4, n4, a4, c4, rfl⟩ := hu2.agg; have hk2 : Below Z.heap.size Z y2 := below_trans (by assumption) hy2; have hY : Below y1.heap.size y1 y2 := (by first | exact hy2 | exact alloc1 hy2); have HU1 := hid (hu1.below hY); have HG1 : Hid (Fresh Z.heap.size y2 g1) := hid ((hg1.below hY).mono (by first | exact Nat.le_refl _ | simp)); have HG2 : Hid (Fresh y1.heap.size y2 g2) := hid (hg2.mono (by first | exact Nat.le_refl _ | simp)); have HMM := hid (fun b (hb : b ∈ g1) => (hg1.2 b hb).2.1); have HGA := hid hg1; have HGB := hid hg2; have HSA := hid (And.intro hk1.size hk2.size); (first | have Q2 := (hy2.block _ (lt_of_block Q1)).trans Q1 | have Q2 := (hy2.block y1.heap.size (by simp)).trans (alloc_new y1 _) | skip); (first | (have f0 := frozen_of_block (o := 0) Q2; have f1 := frozen_of_block (o := 1) Q2; have f2 := (cell_of_block (o := 0) Q2); have f3 := (cell_of_block (o := 1) Q2); have f4 := lt_of_block Q2; have f5 := Nat.ne_of_lt f4) | skip))
        | (go_at_call 124; go_split_ands; refine (l1Copy_any t _ _ _ (H1.out.below (by assumption)) hn1).mono ?_; rintro e y1 ⟨u1, g1, rfl, hu1, hg1, hy1⟩; obtain ⟨k3, n3, a3, c3, rfl⟩ := hu1.agg; have hk1 : Below Z.heap.size Z y1 := below_trans (by assumption) hy1; (first | have Q1 : y1.heap[Z.heap.size]? = some (Obj.cells #[.int .i64 0, .slice none 0 0] 32) := (hy1.block Z.heap.size (by first | (show Z.heap.size < (Z.alloc _).heap.size; simp) | simp)).trans (alloc_new Z _) | skip)))
    all_goals
      go_wp2_with fail
      go_meet
      go_split_ands
      first
        | (refine ⟨y2.heap.size + 1, k, 2, some ⟨y2.heap.size, 0, none⟩, 2, y2.heap.size :: (g1 ++ (g2 ++ [])), ?_, ?_, ?_, ?_, ?_, ?_⟩; (with_reducible rfl); (have h9 := HSA.out; omega); (first | with_reducible assumption | exact (hk2.alloc hk2.size _).alloc (by have := hk2.size; simp; omega) _); (rw [cell_of_block (fin_a _ _).2.1]; rfl); (rw [cell_of_block (fin_a _ _).2.1]; rfl); exact two_in HU1.out hu2 HG1.out HG2.out HMM.out HSA.out.1 HSA.out.2 (Nat.le_refl _) (fin_a _ _).1 (fin_a _ _).2.2 (fun b hb => Nat.ne_of_lt (HG1.out.2 b hb).2.1) (fun b hb => Nat.ne_of_lt (HG2.out.2 b hb).2.1))
        | (refine ⟨y1.heap.size, k, 2, some ⟨y2.heap.size, 0, none⟩, 2, y2.heap.size :: (g1 ++ (g2 ++ [])), ?_, ?_, ?_, ?_, ?_, ?_⟩; (with_reducible rfl); (have h9 := HSA.out; omega); (first | with_reducible assumption | exact (hk2.alloc hk2.size _).alloc (by have := hk2.size; simp; omega) _); (rw [cell_of_block (fin_b Q2 _ _ _).2.1]; rfl); (rw [cell_of_block (fin_b Q2 _ _ _).2.1]; rfl); exact two_in HU1.out hu2 HG1.out HG2.out HMM.out HSA.out.1 HSA.out.2 (Nat.le_refl _) (fin_b Q2 _ _ _).1 (fin_b Q2 _ _ _).2.2 (fun b hb => Nat.ne_of_lt (HGA.out.2 b hb).2.1) (fun b hb => by have h5 := (HGB.out.2 b hb).1; simp at h5; omega))
        | (refine ⟨Z.heap.size, k, 2, some ⟨y2.heap.size, 0, none⟩, 2, y2.heap.size :: (g1 ++ (g2 ++ [])), ?_, ?_, ?_, ?_, ?_, ?_⟩; (with_reducible rfl); (have h9 := HSA.out; omega); (first | with_reducible assumption | exact (hk2.alloc hk2.size _).alloc (by have := hk2.size; simp; omega) _); (rw [cell_of_block (fin_b Q2 _ _ _).2.1]; rfl); (rw [cell_of_block (fin_b Q2 _ _ _).2.1]; rfl); exact two_in HU1.out hu2 HG1.out HG2.out HMM.out HSA.out.1 HSA.out.2 (Nat.le_refl _) (fin_b Q2 _ _ _).1 (fin_b Q2 _ _ _).2.2 (fun b hb => by have h5 := (HGA.out.2 b hb).1; simp at h5; omega) (fun b hb => by have h5 := (HGB.out.2 b hb).1; have h6 := hy1.size; simp at h5 h6; omega))
        | (refine ⟨y2.heap.size, k, 2, some ⟨y2.heap.size + 1, 0, none⟩, 2, (y2.heap.size + 1) :: (g1 ++ (g2 ++ [])), ?_, ?_, ?_, ?_, ?_, ?_⟩; (with_reducible rfl); (have h9 := HSA.out; omega); (first | with_reducible assumption | exact (hk2.alloc hk2.size _).alloc (by have := hk2.size; simp; omega) _); (rw [cell_of_block (fin_a _ _).1]; rfl); (rw [cell_of_block (fin_a _ _).1]; rfl); exact two_in HU1.out hu2 HG1.out HG2.out HMM.out HSA.out.1 HSA.out.2 (by omega) (fin_a _ _).2.1 (fin_a _ _).2.2 (fun b hb => Nat.ne_of_lt (HG1.out.2 b hb).2.1) (fun b hb => Nat.ne_of_lt (HG2.out.2 b hb).2.1))
  case rest =>
  obtain ⟨b8, k3, n3, c3, cap3, g3, rfl, hb8, hb, e0, e1, hat, hf⟩ := hcut
  have q0 : wc.cell? ⟨w.heap.size + 1 + 1, 0, none⟩ = some (.int .i64 0) := cell_keep r0 hb
  have q1 : wc.cell? ⟨w.heap.size + 1 + 1, 1, none⟩ = some (.slice none 0 0) := cell_keep r1 hb
  have hlt : w.heap.size + 1 + 1 < wc.heap.size := by have := hb.size; have := HS3.out; omega
  have qz : ∀ o, wc.frozen? ⟨w.heap.size + 1 + 1, o, none⟩ = false := fun o => (hb.frozen (p := ⟨w.heap.size + 1 + 1, o, none⟩) (by have := HS3.out; simp; omega)).trans (RZ.out o)
  have hne : b8 ≠ w.heap.size + 1 + 1 := by have := HS3.out; omega
  have HAT := hid hat
  have HF := hid hf
  have HBB := hid hb
  have HE := hid (And.intro e0 e1)
  have S0 := hid (show wc.drew.cell? ⟨b8, 0, none⟩ = some (.int .i64 k3) ∧ wc.drew.cell? ⟨b8, 1, none⟩ = some (.slice c3 n3 cap3) from ⟨cell_keep e0 (below_drew wc), cell_keep e1 (below_drew wc)⟩)
  clear hat hf hb x0 x1 x2 x3 r0 r1
  go_wp2_with fail
  go_region_held3 (fun w' => w'.cell? ⟨b8, 0, none⟩ = some (.int .i64 k3) ∧ w'.cell? ⟨b8, 1, none⟩ = some (.slice c3 n3 cap3))
    ((first | with_reducible exact S0.out | with_reducible exact S1.out | with_reducible exact S2.out _ _))
    (first
      | (go_at_call 108; refine (specTypeValid_any (.mk k [t, u]) _ _ _ (HAT.out.below (below_drew wc))).mono ?_; rintro e y3 ⟨rfl, hy3⟩; have hk3 := below_trans (below_drew wc) hy3; have S1 := hid (show y3.cell? ⟨b8, 0, none⟩ = some (.int .i64 k3) ∧ y3.cell? ⟨b8, 1, none⟩ = some (.slice c3 n3 cap3) from ⟨cell_keep HE.out.1 hk3, cell_keep HE.out.2 hk3⟩); have S2 := hid (fun x z => (show ((y3.setCell ⟨w.heap.size + 1 + 1, 0, none⟩ x).setCell ⟨w.heap.size + 1 + 1, 1, none⟩ z).cell? ⟨b8, 0, none⟩ = some (.int .i64 k3) ∧ ((y3.setCell ⟨w.heap.size + 1 + 1, 0, none⟩ x).setCell ⟨w.heap.size + 1 + 1, 1, none⟩ z).cell? ⟨b8, 1, none⟩ = some (.slice c3 n3 cap3) from ⟨two_set_keep S1.out.1 hne _ _, two_set_keep S1.out.2 hne _ _⟩)); have p0 := cell_keep q0 hk3; have p1 := cell_keep q1 hk3; have hlt3 : w.heap.size + 1 + 1 < y3.heap.size := Nat.lt_of_lt_of_le hlt hk3.size; have pz : ∀ o, y3.frozen? ⟨w.heap.size + 1 + 1, o, none⟩ = false := fun o => (hk3.frozen (p := ⟨w.heap.size + 1 + 1, o, none⟩) hlt).trans (qz o)))
  have hkr := keepR (R := w.heap.size + 1 + 1) (x := .int .i64 k3) (y := .slice c3 n3 cap3) (HAT.out.below hk3) (HF.out.below hk3) (by have := HS3.out; omega)
  have hbb := ((HB.out.trans ((HBB.out.trans (hk3.mono HBB.out.size)).mono HB.out.size)).setCell (p := ⟨w.heap.size + 1 + 1, 0, none⟩) (by simp; omega) (.int .i64 k3)).setCell (p := ⟨w.heap.size + 1 + 1, 1, none⟩) (by simp; omega) (.slice c3 n3 cap3)
  have FIN := hid (And.intro hkr hbb)
  have HZ := hid HB.out.size
  clear hkr hbb HB HBB HAT HF HE S0 S1 S2 hk3 hy3
  go_wp2_with fail
  exact bodyPost_ret (v := .tuple #[.agg #[.int .i64 k3, .slice c3 n3 cap3], .bool (vld (.mk k [t, u]))]) (by simp [results, Tryd.results114, go_sem, p0, p1]) rfl ⟨_, g3, rfl, FIN.out.1.1, FIN.out.1.2.mono HZ.out, FIN.out.2⟩
end Go.Proofs.YtffmpjcjmffdeaaDoor
