/- TypeSame, of the program. Precision, depth and the number of unknowns: plainly. Meets, plainly: static types, and the number of unknowns. Meets absorb joins, plainly. The order of types, plainly: what the drawn laws on meets, joins, ground types, static types and the relations of chapter 8 want. Typing, plainly: the types of terms, the rules of the program's check, and that both agree. The program's check by consistency gives the document's types, and these are valid. The blocks of a tree are blocks of cells. What a typing of the specification says. -/
import Derived.Laws.EntriesVeiled
import Derived.Test.YtffmpjcjmffdeaaDoorRSmI
import Derived.Test.YtffmpjcjmffdeaaDoorRPkA
import Derived.Test.YtffmpjcjmffdeaaDoorRG1
import Derived.Test.YtffmpjcjmffdeaaDoorRG11
import Derived.Test.YtffmpjcjmffdeaaDoorRG6
import Derived.Test.YtffmpjcjmffdeaaDoorRPkB
namespace Go.Proofs.YtffmpjcjmffdeaaDoor
open Go.RowKit

theorem second_new (w : World) (X Y : Obj) : ((w.alloc X).alloc Y).heap[w.heap.size + 1]? = some Y := by
  have hs : (w.alloc X).heap.size = w.heap.size + 1 := by simp
  rw [← hs]
  exact alloc_new _ _

set_option maxHeartbeats 400000 in
theorem compareTypes_any (w : World) : Calls Tryd.prog 84 #[] w fun e w' => ∃ M, e = .returned (.agg #[.map (some M), .func (.func 136) #[] #[], .func (.func 137) #[] #[]]) ∧ w'.heap[M]? = some (.map #[] 0) ∧ w.heap.size ≤ M ∧ Below w.heap.size w w' := by
  have hmm := @run_makeMap Tryd.prog
  go_enter Tryd.func84, Tryd.ntmps84
  go_wp2_with fail

  exact bodyPost_ret (v := .agg #[.map (some (w.heap.size + 1)), .func (.func 136) #[] #[], .func (.func 137) #[] #[]]) (by simp [results, Tryd.results84, go_sem]) rfl ⟨w.heap.size + 1, rfl, second_new _ _ _, by omega, ((Below.refl _ _).alloc (Nat.le_refl _) _).alloc (by simp) _⟩

theorem Raw.below {w w' : World} {b : Nat} (h : Raw w b) (hb : Below w.heap.size w w') : Raw w' b := by
  obtain ⟨⟨C, T, fz, hC⟩, hf⟩ := h
  exact ⟨⟨C, T, fz, (hb.block b (lt_of_block hC)).trans hC⟩, fun o => (hb.frozen (p := ⟨b, o, none⟩) (lt_of_block hC)).trans (hf o)⟩

set_option maxHeartbeats 1000000 in
theorem implTypeSame (t u : Ty) (v1 v2 : Value) (f1 f2 : List Nat) (w : World) (hn : t.cnt ≤ 16777216) (h1 : t.At w v1 f1) (h2 : u.At w v2 f2) (r1 : ∀ x ∈ f1, Raw w x) (r2 : ∀ x ∈ f2, Raw w x) :
    Calls Tryd.prog 203 #[v1, v2] w fun e w' => e = .returned (.bool (tyEq t u)) ∧ Below w.heap.size w w' := by
  obtain ⟨k, n, a, cap, rfl⟩ := h1.agg
  obtain ⟨k', n2, a2, cap2, rfl⟩ := h2.agg
  have hal : Below w.heap.size w ((w.alloc (Obj.cells #[.int .i64 k, .slice a n cap] 32)).alloc (Obj.cells #[.int .i64 k', .slice a2 n2 cap2] 32)) := ((Below.refl _ _).alloc (Nat.le_refl _) _).alloc (by simp) _
  have HA := hid hal
  have H1 := hid (And.intro h1 h2)
  have HR := hid (And.intro r1 r2)
  clear hal h1 h2 r1 r2
  go_enter Tryd.func203, Tryd.ntmps203
  go_wp2_with fail
  refine (compareTypes_any _).mono ?_
  rintro e w1 ⟨M, rfl, hM, hMlt, hb⟩
  have hb2 := HA.out.trans (hb.mono HA.out.size)
  obtain ⟨x0, x1, x2, x3⟩ := box_cells2 hb
  have hkA := (hb.block w.heap.size (by simp; omega)).trans ((Below.heap_alloc _ _ _ (by simp)).trans (alloc_new w _))
  have hkB : w1.heap[w.heap.size + 1]? = some (Obj.cells #[.int .i64 k', .slice a2 n2 cap2] 32) := by
    rw [hb.block (w.heap.size + 1) (by simp)]
    have hs : (w.alloc (Obj.cells #[.int .i64 k, .slice a n cap] 32)).heap.size = w.heap.size + 1 := by simp
    rw [← hs]
    exact alloc_new _ _
  have hA : NdAt w1 t (w.heap.size, 0) := ⟨k, _, f1, x0, x1, H1.out.1.below hb2, ⟨⟨_, _, _, hkA⟩, fun o => frozen_of_block hkA⟩, fun x hx => (HR.out.1 x hx).below hb2⟩
  have hB : NdAt w1 u (w.heap.size + 1, 0) := ⟨k', _, f2, x2, x3, H1.out.2.below hb2, ⟨⟨_, _, _, hkB⟩, fun o => frozen_of_block hkB⟩, fun x hx => (HR.out.2 x hx).below hb2⟩
  have HAB := hid (And.intro hA (And.intro hB hM))
  have HB2 := hid hb2
  have HML : w.heap.size ≤ M := by simp at hMlt; omega
  clear hA hB hkA hkB hb hb2 x0 x1 x2 x3 hM hMlt
  go_wp2_with fail
  refine (same_any t u _ 0 _ 0 M _ 0 _ hn HAB.out.1 HAB.out.2.1 HAB.out.2.2 (fun e he => by simp at he)).mono ?_
  rintro e w2 ⟨r, rfl, hr, hx, -⟩
  have hbb := HB2.out.trans (hx.below HB2.out.size HML)
  have hre : tyEq t u = r := by
    cases r with
    | true => rw [hr.1 rfl, tyEq_refl]
    | false =>
      cases h : tyEq t u with
      | false => rfl
      | true => cases hr.2 (eq_of_tyEq h)
  have HRE := hid hre
  clear hx hr hre
  go_wp2_with fail
  go_ret
  exact ⟨ret_b HRE.out.symm, hbb⟩
end Go.Proofs.YtffmpjcjmffdeaaDoor

namespace Go.Proofs.YtffmpjcjmffdeaaDoor
open Go.RowKit

theorem any_only9 {d : Nat} {a : Ty} (ha : shp (d + 1) a = true) (h : kindT a = 1) : a = .mk 1 [] := by
  obtain ⟨k, ts, rfl⟩ := a.shape
  have hk : k = 1 := h
  subst hk
  simp only [shp, Bool.and_eq_true, beq_iff_eq] at ha
  have h0 : kidsOf 1 = 0 := by decide
  have : ts.length = 0 := by omega
  rw [List.length_eq_zero_iff.1 this]

end Go.Proofs.YtffmpjcjmffdeaaDoor

namespace Go.Proofs.YtffmpjcjmffdeaaDoor
open Go.RowKit


theorem meet_any1 (b : Ty) : meet (.mk 1 []) b = b := by
  obtain ⟨k, ts, rfl⟩ := b.shape
  simp [meet]

theorem meet_any2 {a : Ty} (h : kindT a ≠ 1) : meet a (.mk 1 []) = a := by
  obtain ⟨k, ts, rfl⟩ := a.shape
  have hk : k ≠ 1 := h
  simp [meet, hk]

theorem meet_two {k : Int} (hk : k ≠ 1) (x y x' y' : Ty) : meet (.mk k [x, y]) (.mk k [x', y']) = .mk k [meet x x', meet y y'] := by
  simp [meet, meetL, hk]

theorem meet_leaf {k : Int} (hk : k ≠ 1) : meet (.mk k []) (.mk k []) = .mk k [] := by
  simp [meet, meetL, hk]

end Go.Proofs.YtffmpjcjmffdeaaDoor

namespace Go.Proofs.YtffmpjcjmffdeaaDoor
open Go.RowKit


theorem meet_unk (a : Ty) {d : Nat} (ha : shp (d + 1) a = true) : meet a (.mk 1 []) = a := by
  by_cases h : kindT a = 1
  · rw [any_only9 ha h, meet_any1]
  · exact meet_any2 h

end Go.Proofs.YtffmpjcjmffdeaaDoor

namespace Go.Proofs.YtffmpjcjmffdeaaDoor
open Go.RowKit

mutual
theorem tyEq_eq : ∀ (t u : Ty), tyEq t u = true → t = u
  | .mk k ts, .mk k' us, h => by
    simp only [tyEq, Bool.and_eq_true, beq_iff_eq] at h
    rw [h.1, tyEqL_eq ts us h.2]
theorem tyEqL_eq : ∀ (ts us : List Ty), tyEqL ts us = true → ts = us
  | [], [], _ => rfl
  | [], _ :: _, h => by simp [tyEqL] at h
  | _ :: _, [], h => by simp [tyEqL] at h
  | t :: ts, u :: us, h => by
    simp only [tyEqL, Bool.and_eq_true] at h
    rw [tyEq_eq t u h.1, tyEqL_eq ts us h.2]
end

theorem tyEq_ne {t u : Ty} (h : t ≠ u) : tyEq t u = false := by
  cases he : tyEq t u with
  | false => rfl
  | true => exact absurd (tyEq_eq t u he) h

theorem prec_refl8 : ∀ (d : Nat) (a : Ty), shp d a = true → prec a a = true
  | 0, a, ha => by simp [shp] at ha
  | d + 1, a, ha => by
    by_cases ha1 : kindT a = 1
    · exact prec_any ha1
    · cases sameK_of ha ha ha1 rfl with
      | leaf k hk => exact prec_leaf
      | two k x y x' y' hk hx hy hx' hy' => rw [prec_two hk, prec_refl8 d x hx, prec_refl8 d y hy]; rfl

/-- What is at least as precise as a type that is not unknown has its kind. -/
theorem prec_same {d : Nat} {c a : Ty} (hc : shp (d + 1) c = true) (ha : shp (d + 1) a = true) (ha1 : kindT a ≠ 1) (h : prec c a = true) : kindT c ≠ 1 ∧ kindT c = kindT a ∧ SameK d c a := by
  rcases prec_kind h with h1 | h1
  · exact absurd h1 ha1
  · have hc1 : kindT c ≠ 1 := by rw [h1]; exact ha1
    exact ⟨hc1, h1, sameK_of hc ha hc1 h1⟩

theorem shp_two8 {d : Nat} {k : Int} {x y : Ty} (hk : k = 4 ∨ k = 5) (hx : shp d x = true) (hy : shp d y = true) : shp (d + 1) (.mk k [x, y]) = true := by
  simp only [shp, List.all_cons, List.all_nil, hx, hy, Bool.and_true]
  rcases hk with rfl | rfl <;> rfl

/-- Meets are greatest lower bounds. -/
theorem meet_glb : ∀ (d : Nat) (a b : Ty), shp d a = true → shp d b = true → cons a b = true → shp d (meet a b) = true ∧ prec (meet a b) a = true ∧ prec (meet a b) b = true ∧ meet a b = meet b a ∧ (∀ c, shp d c = true → prec c a = true → prec c b = true → prec c (meet a b) = true)
  | 0, a, _, ha, _, _ => by simp [shp] at ha
  | d + 1, a, b, ha, hb, h => by
    rcases rel_cases ha hb with h1 | h1 | ⟨h1, h2, h3⟩ | ⟨h1, h2, hs⟩
    · rw [any_only9 ha h1, meet_any1]
      refine ⟨hb, prec_any rfl, prec_refl8 _ _ hb, (meet_unk b hb).symm, fun c _ _ h => h⟩
    · rw [any_only9 hb h1, meet_unk a ha]
      refine ⟨ha, prec_refl8 _ _ ha, prec_any rfl, (meet_any1 a).symm, fun c _ h _ => h⟩
    · rw [cons_diff h1 h2 h3] at h
      cases h
    · cases hs with
      | leaf k hk =>
        rw [meet_leaf (show k ≠ 1 by omega)]
        exact ⟨ha, prec_leaf, prec_leaf, rfl, fun c _ h _ => h⟩
      | two k x y x' y' hk hx hy hx' hy' =>
        rw [cons_two hk, Bool.and_eq_true] at h
        have hk1 : k ≠ 1 := by omega
        obtain ⟨a1, a2, a3, a5, a4⟩ := meet_glb d _ _ hx hx' h.1
        obtain ⟨b1, b2, b3, b5, b4⟩ := meet_glb d _ _ hy hy' h.2
        rw [meet_two hk1, meet_two hk1, prec_two hk, prec_two hk, a2, a3, b2, b3, ← a5, ← b5]
        refine ⟨shp_two8 hk a1 b1, rfl, rfl, rfl, fun c hc h1c h2c => ?_⟩
        obtain ⟨c1, c2, cs⟩ := prec_same hc ha h1 h1c
        cases cs with
        | two k' p q p' q' hk' hp hq hp' hq' =>
          rw [prec_two hk, Bool.and_eq_true] at h1c h2c ⊢
          exact ⟨a4 p hp h1c.1 h2c.1, b4 q hq h1c.2 h2c.2⟩

theorem prec_anti : ∀ (d : Nat) (a b : Ty), shp d a = true → shp d b = true → prec a b = true → prec b a = true → a = b
  | 0, a, _, ha, _, _, _ => by simp [shp] at ha
  | d + 1, a, b, ha, hb, h1, h2 => by
    by_cases hb1 : kindT b = 1
    · rcases prec_kind h2 with h | h
      · rw [any_only9 ha h, any_only9 hb hb1]
      · rw [any_only9 ha (by omega), any_only9 hb hb1]
    · obtain ⟨c1, c2, cs⟩ := prec_same ha hb hb1 h1
      cases cs with
      | leaf k hk => rfl
      | two k p q p' q' hk hp hq hp' hq' =>
        rw [prec_two hk, Bool.and_eq_true] at h1 h2
        rw [prec_anti d p p' hp hp' h1.1 h2.1, prec_anti d q q' hq hq' h1.2 h2.2]

theorem prec_meet (d : Nat) (a b : Ty) (ha : shp d a = true) (hb : shp d b = true) (h : cons a b = true) : prec a b = tyEq (meet a b) a := by
  obtain ⟨m1, m2, m3, m5, m4⟩ := meet_glb d a b ha hb h
  cases hp : prec a b with
  | true =>
    have h1 := m4 a ha (prec_refl8 d a ha) hp
    have := prec_anti d (meet a b) a m1 ha m2 h1
    rw [this, tyEq_refl]
  | false =>
    symm
    refine tyEq_ne fun e => ?_
    rw [e, hp] at m3
    cases m3

theorem meetOf_glb (a b : Ty) (h : consOf a b = true) : vld (meetOf a b) = true ∧ precOf (meetOf a b) a = true ∧ precOf (meetOf a b) b = true ∧ meetOf b a = meetOf a b ∧ consOf b a = true ∧ (∀ c, precOf c a = true → precOf c b = true → precOf c (meetOf a b) = true) ∧ precOf a b = tyEq (meetOf a b) a := by
  have hm : meetOf a b = meet a b := by unfold meetOf; rw [if_pos h]
  simp only [consOf, Bool.and_eq_true] at h
  obtain ⟨⟨ha, hb⟩, hc⟩ := h
  obtain ⟨m1, m2, m3, m5, m4⟩ := meet_glb 4 a b ha hb hc
  have hv : vld (meet a b) = true := m1
  have hcc : consOf b a = true := by simp only [consOf, ha, hb, Bool.true_and]; exact cons_comm8 4 a b ha hb hc
  rw [hm]
  refine ⟨hv, by simp only [precOf, hv, ha, m2]; rfl, by simp only [precOf, hv, hb, m3]; rfl, by unfold meetOf; rw [if_pos hcc, m5], hcc, fun c h1 h2 => ?_, ?_⟩
  · simp only [precOf, Bool.and_eq_true] at h1 h2 ⊢
    exact ⟨⟨h1.1.1, hv⟩, m4 c h1.1.1 h1.2 h2.2⟩
  · simp only [precOf, ha, hb, Bool.true_and]
    exact prec_meet 4 a b ha hb hc

end Go.Proofs.YtffmpjcjmffdeaaDoor

namespace Go.Proofs.YtffmpjcjmffdeaaDoor
open Go.RowKit

def tI : Ty := .mk 2 []
def tB : Ty := .mk 3 []
def nth (us : List Ty) (i : Nat) : Ty := us.getD i (.mk 0 [])
def twoV (k : Int) (t u : Ty) : Option Ty := if vld (.mk k [t, u]) = true then some (.mk k [t, u]) else none

def inS (xs : List Bd) (k : Int) (nm : ByteArray) (ty : Ty) : List Bd := if k = 5 then ⟨nm, ty⟩ :: xs else xs


/-- What the operands are wanted to have, and the type of the node. -/
def ruleM (xs : List Bd) (k : Int) (nm : ByteArray) (ty fr : Ty) (us : List Ty) : Option (List Ty × Ty) :=
  if k = 1 then (look xs nm).map fun t => ([], t)
  else if k = 2 then some ([], tI)
  else if k = 3 ∨ k = 4 then some ([], tB)
  else if k = 5 then some (us, .mk 4 [ty, nth us 0])
  else if k = 6 then (if mtOk 4 (nth us 0) = true then some ([.mk 4 [mtOf 4 0 (nth us 0), mtOf 4 1 (nth us 0)], mtOf 4 0 (nth us 0)], mtOf 4 1 (nth us 0)) else none)
  else if k = 7 then some ([tI, tI], tI)
  else if k = 8 then some ([tI, tI], tB)
  else if k = 9 then (if consOf (nth us 1) (nth us 2) = true then some ([tB, meetOf (nth us 1) (nth us 2), meetOf (nth us 1) (nth us 2)], meetOf (nth us 1) (nth us 2)) else none)
  else if k = 10 then some (us, .mk 5 [nth us 0, nth us 1])
  else if k = 11 then (if mtOk 5 (nth us 0) = true then some ([.mk 5 [mtOf 5 0 (nth us 0), mtOf 5 1 (nth us 0)]], mtOf 5 0 (nth us 0)) else none)
  else if k = 12 then (if mtOk 5 (nth us 0) = true then some ([.mk 5 [mtOf 5 0 (nth us 0), mtOf 5 1 (nth us 0)]], mtOf 5 1 (nth us 0)) else none)
  else if k = 13 then some ([ty], ty)
  else if k = 14 then some ([fr], ty)
  else none

/-- What becomes of an operand; the number is the fitter's own state. -/
abbrev FitF := Int → Tm → Ty → Ty → Option Tm × Int

def fitL (F : FitF) : List Tm → List Ty → List Ty → Int → Option (List Tm) × Int
  | e :: es, u :: us, v :: vs, s => match F s e u v with
    | (none, s1) => (none, s1)
    | (some e', s1) => match fitL F es us vs s1 with
      | (none, s2) => (none, s2)
      | (some es', s2) => (some (e' :: es'), s2)
  | _, _, _, s => (some [], s)

def noTm : Tm := .mk 0 ⟨#[]⟩ 0 (.mk 0 []) (.mk 0 []) 0 []
def outM (k : Int) (nm : ByteArray) (num : Int) (ty fr : Ty) (lb : Int) (es : List Tm) : Tm := if k = 13 then es.getD 0 noTm else .mk k nm num ty fr lb es

/-- The node, when its operands are checked. -/
def chN (F : FitF) (xs : List Bd) (k : Int) (nm : ByteArray) (num : Int) (ty fr : Ty) (lb : Int) (es : List Tm) (us : List Ty) (s : Int) : Option (Tm × Ty) × Int :=
  match ruleM xs k nm ty fr us with
  | none => (none, s)
  | some (ws, r) => if vld r = true then (match fitL F es us ws s with
      | (none, s1) => (none, s1)
      | (some es', s1) => (some (outM k nm num ty fr lb es', r), s1)) else (none, s)

mutual
/-- The program's check. -/
def chM (F : FitF) (xs : List Bd) : Tm → Int → Option (Tm × Ty) × Int
  | .mk k nm num ty fr lb ts, s => match chL F (inS xs k nm ty) ts s with
    | (none, s1) => (none, s1)
    | (some ps, s1) => chN F xs k nm num ty fr lb (ps.map Prod.fst) (ps.map Prod.snd) s1
def chL (F : FitF) (xs : List Bd) : List Tm → Int → Option (List (Tm × Ty)) × Int
  | [], s => (some [], s)
  | t :: ts, s => match chM F xs t s with
    | (none, s1) => (none, s1)
    | (some p, s1) => match chL F xs ts s1 with
      | (none, s2) => (none, s2)
      | (some ps, s2) => (some (p :: ps), s2)
end

theorem chL_snoc (F : FitF) (xs : List Bd) : ∀ (ts : List Tm) (t : Tm) (s : Int), chL F xs (ts ++ [t]) s = match chL F xs ts s with
    | (none, s1) => (none, s1)
    | (some ps, s1) => match chM F xs t s1 with
      | (none, s2) => (none, s2)
      | (some p, s2) => (some (ps ++ [p]), s2)
  | [], t, s => by
    simp only [List.nil_append, chL]
    try (rcases chM F xs t s with ⟨_ | p, s1⟩ <;> simp)
  | u :: ts, t, s => by
    simp only [List.cons_append, chL]
    rcases chM F xs u s with ⟨_ | p, s1⟩
    · rfl
    · simp only [chL_snoc F xs ts t s1]
      rcases chL F xs ts s1 with ⟨_ | ps, s2⟩
      · rfl
      · simp only
        rcases chM F xs t s2 with ⟨_ | q, s3⟩ <;> simp

theorem chL_len {F : FitF} {xs : List Bd} : ∀ {ts : List Tm} {s s1 : Int} {ps : List (Tm × Ty)}, chL F xs ts s = (some ps, s1) → ps.length = ts.length
  | [], s, s1, ps, h => by simp only [chL, Prod.mk.injEq, Option.some.injEq] at h; rw [← h.1]; rfl
  | t :: ts, s, s1, ps, h => by
    simp only [chL] at h
    rcases hc : chM F xs t s with ⟨_ | p, s2⟩ <;> rw [hc] at h
    · simp at h
    · simp only at h
      rcases hl : chL F xs ts s2 with ⟨_ | qs, s3⟩ <;> rw [hl] at h
      · simp at h
      · simp only [Prod.mk.injEq, Option.some.injEq] at h
        rw [← h.1, List.length_cons, List.length_cons, chL_len hl]

/-- A prefix that fails fails the whole list. -/
theorem chL_stop {F : FitF} {xs : List Bd} : ∀ {ts us : List Tm} {s s1 : Int}, chL F xs ts s = (none, s1) → chL F xs (ts ++ us) s = (none, s1)
  | [], us, s, s1, h => by simp [chL] at h
  | t :: ts, us, s, s1, h => by
    simp only [List.cons_append, chL] at h ⊢
    rcases hc : chM F xs t s with ⟨_ | p, s2⟩ <;> rw [hc] at h
    · exact h
    · simp only at h ⊢
      rcases hl : chL F xs ts s2 with ⟨_ | qs, s3⟩ <;> rw [hl] at h
      · simp only at h
        rw [chL_stop hl]
        exact h
      · simp at h

theorem chL_take {F : FitF} {xs : List Bd} {ts : List Tm} {j : Nat} (h : j < ts.length) (s : Int) : chL F xs (ts.take (j + 1)) s = match chL F xs (ts.take j) s with
    | (none, s1) => (none, s1)
    | (some ps, s1) => match chM F xs ts[j] s1 with
      | (none, s2) => (none, s2)
      | (some p, s2) => (some (ps ++ [p]), s2) := by
  rw [List.take_succ_eq_append_getElem h]
  exact chL_snoc F xs _ _ s

theorem chL_none {F : FitF} {xs : List Bd} {ts : List Tm} {j : Nat} {s s1 : Int} (h : chL F xs (ts.take j) s = (none, s1)) : chL F xs ts s = (none, s1) := by
  have := chL_stop (us := ts.drop j) h
  rwa [List.take_append_drop] at this
end Go.Proofs.YtffmpjcjmffdeaaDoor

namespace Go.Proofs.YtffmpjcjmffdeaaDoor
open Go.RowKit

theorem shp_up9 : ∀ (d : Nat) (t : Ty), shp d t = true → shp (d + 1) t = true
  | 0, _, h => by simp [shp] at h
  | d + 1, .mk k ts, h => by
    simp only [shp, Bool.and_eq_true, List.all_eq_true] at h ⊢
    exact ⟨h.1, fun t ht => by have := shp_up9 d t (h.2 t ht); simpa only [shp] using this⟩

theorem consOf_self {u : Ty} (h : vld u = true) : consOf u u = true := by
  simp only [consOf, h, Bool.true_and]
  exact prec_cons 4 u u h h (prec_refl8 4 u h)

theorem consOf_eq {u v : Ty} (h : vld u = true) (h' : vld v = true) : consOf u v = cons u v := by simp [consOf, h, h']

theorem vld_I : vld tI = true := by decide
theorem vld_B : vld tB = true := by decide

theorem vld_kid {k : Int} {ts : List Ty} (h : vld (.mk k ts) = true) {t : Ty} (ht : t ∈ ts) : vld t = true := by
  simp only [vld, shp, Bool.and_eq_true, List.all_eq_true] at h
  exact shp_up9 3 t (h.2 t ht)

theorem mt_parts {q : Int} (hq : q = 4 ∨ q = 5) {u : Ty} (h : mtOk q u = true) :
    vld (mtOf q 0 u) = true ∧ vld (mtOf q 1 u) = true ∧ consOf u (.mk q [mtOf q 0 u, mtOf q 1 u]) = true := by
  obtain ⟨k, ts, rfl⟩ := u.shape
  have h0 := h
  simp only [mtOk, Bool.and_eq_true, Bool.or_eq_true, beq_iff_eq, knd] at h0
  obtain ⟨hv, hk⟩ := h0
  by_cases h1 : k = 1
  · subst h1
    rw [(mt_any hv).2, (mt_any hv).2]
    have hq1 : vld (.mk q [.mk 1 [], .mk 1 []]) = true := by rcases hq with rfl | rfl <;> decide
    refine ⟨by decide, by decide, ?_⟩
    simp [consOf, hv, hq1, cons]
  · have hkq : k = q := by rcases hk with hk | hk; exact absurd hk h1; exact hk
    subst hkq
    obtain ⟨a, b, rfl⟩ := two_of hq hv
    obtain ⟨-, ha, hb⟩ := mt_two hq hv
    rw [ha, hb]
    exact ⟨vld_kid hv (by simp), vld_kid hv (by simp), consOf_self hv⟩

theorem meetOf_fit {a b : Ty} (h : consOf a b = true) : vld (meetOf a b) = true ∧ consOf a (meetOf a b) = true ∧ consOf b (meetOf a b) = true ∧ meetOf a b = meet a b := by
  obtain ⟨h1, h2, h3, -, -, -, -⟩ := meetOf_glb a b h
  have hv := h
  simp only [consOf, Bool.and_eq_true] at hv
  have hp : ∀ c, vld c = true → precOf (meetOf a b) c = true → consOf c (meetOf a b) = true := fun c hc hpc => by
    simp only [precOf, Bool.and_eq_true] at hpc
    rw [consOf_eq hc h1]
    exact cons_comm8 4 _ _ h1 hc (prec_cons 4 _ _ h1 hc hpc.2)
  exact ⟨h1, hp a hv.1.1 h2, hp b hv.1.2 h3, by unfold meetOf; rw [if_pos h]⟩

/-- What a node says. -/
def NodOk (o : Option (Tm × Ty) × Int) (r : Option Ty) (s : Int) : Prop := ∃ p, o = (p, s) ∧ p.map Prod.snd = r ∧ ∀ u, r = some u → vld u = true

theorem NodOk.no (s : Int) : NodOk (none, s) none s := ⟨none, rfl, rfl, fun _ h => by cases h⟩
theorem NodOk.yes {e : Tm} {u : Ty} (s : Int) (h : vld u = true) : NodOk (some (e, u), s) (some u) s := ⟨_, rfl, rfl, fun v hv => by cases hv; exact h⟩

theorem NodOk.two {F : FitF} {k : Int} {nm : ByteArray} {num : Int} {ty fr : Ty} {lb : Int} {es : List Tm} {us : List Ty} {s q : Int} {a b : Ty}
    (hf : fitL F es us us s = (some es, s)) :
    NodOk (if vld (.mk q [a, b]) = true then (match fitL F es us us s with
      | (none, s1) => (none, s1)
      | (some es', s1) => (some (outM k nm num ty fr lb es', (.mk q [a, b] : Ty)), s1)) else (none, s)) (twoV q a b) s := by
  rw [hf]
  unfold twoV
  by_cases h : vld (.mk q [a, b]) = true
  · rw [if_pos h, if_pos h]; exact NodOk.yes s h
  · rw [if_neg h, if_neg h]; exact NodOk.no s

end Go.Proofs.YtffmpjcjmffdeaaDoor

namespace Go.Proofs.YtffmpjcjmffdeaaDoor
open Go.RowKit

theorem cell_raw {w : World} {b o : Nat} {u : Value} (h : w.cell? ⟨b, o, none⟩ = some u) : ∃ C T fz, w.heap[b]? = some (.cells C T fz) := by
  unfold World.cell? at h
  split at h
  · exact ⟨_, _, _, by assumption⟩
  · cases h

mutual
theorem Ty.At.laid {w : World} : ∀ {t : Ty} {v : Value} {fp : List Nat}, Ty.At w t v fp → ∀ b ∈ fp, ∃ C T fz, w.heap[b]? = some (.cells C T fz)
  | .mk k ts, v, fp, h => by
    obtain ⟨s, hv, h⟩ := h
    rcases h with ⟨_, rfl, _⟩ | ⟨b, o, cap, f, hs, hp, hc, hm, hl, rfl⟩
    · simp
    · intro x hx
      rcases List.mem_cons.1 hx with rfl | hx
      · cases ts with
        | nil => simp at hp
        | cons t ts =>
          obtain ⟨v0, v1, f1, f2, c0, _⟩ := hl
          exact cell_raw c0
      · exact Ty.AtL.laid hl x hx
theorem Ty.AtL.laid {w : World} : ∀ {ts : List Ty} {b o : Nat} {fp : List Nat}, Ty.AtL w ts b o fp → ∀ b ∈ fp, ∃ C T fz, w.heap[b]? = some (.cells C T fz)
  | [], _, _, _, h => by cases h; simp
  | t :: ts, b, o, fp, h => by
    obtain ⟨v0, v1, f1, f2, c0, c1, ha, hl, rfl⟩ := h
    intro x hx
    rcases List.mem_append.1 hx with hx | hx
    · exact Ty.At.laid ha x hx
    · exact Ty.AtL.laid hl x hx
end

end Go.Proofs.YtffmpjcjmffdeaaDoor

namespace Go.Proofs.YtffmpjcjmffdeaaDoor
open Go.RowKit

/-- A type in memory of its own, if there is one; else some that does not matter. -/
def MadeTO (w : World) (o : Option Ty) (e : Ending) (w' : World) : Prop := ∃ T, (∀ u, o = some u → T = u) ∧ MadeTB w T o.isSome e w'

theorem l3Int_any (w : World) : Calls Tryd.prog 111 #[] w fun e w' => e = .returned (.agg #[.int .i64 2, .slice none 0 0]) ∧ Below w.heap.size w w' := by
  go_enter Tryd.func111, Tryd.ntmps111
  go_wp2_with fail
  exact bodyPost_ret (v := .agg #[.int .i64 2, .slice none 0 0]) (by simp [results, Tryd.results111, go_sem]) rfl ⟨rfl, (Below.refl _ _).alloc (Nat.le_refl _) _⟩

theorem l3Bool_any (w : World) : Calls Tryd.prog 112 #[] w fun e w' => e = .returned (.agg #[.int .i64 3, .slice none 0 0]) ∧ Below w.heap.size w w' := by
  go_enter Tryd.func112, Tryd.ntmps112
  go_wp2_with fail
  exact bodyPost_ret (v := .agg #[.int .i64 3, .slice none 0 0]) (by simp [results, Tryd.results112, go_sem]) rfl ⟨rfl, (Below.refl _ _).alloc (Nat.le_refl _) _⟩

theorem leaf_ty (w : World) (k : Int) : (Ty.mk k []).At w (.agg #[.int .i64 k, .slice none 0 0]) [] := Ty.at_mk.2 ⟨_, rfl, .inl ⟨rfl, rfl, _, _, rfl⟩⟩

/-- The type stored into the result's block. -/
theorem MadeTO.stored {w W : World} {P B : Nat} {T : Ty} {o : Option Ty} {b : Bool} {k : Int} {n c : Nat} {a : Option Addr} {f : List Nat} (ho : ∀ u, o = some u → T = u) (hob : o.isSome = b) (h : T.At W (.agg #[.int .i64 k, .slice a n c]) f) (hf : Fresh B W f) (hP : P < B) (hw : w.heap.size ≤ P) (hb : Below w.heap.size w W) :
    MadeTO w o (.returned (.tuple #[.agg #[.int .i64 k, .slice a n c], .bool b])) ((W.setCell ⟨P, 0, none⟩ (.int .i64 k)).setCell ⟨P, 1, none⟩ (.slice a n c)) := by
  subst hob
  have hne : ∀ b ∈ f, b ≠ P := fun b hm => by have := (hf.2 b hm).1; omega
  exact ⟨T, ho, _, f, rfl, (h.setCell hne _).setCell hne _, ((hf.setCell hne _).setCell hne _).mono (by omega), (hb.setCell (p := ⟨P, 0, none⟩) hw _).setCell (p := ⟨P, 1, none⟩) hw _⟩

theorem MadeTO.drew {w W : World} {o : Option Ty} {e : Ending} (h : MadeTO w o e W) : MadeTO w o e W.drew := by
  obtain ⟨T, h1, v, f, he, h2, h3, h4⟩ := h
  exact ⟨T, h1, v, f, he, h2.below (below_drew W), h3.below (below_drew W), below_trans h4 (below_drew W)⟩

theorem two_keepS {W : World} {P b o : Nat} {v : Value} (h : W.cell? ⟨b, o, none⟩ = some v) (hb : b ≠ P) (x y : Value) : ((W.setCell ⟨P, 0, none⟩ x).setCell ⟨P, 1, none⟩ y).cell? ⟨b, o, none⟩ = some v := two_set_keep h hb x y

end Go.Proofs.YtffmpjcjmffdeaaDoor
