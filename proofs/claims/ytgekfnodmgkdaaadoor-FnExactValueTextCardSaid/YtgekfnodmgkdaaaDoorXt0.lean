/- The text of a term, with or without casts, by the forms of its nodes; a slice of strings of the call's own. -/
import Derived.Test.YtgekfnodmgkdaaaDoorCv
import Derived.Test.YtgekfnodmgkdaaaDoorDec
import Derived.Test.YtgekfnodmgkdaaaDoorPkB
namespace Go.Proofs.YtgekfnodmgkdaaaDoor
open Go.RowKit

/-- What a sign of a form stands for. -/
def pcX (nm : ByteArray) (num : Int) (ty fr : Ty) (lb : Int) (xs : List (List UInt8)) (c : UInt8) : List UInt8 :=
  if c = 65 then xs.getD 0 [] else if c = 66 then xs.getD 1 [] else if c = 67 then xs.getD 2 [] else if c = 110 then nm.data.toList else if c = 100 then Lib.itoa num else if c = 116 then txt 4 ty else if c = 115 then txt 4 fr else if c = 108 then Lib.itoa lb else [c]

/-- A form filled in. -/
def fmX (form : List UInt8) (nm : ByteArray) (num : Int) (ty fr : Ty) (lb : Int) (xs : List (List UInt8)) : List UInt8 := form.flatMap (pcX nm num ty fr lb xs)

mutual
def tmX : Tm → List UInt8
  | .mk k nm num ty fr lb ts => fmX (frm k.toNat).data.toList nm num ty fr lb (tmXL ts)
def tmXL : List Tm → List (List UInt8)
  | [] => []
  | t :: ts => tmX t :: tmXL ts
end

theorem tmXL_len : ∀ ts : List Tm, (tmXL ts).length = ts.length
  | [] => rfl
  | t :: ts => by simp only [tmXL, List.length_cons, tmXL_len ts]

theorem tmXL_take : ∀ (ts : List Tm) (j : Nat) (h : j < ts.length), tmXL (ts.take (j + 1)) = tmXL (ts.take j) ++ [tmX ts[j]]
  | t :: ts, 0, _ => by simp [tmXL]
  | t :: ts, j + 1, h => by
    simp only [List.take_succ_cons, tmXL, List.getElem_cons_succ, List.cons_append]
    rw [tmXL_take ts j (by simpa using h)]

/-- Well formed, with casts or without. -/
def xOk (d : Nat) (t : Tm) : Bool := shpM d t || shpC d t

theorem isNm_is1 {nm : ByteArray} (h : isNm nm = true) : nm.size = 1 := by
  simp only [isNm, Bool.and_eq_true, beq_iff_eq] at h
  exact h.1.1

theorem xOk_node {d : Nat} {k : Int} {nm : ByteArray} {num : Int} {ty fr : Ty} {lb : Int} {ts : List Tm} (h : xOk d (.mk k nm num ty fr lb ts) = true) :
    (1 ≤ k ∧ k ≤ 14) ∧ kidsM k = (ts.length : Int) ∧ ((k = 5 ∨ k = 13 ∨ k = 14) → vld ty = true) ∧ (k = 14 → vld fr = true) ∧ (k = 2 → 0 ≤ num ∧ num ≤ 999) ∧ (k = 14 → -99 ≤ lb ∧ lb ≤ 99) ∧ ((k = 1 ∨ k = 5) → nm.size = 1) ∧ ∃ d', ∀ t ∈ ts, xOk d' t = true := by
  cases d with
  | zero => simp [xOk, shpM, shpC] at h
  | succ d =>
    have hk : kidsM k = (ts.length : Int) → 1 ≤ k ∧ k ≤ 14 := fun hk => by
      by_cases hin : 1 ≤ k ∧ k ≤ 14
      · exact hin
      · rw [kidsM_none hin] at hk
        omega
    unfold xOk at h
    rcases Bool.or_eq_true _ _ ▸ h with h | h
    · simp only [shpM, Bool.and_eq_true, beq_iff_eq, bne_iff_ne, ne_eq, ownM] at h
      obtain ⟨⟨⟨h1, h14⟩, ⟨⟨h2, h3⟩, -⟩, h4⟩, hkids⟩ := h
      refine ⟨hk h1, h1, fun e => ?_, fun e => absurd e h14, fun e => ?_, fun e => absurd e h14, fun e => ?_, d, fun t ht => ?_⟩
      · rwa [if_pos e] at h3
      · rw [if_pos e, Bool.and_eq_true] at h4
        simpa using h4
      · rw [if_pos e] at h2
        exact isNm_is1 h2
      · unfold xOk
        rw [List.all_eq_true.1 hkids t ht]
        rfl
    · simp only [shpC, Bool.and_eq_true, beq_iff_eq, bne_iff_ne, ne_eq] at h
      obtain ⟨⟨⟨h1, h13⟩, h2⟩, hkids⟩ := h
      have hk' : ∃ d', ∀ t ∈ ts, xOk d' t = true := ⟨d, fun t ht => by
        unfold xOk
        rw [List.all_eq_true.1 hkids t ht, Bool.or_true]⟩
      by_cases h14 : k = 14
      · rw [if_pos h14] at h2
        simp only [own4, isLb, Bool.and_eq_true, decide_eq_true_eq] at h2
        obtain ⟨⟨⟨⟨⟨_, _⟩, ⟨_, hl1⟩, hl2⟩, hty⟩, hfr⟩, _⟩ := h2
        exact ⟨hk h1, h1, fun _ => hty, fun _ => hfr, fun e => by omega, fun _ => ⟨hl1, hl2⟩, fun e => by omega, hk'⟩
      · rw [if_neg h14] at h2
        simp only [Bool.and_eq_true, ownM] at h2
        obtain ⟨⟨⟨h2, h3⟩, -⟩, h4⟩ := h2
        refine ⟨hk h1, h1, fun e => ?_, fun e => absurd e h14, fun e => ?_, fun e => absurd e h14, fun e => ?_, hk'⟩
        · rwa [if_pos e] at h3
        · rw [if_pos e, Bool.and_eq_true] at h4
          simpa using h4
        · rw [if_pos e] at h2
          exact isNm_is1 h2

/-! ### A slice of strings of the call's own -/
theorem Tryd.infoStr : (Tryd.prog.info? 9).map (fun i => (i.zero, i.size, i.bytes)) = some (some (.string ByteArray.empty), 1, 16) := by kernel_rfl
theorem Tryd.underStrs : Tryd.prog.underlying 205 = some (.slice 9) := by kernel_rfl

def strV (l : List UInt8) : Value := .string ⟨l.toArray⟩

def GrowS (B : Nat) (ds : List (List UInt8)) (v : Value) (w : World) : Prop := w.ownsRow B 9 1 v ds.length (ds.map strV)

theorem GrowS.new {B : Nat} {w : World} (h : B ≤ w.heap.size) : GrowS B [] (.slice (some ⟨w.heap.size, 0, none⟩) 0 0) (w.alloc (Obj.cells #[] 9)) :=
  ⟨rfl, .inr ⟨w.heap.size, 0, #[], rfl, h, alloc_new _ _, Nat.le_refl _, Nat.zero_le _, rfl, rfl⟩⟩

theorem GrowS.below {B : Nat} {ds : List (List UInt8)} {v : Value} {w w' : World} (h : GrowS B ds v w) (hb : Below w.heap.size w w') : GrowS B ds v w' := by
  refine World.ownsRow.kept h (grown_of_below hb none) ?_
  cases v.ownBlock with
  | none => exact .inl rfl
  | some b => exact .inr (by simp)

theorem GrowS.shape {B : Nat} {ds : List (List UInt8)} {v : Value} {w : World} (h : GrowS B ds v w) : ∃ a cap, v = .slice a ds.length cap := by
  rcases h.2 with ⟨rfl, h0⟩ | ⟨g, cap, cur, rfl, _⟩
  · exact ⟨none, 0, by rw [h0]⟩
  · exact ⟨_, _, rfl⟩

theorem GrowS.own_ge {B : Nat} {ds : List (List UInt8)} {v : Value} {w : World} (h : GrowS B ds v w) : ∀ b, v.ownBlock = some b → B ≤ b ∧ b < w.heap.size := fun b hb => h.lt b hb

theorem GrowS.cells {B : Nat} {ds : List (List UInt8)} {a : Option Addr} {n cap : Nat} {w : World} (h : GrowS B ds (.slice a n cap) w) (hp : 0 < ds.length) :
    ∃ g, a = some ⟨g, 0, none⟩ ∧ g < w.heap.size ∧ B ≤ g ∧ ∀ j l, ds[j]? = some l → w.cell? ⟨g, j, none⟩ = some (strV l) := by
  rcases h.2 with ⟨h0, h1⟩ | ⟨g, cap', cur, e, hb, hg, hc, hm, hsz, hx⟩
  · omega
  · cases e
    refine ⟨g, rfl, lt_of_block hg, hb, fun j l hl => ?_⟩
    have hj : j < ds.length := (List.getElem?_eq_some_iff.1 hl).1
    rw [cell_of_block hg]
    have h2 : (cur.toList.take (ds.length * 1))[j]? = (ds.map strV)[j]? := by rw [hx]
    rw [List.getElem?_take_of_lt (by omega), Array.getElem?_toList] at h2
    rw [h2, List.getElem?_map, hl]
    rfl

theorem GrowS.snoc {B : Nat} {ds : List (List UInt8)} {x : List UInt8} {g n cap : Nat} {w : World} (h : w.ownsRow B 9 1 (.slice (some ⟨g, 0, none⟩) n cap) n (ds.map strV ++ [.string ⟨x.toArray⟩])) (hn : n = ds.length + 1) : GrowS B (ds ++ [x]) (.slice (some ⟨g, 0, none⟩) n cap) w := by
  subst hn
  unfold GrowS
  simpa [strV] using h
end Go.Proofs.YtgekfnodmgkdaaaDoor
