/- The labels of a term's casts: collected and sorted, or each put in its place: the same list. A slice of numbers of the call's own. The specification's CastLabels: l4Sorted and l4Labels. The specification's l4Labels and CastLabels. -/
import Derived.Test.YtgiimijooabioaaDoorEcJ
import Derived.Lib.SlicesCompact
import Derived.Test.YtgiimijooabioaaDoorPkB
import Derived.Test.YtgiimijooabioaaDoorC4
namespace Go.Proofs.YtgiimijooabioaaDoor
open Go.RowKit

/-- A number among a list's, ahead of the first greater one. -/
def insB (n : Int) : List Int → List Int
  | [] => [n]
  | x :: xs => if n < x then n :: x :: xs else x :: insB n xs

/-- A list with a number, if it is not there. -/
def srtI (l : List Int) (n : Int) : List Int := if n ∈ l then l else insB n l

theorem insB_mem (n x : Int) : ∀ l : List Int, x ∈ insB n l ↔ x = n ∨ x ∈ l
  | [] => by simp [insB]
  | y :: l => by
    unfold insB
    split
    · simp
    · rw [List.mem_cons, insB_mem n x l, List.mem_cons]
      constructor
      · rintro (h | h | h) <;> simp [h]
      · rintro (h | h | h) <;> simp [h]

theorem srtI_mem (l : List Int) (n x : Int) : x ∈ srtI l n ↔ x = n ∨ x ∈ l := by
  unfold srtI
  split
  · rename_i h
    constructor
    · exact fun hx => .inr hx
    · rintro (rfl | hx)
      · exact h
      · exact hx
  · exact insB_mem n x l

theorem insB_lt (n : Int) : ∀ l : List Int, l.Pairwise (· < ·) → n ∉ l → (insB n l).Pairwise (· < ·)
  | [], _, _ => by simp [insB]
  | y :: l, h, hn => by
    rw [List.pairwise_cons] at h
    simp only [List.mem_cons, not_or] at hn
    unfold insB
    split
    · rename_i hy
      refine List.pairwise_cons.2 ⟨fun z hz => ?_, List.pairwise_cons.2 h⟩
      rcases List.mem_cons.1 hz with rfl | hz
      · exact hy
      · have := h.1 z hz
        omega
    · rename_i hy
      refine List.pairwise_cons.2 ⟨fun z hz => ?_, insB_lt n l h.2 hn.2⟩
      rcases (insB_mem n z l).1 hz with rfl | hz
      · omega
      · exact h.1 z hz

theorem srtI_lt (l : List Int) (n : Int) (h : l.Pairwise (· < ·)) : (srtI l n).Pairwise (· < ·) := by
  unfold srtI
  split
  · exact h
  · exact insB_lt n l h (by assumption)

theorem eq_of_lt_mem : ∀ a b : List Int, a.Pairwise (· < ·) → b.Pairwise (· < ·) → (∀ x, x ∈ a ↔ x ∈ b) → a = b
  | [], [], _, _, _ => rfl
  | [], y :: b, _, _, h => by have := (h y).2 (by simp); simp at this
  | x :: a, [], _, _, h => by have := (h x).1 (by simp); simp at this
  | x :: a, y :: b, ha, hb, h => by
    rw [List.pairwise_cons] at ha hb
    have hxy : x = y := by
      have h1 := (h x).1 (by simp)
      have h2 := (h y).2 (by simp)
      rcases List.mem_cons.1 h1 with e | h1
      · exact e
      · rcases List.mem_cons.1 h2 with e | h2
        · exact e.symm
        · have := ha.1 y h2
          have := hb.1 x h1
          omega
    subst hxy
    rw [eq_of_lt_mem a b ha.2 hb.2 fun z => ?_]
    constructor
    · intro hz
      rcases List.mem_cons.1 ((h z).1 (by simp [hz])) with e | e
      · have := ha.1 z hz
        omega
      · exact e
    · intro hz
      rcases List.mem_cons.1 ((h z).2 (by simp [hz])) with e | e
      · have := hb.1 z hz
        omega
      · exact e

theorem compact_lt (zs : List Int) (h : zs.Pairwise (· ≤ ·)) : (Lib.compact zs).Pairwise (· < ·) := by
  unfold Lib.compact Lib.compactUpTo
  rw [List.pairwise_map]
  have hr : (List.range zs.length).Pairwise (fun i j => i < j) := List.pairwise_lt_range
  refine List.Pairwise.imp_of_mem ?_ (hr.filter (Lib.keeps zs.toArray))
  intro i j hi hj hij
  simp only [List.mem_filter, List.mem_range] at hi hj
  have hk : zs.toArray[j]! ≠ zs.toArray[j - 1]! := by
    have := hj.2
    simp only [Lib.keeps, decide_eq_true_eq] at this
    rcases this with h0 | h0
    · omega
    · exact h0
  rw [List.pairwise_iff_getElem] at h
  have e : ∀ i, (hi : i < zs.length) → zs.toArray[i]! = zs[i] := fun i hi => by simp [hi]
  rw [e j hj.1, e (j - 1) (by omega)] at hk
  rw [e i hi.1, e j hj.1]
  have h1 := h (j - 1) j (by omega) hj.1 (by omega)
  have h2 : zs[i] ≤ zs[j - 1] := by
    by_cases hh : i = j - 1
    · subst hh; exact Int.le_refl _
    · exact h i (j - 1) hi.1 (by omega) (by omega)
  omega

theorem compact_mem (zs : List Int) (x : Int) : x ∈ Lib.compact zs ↔ x ∈ zs := by
  unfold Lib.compact Lib.compactUpTo
  have e : ∀ i, (hi : i < zs.length) → zs.toArray[i]! = zs[i] := fun i hi => by simp [hi]
  constructor
  · intro h
    obtain ⟨i, hi, rfl⟩ := List.mem_map.1 h
    simp only [List.mem_filter, List.mem_range] at hi
    rw [e i hi.1]
    exact List.getElem_mem _
  · intro h
    obtain ⟨i, hi, rfl⟩ := List.mem_iff_getElem.1 h
    clear h
    induction i with
    | zero => exact List.mem_map.2 ⟨0, by simp [hi, Lib.keeps], e 0 hi⟩
    | succ i ih =>
      by_cases hk : Lib.keeps zs.toArray (i + 1) = true
      · exact List.mem_map.2 ⟨i + 1, by simp [hi, hk], e _ hi⟩
      · have : zs.toArray[i + 1]! = zs.toArray[i]! := by simpa [Lib.keeps] using hk
        rw [e _ hi, e i (by omega)] at this
        rw [this]
        exact ih (by omega)

theorem foldl_srt (zs : List Int) : ∀ l : List Int, l.Pairwise (· < ·) → (zs.foldl srtI l).Pairwise (· < ·) ∧ ∀ x, x ∈ zs.foldl srtI l ↔ x ∈ zs ∨ x ∈ l := by
  induction zs with
  | nil => exact fun l h => ⟨h, fun x => by simp⟩
  | cons z zs ih =>
    intro l h
    obtain ⟨h1, h2⟩ := ih (srtI l z) (srtI_lt l z h)
    refine ⟨h1, fun x => ?_⟩
    rw [List.foldl_cons, h2 x, srtI_mem, List.mem_cons]
    constructor
    · rintro (h | h | h) <;> simp [h]
    · rintro ((h | h) | h) <;> simp [h]

/-- Sorting and taking one of each is putting each in its place. -/
theorem compact_sort (zs : List Int) : Lib.compact (zs.mergeSort fun x y => decide (x ≤ y)) = zs.foldl srtI [] := by
  have hs : (zs.mergeSort fun x y => decide (x ≤ y)).Pairwise (· ≤ ·) := by
    have := List.pairwise_mergeSort (le := fun x y : Int => decide (x ≤ y)) (fun a b c h1 h2 => by simp at *; omega) (fun a b => by simp; omega) zs
    exact this.imp fun h => by simpa using h
  obtain ⟨h1, h2⟩ := foldl_srt zs [] List.Pairwise.nil
  refine eq_of_lt_mem _ _ (compact_lt _ hs) h1 fun x => ?_
  rw [compact_mem, h2 x, List.mem_mergeSort]
  simp

theorem insB_none (n : Int) : ∀ l : List Int, (∀ y ∈ l, ¬ n < y) → insB n l = l ++ [n]
  | [], _ => rfl
  | y :: l, h => by
    unfold insB
    rw [if_neg (h y (by simp)), insB_none n l fun z hz => h z (by simp [hz])]
    rfl

theorem insB_some (n x : Int) : ∀ l : List Int, (∃ y ∈ l, n < y) → insB n (l ++ [x]) = insB n l ++ [x]
  | [], h => by simp at h
  | y :: l, h => by
    simp only [List.cons_append, insB]
    split
    · rfl
    · rename_i hy
      have h' : ∃ z ∈ l, n < z := by
        obtain ⟨z, hz, hn⟩ := h
        rcases List.mem_cons.1 hz with e | hz
        · rw [e] at hn
          exact absurd hn hy
        · exact ⟨z, hz, hn⟩
      rw [insB_some n x l h', List.cons_append]

theorem insB_here (n x : Int) (hx : n < x) : ∀ l : List Int, (∀ y ∈ l, ¬ n < y) → insB n (l ++ [x]) = l ++ [n] ++ [x]
  | [], _ => by simp [insB, hx]
  | y :: l, h => by
    simp only [List.cons_append, insB]
    rw [if_neg (h y (by simp)), insB_here n x hx l fun z hz => h z (by simp [hz])]

/-- What the sorted list is ahead of the last elements: the number is there once a greater one has been met. -/
def preI (n : Int) (l : List Int) : List Int := if l.any (fun y => decide (n < y)) then insB n l else l

theorem preI_done {n : Int} {l : List Int} (h : l.any (fun y => decide (n < y)) = true) : preI n l = insB n l := by unfold preI; rw [if_pos h]
theorem preI_not {n : Int} {l : List Int} (h : l.any (fun y => decide (n < y)) = false) : preI n l = l := by unfold preI; rw [h]; rfl

theorem any_some {n : Int} {l : List Int} (h : l.any (fun y => decide (n < y)) = true) : ∃ y ∈ l, n < y := by
  obtain ⟨y, hy, hn⟩ := List.any_eq_true.1 h
  exact ⟨y, hy, by simpa using hn⟩
theorem any_none {n : Int} {l : List Int} (h : l.any (fun y => decide (n < y)) = false) : ∀ y ∈ l, ¬ n < y := fun y hy hn => by
  have := List.any_eq_false.1 h y hy
  simp [hn] at this

theorem any_snoc (n x : Int) (l : List Int) : (l ++ [x]).any (fun y => decide (n < y)) = (l.any (fun y => decide (n < y)) || decide (n < x)) := by simp

theorem preI_len (n : Int) (l : List Int) : (preI n l).length ≤ l.length + 1 := by
  unfold preI
  split
  · have : ∀ l : List Int, (insB n l).length = l.length + 1 := fun l => by
      induction l with
      | nil => rfl
      | cons y l ih => unfold insB; split <;> simp [ih]
    rw [this]
    exact Nat.le_refl _
  · omega

theorem srtI_len (l : List Int) (n : Int) : (srtI l n).length ≤ l.length + 1 := by
  unfold srtI
  split
  · omega
  · have : ∀ l : List Int, (insB n l).length = l.length + 1 := fun l => by
      induction l with
      | nil => rfl
      | cons y l ih => unfold insB; split <;> simp [ih]
    rw [this]
    exact Nat.le_refl _

/-- Behind the last element. -/
theorem srtI_end {n : Int} {l : List Int} (h : n ∉ l) : srtI l n = if l.any (fun y => decide (n < y)) then preI n l else preI n l ++ [n] := by
  unfold srtI
  rw [if_neg h]
  cases ha : l.any (fun y => decide (n < y)) with
  | true => rw [preI_done ha]; rfl
  | false => rw [preI_not ha, insB_none n l (any_none ha)]; rfl

/-- One visit of a cast: its label at the end; its label in its place. -/
def lbStep (a : List Int) : Tm → List Int
  | .mk _ _ _ _ _ lb _ => a ++ [lb]
def srStep (a : List Int) : Tm → List Int
  | .mk _ _ _ _ _ lb _ => srtI a lb

theorem lbStep_len : ∀ (a : List Int) (t : Tm), (lbStep a t).length ≤ a.length + 2
  | a, .mk _ _ _ _ _ lb _ => by simp [lbStep]
theorem srStep_len : ∀ (a : List Int) (t : Tm), (srStep a t).length ≤ a.length + 2
  | a, .mk _ _ _ _ _ lb _ => by have := srtI_len a lb; simp only [srStep]; omega

theorem srStep_fold (zs : List Int) (t : Tm) : srStep (zs.foldl srtI []) t = (lbStep zs t).foldl srtI [] := by
  cases t
  simp [srStep, lbStep]

mutual
theorem ecN_srt : ∀ (t : Tm) (zs : List Int), ecN srStep (zs.foldl srtI []) t = (ecN lbStep zs t).foldl srtI []
  | .mk k nm num ty fr lb ts, zs => by
    have h := ecL_srt ts (if k = 14 then lbStep zs (.mk k nm num ty fr lb ts) else zs)
    simp only [ecN]
    rw [← h]
    congr 1
    split
    · exact srStep_fold zs _
    · rfl
theorem ecL_srt : ∀ (ts : List Tm) (zs : List Int), ecL srStep (zs.foldl srtI []) ts = (ecL lbStep zs ts).foldl srtI []
  | [], zs => by simp [ecL]
  | t :: ts, zs => by
    simp only [ecL]
    rw [ecN_srt t zs, ecL_srt ts]
end

theorem Tryd.infoInt : (Tryd.prog.info? 3).map (fun i => (i.zero, i.size, i.bytes)) = some (some (.int .i64 0), 1, 8) := by kernel_rfl
theorem Tryd.underInts : Tryd.prog.underlying 39 = some (.slice 3) := by kernel_rfl

/-- The slice v of the call's own, from block B on, reads as the numbers ds. -/
def GrowI (B : Nat) (ds : List Int) (v : Value) (w : World) : Prop := w.ownsRow B 3 1 v ds.length (ds.map (Value.int .i64))

theorem GrowI.zero (B : Nat) (w : World) : GrowI B [] (.slice none 0 0) w := World.ownsRow_nil w _ _ _

theorem GrowI.new {B : Nat} {w : World} (h : B ≤ w.heap.size) : GrowI B [] (.slice (some ⟨w.heap.size, 0, none⟩) 0 0) (w.alloc (Obj.cells #[] 3)) :=
  ⟨rfl, .inr ⟨w.heap.size, 0, #[], rfl, h, alloc_new _ _, Nat.le_refl _, Nat.zero_le _, rfl, rfl⟩⟩

theorem GrowI.below {B : Nat} {ds : List Int} {v : Value} {w w' : World} (h : GrowI B ds v w) (hb : Below w.heap.size w w') : GrowI B ds v w' := by
  refine World.ownsRow.kept h (grown_of_below hb none) ?_
  cases v.ownBlock with
  | none => exact .inl rfl
  | some b => exact .inr (by simp)

theorem GrowI.mono {B B' : Nat} {ds : List Int} {v : Value} {w : World} (h : GrowI B ds v w) (hB : B' ≤ B) : GrowI B' ds v w := by
  obtain ⟨h1, h2⟩ := h
  refine ⟨h1, ?_⟩
  rcases h2 with h2 | ⟨g, cap, cur, h3, h4, h5⟩
  · exact .inl h2
  · exact .inr ⟨g, cap, cur, h3, Nat.le_trans hB h4, h5⟩

theorem GrowI.shape {B : Nat} {ds : List Int} {v : Value} {w : World} (h : GrowI B ds v w) : ∃ a cap, v = .slice a ds.length cap := by
  rcases h.2 with ⟨rfl, h0⟩ | ⟨g, cap, cur, rfl, _⟩
  · exact ⟨none, 0, by rw [h0]⟩
  · exact ⟨_, _, rfl⟩

theorem GrowI.own_ge {B : Nat} {ds : List Int} {v : Value} {w : World} (h : GrowI B ds v w) : ∀ b, v.ownBlock = some b → B ≤ b ∧ b < w.heap.size := fun b hb => h.lt b hb

/-- The elements' cells. -/
theorem GrowI.cells {B : Nat} {ds : List Int} {a : Option Addr} {n cap : Nat} {w : World} (h : GrowI B ds (.slice a n cap) w) (j : Nat) (hj : j < ds.length) :
    ∃ g, a = some ⟨g, 0, none⟩ ∧ g < w.heap.size ∧ B ≤ g ∧ w.cell? ⟨g, j, none⟩ = some (.int .i64 ds[j]) ∧ w.frozen? ⟨g, j, none⟩ = false := by
  rcases h.2 with ⟨h0, h1⟩ | ⟨g, cap', cur, e, hb, hg, hc, hm, hsz, hx⟩
  · omega
  · cases e
    refine ⟨g, rfl, lt_of_block hg, hb, ?_, frozen_of_block hg⟩
    rw [cell_of_block hg]
    have h2 : (cur.toList.take (ds.length * 1))[j]? = (ds.map (Value.int .i64))[j]? := by rw [hx]
    rw [List.getElem?_take_of_lt (by omega), Array.getElem?_toList] at h2
    rw [h2]
    simp [hj]

theorem GrowI.snoc {B : Nat} {ds : List Int} {x : Int} {g n cap : Nat} {w : World} (h : w.ownsRow B 3 1 (.slice (some ⟨g, 0, none⟩) n cap) n (ds.map (Value.int .i64) ++ [.int .i64 x])) (hn : n = ds.length + 1) : GrowI B (ds ++ [x]) (.slice (some ⟨g, 0, none⟩) n cap) w := by
  subst hn
  unfold GrowI
  simpa using h

theorem own_new {B g H cp n : Nat} {v : Value} (hat : v.ownBlock = some g ∨ g = H) (ho : ∀ b, v.ownBlock = some b → B ≤ b) (hB : B ≤ H) : ∀ b, (Value.slice (some ⟨g, 0, none⟩) n cp).ownBlock = some b → B ≤ b := fun b hb => by
  obtain rfl : g = b := by simpa [Value.ownBlock] using hb
  rcases hat with h | h
  · exact ho g h
  · omega

/-- Behind an append to a row from block B on, what lies below is as it was. -/
theorem grown_low {B : Nat} {w w1 w3 : World} {v : Value} {o : Obj} (hb : Below B w w1) (hB : B ≤ w1.heap.size) (ho : ∀ b, v.ownBlock = some b → B ≤ b) (hg : (w1.alloc o).grownBy w3 v.ownBlock) : Below B w w3 := by
  have h1 : Below B w1 (w1.alloc o) := (Below.refl _ _).alloc hB _
  refine (hb.trans h1).trans ⟨hg.os, hg.tape, hg.output, hg.size, fun k hk => hg.block k (by simp; omega) (fun e => by have := ho k e.symm; omega)⟩

theorem nil_any (n : Int) : ([] : List Int).any (fun y => decide (n < y)) = false := rfl

set_option maxRecDepth 100000 in
set_option maxHeartbeats 4000000 in
theorem l4Sorted_any (B : Nat) (ds : List Int) (v : Value) (n : Int) (w : World) (hG : GrowI B ds v w) (hB : B ≤ w.heap.size) (hlen : ds.length ≤ 4194300) :
    Calls Tryd.prog 58 #[v, .int .i64 n] w fun e w' => ∃ v', e = .returned v' ∧ GrowI B (srtI ds n) v' w' ∧ Below w.heap.size w w' := by
  obtain ⟨av, capv, rfl⟩ := hG.shape
  obtain ⟨i0, hi0, hz0, hz1, hz2⟩ := info_parts (P := Tryd.prog) (e := 3) Tryd.infoInt
  have HN := hid (GrowI.new (B := w.heap.size) (w := w) (Nat.le_refl _))
  have hb0 : Below w.heap.size w (w.alloc (Obj.cells #[] 3)) := (Below.refl _ _).alloc (Nat.le_refl _) _
  have HG := hid hG
  have HLEN := hid hlen
  clear hG hlen
  have hl63 : (ds.length : Int) ≤ 9223372036854775807 := by have := HLEN.out; omega
  go_enter Tryd.func58, Tryd.ntmps58
  go_wp2_with fail
  go_loopw [5, 6, 7] (fun o dn i wr => ∃ (j : Nat) (v' : Value), j ≤ ds.length ∧ i = .int .i64 j ∧ dn = .bool ((ds.take j).any (fun y => decide (n < y))) ∧ o = v' ∧ n ∉ ds.take j ∧ GrowI w.heap.size (preI n (ds.take j)) v' wr ∧ Below w.heap.size w wr) (fun _ _ i _ => ds.length - (intOf i).toNat)
  case atStart => exact ⟨0, _, Nat.zero_le _, rfl, by simp, rfl, by simp, by simpa [preI] using HN.out, hb0⟩
  case round =>
    obtain ⟨j, v', hj, rfl, hdn, rfl, hnot, hG', hb⟩ := hrel
    obtain ⟨av', capv', hsh⟩ := hG'.shape
    have HNOT := hid hnot
    have HG' := hid hG'
    have HB := hid hb
    have hpl := preI_len n (ds.take j)
    have hln : (preI n (ds.take j)).length ≤ 4194301 := by have := HLEN.out; rw [List.length_take] at hpl; omega
    have HLN := hid hln
    clear hnot hG' hb hpl hln
    subst hsh
    have HOWN := hid (HG'.out.own_ge)
    by_cases hlk : j < ds.length
    · obtain ⟨gq, rfl, hgq, hgB, hcell, -⟩ := HG.out.cells j hlk
      have hc := cell_keep hcell HB.out
      have hcell0 := hcell
      have htk : ds.take (j + 1) = ds.take j ++ [ds[j]] := (List.take_succ_eq_append_getElem hlk)
      have HTK := hid htk
      have HMEM := hid (List.getElem_mem hlk)
      clear hcell htk
      generalize hx : ds[j] = x at *
      by_cases hxn : x = n
      · subst hxn
        have HFIN := hid (show srtI ds x = ds by unfold srtI; rw [if_pos HMEM.out])
        subst hdn
        clear HNOT
        go_wp2_with fail
        go_ret
        exact ⟨_, rfl, by rw [HFIN.out]; exact HG.out.below (HB.out), HB.out⟩
      · have hxn' : (x == n) = false := by simpa using hxn
        have HNOT2 := hid (show n ∉ ds.take (j + 1) by
          rw [HTK.out]
          simp only [List.mem_append, List.mem_singleton, not_or]
          exact ⟨HNOT.out, fun e => hxn e.symm⟩)
        have HCELL := hid hcell0
        have hws := HB.out.size
        cases hb9 : (ds.take j).any (fun y => decide (n < y)) with
        | true =>
          have HP := hid (show preI n (ds.take (j + 1)) = preI n (ds.take j) ++ [x] by
            rw [preI_done hb9, HTK.out, preI_done (by rw [any_snoc, hb9]; rfl), insB_some n x _ (any_some hb9)])
          have HA := hid (show (ds.take (j + 1)).any (fun y => decide (n < y)) = true by rw [HTK.out, any_snoc, hb9]; rfl)
          rw [hb9] at hdn
          subst hdn
          generalize preI n (ds.take j) = P at *
          have hPl : P.length ≤ 4194301 := HLN.out
          clear hb9 hxn
          go_wp2_with (refine wpList_append_lies _ rfl (.tmp 36) (.tmp 41) 39 rfl w.heap.size 3 i0 _ 1 8 Tryd.underInts hi0 hz0 hz1 hz2 rfl (by omega) _ P.length _ rfl (World.ownsRow.alloc HG'.out _) ⟨wr.heap.size, 0, none⟩ 1 1 [.int .i64 x] rfl rfl (World.news_of_block (cs := #[.int .i64 x]) (t := 3) (fr := (0, 0)) (heap_alloc_new wr _)) (by simp [Value.oneCell']) (by omega) (by unfold maxLen; omega) (by omega) (by simp; omega) (wr.heap.size + 1) (by simp) ?_; intro g3 cp3 w3 hown3 hgrow3 hat3 hlt3; have hB3 := grown_low HB.out HB.out.size (fun b hb => (HOWN.out b hb).1) hgrow3; have hws3 := hB3.size)
          have HR := hid (GrowI.snoc hown3 rfl)
          clear hown3 hgrow3 hat3 hlt3
          go_wp2_with fail
          go_roundw
          case rel => exact ⟨j + 1, _, by omega, by go_num, by rw [HA.out], rfl, HNOT2.out, by rw [HP.out]; exact HR.out, hB3⟩
          case measure => simp [intOf]; omega
        | false =>
          by_cases hnx : n < x
          · have HP := hid (show preI n (ds.take (j + 1)) = preI n (ds.take j) ++ [n] ++ [x] by
              rw [preI_not hb9, HTK.out, preI_done (by rw [any_snoc, hb9]; simpa using hnx), insB_here n x hnx _ (any_none hb9)])
            have HA := hid (show (ds.take (j + 1)).any (fun y => decide (n < y)) = true by rw [HTK.out, any_snoc, hb9]; simpa using hnx)
            rw [hb9] at hdn
            subst hdn
            generalize preI n (ds.take j) = P at *
            have hPl : P.length ≤ 4194301 := HLN.out
            clear hb9 hxn
            go_wp2_with (first | (refine wpList_append_lies _ rfl (.tmp 32) (.tmp 34) 39 rfl w.heap.size 3 i0 _ 1 8 Tryd.underInts hi0 hz0 hz1 hz2 rfl (by omega) _ P.length _ rfl (World.ownsRow.alloc HG'.out _) ⟨wr.heap.size, 0, none⟩ 1 1 [.int .i64 n] rfl rfl (World.news_of_block (cs := #[.int .i64 n]) (t := 3) (fr := (0, 0)) (heap_alloc_new wr _)) (by simp [Value.oneCell']) (by omega) (by unfold maxLen; omega) (by omega) (by simp; omega) (wr.heap.size + 1) (by simp) ?_; intro g3 cp3 w3 hown3 hgrow3 hat3 hlt3; have hB3 := grown_low HB.out HB.out.size (fun b hb => (HOWN.out b hb).1) hgrow3; have hws3 := hB3.size; have hc3 := cell_keep HCELL.out hB3; have hO3 := own_new (n := P.length + 1) (cp := cp3) hat3 (fun b hb => (HOWN.out b hb).1) (by omega : w.heap.size ≤ wr.heap.size + 1)) | (refine wpList_append_lies _ rfl (.tmp 36) (.tmp 41) 39 rfl w.heap.size 3 i0 _ 1 8 Tryd.underInts hi0 hz0 hz1 hz2 rfl (by omega) _ (P.length + 1) _ rfl (World.ownsRow.alloc hown3 _) ⟨w3.heap.size, 0, none⟩ 1 1 [.int .i64 x] rfl rfl (World.news_of_block (cs := #[.int .i64 x]) (t := 3) (fr := (0, 0)) (heap_alloc_new w3 _)) (by simp [Value.oneCell']) (by omega) (by unfold maxLen; omega) (by omega) (by simp; omega) (w3.heap.size + 1) (by simp) ?_; intro g4 cp4 w4 hown4 hgrow4 hat4 hlt4; have hB4 := grown_low hB3 hB3.size hO3 hgrow4; have hws4 := hB4.size))
            have HR := hid (show GrowI w.heap.size (P ++ [n] ++ [x]) (.slice (some ⟨g4, 0, none⟩) (P.length + 1 + 1) cp4) w4 from GrowI.snoc (by simpa using hown4) (by simp))
            clear hown3 hgrow3 hat3 hlt3 hown4 hgrow4 hat4 hlt4
            go_wp2_with fail
            go_roundw
            case rel => exact ⟨j + 1, _, by omega, by go_num, by rw [HA.out], rfl, HNOT2.out, by rw [HP.out]; exact HR.out, hB4⟩
            case measure => simp [intOf]; omega
          · have HP := hid (show preI n (ds.take (j + 1)) = preI n (ds.take j) ++ [x] by
              rw [preI_not hb9, HTK.out, preI_not (by rw [any_snoc, hb9]; simpa using hnx)])
            have HA := hid (show (ds.take (j + 1)).any (fun y => decide (n < y)) = false by rw [HTK.out, any_snoc, hb9]; simpa using hnx)
            rw [hb9] at hdn
            subst hdn
            generalize preI n (ds.take j) = P at *
            have hPl : P.length ≤ 4194301 := HLN.out
            clear hb9 hxn
            go_wp2_with (refine wpList_append_lies _ rfl (.tmp 36) (.tmp 41) 39 rfl w.heap.size 3 i0 _ 1 8 Tryd.underInts hi0 hz0 hz1 hz2 rfl (by omega) _ P.length _ rfl (World.ownsRow.alloc HG'.out _) ⟨wr.heap.size, 0, none⟩ 1 1 [.int .i64 x] rfl rfl (World.news_of_block (cs := #[.int .i64 x]) (t := 3) (fr := (0, 0)) (heap_alloc_new wr _)) (by simp [Value.oneCell']) (by omega) (by unfold maxLen; omega) (by omega) (by simp; omega) (wr.heap.size + 1) (by simp) ?_; intro g3 cp3 w3 hown3 hgrow3 hat3 hlt3; have hB3 := grown_low HB.out HB.out.size (fun b hb => (HOWN.out b hb).1) hgrow3; have hws3 := hB3.size)
            have HR := hid (GrowI.snoc hown3 rfl)
            clear hown3 hgrow3 hat3 hlt3
            go_wp2_with fail
            go_roundw
            case rel => exact ⟨j + 1, _, by omega, by go_num, by rw [HA.out], rfl, HNOT2.out, by rw [HP.out]; exact HR.out, hB3⟩
            case measure => simp [intOf]; omega
    · have hz : ds.take j = ds := List.take_of_length_le (by omega)
      have hws := HB.out.size
      rw [hz] at hdn HNOT HG' HLN HOWN ⊢
      have HEND := hid (srtI_end HNOT.out)
      clear hz
      cases hb9 : ds.any (fun y => decide (n < y)) with
      | true =>
        rw [hb9, if_pos rfl] at HEND
        rw [hb9] at hdn
        subst hdn
        generalize preI n ds = P at *
        clear hb9 HNOT
        go_wp2_with fail
        go_ret
        exact ⟨_, rfl, by rw [HEND.out]; exact HG'.out.mono hB, HB.out⟩
      | false =>
        have HEND2 := hid (show srtI ds n = preI n ds ++ [n] by rw [HEND.out, hb9]; rfl)
        rw [hb9] at hdn
        subst hdn
        generalize preI n ds = P at *
        have hPl : P.length ≤ 4194301 := HLN.out
        clear hb9 HNOT HEND
        go_wp2_with (refine wpList_append_lies _ rfl (.tmp 45) (.tmp 47) 39 rfl w.heap.size 3 i0 _ 1 8 Tryd.underInts hi0 hz0 hz1 hz2 rfl (by omega) _ P.length _ rfl (World.ownsRow.alloc HG'.out _) ⟨wr.heap.size, 0, none⟩ 1 1 [.int .i64 n] rfl rfl (World.news_of_block (cs := #[.int .i64 n]) (t := 3) (fr := (0, 0)) (heap_alloc_new wr _)) (by simp [Value.oneCell']) (by omega) (by unfold maxLen; omega) (by omega) (by simp; omega) (wr.heap.size + 1) (by simp) ?_; intro g3 cp3 w3 hown3 hgrow3 hat3 hlt3; have hB3 := grown_low HB.out HB.out.size (fun b hb => (HOWN.out b hb).1) hgrow3; have hws3 := hB3.size)
        have HR := hid (GrowI.snoc hown3 rfl)
        clear hown3 hgrow3 hat3 hlt3
        go_wp2_with fail
        go_ret
        exact ⟨_, rfl, by rw [HEND2.out]; exact HR.out.mono hB, hB3⟩

def LbC (t : Tm) : Prop := ∀ (B : Nat) (ds : List Int) (v : Value) (tv : Value) (fp : List Nat) (w : World), GrowI B ds v w → t.At w tv fp → B ≤ w.heap.size → t.sz ≤ 1048576 → ds.length + 2 * (t.sz + 1) ≤ 4194300 →
  Calls Tryd.prog 62 #[v, tv] w fun e w' => ∃ v', e = .returned v' ∧ GrowI B (ecN srStep ds t) v' w' ∧ Below w.heap.size w w'

set_option linter.unusedSimpArgs false in
set_option maxRecDepth 100000 in
set_option maxHeartbeats 4000000 in
theorem l4Labels_of (k : Int) (nm : ByteArray) (num : Int) (ty fr : Ty) (lb : Int) (ts : List Tm) (ih : ∀ t ∈ ts, LbC t) : LbC (.mk k nm num ty fr lb ts) := by
  intro B ds v tv fp w hG hat hBw hsz hln
  have HIH := hid ih
  clear ih
  obtain ⟨k1, n1, a1, c1, k2, n2, a2, c2, a3, c3, f1, f2, f3, rfl, hnm, ht1, ht2, rfl, hs⟩ := hat.parts
  obtain ⟨a, cap, hss, hc, hm, hget⟩ := hs.open
  cases hss
  have HG := hid hget
  obtain ⟨av, capv, rfl⟩ := hG.shape
  have hb0 : Below w.heap.size w (w.alloc (Obj.cells #[.int .i64 k, .string nm, .int .i64 num, .int .i64 k1, .slice a1 n1 c1, .int .i64 k2, .slice a2 n2 c2, .int .i64 lb, .slice a3 ts.length c3] 35)) := (Below.refl _ _).alloc (Nat.le_refl _) _
  have HSZ := hid (show ts.length + szML ts ≤ 1048576 by simp only [Tm.sz] at hsz; omega)
  have HEC := hid (show ecN srStep ds (.mk k nm num ty fr lb ts) = ecL srStep (if k = 14 then srtI ds lb else ds) ts by rw [ecN]; rfl)
  have HLN := hid (show (if k = 14 then srtI ds lb else ds).length + 2 * (ts.length + szML ts) ≤ 4194300 by
    have := srtI_len ds lb
    simp only [Tm.sz] at hln
    split <;> omega)
  have hdl : ds.length ≤ 4194300 := by omega
  obtain ⟨z0, z1, z2, z3, z4, z5, z6, z7, z8⟩ := box9 (Below.refl (w.alloc (Obj.cells #[.int .i64 k, .string nm, .int .i64 num, .int .i64 k1, .slice a1 n1 c1, .int .i64 k2, .slice a2 n2 c2, .int .i64 lb, .slice a3 ts.length c3] 35)).heap.size (w.alloc (Obj.cells #[.int .i64 k, .string nm, .int .i64 num, .int .i64 k1, .slice a1 n1 c1, .int .i64 k2, .slice a2 n2 c2, .int .i64 lb, .slice a3 ts.length c3] 35)))
  clear hget hat hsz hln hs ht1 ht2 hnm
  by_cases hk : k = 14
  · subst hk
    rw [if_pos rfl] at HEC HLN
    have HS := hid (l4Sorted_any B ds _ lb _ (hG.below hb0) (Nat.le_trans hBw hb0.size) hdl)
    generalize srtI ds lb = D at *
    go_enter Tryd.func62, Tryd.ntmps62
    go_wp2_with fail
    refine HS.out.mono ?_
    rintro e w1 ⟨v1, rfl, hG1, hb1⟩
    have HG3 := hid hG1
    have HB3 := hid hb1
    obtain ⟨a1', c1', rfl⟩ := hG1.shape
    clear hG1 hb1 z0 z1 z2 z3 z4 z5 z6 z7 z8
    obtain ⟨z0, z1, z2, z3, z4, z5, z6, z7, z8⟩ := box9 HB3.out
    go_wp2_with fail
    go_loopw [0, 5] (fun out i wr => ∃ (j : Nat) (v' : Value), j ≤ ts.length ∧ i = .int .i64 j ∧ out = v' ∧ GrowI B (ecL srStep D (ts.take j)) v' wr ∧ Below (w.alloc (Obj.cells #[.int .i64 14, .string nm, .int .i64 num, .int .i64 k1, .slice a1 n1 c1, .int .i64 k2, .slice a2 n2 c2, .int .i64 lb, .slice a3 ts.length c3] 35)).heap.size (w.alloc (Obj.cells #[.int .i64 14, .string nm, .int .i64 num, .int .i64 k1, .slice a1 n1 c1, .int .i64 k2, .slice a2 n2 c2, .int .i64 lb, .slice a3 ts.length c3] 35)) wr) (fun _ i _ => ts.length - (intOf i).toNat)
    case atStart => exact ⟨0, _, Nat.zero_le _, rfl, rfl, by simpa [ecL] using HG3.out, HB3.out⟩
    case round =>
      obtain ⟨j, v', hj, rfl, hout, hG4, hbr⟩ := hrel
      obtain ⟨z0, z1, z2, z3, z4, z5, z6, z7, z8⟩ := box9 hbr
      obtain ⟨av', nv', capv', hshape⟩ : ∃ a n c, v' = .slice a n c := by obtain ⟨a, c, h⟩ := hG4.shape; exact ⟨a, _, c, h⟩
      subst hshape
      subst hout
      have HG4 := hid hG4
      have HBR := hid hbr
      have hBr : B ≤ wr.heap.size := Nat.le_trans (Nat.le_trans hBw hb0.size) hbr.size
      clear hG4 hbr
      by_cases hlk : j < ts.length
      · obtain ⟨b, o, q0, q1, q2, q3, q4, q5, q6, q7, q8, q9, q10, q11, q12, q13, q14, g1, hab, hblt, e0, e1, e2, e3, e4, e5, e6, e7, e8, hat, hf⟩ := HG.out j hlk
        subst hab
        have hbb := below_trans hb0 HBR.out
        have HAT := hid (hat.below hbb)
        replace e0 := cell_keep e0 hbb
        replace e1 := cell_keep e1 hbb
        replace e2 := cell_keep e2 hbb
        replace e3 := cell_keep e3 hbb
        replace e4 := cell_keep e4 hbb
        replace e5 := cell_keep e5 hbb
        replace e6 := cell_keep e6 hbb
        replace e7 := cell_keep e7 hbb
        replace e8 := cell_keep e8 hbb
        have HTK := hid (ecL_take srStep ts D j hlk)
        have hl2 : (ecL srStep D (ts.take j)).length + 2 * (ts[j].sz + 1) ≤ 4194300 := Nat.le_trans (ecL_take_len srStep List.length srStep_len ts D j hlk) HLN.out
        have hszj : ts[j].sz ≤ 1048576 := by have := HSZ.out; have := sz_mem (List.getElem_mem hlk); omega
        have HL2 := hid hl2
        clear hat hf hl2 hbb
        go_wp2_with fail
        refine (HIH.out _ (List.getElem_mem hlk) B _ _ _ _ _ HG4.out HAT.out hBr hszj HL2.out).mono ?_
        rintro e w4 ⟨v5, rfl, hG5, hb5⟩
        have HG5 := hid hG5
        have HB5 := hid (below_trans HBR.out hb5)
        clear hG5 hb5 e0 e1 e2 e3 e4 e5 e6 e7 e8 z0 z1 z2 z3 z4 z5 z6 z7 z8
        go_wp2_with fail
        go_roundw
        case rel => exact ⟨j + 1, _, by omega, by go_num, rfl, by rw [HTK.out]; exact HG5.out, HB5.out⟩
        case measure => simp [intOf]; omega
      · have hz : ts.take j = ts := List.take_of_length_le (by omega)
        have HZ := hid hz
        clear hz
        go_wp2_with fail
        go_ret
        refine ⟨_, rfl, ?_, below_trans hb0 HBR.out⟩
        have := HG4.out
        rw [HZ.out] at this
        rw [HEC.out]
        exact this
  · rw [if_neg hk] at HEC HLN
    have hk' : (k == 14) = false := by simpa using hk
    have HG3 := hid (hG.below hb0)
    have HB3 := hid (Below.refl (w.alloc (Obj.cells #[.int .i64 k, .string nm, .int .i64 num, .int .i64 k1, .slice a1 n1 c1, .int .i64 k2, .slice a2 n2 c2, .int .i64 lb, .slice a3 ts.length c3] 35)).heap.size (w.alloc (Obj.cells #[.int .i64 k, .string nm, .int .i64 num, .int .i64 k1, .slice a1 n1 c1, .int .i64 k2, .slice a2 n2 c2, .int .i64 lb, .slice a3 ts.length c3] 35)))
    go_enter Tryd.func62, Tryd.ntmps62
    go_wp2_with fail
    go_loopw [0, 5] (fun out i wr => ∃ (j : Nat) (v' : Value), j ≤ ts.length ∧ i = .int .i64 j ∧ out = v' ∧ GrowI B (ecL srStep ds (ts.take j)) v' wr ∧ Below (w.alloc (Obj.cells #[.int .i64 k, .string nm, .int .i64 num, .int .i64 k1, .slice a1 n1 c1, .int .i64 k2, .slice a2 n2 c2, .int .i64 lb, .slice a3 ts.length c3] 35)).heap.size (w.alloc (Obj.cells #[.int .i64 k, .string nm, .int .i64 num, .int .i64 k1, .slice a1 n1 c1, .int .i64 k2, .slice a2 n2 c2, .int .i64 lb, .slice a3 ts.length c3] 35)) wr) (fun _ i _ => ts.length - (intOf i).toNat)
    case atStart => exact ⟨0, _, Nat.zero_le _, rfl, rfl, by simpa [ecL] using HG3.out, HB3.out⟩
    case round =>
      obtain ⟨j, v', hj, rfl, hout, hG4, hbr⟩ := hrel
      obtain ⟨z0, z1, z2, z3, z4, z5, z6, z7, z8⟩ := box9 hbr
      obtain ⟨av', nv', capv', hshape⟩ : ∃ a n c, v' = .slice a n c := by obtain ⟨a, c, h⟩ := hG4.shape; exact ⟨a, _, c, h⟩
      subst hshape
      subst hout
      have HG4 := hid hG4
      have HBR := hid hbr
      have hBr : B ≤ wr.heap.size := Nat.le_trans (Nat.le_trans hBw hb0.size) hbr.size
      clear hG4 hbr
      by_cases hlk : j < ts.length
      · obtain ⟨b, o, q0, q1, q2, q3, q4, q5, q6, q7, q8, q9, q10, q11, q12, q13, q14, g1, hab, hblt, e0, e1, e2, e3, e4, e5, e6, e7, e8, hat, hf⟩ := HG.out j hlk
        subst hab
        have hbb := below_trans hb0 HBR.out
        have HAT := hid (hat.below hbb)
        replace e0 := cell_keep e0 hbb
        replace e1 := cell_keep e1 hbb
        replace e2 := cell_keep e2 hbb
        replace e3 := cell_keep e3 hbb
        replace e4 := cell_keep e4 hbb
        replace e5 := cell_keep e5 hbb
        replace e6 := cell_keep e6 hbb
        replace e7 := cell_keep e7 hbb
        replace e8 := cell_keep e8 hbb
        have HTK := hid (ecL_take srStep ts ds j hlk)
        have hl2 : (ecL srStep ds (ts.take j)).length + 2 * (ts[j].sz + 1) ≤ 4194300 := Nat.le_trans (ecL_take_len srStep List.length srStep_len ts ds j hlk) HLN.out
        have hszj : ts[j].sz ≤ 1048576 := by have := HSZ.out; have := sz_mem (List.getElem_mem hlk); omega
        have HL2 := hid hl2
        clear hat hf hl2 hbb
        go_wp2_with fail
        refine (HIH.out _ (List.getElem_mem hlk) B _ _ _ _ _ HG4.out HAT.out hBr hszj HL2.out).mono ?_
        rintro e w4 ⟨v5, rfl, hG5, hb5⟩
        have HG5 := hid hG5
        have HB5 := hid (below_trans HBR.out hb5)
        clear hG5 hb5 e0 e1 e2 e3 e4 e5 e6 e7 e8 z0 z1 z2 z3 z4 z5 z6 z7 z8
        go_wp2_with fail
        go_roundw
        case rel => exact ⟨j + 1, _, by omega, by go_num, rfl, by rw [HTK.out]; exact HG5.out, HB5.out⟩
        case measure => simp [intOf]; omega
      · have hz : ts.take j = ts := List.take_of_length_le (by omega)
        have HZ := hid hz
        clear hz
        go_wp2_with fail
        go_ret
        refine ⟨_, rfl, ?_, below_trans hb0 HBR.out⟩
        have := HG4.out
        rw [HZ.out] at this
        rw [HEC.out]
        exact this

theorem l4Labels_any : ∀ t : Tm, LbC t := Tm.ind l4Labels_of

/-- The document's CastLabels. -/
def lbLst (t : Tm) : List Int := if vldC t then ecN srStep [] t else []

/-- A new slice of numbers handed back. -/
def MadeI (w : World) (ds : List Int) (e : Ending) (w' : World) : Prop := ∃ v, e = .returned v ∧ GrowI w.heap.size ds v w' ∧ Below w.heap.size w w'

set_option maxRecDepth 100000 in
set_option maxHeartbeats 2000000 in
theorem specCastLabels (t : Tm) (v : Value) (fp : List Nat) (w : World) (hsz : t.sz ≤ 1048576) (hat : t.At w v fp) :
    Calls Tryd.prog 25 #[v] w (MadeI w (lbLst t)) := by
  have hat0 := hat
  obtain ⟨k, nm, num, k1, n1, a1, c1, k2, n2, a2, c2, lb, n3, a3, c3, rfl⟩ := hat.agg
  have hb0 : Below w.heap.size w (w.alloc (Obj.cells #[.int .i64 k, .string nm, .int .i64 num, .int .i64 k1, .slice a1 n1 c1, .int .i64 k2, .slice a2 n2 c2, .int .i64 lb, .slice a3 n3 c3] 35)) := (Below.refl _ _).alloc (Nat.le_refl _) _
  have HV := hid (specCastValid t _ _ _ hsz (hat0.below hb0))
  have HT := hid (show lbLst t = if vldC t then ecN srStep [] t else [] from rfl)
  generalize lbLst t = L at *
  generalize vldC t = r at *
  go_enter Tryd.func25, Tryd.ntmps25
  go_wp2_with fail
  refine HV.out.mono ?_
  rintro e w1 ⟨rfl, hb1⟩
  obtain ⟨z0, z1, z2, z3, z4, z5, z6, z7, z8⟩ := box9 hb1
  have b1 := below_trans hb0 hb1
  have hat2 := hat.below b1
  have hal : Below w1.heap.size w1 (w1.alloc (Obj.cells #[] 3)) := (Below.refl _ _).alloc (Nat.le_refl _) _
  have HG0 := hid (GrowI.new (B := w1.heap.size) (w := w1) (Nat.le_refl _))
  cases r
  · have HFIN := hid (show MadeI w L (.returned (.slice (some ⟨w1.heap.size, 0, none⟩) 0 0)) (w1.alloc (Obj.cells #[] 3)) from ⟨_, rfl, by rw [HT.out]; exact HG0.out.mono b1.size, below_trans b1 hal⟩)
    go_wp2_with fail
    go_ret
    exact HFIN.out
  · replace z0 := cell_keep z0 hal
    replace z1 := cell_keep z1 hal
    replace z2 := cell_keep z2 hal
    replace z3 := cell_keep z3 hal
    replace z4 := cell_keep z4 hal
    replace z5 := cell_keep z5 hal
    replace z6 := cell_keep z6 hal
    replace z7 := cell_keep z7 hal
    replace z8 := cell_keep z8 hal
    have b2 := below_trans b1 hal
    have HAT := hid (hat2.below hal)
    have hsz2 : ([] : List Int).length + 2 * (t.sz + 1) ≤ 4194300 := by simp only [List.length_nil]; omega
    have HS2 := hid hsz2
    clear hat2 hsz2
    go_wp2_with fail
    refine (l4Labels_any t w1.heap.size [] _ _ fp _ HG0.out HAT.out hal.size hsz HS2.out).mono ?_
    rintro e w3 ⟨v', rfl, hG, hb3⟩
    have HFIN := hid (show MadeI w L (.returned v') w3 from ⟨v', rfl, by rw [HT.out, if_pos trivial]; exact hG.mono b1.size, below_trans b2 hb3⟩)
    clear hG hb3
    go_wp2_with fail
    go_ret
    exact HFIN.out

end Go.Proofs.YtgiimijooabioaaDoor
