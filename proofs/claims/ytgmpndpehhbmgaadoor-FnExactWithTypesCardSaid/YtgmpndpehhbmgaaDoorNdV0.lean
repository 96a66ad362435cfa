/- The program's test of a node. -/
import Derived.Test.YtgmpndpehhbmgaaDoorCnM
import Derived.Test.YtgmpndpehhbmgaaDoorVld
namespace Go.Proofs.YtgmpndpehhbmgaaDoor
open Go.RowKit

theorem natbeq_ne {a b : Nat} (h : a ≠ b) : ((a : Int) == (b : Int)) = false := by
  rw [beq_eq_false_iff_ne]
  omega

theorem natbeq_eq {a b : Nat} (h : a = b) : ((a : Int) == (b : Int)) = true := by
  rw [h]
  simp

/-- The forms of the texts, by kinds: what the program's table holds. -/
def frm : Nat → ByteArray
  | 1 => ⟨#[110]⟩ | 2 => ⟨#[100]⟩ | 3 => ⟨#[84]⟩ | 4 => ⟨#[70]⟩ | 5 => ⟨#[33, 110, 58, 116, 46, 65]⟩ | 6 => ⟨#[40, 65, 32, 66, 41]⟩ | 7 => ⟨#[40, 65, 43, 66, 41]⟩ | 8 => ⟨#[40, 65, 60, 66, 41]⟩ | 9 => ⟨#[123, 65, 63, 66, 58, 67, 125]⟩ | 10 => ⟨#[91, 65, 44, 66, 93]⟩ | 11 => ⟨#[36, 65]⟩ | 12 => ⟨#[37, 65]⟩ | 13 => ⟨#[40, 65, 58, 116, 41]⟩
  | _ => ⟨#[]⟩

/-- The program's table, as it lies in the world. -/
def Forms (w : World) : Prop := ∀ j, j < 14 → w.cell? ⟨0, j, none⟩ = some (.string (frm j))

theorem Forms.below {w w' : World} (h : Forms w) (hb : Below w.heap.size w w') : Forms w' := fun j hj => cell_keep (h j hj) hb

theorem frm_opn : ∀ j : Nat, 1 ≤ j → j < 14 → ∃ n : Nat, kidsM j = (n : Int) ∧ Opn (frm j) n := by
  intro j h1 h2
  have : j = 1 ∨ j = 2 ∨ j = 3 ∨ j = 4 ∨ j = 5 ∨ j = 6 ∨ j = 7 ∨ j = 8 ∨ j = 9 ∨ j = 10 ∨ j = 11 ∨ j = 12 ∨ j = 13 := by omega
  unfold Opn
  rcases this with rfl | rfl | rfl | rfl | rfl | rfl | rfl | rfl | rfl | rfl | rfl | rfl | rfl
  · exact ⟨0, by decide, by decide, by decide, by decide⟩
  · exact ⟨0, by decide, by decide, by decide, by decide⟩
  · exact ⟨0, by decide, by decide, by decide, by decide⟩
  · exact ⟨0, by decide, by decide, by decide, by decide⟩
  · exact ⟨1, by decide, by decide, by decide, by decide⟩
  · exact ⟨2, by decide, by decide, by decide, by decide⟩
  · exact ⟨2, by decide, by decide, by decide, by decide⟩
  · exact ⟨2, by decide, by decide, by decide, by decide⟩
  · exact ⟨3, by decide, by decide, by decide, by decide⟩
  · exact ⟨2, by decide, by decide, by decide, by decide⟩
  · exact ⟨1, by decide, by decide, by decide, by decide⟩
  · exact ⟨1, by decide, by decide, by decide, by decide⟩
  · exact ⟨1, by decide, by decide, by decide, by decide⟩

theorem frm_shows : ∀ j : Nat, 1 ≤ j → j < 14 → showsB (frm j) 110 = decide (j = 1 ∨ j = 5) ∧ showsB (frm j) 100 = decide (j = 2) ∧ showsB (frm j) 116 = decide (j = 5 ∨ j = 13) := by
  intro j h1 h2
  have : j = 1 ∨ j = 2 ∨ j = 3 ∨ j = 4 ∨ j = 5 ∨ j = 6 ∨ j = 7 ∨ j = 8 ∨ j = 9 ∨ j = 10 ∨ j = 11 ∨ j = 12 ∨ j = 13 := by omega
  rcases this with rfl | rfl | rfl | rfl | rfl | rfl | rfl | rfl | rfl | rfl | rfl | rfl | rfl <;> decide

/-- A node is right but for what lies below it. -/
def nodeB (k : Int) (nm : ByteArray) (num : Int) (ty fr : Ty) (lb : Int) (n : Nat) : Bool := (kidsM k == (n : Int)) && (k != 14) && ownM k nm num ty fr lb

theorem nodeB_eq (j : Nat) (h1 : 1 ≤ j) (h2 : j < 14) (nm : ByteArray) (num : Int) (ty fr : Ty) (lb : Int) (n : Nat) :
    nodeB (j : Int) nm num ty fr lb n = ((kidsM j == (n : Int)) && (if showsB (frm j) 110 then isNm nm else nm.toList.isEmpty) && (if showsB (frm j) 100 then decide (0 ≤ num) && decide (num ≤ 999) else num == 0) && (if showsB (frm j) 116 then vld ty else noTy ty) && noTy fr && (lb == 0)) := by
  obtain ⟨s1, s2, s3⟩ := frm_shows j h1 h2
  have he : (nm.size == 0) = nm.toList.isEmpty := by
    by_cases h : nm.size = 0
    · rw [empty_of_size h, Lib.toList_data]; rfl
    · rw [ne_empty h]; simpa using h
  have hj : ((j : Int) != 14) = true := by simp; omega
  have hj' : ((j : Int) == 14) = false := by simp; omega
  have e1 : (((j : Int) = 1 ∨ (j : Int) = 5)) = (j = 1 ∨ j = 5) := by apply propext; omega
  have e2 : (((j : Int) = 5 ∨ (j : Int) = 13 ∨ (j : Int) = 14)) = (j = 5 ∨ j = 13) := by apply propext; omega
  have e3 : (((j : Int) = 2)) = (j = 2) := by apply propext; omega
  unfold nodeB ownM
  rw [s1, s2, s3, he, hj, hj']
  simp only [e1, e2, e3, decide_eq_true_eq, Bool.and_true, Bool.false_or]
  cases (kidsM (j : Int) == (n : Int)) <;> cases (if j = 1 ∨ j = 5 then isNm nm else nm.toList.isEmpty) <;> cases (if j = 5 ∨ j = 13 then vld ty else noTy ty) <;> cases noTy fr <;> cases (lb == 0) <;> simp

theorem nodeB_low {k : Int} (h : ¬ (1 ≤ k ∧ k ≤ 13)) (nm : ByteArray) (num : Int) (ty fr : Ty) (lb : Int) (n : Nat) : nodeB k nm num ty fr lb n = false := by
  unfold nodeB
  by_cases h14 : k = 14
  · subst h14; simp
  · have : kidsM k = -1 := by
      unfold kidsM
      rw [if_neg (by omega), if_neg (by omega), if_neg (by omega), if_neg (by omega)]
    rw [this]
    have : ((-1 : Int) == (n : Int)) = false := by rw [beq_eq_false_iff_ne]; omega
    rw [this]
    rfl

theorem validOrZero_to {a b c r : Bool} (h : (if a = true then b else c) = r) (w : World) : Calls Tryd.prog 157 #[.bool a, .bool b, .bool c] w fun e w' => e = .returned (.bool r) ∧ w' = w := by
  rw [← h]
  exact validOrZero_any a b c w

theorem num_bad {num : Int} (h : ¬ 0 ≤ num) (b : Bool) : (if b = true then decide (0 ≤ num) && decide (num ≤ 999) else num == 0) = false := by
  have h2 : (num == 0) = false := by rw [beq_eq_false_iff_ne]; omega
  cases b
  · simpa using h2
  · simp; omega

theorem num_good {num : Int} (h : 0 ≤ num) (b : Bool) : (if b = true then decide (0 ≤ num) && decide (num ≤ 999) else num == 0) = (if b = true then decide (num ≤ 999) else num == 0) := by
  cases b <;> simp [h]

end Go.Proofs.YtgmpndpehhbmgaaDoor
