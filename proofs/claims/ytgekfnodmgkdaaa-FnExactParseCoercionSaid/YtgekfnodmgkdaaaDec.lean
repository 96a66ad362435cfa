/- The specification's l18Dec: the decimal numeral. -/
import Derived.Test.YtgekfnodmgkdaaaIto
import Derived.Test.YtgekfnodmgkdaaaTx0
import Derived.Laws.BytesString
import Derived.Laws.Cells
import Derived.Deep.AppendLies
namespace Go.Proofs.Ytgekfnodmgkdaaa
open Go.RowKit

theorem dec_str (m : Nat) (r : List UInt8) : (⟨#[UInt8.ofNat m]⟩ : ByteArray) ++ ⟨r.toArray⟩ = ⟨(UInt8.ofNat m :: r).toArray⟩ := by
  apply ByteArray.ext
  simp [ByteArray.data_append]

theorem dec_step (m : Nat) (h : 9 < m) : Lib.decDigits m = Lib.decDigits (m / 10) ++ [UInt8.ofNat (48 + m % 10)] := by
  rw [Lib.decDigits.eq_1 m, dif_neg (by omega)]

/-- One byte as a string. -/
theorem conv1 (W : World) (x : Int) : (convert 115 9 (.slice (some ⟨W.heap.size, 0, none⟩) 1 1)).run Try.prog (W.alloc (Obj.cells #[.int .u8 x] 5)) = .ok (.string ⟨#[UInt8.ofNat x.toNat]⟩) (W.alloc (Obj.cells #[.int .u8 x] 5)) := by
  have h := run_loadCells_list (P := Try.prog) (w := W.alloc (Obj.cells #[.int .u8 x] 5)) ⟨W.heap.size, 0, none⟩ [.int .u8 x] (World.news_of_block (cs := #[.int .u8 x]) (t := 5) (fr := (0, 0)) (alloc_new W _))
  rw [run_convert_bytes_string _ _ _ 5 _ _ _ Try.underlying115 Try.underlying5 Try.underlying9, run_bytesToString _ _ _ _ [x] (by simpa using h)]
  rfl

set_option maxRecDepth 100000 in
set_option maxHeartbeats 1000000 in
theorem l18Dec_nat (u : Nat) (hu : u ≤ 9999) (w : World) : Calls Try.prog 77 #[.int .i64 (u : Int)] w fun e w' => e = .returned (.string ⟨(Lib.decDigits u).toArray⟩) ∧ Below w.heap.size w w' := by
  have hneg : ¬ ((u : Int) < -9223372036854775807) := by omega
  have hneg2 : ¬ ((u : Int) < 0) := by omega
  go_enter Try.func77, Try.ntmps77
  go_wp2_with fail
  go_loopw [0, 3] (fun n out wr => ∃ (m : Nat) (r : List UInt8), n = .int .i64 (m : Int) ∧ out = .string ⟨r.toArray⟩ ∧ m ≤ 9999 ∧ r.length ≤ 9999 - m ∧ Lib.decDigits u = Lib.decDigits m ++ r ∧ Below w.heap.size w wr) (fun n _ _ => (intOf n).toNat)
  case atStart => exact ⟨u, [], rfl, rfl, hu, Nat.zero_le _, by simp, Below.refl _ _⟩
  case round =>
    obtain ⟨m, r, rfl, rfl, hm, hr, hd, hb⟩ := hrel
    by_cases h9 : 9 < m
    · have h9' : (9 : Int) < (m : Int) := by omega
      have HD := hid hd
      have HB := hid hb
      clear hd hb
      have hcv := fun x : Int => conv1 wr x
      have hq : ¬ (9223372036854775807 < 1 + r.length) := by omega
      have HDM := hid (dec_step m (by omega))
      have e8 : 48 + UInt8.ofNat (m % 10) = UInt8.ofNat (48 + m % 10) := by rw [UInt8.ofNat_add]; rfl
      have HE := hid e8
      clear e8
      go_wp2_with fail
      refine ⟨⟨m / 10, UInt8.ofNat (48 + m % 10) :: r, by simp, ?_, by omega, by simp; omega, by rw [HD.out, HDM.out]; simp, HB.out.trans ((Below.refl _ _).alloc HB.out.size _)⟩, by simp [intOf]; omega⟩
      rw [HE.out, dec_str]
    · have HD := hid hd
      have HB := hid hb
      have h9' : ¬ ((9 : Int) < (m : Int)) := by omega
      clear hd hb
      have hcv := fun x : Int => conv1 wr x
      have HDM := hid (show Lib.decDigits m = [UInt8.ofNat (48 + m)] from Lib.decDigits_one (by omega))
      have e8 : 48 + UInt8.ofNat m = UInt8.ofNat (48 + m) := by rw [UInt8.ofNat_add]; rfl
      have HE := hid e8
      clear e8
      go_wp2_with fail
      go_ret
      refine ⟨ret_s ?_, HB.out.trans ((Below.refl _ _).alloc HB.out.size _)⟩
      rw [HD.out, HDM.out]
      first | (rw [HE.out, dec_str]; rfl) | (simp only [HE.out]; rw [dec_str]; rfl) | trace_state
end Go.Proofs.Ytgekfnodmgkdaaa
