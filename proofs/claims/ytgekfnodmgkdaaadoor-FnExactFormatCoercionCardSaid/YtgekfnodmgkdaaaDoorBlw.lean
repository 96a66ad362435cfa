/- strings.Builder's WriteString, laid at this seat's own numbers. -/
import Derived.Test.YtgekfnodmgkdaaaDoorTxW
namespace Go.Proofs.YtgekfnodmgkdaaaDoor
open Go.Shelf Go.RowKit

def bwsRen : Go.Shelf.Ren := ⟨fun | 166 => 124 | 240 => 171 | 276 => 208 | n => n, fun | 0 => 0 | 3 => 3 | 4 => 4 | 9 => 9 | 20 => 20 | 37 => 81 | 70 => 80 | 72 => 83 | 75 => 143 | 80 => 85 | 164 => 212 | n => n, fun  | n => n⟩
theorem bwsLays166 : Go.Proofs.Lays.n166 Tryd.prog bwsRen := {
  mixed := by kernel_rfl
  f166 := Tryd.func124.trans (congrArg some (by kernel_rfl))
  f240 := Tryd.func171.trans (congrArg some (by kernel_rfl))
  f276 := Tryd.func208.trans (congrArg some (by kernel_rfl))
  t0 := Tryd.underlying0
  a0 := Tryd.isAgg0
  z0 := Tryd.sizeOf0
  v0 := Tryd.zeroValue0
  t3 := Tryd.underlying3
  a3 := Tryd.isAgg3
  z3 := Tryd.sizeOf3
  v3 := Tryd.zeroValue3
  t4 := Tryd.underlying4
  a4 := Tryd.isAgg4
  z4 := Tryd.sizeOf4
  v4 := Tryd.zeroValue4
  t9 := Tryd.underlying9
  a9 := Tryd.isAgg9
  z9 := Tryd.sizeOf9
  v9 := Tryd.zeroValue9
  t20 := Tryd.underlying20
  a20 := Tryd.isAgg20
  z20 := Tryd.sizeOf20
  v20 := Tryd.zeroValue20
  t37 := Tryd.underlying81
  a37 := Tryd.isAgg81
  z37 := Tryd.sizeOf81
  v37 := Tryd.zeroValue81
  t70 := Tryd.underlying80
  a70 := Tryd.isAgg80
  z70 := Tryd.sizeOf80
  v70 := Tryd.zeroValue80
  t72 := Tryd.underlying83
  a72 := Tryd.isAgg83
  z72 := Tryd.sizeOf83
  v72 := Tryd.zeroValue83
  t75 := Tryd.underlying143
  a75 := Tryd.isAgg143
  z75 := Tryd.sizeOf143
  v75 := Tryd.zeroValue143
  t164 := Tryd.underlying212
  a164 := Tryd.isAgg212
  z164 := Tryd.sizeOf212
  v164 := Tryd.zeroValue212 }
theorem bwsExtra : Builder.Extra Tryd.prog bwsRen := {
  sizeBuilder := by kernel_rfl
  liesBuilder := by kernel_rfl
  t5 := Tryd.underlying5
  a5 := Tryd.isAgg5
  z5 := Tryd.sizeOf5
  v5 := Tryd.zeroValue5
  infoByte := by kernel_rfl
  cellsByte := by kernel_rfl
  sizeByte := by kernel_rfl
  neB5 := by decide }

theorem bytes_strCells (l : List UInt8) : Lib.strCells ⟨l.toArray⟩ = Lib.byteCells l := by simp [Lib.strCells, Lib.byteCells]

theorem writeS (B b : Nat) (acc s : List UInt8) (w : World) (h : Lib.IsBuilderF 83 5 B b (Lib.byteCells acc) w) (hlen : acc.length + s.length ≤ 1099511627776) (hBw : B ≤ w.heap.size) :
    Calls Tryd.prog 124 #[.pointer (some ⟨b, 0, none⟩), .string ⟨s.toArray⟩] w fun e w' => (∃ r, e = .returned r) ∧ Lib.IsBuilderF 83 5 B b (Lib.byteCells (acc ++ s)) w' ∧ Below B w w' ∧ Lib.OthersKept 5 (some b) w w' :=
  (Any.Builder_WriteString_k bwsLays166 bwsExtra B b _ ⟨s.toArray⟩ w h (by rw [Lib.byteCells_length]; simp [ByteArray.size]; omega) hBw).mono fun _ _ ⟨he, h1, h2, h3⟩ => ⟨⟨_, he⟩, by rw [bytes_strCells] at h1; rw [Lib.byteCells_append]; exact Or.inr h1, h2, h3⟩
end Go.Proofs.YtgekfnodmgkdaaaDoor
