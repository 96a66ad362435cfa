/- slices.Sort and slices.Compact at []int, laid at this seat's own numbers. -/
import Derived.Shelf.Sort.Plain
import Derived.Shelf.Slices.In.SortNone
import Derived.Shelf.Slices.CompactI
import Derived.Test.YtgiimijooabioaaDoorPkA
namespace Go.Proofs.YtgiimijooabioaaDoor
open Go.Shelf Go.RowKit

set_option maxRecDepth 100000
def srtRen : Go.Shelf.Ren := ⟨fun | 125 => 131 | 128 => 166 | 129 => 167 | 189 => 97 | 215 => 190 | 216 => 163 | 257 => 130 | 294 => 157 | 295 => 158 | 296 => 159 | 297 => 160 | 298 => 161 | 299 => 162 | 300 => 164 | 301 => 165 | 328 => 185 | 329 => 186 | 330 => 187 | 331 => 188 | 332 => 189 | 343 => 199 | n => n, fun | 0 => 0 | 3 => 3 | 4 => 4 | 5 => 5 | 9 => 9 | 28 => 39 | 46 => 134 | 51 => 166 | 53 => 168 | 131 => 138 | 182 => 158 | 183 => 159 | 218 => 178 | 222 => 182 | 228 => 188 | 229 => 105 | n => n, fun  | n => n⟩
theorem srtLays189 : Go.Proofs.Lays.n189 Tryd.prog srtRen := {
  mixed := by kernel_rfl
  f125 := Tryd.func131.trans (congrArg some (by kernel_rfl))
  f128 := Tryd.func166.trans (congrArg some (by kernel_rfl))
  f129 := Tryd.func167.trans (congrArg some (by kernel_rfl))
  f189 := Tryd.func97.trans (congrArg some (by kernel_rfl))
  f215 := Tryd.func190.trans (congrArg some (by kernel_rfl))
  f216 := Tryd.func163.trans (congrArg some (by kernel_rfl))
  f257 := Tryd.func130.trans (congrArg some (by kernel_rfl))
  f294 := Tryd.func157.trans (congrArg some (by kernel_rfl))
  f295 := Tryd.func158.trans (congrArg some (by kernel_rfl))
  f296 := Tryd.func159.trans (congrArg some (by kernel_rfl))
  f297 := Tryd.func160.trans (congrArg some (by kernel_rfl))
  f298 := Tryd.func161.trans (congrArg some (by kernel_rfl))
  f299 := Tryd.func162.trans (congrArg some (by kernel_rfl))
  f300 := Tryd.func164.trans (congrArg some (by kernel_rfl))
  f301 := Tryd.func165.trans (congrArg some (by kernel_rfl))
  f328 := Tryd.func185.trans (congrArg some (by kernel_rfl))
  f329 := Tryd.func186.trans (congrArg some (by kernel_rfl))
  f330 := Tryd.func187.trans (congrArg some (by kernel_rfl))
  f331 := Tryd.func188.trans (congrArg some (by kernel_rfl))
  f332 := Tryd.func189.trans (congrArg some (by kernel_rfl))
  f343 := Tryd.func199.trans (congrArg some (by kernel_rfl))
  t0 := Tryd.underlying0
  a0 := Tryd.isAgg0
  z0 := Tryd.sizeOf0
  v0 := Tryd.zeroValue0
  t3 := Tryd.underlying3
  a3 := Tryd.isAgg3
  z3 := Tryd.sizeOf3
  v3 := Tryd.zeroValue3
  t4 := Tryd.underlying4
  a4 := Tryd.isAgg4
  z4 := Tryd.sizeOf4
  v4 := Tryd.zeroValue4
  t5 := Tryd.underlying5
  a5 := Tryd.isAgg5
  z5 := Tryd.sizeOf5
  v5 := Tryd.zeroValue5
  t9 := Tryd.underlying9
  a9 := Tryd.isAgg9
  z9 := Tryd.sizeOf9
  v9 := Tryd.zeroValue9
  t28 := Tryd.underlying39
  a28 := Tryd.isAgg39
  z28 := Tryd.sizeOf39
  v28 := Tryd.zeroValue39
  t46 := Tryd.underlying134
  a46 := Tryd.isAgg134
  z46 := Tryd.sizeOf134
  v46 := Tryd.zeroValue134
  t51 := Tryd.underlying166
  a51 := Tryd.isAgg166
  z51 := Tryd.sizeOf166
  v51 := Tryd.zeroValue166
  t53 := Tryd.underlying168
  a53 := Tryd.isAgg168
  z53 := Tryd.sizeOf168
  v53 := Tryd.zeroValue168
  t131 := Tryd.underlying138
  a131 := Tryd.isAgg138
  z131 := Tryd.sizeOf138
  v131 := Tryd.zeroValue138
  t182 := Tryd.underlying158
  a182 := Tryd.isAgg158
  z182 := Tryd.sizeOf158
  v182 := Tryd.zeroValue158
  t183 := Tryd.underlying159
  a183 := Tryd.isAgg159
  z183 := Tryd.sizeOf159
  v183 := Tryd.zeroValue159
  t218 := Tryd.underlying178
  a218 := Tryd.isAgg178
  z218 := Tryd.sizeOf178
  v218 := Tryd.zeroValue178
  t222 := Tryd.underlying182
  a222 := Tryd.isAgg182
  z222 := Tryd.sizeOf182
  v222 := Tryd.zeroValue182
  t228 := Tryd.underlying188
  a228 := Tryd.isAgg188
  z228 := Tryd.sizeOf188
  v228 := Tryd.zeroValue188
  t229 := Tryd.underlying105
  a229 := Tryd.isAgg105
  z229 := Tryd.sizeOf105
  v229 := Tryd.zeroValue105 }
def cpcRen : Go.Shelf.Ren := ⟨fun | 20 => 98 | n => n, fun | 0 => 0 | 3 => 3 | 4 => 4 | 22 => 39 | n => n, fun  | n => n⟩
theorem cpcLays20 : Go.Proofs.Lays2.n20 Tryd.prog cpcRen := {
  mixed := by kernel_rfl
  f20 := Tryd.func98.trans (congrArg some (by kernel_rfl))
  t0 := Tryd.underlying0
  a0 := Tryd.isAgg0
  z0 := Tryd.sizeOf0
  v0 := Tryd.zeroValue0
  t3 := Tryd.underlying3
  a3 := Tryd.isAgg3
  z3 := Tryd.sizeOf3
  v3 := Tryd.zeroValue3
  t4 := Tryd.underlying4
  a4 := Tryd.isAgg4
  z4 := Tryd.sizeOf4
  v4 := Tryd.zeroValue4
  t22 := Tryd.underlying39
  a22 := Tryd.isAgg39
  z22 := Tryd.sizeOf39
  v22 := Tryd.zeroValue39
  i3 := by kernel_rfl }

theorem sortInts (blk off cap : Nat) (zs : List Int) (w : World) (hH : Sort.Holds (Value.int .i64) w blk off zs.toArray) (hblk : blk < w.heap.size) (hsz : zs.length < 4611686018427387904) :
    Calls Tryd.prog 97 #[.slice (some ⟨blk, off, none⟩) zs.length cap] w fun e w' =>
      e = .returned (.tuple #[]) ∧ ∃ n os, w' = Sort.grow (Sort.putRow (Value.int .i64) (Sort.ahead w n) blk off (zs.mergeSort fun x y => decide (x ≤ y)).toArray) os :=
  Any.slices_Sort_int srtLays189 blk off cap zs w hH hblk hsz

theorem compactInts (blk off cap : Nat) (zs : List Int) (w : World) (hH : Sort.Holds (Value.int .i64) w blk off zs.toArray) (hsz : zs.length ≤ 9223372036854775807) (hcap : zs.length ≤ cap) :
    Calls Tryd.prog 98 #[.slice (some ⟨blk, off, none⟩) zs.length cap] w fun e w' => e = .returned (.slice (some ⟨blk, off, none⟩) (Lib.compact zs).length cap) ∧ ∃ q, w' = Sort.putRow (Value.int .i64) (Sort.ahead w q) blk off (Lib.compact zs ++ List.replicate (zs.length - (Lib.compact zs).length) 0).toArray :=
  Any.slices_Compact_int cpcLays20 blk off cap zs w hH hsz hcap
end Go.Proofs.YtgiimijooabioaaDoor
