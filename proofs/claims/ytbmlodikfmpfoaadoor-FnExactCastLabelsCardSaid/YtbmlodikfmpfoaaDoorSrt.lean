/- slices.Sort and slices.Compact at []int, laid at this seat's own numbers. -/
import Derived.Shelf.Sort.Plain
import Derived.Shelf.Slices.In.SortNone
import Derived.Shelf.Slices.CompactI
import Derived.Test.YtbmlodikfmpfoaaDoorTy
namespace Go.Proofs.YtbmlodikfmpfoaaDoor
open Go.Shelf Go.RowKit

set_option maxRecDepth 100000
def srtRen : Go.Shelf.Ren := ⟨fun | 125 => 111 | 128 => 148 | 129 => 149 | 189 => 71 | 215 => 173 | 216 => 145 | 257 => 110 | 294 => 139 | 295 => 140 | 296 => 141 | 297 => 142 | 298 => 143 | 299 => 144 | 300 => 146 | 301 => 147 | 328 => 168 | 329 => 169 | 330 => 170 | 331 => 171 | 332 => 172 | 343 => 188 | n => n, fun | 0 => 0 | 3 => 3 | 4 => 4 | 5 => 5 | 9 => 9 | 28 => 45 | 46 => 119 | 51 => 103 | 53 => 160 | 131 => 156 | 182 => 150 | 183 => 151 | 218 => 174 | 222 => 178 | 228 => 187 | 229 => 188 | n => n, fun | n => n⟩
theorem srtLays189 : Go.Proofs.Lays.n189 Tryd.prog srtRen := {
  mixed := by kernel_rfl
  f125 := Tryd.func111.trans (congrArg some (by kernel_rfl))
  f128 := Tryd.func148.trans (congrArg some (by kernel_rfl))
  f129 := Tryd.func149.trans (congrArg some (by kernel_rfl))
  f189 := Tryd.func71.trans (congrArg some (by kernel_rfl))
  f215 := Tryd.func173.trans (congrArg some (by kernel_rfl))
  f216 := Tryd.func145.trans (congrArg some (by kernel_rfl))
  f257 := Tryd.func110.trans (congrArg some (by kernel_rfl))
  f294 := Tryd.func139.trans (congrArg some (by kernel_rfl))
  f295 := Tryd.func140.trans (congrArg some (by kernel_rfl))
  f296 := Tryd.func141.trans (congrArg some (by kernel_rfl))
  f297 := Tryd.func142.trans (congrArg some (by kernel_rfl))
  f298 := Tryd.func143.trans (congrArg some (by kernel_rfl))
  f299 := Tryd.func144.trans (congrArg some (by kernel_rfl))
  f300 := Tryd.func146.trans (congrArg some (by kernel_rfl))
  f301 := Tryd.func147.trans (congrArg some (by kernel_rfl))
  f328 := Tryd.func168.trans (congrArg some (by kernel_rfl))
  f329 := Tryd.func169.trans (congrArg some (by kernel_rfl))
  f330 := Tryd.func170.trans (congrArg some (by kernel_rfl))
  f331 := Tryd.func171.trans (congrArg some (by kernel_rfl))
  f332 := Tryd.func172.trans (congrArg some (by kernel_rfl))
  f343 := Tryd.func188.trans (congrArg some (by kernel_rfl))
  t0 := Tryd.underlying0
  a0 := Tryd.isAgg0
  z0 := Tryd.sizeOf0
  v0 := Tryd.zeroValue0
  t3 := Tryd.underlying3
  a3 := Tryd.isAgg3
  z3 := Tryd.sizeOf3
  v3 := Tryd.zeroValue3
  t4 := Tryd.underlying4
  a4 := Tryd.isAgg4
  z4 := Tryd.sizeOf4
  v4 := Tryd.zeroValue4
  t5 := Tryd.underlying5
  a5 := Tryd.isAgg5
  z5 := Tryd.sizeOf5
  v5 := Tryd.zeroValue5
  t9 := Tryd.underlying9
  a9 := Tryd.isAgg9
  z9 := Tryd.sizeOf9
  v9 := Tryd.zeroValue9
  t28 := Tryd.underlying45
  a28 := Tryd.isAgg45
  z28 := Tryd.sizeOf45
  v28 := Tryd.zeroValue45
  t46 := Tryd.underlying119
  a46 := Tryd.isAgg119
  z46 := Tryd.sizeOf119
  v46 := Tryd.zeroValue119
  t51 := Tryd.underlying103
  a51 := Tryd.isAgg103
  z51 := Tryd.sizeOf103
  v51 := Tryd.zeroValue103
  t53 := Tryd.underlying160
  a53 := Tryd.isAgg160
  z53 := Tryd.sizeOf160
  v53 := Tryd.zeroValue160
  t131 := Tryd.underlying156
  a131 := Tryd.isAgg156
  z131 := Tryd.sizeOf156
  v131 := Tryd.zeroValue156
  t182 := Tryd.underlying150
  a182 := Tryd.isAgg150
  z182 := Tryd.sizeOf150
  v182 := Tryd.zeroValue150
  t183 := Tryd.underlying151
  a183 := Tryd.isAgg151
  z183 := Tryd.sizeOf151
  v183 := Tryd.zeroValue151
  t218 := Tryd.underlying174
  a218 := Tryd.isAgg174
  z218 := Tryd.sizeOf174
  v218 := Tryd.zeroValue174
  t222 := Tryd.underlying178
  a222 := Tryd.isAgg178
  z222 := Tryd.sizeOf178
  v222 := Tryd.zeroValue178
  t228 := Tryd.underlying187
  a228 := Tryd.isAgg187
  z228 := Tryd.sizeOf187
  v228 := Tryd.zeroValue187
  t229 := Tryd.underlying188
  a229 := Tryd.isAgg188
  z229 := Tryd.sizeOf188
  v229 := Tryd.zeroValue188 }
def cpcRen : Go.Shelf.Ren := ⟨fun | 20 => 72 | n => n, fun | 0 => 0 | 3 => 3 | 4 => 4 | 22 => 45 | n => n, fun | n => n⟩
theorem cpcLays20 : Go.Proofs.Lays2.n20 Tryd.prog cpcRen := {
  mixed := by kernel_rfl
  f20 := Tryd.func72.trans (congrArg some (by kernel_rfl))
  t0 := Tryd.underlying0
  a0 := Tryd.isAgg0
  z0 := Tryd.sizeOf0
  v0 := Tryd.zeroValue0
  t3 := Tryd.underlying3
  a3 := Tryd.isAgg3
  z3 := Tryd.sizeOf3
  v3 := Tryd.zeroValue3
  t4 := Tryd.underlying4
  a4 := Tryd.isAgg4
  z4 := Tryd.sizeOf4
  v4 := Tryd.zeroValue4
  t22 := Tryd.underlying45
  a22 := Tryd.isAgg45
  z22 := Tryd.sizeOf45
  v22 := Tryd.zeroValue45
  i3 := by kernel_rfl }

theorem sortInts (blk off cap : Nat) (zs : List Int) (w : World) (hH : Sort.Holds (Value.int .i64) w blk off zs.toArray) (hblk : blk < w.heap.size) (hsz : zs.length < 4611686018427387904) :
    Calls Tryd.prog 71 #[.slice (some ⟨blk, off, none⟩) zs.length cap] w fun e w' =>
      e = .returned (.tuple #[]) ∧ ∃ n os, w' = Sort.grow (Sort.putRow (Value.int .i64) (Sort.ahead w n) blk off (zs.mergeSort fun x y => decide (x ≤ y)).toArray) os :=
  Any.slices_Sort_int srtLays189 blk off cap zs w hH hblk hsz

theorem compactInts (blk off cap : Nat) (zs : List Int) (w : World) (hH : Sort.Holds (Value.int .i64) w blk off zs.toArray) (hsz : zs.length ≤ 9223372036854775807) (hcap : zs.length ≤ cap) :
    Calls Tryd.prog 72 #[.slice (some ⟨blk, off, none⟩) zs.length cap] w fun e w' => e = .returned (.slice (some ⟨blk, off, none⟩) (Lib.compact zs).length cap) ∧ ∃ q, w' = Sort.putRow (Value.int .i64) (Sort.ahead w q) blk off (Lib.compact zs ++ List.replicate (zs.length - (Lib.compact zs).length) 0).toArray :=
  Any.slices_Compact_int cpcLays20 blk off cap zs w hH hsz hcap
end Go.Proofs.YtbmlodikfmpfoaaDoor
