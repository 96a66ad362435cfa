/- strconv.Itoa, laid at this seat's own numbers. -/
import Derived.Shelf.Strconv.Itoa3
import Derived.Test.YtgekfnodmgkdaaaDoorPkA
namespace Go.Proofs.YtgekfnodmgkdaaaDoor
open Go.Shelf Go.RowKit

set_option maxRecDepth 100000
def itoRen : Go.Shelf.Ren := ⟨fun | 129 => 244 | 171 => 125 | 243 => 172 | 246 => 209 | 283 => 229 | 284 => 230 | 285 => 231 | 286 => 232 | 317 => 243 | 318 => 245 | 319 => 246 | 320 => 247 | 337 => 248 | 338 => 249 | n => n, fun | 0 => 0 | 2 => 2 | 3 => 3 | 4 => 4 | 5 => 5 | 9 => 9 | 20 => 20 | 37 => 81 | 46 => 236 | 51 => 234 | 53 => 224 | 171 => 223 | 173 => 227 | 212 => 233 | 213 => 235 | 232 => 239 | 233 => 240 | n => n, fun | 17 => 1 | 18 => 3 | 19 => 4 | n => n⟩
theorem itoLays171 : Go.Proofs.Lays.n171 Tryd.prog itoRen := {
  mixed := by kernel_rfl
  f129 := Tryd.func244.trans (congrArg some (by kernel_rfl))
  f171 := Tryd.func125.trans (congrArg some (by kernel_rfl))
  f243 := Tryd.func172.trans (congrArg some (by kernel_rfl))
  f246 := Tryd.func209.trans (congrArg some (by kernel_rfl))
  f283 := Tryd.func229.trans (congrArg some (by kernel_rfl))
  f284 := Tryd.func230.trans (congrArg some (by kernel_rfl))
  f285 := Tryd.func231.trans (congrArg some (by kernel_rfl))
  f286 := Tryd.func232.trans (congrArg some (by kernel_rfl))
  f317 := Tryd.func243.trans (congrArg some (by kernel_rfl))
  f318 := Tryd.func245.trans (congrArg some (by kernel_rfl))
  f319 := Tryd.func246.trans (congrArg some (by kernel_rfl))
  f320 := Tryd.func247.trans (congrArg some (by kernel_rfl))
  f337 := Tryd.func248.trans (congrArg some (by kernel_rfl))
  f338 := Tryd.func249.trans (congrArg some (by kernel_rfl))
  t0 := Tryd.underlying0
  a0 := Tryd.isAgg0
  z0 := Tryd.sizeOf0
  v0 := Tryd.zeroValue0
  t2 := Tryd.underlying2
  a2 := Tryd.isAgg2
  z2 := Tryd.sizeOf2
  v2 := Tryd.zeroValue2
  t3 := Tryd.underlying3
  a3 := Tryd.isAgg3
  z3 := Tryd.sizeOf3
  v3 := Tryd.zeroValue3
  t4 := Tryd.underlying4
  a4 := Tryd.isAgg4
  z4 := Tryd.sizeOf4
  v4 := Tryd.zeroValue4
  t5 := Tryd.underlying5
  a5 := Tryd.isAgg5
  z5 := Tryd.sizeOf5
  v5 := Tryd.zeroValue5
  t9 := Tryd.underlying9
  a9 := Tryd.isAgg9
  z9 := Tryd.sizeOf9
  v9 := Tryd.zeroValue9
  t20 := Tryd.underlying20
  a20 := Tryd.isAgg20
  z20 := Tryd.sizeOf20
  v20 := Tryd.zeroValue20
  t37 := Tryd.underlying81
  a37 := Tryd.isAgg81
  z37 := Tryd.sizeOf81
  v37 := Tryd.zeroValue81
  t46 := Tryd.underlying236
  a46 := Tryd.isAgg236
  z46 := Tryd.sizeOf236
  v46 := Tryd.zeroValue236
  t51 := Tryd.underlying234
  a51 := Tryd.isAgg234
  z51 := Tryd.sizeOf234
  v51 := Tryd.zeroValue234
  t53 := Tryd.underlying224
  a53 := Tryd.isAgg224
  z53 := Tryd.sizeOf224
  v53 := Tryd.zeroValue224
  t171 := Tryd.underlying223
  a171 := Tryd.isAgg223
  z171 := Tryd.sizeOf223
  v171 := Tryd.zeroValue223
  t173 := Tryd.underlying227
  a173 := Tryd.isAgg227
  z173 := Tryd.sizeOf227
  v173 := Tryd.zeroValue227
  t212 := Tryd.underlying233
  a212 := Tryd.isAgg233
  z212 := Tryd.sizeOf233
  v212 := Tryd.zeroValue233
  t213 := Tryd.underlying235
  a213 := Tryd.isAgg235
  z213 := Tryd.sizeOf235
  t232 := Tryd.underlying239
  a232 := Tryd.isAgg239
  z232 := Tryd.sizeOf239
  v232 := Tryd.zeroValue239
  t233 := Tryd.underlying240
  a233 := Tryd.isAgg240
  z233 := Tryd.sizeOf240
  v233 := Tryd.zeroValue240
  g17 := by kernel_rfl
  g18 := by kernel_rfl
  g19 := by kernel_rfl }
theorem itoLaysM171 : Go.Proofs.LaysM.n171 Tryd.prog itoRen := { itoLays171 with
  i0 := by kernel_rfl
  i2 := by kernel_rfl
  i3 := by kernel_rfl
  i4 := by kernel_rfl
  i5 := by kernel_rfl
  i9 := by kernel_rfl
  i20 := by kernel_rfl
  i37 := by kernel_rfl
  i46 := by kernel_rfl
  i51 := by kernel_rfl
  i53 := by kernel_rfl
  i171 := by kernel_rfl
  i173 := by kernel_rfl
  i212 := by kernel_rfl
  i232 := by kernel_rfl
  i233 := by kernel_rfl
  m17 := by kernel_rfl
  m18 := by kernel_rfl
  m19 := by kernel_rfl }

theorem itoaAny (n : Int) (h0 : -9223372036854775808 ≤ n) (h1 : n ≤ 9223372036854775807) (w : World) (htab : Lib.TabIs Tryd.prog w "internal/strconv.uint64pow10" .u64 Lib.pow10Tab) :
    Calls Tryd.prog 125 #[.int .i64 n] w fun e w' => e = .returned (.string ⟨(Lib.itoa n).toArray⟩) ∧ ∃ k os, w' = Sort.grow (w.drewN k) os :=
  Any.strconv_Itoa itoLaysM171 n h0 h1 w htab
end Go.Proofs.YtgekfnodmgkdaaaDoor
