/- The law on FormatCoercion: it returns true and writes nothing that was there. -/
import Derived.Test.YtgekfnodmgkdaaaDoorCSz
import Derived.Test.YtgekfnodmgkdaaaDoorCTo
import Derived.Test.YtgekfnodmgkdaaaDoorCEq
import Derived.Test.YtgekfnodmgkdaaaDoorFcT
import Derived.Deep.RegionHeld3
namespace Go.Proofs.YtgekfnodmgkdaaaDoor
open Go.RowKit

set_option maxHeartbeats 1000000 in
theorem lawFormatCoercion (t : Co) (v : Value) (fp : List Nat) (w : World) (htab : Lib.TabIs Tryd.prog w "internal/strconv.uint64pow10" .u64 Lib.pow10Tab) (hat : t.At w v fp) :
    Calls Tryd.prog 4 #[v] w fun e w' => e = .returned (.bool true) ∧ Below w.heap.size w w' := by
  obtain ⟨k, g, l, m, a, cap, rfl⟩ := hat.agg
  have hb0 : Below w.heap.size w (w.alloc (Obj.cells #[.int .i64 k, .int .i64 g, .int .i64 l, .slice a m cap] 40)) := (Below.refl _ _).alloc (Nat.le_refl _) _
  by_cases hc : t.cnt ≤ 1048576
  · go_enter Tryd.func4, Tryd.ntmps4
    go_wp2_with fail
    refine (szCoer_some t _ fp 1048576 _ (by omega) (by omega) (hat.below hb0) (by omega)).mono ?_
    rintro e w1 ⟨rfl, hb1⟩
    have a1 := hb0.trans (hb1.mono hb0.size)
    obtain ⟨x0, x1, x2, x3⟩ := box4 hb1
    have hpos : (0 : Int) ≤ 1048576 - (t.cnt : Int) := by omega
    have HTAB := hid (Lib.tabBelow_of_tabIs htab)
    have HSP := hid (fun (v : Value) (fp : List Nat) (w : World) (h : t.At w v fp) => specFormatCoercion t v fp w h)
    have HIM := hid (fun (v : Value) (fp : List Nat) (w : World) (ht : Lib.TabIs Tryd.prog w "internal/strconv.uint64pow10" .u64 Lib.pow10Tab) (h : t.At w v fp) => implFormatCoercion t v fp w ht h)
    generalize (⟨(fcV t).toArray⟩ : ByteArray) = ans at *
    go_wp2_with fail
    refine (toCoer_any t _ fp _ (hat.below a1) hc).mono ?_
    rintro e w2 ⟨v2, f2, rfl, hat2, hf2, hb2⟩
    go_wp2_with fail
    refine (HSP.out _ _ _ hat2).mono ?_
    rintro e w3 ⟨rfl, hb3⟩
    have a3 := below_trans (below_trans a1 hb2) hb3
    obtain ⟨y0, y1, y2, y3⟩ := box4 (hb1.trans ((hb2.trans (hb3.mono hb2.size)).mono hb1.size))
    clear x0 x1 x2 x3
    go_wp2_with fail
    refine (toCoer_any t _ fp _ (hat.below a3) hc).mono ?_
    rintro e w4 ⟨v4, f4, rfl, hat4, hf4, hb4⟩
    obtain ⟨k4, g4, l4, n4, c4, cap4, rfl⟩ := hat4.agg
    have hal4 : Below w4.heap.size w4 (w4.alloc (Obj.cells #[.int .i64 k4, .int .i64 g4, .int .i64 l4, .slice c4 n4 cap4] 45)) := (Below.refl _ _).alloc (Nat.le_refl _) _
    have a4 := below_trans a3 (hb4.trans (hal4.mono hb4.size))
    go_wp2_with fail
    refine (HIM.out _ _ _ ((HTAB.out.on a4).here) (hat4.below hal4)).mono ?_
    rintro e w5 ⟨rfl, hb5⟩
    have a5 := below_trans a3 (hb4.trans ((alloc1 hb5).mono hb4.size))
    obtain ⟨q0, q1, q2, q3⟩ := box4 hb5
    have b35 := hb4.trans ((alloc1 hb5).mono hb4.size)
    have hn0 : w.heap.size < w3.heap.size := World.block_lt_of_cell? _ _ y0
    have p0 := (b35.cell (p := ⟨w.heap.size, 0, none⟩) hn0).trans y0
    have p1 := (b35.cell (p := ⟨w.heap.size, 1, none⟩) hn0).trans y1
    have p2 := (b35.cell (p := ⟨w.heap.size, 2, none⟩) hn0).trans y2
    have p3 := (b35.cell (p := ⟨w.heap.size, 3, none⟩) hn0).trans y3
    have hat5 := hat.below a5
    have hatx := (hat4.below hal4).below hb5
    clear y0 y1 y2 y3
    go_wp2_with fail
    go_region_held3 (fun w' => Below w5.heap.size w5 w' ∧ w'.cell? ⟨w.heap.size, 0, none⟩ = some (.int .i64 k) ∧ w'.cell? ⟨w.heap.size, 1, none⟩ = some (.int .i64 g) ∧ w'.cell? ⟨w.heap.size, 2, none⟩ = some (.int .i64 l) ∧ w'.cell? ⟨w.heap.size, 3, none⟩ = some (.slice a m cap) ∧ w'.cell? ⟨w4.heap.size, 0, none⟩ = some (.int .i64 k4) ∧ w'.cell? ⟨w4.heap.size, 1, none⟩ = some (.int .i64 g4) ∧ w'.cell? ⟨w4.heap.size, 2, none⟩ = some (.int .i64 l4) ∧ w'.cell? ⟨w4.heap.size, 3, none⟩ = some (.slice c4 n4 cap4))
      ((refine (fun hB => ⟨hB, cell_keep p0 hB, cell_keep p1 hB, cell_keep p2 hB, cell_keep p3 hB, cell_keep q0 hB, cell_keep q1 hB, cell_keep q2 hB, cell_keep q3 hB⟩ : Below w5.heap.size w5 _ → _) ?_; (first | exact below_drew w5 | exact below_trans (below_drew w5) hb6 | exact below_trans (below_trans (below_drew w5) hb6) hb7)))
      (first
        | (go_at_call 19; refine (toCoer_any t _ fp _ (hat5.below (below_drew w5)) hc).mono ?_; rintro e w6 ⟨v6, f6, rfl, hat6, hf6, hb6⟩)
        | (go_at_call 21; refine (eqCoer_any t t _ _ _ _ _ (hatx.below (below_trans (below_drew w5) hb6)) hat6).mono ?_; rw [coEq_refl]; rintro e w7 ⟨rfl, hb7⟩))
    go_wp2_with fail
    go_ret
    exact ⟨rfl, below_trans a5 (below_trans (below_trans (below_drew w5) hb6) hb7)⟩
  · go_enter Tryd.func4, Tryd.ntmps4
    go_wp2_with fail
    refine (szCoer_none t _ fp 1048576 _ (by omega) (by omega) (hat.below hb0) (by omega)).mono ?_
    rintro e w1 ⟨rfl, hb1⟩
    go_wp2_with fail
    go_ret
    exact ⟨rfl, alloc1 hb1⟩
end Go.Proofs.YtgekfnodmgkdaaaDoor
