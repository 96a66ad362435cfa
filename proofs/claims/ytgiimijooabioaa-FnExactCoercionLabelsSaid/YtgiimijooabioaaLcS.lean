/- The specification's CastLabels: l4Sorted and l4Labels. -/
import Derived.Test.YtgiimijooabioaaLcG
import Derived.Test.YtgiimijooabioaaCv6
namespace Go.Proofs.Ytgiimijooabioaa
open Go.RowKit

theorem nil_any (n : Int) : ([] : List Int).any (fun y => decide (n < y)) = false := rfl

set_option maxRecDepth 100000 in
set_option maxHeartbeats 4000000 in
theorem l4Sorted_any (B : Nat) (ds : List Int) (v : Value) (n : Int) (w : World) (hG : GrowI B ds v w) (hB : B ≤ w.heap.size) (hlen : ds.length ≤ 4194300) :
    Calls Try.prog 48 #[v, .int .i64 n] w fun e w' => ∃ v', e = .returned v' ∧ GrowI B (srtI ds n) v' w' ∧ Below w.heap.size w w' := by
  obtain ⟨av, capv, rfl⟩ := hG.shape
  obtain ⟨i0, hi0, hz0, hz1, hz2⟩ := info_parts (P := Try.prog) (e := 3) Try.infoInt
  have HN := hid (GrowI.new (B := w.heap.size) (w := w) (Nat.le_refl _))
  have hb0 : Below w.heap.size w (w.alloc (Obj.cells #[] 3)) := (Below.refl _ _).alloc (Nat.le_refl _) _
  have HG := hid hG
  have HLEN := hid hlen
  clear hG hlen
  have hl63 : (ds.length : Int) ≤ 9223372036854775807 := by have := HLEN.out; omega
  go_enter Try.func48, Try.ntmps48
  go_wp2_with fail
  go_loopw [5, 6, 7] (fun o dn i wr => ∃ (j : Nat) (v' : Value), j ≤ ds.length ∧ i = .int .i64 j ∧ dn = .bool ((ds.take j).any (fun y => decide (n < y))) ∧ o = v' ∧ n ∉ ds.take j ∧ GrowI w.heap.size (preI n (ds.take j)) v' wr ∧ Below w.heap.size w wr) (fun _ _ i _ => ds.length - (intOf i).toNat)
  case atStart => exact ⟨0, _, Nat.zero_le _, rfl, by simp, rfl, by simp, by simpa [preI] using HN.out, hb0⟩
  case round =>
    obtain ⟨j, v', hj, rfl, hdn, rfl, hnot, hG', hb⟩ := hrel
    obtain ⟨av', capv', hsh⟩ := hG'.shape
    have HNOT := hid hnot
    have HG' := hid hG'
    have HB := hid hb
    have hpl := preI_len n (ds.take j)
    have hln : (preI n (ds.take j)).length ≤ 4194301 := by have := HLEN.out; rw [List.length_take] at hpl; omega
    have HLN := hid hln
    clear hnot hG' hb hpl hln
    subst hsh
    have HOWN := hid (HG'.out.own_ge)
    by_cases hlk : j < ds.length
    · obtain ⟨gq, rfl, hgq, hgB, hcell, -⟩ := HG.out.cells j hlk
      have hc := cell_keep hcell HB.out
      have hcell0 := hcell
      have htk : ds.take (j + 1) = ds.take j ++ [ds[j]] := (List.take_succ_eq_append_getElem hlk)
      have HTK := hid htk
      have HMEM := hid (List.getElem_mem hlk)
      clear hcell htk
      generalize hx : ds[j] = x at *
      by_cases hxn : x = n
      · subst hxn
        have HFIN := hid (show srtI ds x = ds by unfold srtI; rw [if_pos HMEM.out])
        subst hdn
        clear HNOT
        go_wp2_with fail
        go_ret
        exact ⟨_, rfl, by rw [HFIN.out]; exact HG.out.below (HB.out), HB.out⟩
      · have hxn' : (x == n) = false := by simpa using hxn
        have HNOT2 := hid (show n ∉ ds.take (j + 1) by
          rw [HTK.out]
          simp only [List.mem_append, List.mem_singleton, not_or]
          exact ⟨HNOT.out, fun e => hxn e.symm⟩)
        have HCELL := hid hcell0
        have hws := HB.out.size
        cases hb9 : (ds.take j).any (fun y => decide (n < y)) with
        | true =>
          have HP := hid (show preI n (ds.take (j + 1)) = preI n (ds.take j) ++ [x] by
            rw [preI_done hb9, HTK.out, preI_done (by rw [any_snoc, hb9]; rfl), insB_some n x _ (any_some hb9)])
          have HA := hid (show (ds.take (j + 1)).any (fun y => decide (n < y)) = true by rw [HTK.out, any_snoc, hb9]; rfl)
          rw [hb9] at hdn
          subst hdn
          generalize preI n (ds.take j) = P at *
          have hPl : P.length ≤ 4194301 := HLN.out
          clear hb9 hxn
          go_wp2_with (refine wpList_append_lies _ rfl (.tmp 36) (.tmp 41) 36 rfl w.heap.size 3 i0 _ 1 8 Try.underInts hi0 hz0 hz1 hz2 rfl (by omega) _ P.length _ rfl (World.ownsRow.alloc HG'.out _) ⟨wr.heap.size, 0, none⟩ 1 1 [.int .i64 x] rfl rfl (World.news_of_block (cs := #[.int .i64 x]) (t := 3) (fr := (0, 0)) (heap_alloc_new wr _)) (by simp [Value.oneCell']) (by omega) (by unfold maxLen; omega) (by omega) (by simp; omega) (wr.heap.size + 1) (by simp) ?_; intro g3 cp3 w3 hown3 hgrow3 hat3 hlt3; have hB3 := grown_low HB.out HB.out.size (fun b hb => (HOWN.out b hb).1) hgrow3; have hws3 := hB3.size)
          have HR := hid (GrowI.snoc hown3 rfl)
          clear hown3 hgrow3 hat3 hlt3
          go_wp2_with fail
          go_roundw
          case rel => exact ⟨j + 1, _, by omega, by go_num, by rw [HA.out], rfl, HNOT2.out, by rw [HP.out]; exact HR.out, hB3⟩
          case measure => simp [intOf]; omega
        | false =>
          by_cases hnx : n < x
          · have HP := hid (show preI n (ds.take (j + 1)) = preI n (ds.take j) ++ [n] ++ [x] by
              rw [preI_not hb9, HTK.out, preI_done (by rw [any_snoc, hb9]; simpa using hnx), insB_here n x hnx _ (any_none hb9)])
            have HA := hid (show (ds.take (j + 1)).any (fun y => decide (n < y)) = true by rw [HTK.out, any_snoc, hb9]; simpa using hnx)
            rw [hb9] at hdn
            subst hdn
            generalize preI n (ds.take j) = P at *
            have hPl : P.length ≤ 4194301 := HLN.out
            clear hb9 hxn
            go_wp2_with (first | (refine wpList_append_lies _ rfl (.tmp 32) (.tmp 34) 36 rfl w.heap.size 3 i0 _ 1 8 Try.underInts hi0 hz0 hz1 hz2 rfl (by omega) _ P.length _ rfl (World.ownsRow.alloc HG'.out _) ⟨wr.heap.size, 0, none⟩ 1 1 [.int .i64 n] rfl rfl (World.news_of_block (cs := #[.int .i64 n]) (t := 3) (fr := (0, 0)) (heap_alloc_new wr _)) (by simp [Value.oneCell']) (by omega) (by unfold maxLen; omega) (by omega) (by simp; omega) (wr.heap.size + 1) (by simp) ?_; intro g3 cp3 w3 hown3 hgrow3 hat3 hlt3; have hB3 := grown_low HB.out HB.out.size (fun b hb => (HOWN.out b hb).1) hgrow3; have hws3 := hB3.size; have hc3 := cell_keep HCELL.out hB3; have hO3 := own_new (n := P.length + 1) (cp := cp3) hat3 (fun b hb => (HOWN.out b hb).1) (by omega : w.heap.size ≤ wr.heap.size + 1)) | (refine wpList_append_lies _ rfl (.tmp 36) (.tmp 41) 36 rfl w.heap.size 3 i0 _ 1 8 Try.underInts hi0 hz0 hz1 hz2 rfl (by omega) _ (P.length + 1) _ rfl (World.ownsRow.alloc hown3 _) ⟨w3.heap.size, 0, none⟩ 1 1 [.int .i64 x] rfl rfl (World.news_of_block (cs := #[.int .i64 x]) (t := 3) (fr := (0, 0)) (heap_alloc_new w3 _)) (by simp [Value.oneCell']) (by omega) (by unfold maxLen; omega) (by omega) (by simp; omega) (w3.heap.size + 1) (by simp) ?_; intro g4 cp4 w4 hown4 hgrow4 hat4 hlt4; have hB4 := grown_low hB3 hB3.size hO3 hgrow4; have hws4 := hB4.size))
            have HR := hid (show GrowI w.heap.size (P ++ [n] ++ [x]) (.slice (some ⟨g4, 0, none⟩) (P.length + 1 + 1) cp4) w4 from GrowI.snoc (by simpa using hown4) (by simp))
            clear hown3 hgrow3 hat3 hlt3 hown4 hgrow4 hat4 hlt4
            go_wp2_with fail
            go_roundw
            case rel => exact ⟨j + 1, _, by omega, by go_num, by rw [HA.out], rfl, HNOT2.out, by rw [HP.out]; exact HR.out, hB4⟩
            case measure => simp [intOf]; omega
          · have HP := hid (show preI n (ds.take (j + 1)) = preI n (ds.take j) ++ [x] by
              rw [preI_not hb9, HTK.out, preI_not (by rw [any_snoc, hb9]; simpa using hnx)])
            have HA := hid (show (ds.take (j + 1)).any (fun y => decide (n < y)) = false by rw [HTK.out, any_snoc, hb9]; simpa using hnx)
            rw [hb9] at hdn
            subst hdn
            generalize preI n (ds.take j) = P at *
            have hPl : P.length ≤ 4194301 := HLN.out
            clear hb9 hxn
            go_wp2_with (refine wpList_append_lies _ rfl (.tmp 36) (.tmp 41) 36 rfl w.heap.size 3 i0 _ 1 8 Try.underInts hi0 hz0 hz1 hz2 rfl (by omega) _ P.length _ rfl (World.ownsRow.alloc HG'.out _) ⟨wr.heap.size, 0, none⟩ 1 1 [.int .i64 x] rfl rfl (World.news_of_block (cs := #[.int .i64 x]) (t := 3) (fr := (0, 0)) (heap_alloc_new wr _)) (by simp [Value.oneCell']) (by omega) (by unfold maxLen; omega) (by omega) (by simp; omega) (wr.heap.size + 1) (by simp) ?_; intro g3 cp3 w3 hown3 hgrow3 hat3 hlt3; have hB3 := grown_low HB.out HB.out.size (fun b hb => (HOWN.out b hb).1) hgrow3; have hws3 := hB3.size)
            have HR := hid (GrowI.snoc hown3 rfl)
            clear hown3 hgrow3 hat3 hlt3
            go_wp2_with fail
            go_roundw
            case rel => exact ⟨j + 1, _, by omega, by go_num, by rw [HA.out], rfl, HNOT2.out, by rw [HP.out]; exact HR.out, hB3⟩
            case measure => simp [intOf]; omega
    · have hz : ds.take j = ds := List.take_of_length_le (by omega)
      have hws := HB.out.size
      rw [hz] at hdn HNOT HG' HLN HOWN ⊢
      have HEND := hid (srtI_end HNOT.out)
      clear hz
      cases hb9 : ds.any (fun y => decide (n < y)) with
      | true =>
        rw [hb9, if_pos rfl] at HEND
        rw [hb9] at hdn
        subst hdn
        generalize preI n ds = P at *
        clear hb9 HNOT
        go_wp2_with fail
        go_ret
        exact ⟨_, rfl, by rw [HEND.out]; exact HG'.out.mono hB, HB.out⟩
      | false =>
        have HEND2 := hid (show srtI ds n = preI n ds ++ [n] by rw [HEND.out, hb9]; rfl)
        rw [hb9] at hdn
        subst hdn
        generalize preI n ds = P at *
        have hPl : P.length ≤ 4194301 := HLN.out
        clear hb9 HNOT HEND
        go_wp2_with (refine wpList_append_lies _ rfl (.tmp 45) (.tmp 47) 36 rfl w.heap.size 3 i0 _ 1 8 Try.underInts hi0 hz0 hz1 hz2 rfl (by omega) _ P.length _ rfl (World.ownsRow.alloc HG'.out _) ⟨wr.heap.size, 0, none⟩ 1 1 [.int .i64 n] rfl rfl (World.news_of_block (cs := #[.int .i64 n]) (t := 3) (fr := (0, 0)) (heap_alloc_new wr _)) (by simp [Value.oneCell']) (by omega) (by unfold maxLen; omega) (by omega) (by simp; omega) (wr.heap.size + 1) (by simp) ?_; intro g3 cp3 w3 hown3 hgrow3 hat3 hlt3; have hB3 := grown_low HB.out HB.out.size (fun b hb => (HOWN.out b hb).1) hgrow3; have hws3 := hB3.size)
        have HR := hid (GrowI.snoc hown3 rfl)
        clear hown3 hgrow3 hat3 hlt3
        go_wp2_with fail
        go_ret
        exact ⟨_, rfl, by rw [HEND2.out]; exact HR.out.mono hB, hB3⟩
end Go.Proofs.Ytgiimijooabioaa
