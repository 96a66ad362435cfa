/- The specification's ground types. -/
import Derived.Test.YtelbpgdlcnnabaaPkA
namespace Go.Proofs.Ytelbpgdlcnnabaa
open Go.RowKit

def grdL (ts : List Ty) : List Ty := ts.map fun _ => .mk 1 []
def grd : Ty → Ty
  | .mk k ts => .mk k (grdL ts)
def kindT : Ty → Int
  | .mk k _ => k
def gndOk (t : Ty) : Bool := vld t && !(kindT t == 1)
def gndOf (t : Ty) : Ty := if gndOk t then grd t else .mk 0 []

theorem grd_cnt (t : Ty) : (grd t).cnt ≤ t.cnt := by
  cases t with
  | mk k ts =>
    have : ∀ us : List Ty, cntL (grdL us) = 0 := by
      intro us
      induction us with
      | nil => rfl
      | cons u us ih =>
        simp only [grdL, List.map_cons, cntL] at *
        simp [ih, Ty.cnt, cntL]
    simp only [grd, Ty.cnt, this]
    simp [grdL]

theorem grdL_take {ts : List Ty} {j : Nat} (h : j < ts.length) : (grdL ts).take (j + 1) = (grdL ts).take j ++ [.mk 1 []] := by
  rw [take_succ (by simpa [grdL] using h)]
  simp [grdL]

set_option maxRecDepth 100000 in
set_option maxHeartbeats 1600000 in
theorem l1Ground_any (t : Ty) (v : Value) (fp : List Nat) (w : World) (hat : t.At w v fp) (hn : t.cnt ≤ 1048576) : Calls Try.prog 75 #[v] w (MadeT w (grd t)) := by
  obtain ⟨k, ts, rfl⟩ := t.shape
  obtain ⟨s, rfl, hs⟩ := Ty.at_mk.1 hat
  obtain ⟨a, cap, rfl, hc, hm, hget⟩ := hs.openA
  have HN := hid (show ts.length + cntL ts ≤ 1048576 by simpa only [Ty.cnt] using hn)
  obtain ⟨i0, hi0, hz0, hz1, hz2⟩ := info_parts (P := Try.prog) (e := 25) Try.infoElem
  clear hget hat hs hn
  go_enter Try.func75, Try.ntmps75
  go_wp2_with fail
  go_loopw [4] (fun i wr => ∃ (j : Nat) (v : Value) (f : List Nat), j ≤ ts.length ∧ i = .int .i64 j ∧ Below (w.heap.size + 1 + 1) (((w.alloc (Obj.cells #[.int .i64 k, .slice a ts.length cap] 25)).alloc (Obj.cells #[.int .i64 0, .slice none 0 0] 25)).alloc (Obj.cells #[.int .i64 k, .slice none 0 0] 25)) wr ∧ wr.heap[w.heap.size + 1 + 1]? = some (.cells #[.int .i64 k, v] 25 (0, 0)) ∧ GrowT (w.heap.size + 1 + 1 + 1) ((grdL ts).take j) v f wr)
    (fun i _ => ts.length - (intOf i).toNat)
  case atStart =>
    have hs : ((w.alloc (Obj.cells #[.int .i64 k, .slice a ts.length cap] 25)).alloc (Obj.cells #[.int .i64 0, .slice none 0 0] 25)).heap.size = w.heap.size + 1 + 1 := by simp
    exact ⟨0, .slice none 0 0, [], Nat.zero_le _, rfl, Below.refl _ _, by rw [← hs]; exact alloc_new _ _, GrowT.zero _ _⟩
  case round =>
    obtain ⟨j, v, f, hj, rfl, hb, hO, hG⟩ := hrel
    have hbw : Below w.heap.size w wr := Below.trans ((((Below.refl _ _).alloc (Nat.le_refl _) _).alloc (by simp) _).alloc (by simp; omega) _) (hb.mono (by omega))
    obtain ⟨x0, x1, r0, r1, rz⟩ := boxes_out hb
    have y0 : wr.cell? ⟨w.heap.size + 1 + 1, 0, none⟩ = some (.int .i64 k) := by rw [cell_of_block hO]; rfl
    have y1 : wr.cell? ⟨w.heap.size + 1 + 1, 1, none⟩ = some v := by rw [cell_of_block hO]; rfl
    have hglen : (grdL ts).length = ts.length := by simp [grdL]
    have HGL := hid hglen
    clear hglen
    by_cases hlk : j < ts.length
    · have hM : w.heap.size + 1 + 1 < wr.heap.size := lt_of_block hO
      have hlen : ((grdL ts).take j).length = j := by rw [List.length_take, HGL.out]; omega
      have HLEN := hid hlen
      clear hlen
      have hmx : j + 1 ≤ maxLen := by unfold maxLen; omega
      have hby : (j + 1) * 32 ≤ 140737488355328 := by have := HN.out; omega
      go_wp2_with fail
      go_region_law (first
        | (refine step_append_lies _ (by rfl) _ _ _ (by rfl) (w.heap.size + 1 + 1 + 1) 25 i0 _ 2 32 Try.underElems hi0 hz0 hz1 hz2 rfl (by omega) v j xs (by rfl) (ho2.alloc _) ⟨w1.heap.size, 0, none⟩ 1 1 [.int .i64 1, .slice none 0 0] (by rfl) (by rfl) (World.news_of_block (cs := #[.int .i64 1, .slice none 0 0]) (t := 25) (fr := (0, 0)) (heap_alloc_new w1 _)) (by simp [Value.oneCell']) (by omega) hmx hby (by simp; omega) (w1.heap.size + 1) (by simp) ?_; intro g cp w3 hown3 hgrow hat3 hlt3; have hO3 := grow_keep hgrow ((Below.heap_alloc _ _ _ hM1).trans hO1) (own_ne ho2 (by omega)); have z1 := (cell_of_block (o := 1) hO3); have z2 := (frozen_of_block (o := 1) hO3))
        | (go_simp; go_at_call 105; refine (l1Any_any _).mono ?_; rintro e w1 ⟨rfl, hb1⟩; have hbd := below_trans (below_drew wr) hb1; have x0' := cell_keep x0 hbd; have x1' := cell_keep x1 hbd; have y1' := cell_keep y1 hbd; have y0' := cell_keep y0 hbd; obtain ⟨xs, ho1, ha1, hf1, hn1⟩ := hG.below hbd; have ho2 := ho1; rw [HLEN.out] at ho2; have hO1 := (hbd.block _ hM).trans hO; have hM1 := lt_of_block hO1))
      all_goals
        have hG3 := GrowT.step (t := .mk 1 []) (f := []) (w2 := w1.alloc (Obj.cells #[.int .i64 1, .slice none 0 0] 25)) ha1 hf1 hn1 hG.block.1 hG.block.2 (by omega) (Ty.at_mk.2 ⟨_, rfl, .inl ⟨rfl, rfl, none, 0, rfl⟩⟩) (Fresh.nil _ _) ((Below.refl _ _).alloc (Nat.le_refl _) _) hgrow hown3 (by rw [HLEN.out]) (by simpa using hat3)
        have hw3 : Below (w.heap.size + 1 + 1) w1 w3 := ((Below.refl _ _).alloc (by omega) _).grown hgrow (by simp; omega) (fun b hb => by have := (ho2.lt b hb).1; omega)
        have hbb := (hb.trans (hbd.mono (by omega))).trans hw3
        rw [← grdL_take hlk] at hG3
        clear hO1 hO ha1 hf1 hn1 hgrow hown3 hat3 hlt3 ho1 ho2 hb hbd hw3 hbw hG z1 z2 x0 x1 y0 y1 x0' x1' y0' y1' r0 r1 rz
        go_wp2_with fail
        refine ⟨⟨j + 1, _, _, by omega, by go_num, hbb.setCell (p := ⟨w.heap.size + 1 + 1, 1, none⟩) (Nat.le_refl _) _, ?_, hG3.setCell (p := ⟨w.heap.size + 1 + 1, 1, none⟩) (by simp) _⟩, by simp [intOf]; omega⟩
        rw [heap_setCell_at hO3]
        rfl
    · obtain ⟨a', cap', rfl⟩ := hG.shape
      obtain ⟨fp', hs', hf'⟩ := hG.done (by unfold maxLen; rw [List.length_take, HGL.out]; omega)
      have hz : ((grdL ts).take j) = grdL ts := List.take_of_length_le (by rw [HGL.out]; omega)
      rw [hz] at hs' y1
      rw [HGL.out] at y1
      rw [HGL.out] at hs'
      have hM : w.heap.size + 1 + 1 < wr.heap.size := lt_of_block hO
      have hab := ((Above.refl (w.heap.size + 1 + 1 + 1) wr).setCell (p := ⟨w.heap.size + 1, 0, none⟩) (by simp) (.int .i64 k)).setCell (p := ⟨w.heap.size + 1, 1, none⟩) (by simp) (.slice a' ts.length cap')
      have hbb := (hbw.setCell (p := ⟨w.heap.size + 1, 0, none⟩) (by simp) (.int .i64 k)).setCell (p := ⟨w.heap.size + 1, 1, none⟩) (by simp) (.slice a' ts.length cap')
      have hst := hs'.above hab (fun b hb => hf'.ge b hb)
      have hft := (hf'.above hab (Nat.le_refl _)).mono (B' := w.heap.size) (by omega)
      clear hs' hz hG hO hb
      go_wp2_with fail
      exact bodyPost_ret (v := .agg #[.int .i64 k, .slice a' ts.length cap']) (by simp [results, Try.results75, go_sem, r0, r1]) rfl ⟨_, fp', rfl, Ty.at_mk.2 ⟨_, rfl, hst⟩, hft, hbb⟩

end Go.Proofs.Ytelbpgdlcnnabaa
