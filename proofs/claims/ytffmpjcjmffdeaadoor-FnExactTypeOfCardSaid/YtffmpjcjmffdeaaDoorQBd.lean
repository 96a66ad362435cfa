/- Bindings: how a list of names with types lies in memory; the laws' helpers on them. -/
import Derived.StillTailTactics
import Derived.Test.YtffmpjcjmffdeaaDoorQG1
import Derived.Test.YtffmpjcjmffdeaaDoorQPkA
namespace Go.Proofs.YtffmpjcjmffdeaaDoor
open Go.RowKit

/-- How many bytes and nodes the laws count in a list of bindings. -/
def szB : List Bd → Nat
  | [] => 0
  | x :: xs => (x.nm.size + x.ty.cnt) + szB xs

theorem szB_drop {xs : List Bd} {k : Nat} (h : k < xs.length) : szB (xs.drop k) = (xs[k].nm.size + xs[k].ty.cnt) + szB (xs.drop (k + 1)) := by
  rw [List.drop_eq_getElem_cons h, szB]

theorem szB_mem : ∀ {xs : List Bd} {x : Bd}, x ∈ xs → x.nm.size + x.ty.cnt ≤ szB xs
  | u :: xs, x, h => by
    simp only [szB]
    rcases List.mem_cons.1 h with rfl | h
    · omega
    · have := szB_mem h
      omega

def left0 (n : Nat) (left : Int) : Int := if (n : Int) ≤ left then left - n else -1

theorem left0_nil {lv : Int} (h : 0 ≤ lv) : left0 (szB []) lv = lv := by
  have e : szB [] = 0 := rfl
  rw [e, left0, if_pos (by omega)]
  omega

set_option maxHeartbeats 400000 in
theorem szBind_any (nm : ByteArray) (t : Ty) (k : Int) (n : Nat) (a : Option Addr) (c : Nat) (fp : List Nat) (left : Int) (w : World) (h0 : 0 ≤ left) (h1 : left ≤ 1048576) (hnm : nm.size ≤ 9223372036854775807) (hat : t.At w (.agg #[.int .i64 k, .slice a n c]) fp) :
    Calls Tryd.prog 54 #[.agg #[.string nm, .int .i64 k, .slice a n c], .int .i64 left] w fun e w' => e = .returned (.int .i64 (left0 (nm.size + t.cnt) left)) ∧ Below w.heap.size w w' := by
  have hbx : Below w.heap.size w (w.alloc (Obj.cells #[.string nm, .int .i64 k, .slice a n c] 72)) := (Below.refl _ _).alloc (Nat.le_refl _) _
  by_cases hl1 : left - (nm.size : Int) < 0
  · have HR := hid (show left0 (nm.size + t.cnt) left = -1 by rw [left0, if_neg (by omega)])
    go_enter Tryd.func54, Tryd.ntmps54
    go_wp2_with fail
    go_ret
    exact ⟨ret_i HR.out.symm, hbx⟩
  by_cases hl2 : (t.cnt : Int) ≤ left - (nm.size : Int)
  · have HR := hid (show left0 (nm.size + t.cnt) left = left - (nm.size : Int) - t.cnt by rw [left0, if_pos (by omega)]; omega)
    have hp : 0 ≤ left - (nm.size : Int) - t.cnt := by omega
    go_enter Tryd.func54, Tryd.ntmps54
    go_wp2_with fail
    refine (szType_some t _ _ _ _ (by omega) (by omega) (hat.below hbx) hl2).mono ?_
    rintro e w1 ⟨rfl, hb⟩
    go_wp2_with fail
    go_ret
    exact ⟨ret_i HR.out.symm, below_trans hbx hb⟩
  · have HR := hid (show left0 (nm.size + t.cnt) left = -1 by rw [left0, if_neg (by omega)])
    go_enter Tryd.func54, Tryd.ntmps54
    go_wp2_with fail
    refine (szType_none t _ _ _ _ (by omega) (by omega) (hat.below hbx) (by omega)).mono ?_
    rintro e w1 ⟨rfl, hb⟩
    go_wp2_with fail
    go_ret
    exact ⟨ret_i HR.out.symm, below_trans hbx hb⟩

set_option maxHeartbeats 1000000 in
theorem szBindS_any (xs : List Bd) (s : Value) (fp : List Nat) (left : Int) (w : World) (h0 : 0 ≤ left) (h1 : left ≤ 1048576) (hs : BsAt w xs s fp) :
    Calls Tryd.prog 15 #[s, .int .i64 left] w fun e w' => e = .returned (.int .i64 (left0 (xs.length + szB xs) left)) ∧ Below w.heap.size w w' := by
  obtain ⟨a, cap, rfl, hc, hm, hget⟩ := hs.open
  have HG := hid hget
  clear hget hs
  by_cases hlt : left - (xs.length : Int) < 0
  · have HR := hid (show left0 (xs.length + szB xs) left = -1 by rw [left0, if_neg (by omega)])
    go_enter Tryd.func15, Tryd.ntmps15
    go_wp2_with fail
    go_ret
    exact ⟨ret_i HR.out.symm, Below.refl _ _⟩
  · have HT := hid (show left0 (xs.length + szB xs) left = left0 (szB xs) (left - (xs.length : Int)) by unfold left0; split <;> split <;> omega)
    go_enter Tryd.func15, Tryd.ntmps15
    go_wp2_with fail
    go_loopw [1, 5] (fun l i wr => ∃ (k : Nat) (lv : Int), k ≤ xs.length ∧ i = .int .i64 k ∧ l = .int .i64 lv ∧ 0 ≤ lv ∧ lv ≤ left ∧ left0 (szB (xs.drop k)) lv = left0 (szB xs) (left - (xs.length : Int)) ∧ Below w.heap.size w wr)
      (fun _ i _ => xs.length - (intOf i).toNat)
    case atStart => exact ⟨0, _, Nat.zero_le _, rfl, rfl, by omega, by omega, rfl, Below.refl _ _⟩
    case round =>
      obtain ⟨k, lv, hk, rfl, rfl, hlv0, hlv1, hsz, hb⟩ := hrel
      have HSZ := hid hsz
      clear hsz
      by_cases hlk : k < xs.length
      · obtain ⟨b, o, nm, k1, n1, a1, c1, f1, rfl, hblt, hnm, hns, c0, d1, c2, hat, hf⟩ := HG.out k hlk
        replace c0 := cell_keep c0 hb
        replace d1 := cell_keep d1 hb
        replace c2 := cell_keep c2 hb
        have HST := hid (szB_drop hlk)
        have HNM := hid hnm
        generalize hr : left0 (nm.size + xs[k].ty.cnt) lv = r
        have hb0 : -1 ≤ r ∧ r ≤ lv := by rw [← hr, left0]; split <;> omega
        have HN := hid (show r < 0 → left0 (szB (xs.drop k)) lv = -1 by
          intro hn
          rw [HST.out, ← HNM.out]
          unfold left0 at hr ⊢
          split at hr
          · omega
          · rw [if_neg (by omega)])
        have HP := hid (show ¬ r < 0 → left0 (szB (xs.drop k)) lv = left0 (szB (xs.drop (k + 1))) r by
          intro hn
          rw [HST.out, ← HNM.out]
          unfold left0 at hr ⊢
          split at hr
          · split <;> split <;> omega
          · omega)
        have Hr := hid hr
        clear hr hnm
        go_wp2_with fail
        refine (szBind_any nm xs[k].ty _ _ _ _ _ lv _ hlv0 (by omega) hns (hat.below hb)).mono ?_
        rintro e w1 ⟨rfl, hb1⟩
        have hbb := below_trans hb hb1
        clear hb hb1 hat c0 d1 c2
        rw [Hr.out]
        by_cases hneg : r < 0
        · go_wp2_with fail
          go_ret
          exact ⟨ret_i (by rw [HT.out, ← HSZ.out, HN.out hneg]), hbb⟩
        · go_wp2_with fail
          go_roundw
          case rel => exact ⟨k + 1, r, by omega, by go_num, rfl, by omega, by omega, by rw [← HSZ.out, HP.out hneg], hbb⟩
          case measure => simp [intOf]; omega
      · go_wp2_with fail
        go_ret
        have hk' : k = xs.length := by omega
        exact ⟨ret_i (by rw [HT.out, ← HSZ.out, hk', List.drop_length, left0_nil hlv0]), hb⟩

theorem Tryd.underBds : Tryd.prog.underlying 43 = some (.slice 76) := by kernel_rfl
theorem Tryd.infoBd : (Tryd.prog.info? 76).map (fun i => (i.zero, i.size, i.bytes)) = some (some (.agg #[.string ByteArray.empty, .int .i64 0, .slice none 0 0]), 3, 48) := by kernel_rfl

/-- A block of n bindings of which the first have been laid, each with memory of its own. -/
def BuiltB (M : Nat) (T : TypeId) (n : Nat) (ds : List Bd) (fp : List Nat) (wr : World) : Prop :=
  ∃ C, wr.heap[M]? = some (.cells C T (0, 0)) ∧ C.size = n * 3 ∧ ds.length ≤ n ∧ BdL wr ds M 0 fp ∧ Fresh (M + 1) wr fp

theorem BuiltB.below {M : Nat} {T : TypeId} {n : Nat} {ds : List Bd} {fp : List Nat} {w w1 : World} (h : BuiltB M T n ds fp w) (hb : Below w.heap.size w w1) : BuiltB M T n ds fp w1 := by
  obtain ⟨C, hM, hC, hn, hl, hf⟩ := h
  exact ⟨C, (hb.block _ (lt_of_block hM)).trans hM, hC, hn, hl.congr (fun o _ _ => hb.cell (p := ⟨M, o, none⟩) (lt_of_block hM)) (fun b hm o => hb.cell (p := ⟨b, o, none⟩) (hl.lt b hm)), hf.below hb⟩

theorem BuiltB.step {M : Nat} {T : TypeId} {n k : Nat} {ds : List Bd} {x : Bd} {x0 x1 x2 : Value} {f fp : List Nat} {w w1 : World} (h : BuiltB M T n ds fp w) (hk : ds.length = k) (hlt : k < n) (hb : Below w.heap.size w w1) (ht : BdAt w1 x (.agg #[x0, x1, x2]) f) (hlo : Fresh w.heap.size w1 f) :
    BuiltB M T n (ds ++ [x]) (fp ++ f) (((w1.setCell ⟨M, k * 3, none⟩ x0).setCell ⟨M, k * 3 + 1, none⟩ x1).setCell ⟨M, k * 3 + 2, none⟩ x2) := by
  have hsep : ∀ b ∈ fp, b < w.heap.size := let ⟨_, _, _, _, hl, _⟩ := h; hl.lt
  have hM : M < w.heap.size := let ⟨_, hB, _⟩ := h; lt_of_block hB
  subst hk
  obtain ⟨C, hB, hC, hn, hl, hf⟩ := h.below hb
  have h1 := heap_setCell_at (o := ds.length * 3) hB x0
  have h2 := heap_setCell_at (o := ds.length * 3 + 1) h1 x1
  have h3 := heap_setCell_at (o := ds.length * 3 + 2) h2 x2
  have hab := (((Above.refl (M + 1) w1).setCell (p := ⟨M, ds.length * 3, none⟩) (Nat.lt_succ_self _) x0).setCell (p := ⟨M, ds.length * 3 + 1, none⟩) (Nat.lt_succ_self _) x1).setCell (p := ⟨M, ds.length * 3 + 2, none⟩) (Nat.lt_succ_self _) x2
  generalize hW : ((w1.setCell ⟨M, ds.length * 3, none⟩ x0).setCell ⟨M, ds.length * 3 + 1, none⟩ x1).setCell ⟨M, ds.length * 3 + 2, none⟩ x2 = W at *
  have hcl : ∀ o', o' < ds.length * 3 → W.cell? ⟨M, o', none⟩ = w1.cell? ⟨M, o', none⟩ := by
    intro o' ho
    rw [cell_of_block h3, cell_of_block hB, Array.getElem?_setIfInBounds_ne (by omega), Array.getElem?_setIfInBounds_ne (by omega), Array.getElem?_setIfInBounds_ne (by omega)]
  have hl' : BdL W ds M 0 fp :=
    hl.congr (fun o' _ h' => hcl o' (by omega)) (fun b hb o => World.cell?_of_block (w := w1) (a := ⟨b, o, none⟩) (hab.block b (hf.ge b hb) (hl.lt b hb)))
  have ht' : BdAt W x (.agg #[x0, x1, x2]) f := ht.congr (fun b hb o => World.cell?_of_block (w := w1) (a := ⟨b, o, none⟩) (hab.block b (by have := hlo.ge b hb; omega) (ht.lt b hb)))
  refine ⟨_, h3, by simp [hC], by simp; omega, hl'.snoc (v0 := x0) (v1 := x1) (v2 := x2) ?_ ?_ ?_ ht', ?_⟩
  · rw [Nat.zero_add, cell_of_block h3, Array.getElem?_setIfInBounds_ne (by omega), Array.getElem?_setIfInBounds_ne (by omega)]
    simp [Array.getElem?_setIfInBounds, hC]; omega
  · rw [Nat.zero_add, cell_of_block h3, Array.getElem?_setIfInBounds_ne (by omega)]
    simp [Array.getElem?_setIfInBounds, hC]; omega
  · rw [Nat.zero_add, cell_of_block h3]
    simp [Array.getElem?_setIfInBounds, hC]; omega
  · have hf1 := hf.above hab (Nat.le_refl _)
    have hf2 := hlo.above hab (by omega)
    refine ⟨List.nodup_append.2 ⟨hf1.1, hf2.1, fun a ha b hb e => ?_⟩, fun b hb => ?_⟩
    · have := hsep a ha
      have := hf2.ge b hb
      omega
    · rcases List.mem_append.1 hb with hb | hb
      · exact hf1.2 b hb
      · exact ⟨by have := hf2.ge b hb; omega, (hf2.2 b hb).2⟩

theorem BuiltB.done {M : Nat} {T : TypeId} {n : Nat} {ds : List Bd} {fp : List Nat} {w : World} (h : BuiltB M T n ds fp w) (hn : ds.length = n) (hm : n ≤ maxLen) : ∃ fp, BsAt w ds (.slice (some ⟨M, 0, none⟩) n n) fp ∧ Fresh M w fp := by
  obtain ⟨C, hB, hC, _, hl, hf⟩ := h
  subst hn
  by_cases h0 : ds.length = 0
  · exact ⟨[], .inl ⟨List.length_eq_zero_iff.1 h0, rfl, _, _, by rw [h0]⟩, Fresh.nil _ _⟩
  · refine ⟨M :: fp, .inr ⟨M, 0, _, fp, rfl, by omega, Nat.le_refl _, hm, hl, rfl⟩, List.nodup_cons.2 ⟨fun hm => by have := hf.ge _ hm; omega, hf.1⟩, fun b hb => ?_⟩
    rcases List.mem_cons.1 hb with rfl | hb
    · exact ⟨Nat.le_refl _, lt_of_block hB, fun o => frozen_of_block hB⟩
    · exact ⟨by have := hf.ge b hb; omega, (hf.2 b hb).2⟩

theorem BuiltB.cells {M : Nat} {T : TypeId} {n k : Nat} {ds : List Bd} {fp : List Nat} {w w1 : World} (h : BuiltB M T n ds fp w) (hlt : k < n) (hb : Below w.heap.size w w1) :
    ∃ y0 y1 y2, w1.cell? ⟨M, k * 3, none⟩ = some y0 ∧ w1.cell? ⟨M, k * 3 + 1, none⟩ = some y1 ∧ w1.cell? ⟨M, k * 3 + 2, none⟩ = some y2 ∧ ∀ o, w1.frozen? ⟨M, o, none⟩ = false := by
  obtain ⟨C, hB, hC, _⟩ := h.below hb
  refine ⟨C[k * 3]'(by omega), C[k * 3 + 1]'(by omega), C[k * 3 + 2]'(by omega), ?_, ?_, ?_, fun o => frozen_of_block hB⟩ <;> (rw [cell_of_block hB]; exact Array.getElem?_eq_getElem _)

theorem bd_out {w wr : World} {o1 o2 o3 : Obj} (h : Below (((w.alloc o1).alloc o2).alloc o3).heap.size (((w.alloc o1).alloc o2).alloc o3) wr) :
    wr.heap[w.heap.size]? = some o1 ∧ wr.heap[w.heap.size + 1]? = some o2 ∧ wr.heap[w.heap.size + 1 + 1]? = some o3 := by
  refine ⟨?_, ?_, ?_⟩
  · rw [h.block _ (by simp; omega), Below.heap_alloc _ _ _ (by simp; omega), Below.heap_alloc _ _ _ (by simp)]
    exact alloc_new _ _
  · rw [h.block _ (by simp), Below.heap_alloc _ _ _ (by simp)]
    have := alloc_new (w.alloc o1) o2
    simpa using this
  · rw [h.block _ (by simp)]
    have := alloc_new ((w.alloc o1).alloc o2) o3
    simpa using this

set_option maxHeartbeats 1000000 in
theorem toBind_any (nm : ByteArray) (t : Ty) (k : Int) (n : Nat) (a : Option Addr) (c : Nat) (fp : List Nat) (w : World) (hnm : nm.size ≤ 9223372036854775807) (hat : t.At w (.agg #[.int .i64 k, .slice a n c]) fp) (hn : t.cnt ≤ 1048576) :
    Calls Tryd.prog 59 #[.agg #[.string nm, .int .i64 k, .slice a n c]] w fun e w' => ∃ k1 n1 a1 c1 f, e = .returned (.agg #[.string nm, .int .i64 k1, .slice a1 n1 c1]) ∧ BdAt w' ⟨nm, t⟩ (.agg #[.string nm, .int .i64 k1, .slice a1 n1 c1]) f ∧ Fresh w.heap.size w' f ∧ Below w.heap.size w w' := by
  have hb0 : Below w.heap.size w (((w.alloc (Obj.cells #[.string nm, .int .i64 k, .slice a n c] 72)).alloc (Obj.cells #[.string ByteArray.empty, .int .i64 0, .slice none 0 0] 76)).alloc (Obj.cells #[.string nm, .int .i64 0, .slice none 0 0] 76)) :=
    (((Below.refl _ _).alloc (Nat.le_refl _) _).alloc (by simp) _).alloc (by simp; omega) _
  go_enter Tryd.func59, Tryd.ntmps59
  go_wp2_with fail
  refine (toType_any t _ _ _ (hat.below hb0) hn).mono ?_
  rintro e w1 ⟨v1, f, rfl, hv, hf, hb⟩
  obtain ⟨k1, n1, a1, c1, rfl⟩ := hv.agg
  obtain ⟨hB, hZ, hO⟩ := bd_out hb
  have y0 := cell_of_block (o := 0) hO
  have y1 := cell_of_block (o := 1) hO
  have y2 := cell_of_block (o := 2) hO
  have x0 := cell_of_block (o := 0) hZ
  have x1 := cell_of_block (o := 1) hZ
  have x2 := cell_of_block (o := 2) hZ
  have yz := fun o => frozen_of_block (o := o) hO
  have xz := fun o => frozen_of_block (o := o) hZ
  simp only [List.getElem?_toArray, List.getElem?_cons_zero, List.getElem?_cons_succ] at x0 x1 x2 y0 y1 y2
  have hM : w.heap.size + 1 + 1 < w1.heap.size := lt_of_block hO
  have hs0 : (((w.alloc (Obj.cells #[.string nm, .int .i64 k, .slice a n c] 72)).alloc (Obj.cells #[.string ByteArray.empty, .int .i64 0, .slice none 0 0] 76)).alloc (Obj.cells #[.string nm, .int .i64 0, .slice none 0 0] 76)).heap.size = w.heap.size + 1 + 1 + 1 := by simp
  rw [hs0] at hf
  have b1 := below_trans hb0 hb
  have ab := ((((Above.refl (w.heap.size + 1 + 1 + 1) w1).setCell (p := ⟨w.heap.size + 1 + 1, 1, none⟩) (Nat.lt_succ_self _) (.int .i64 k1)).setCell (p := ⟨w.heap.size + 1 + 1, 2, none⟩) (Nat.lt_succ_self _) (.slice a1 n1 c1)).setCell (p := ⟨w.heap.size + 1, 0, none⟩) (by simp) (.string nm)).setCell (p := ⟨w.heap.size + 1, 1, none⟩) (by simp) (.int .i64 k1) |>.setCell (p := ⟨w.heap.size + 1, 2, none⟩) (by simp) (.slice a1 n1 c1)
  have bb := ((((b1.setCell (p := ⟨w.heap.size + 1 + 1, 1, none⟩) (by simp; omega) (.int .i64 k1)).setCell (p := ⟨w.heap.size + 1 + 1, 2, none⟩) (by simp; omega) (.slice a1 n1 c1)).setCell (p := ⟨w.heap.size + 1, 0, none⟩) (by simp) (.string nm)).setCell (p := ⟨w.heap.size + 1, 1, none⟩) (by simp) (.int .i64 k1)).setCell (p := ⟨w.heap.size + 1, 2, none⟩) (by simp) (.slice a1 n1 c1)
  have hv' := hv.above ab hf.ge
  have hf' := (hf.above ab (Nat.le_refl _)).mono (B' := w.heap.size) (by omega)
  clear hb hB hO hZ hs0 b1 ab hv hf hb0 hat
  go_wp2_with fail
  exact bodyPost_ret (v := .agg #[.string nm, .int .i64 k1, .slice a1 n1 c1]) (by simp [results, Tryd.results59, go_sem, x0, x1, x2]) rfl ⟨k1, n1, a1, c1, f, rfl, ⟨_, _, _, _, rfl, hnm, hv'⟩, hf', bb⟩

set_option maxHeartbeats 1000000 in
theorem toBindS_any (xs : List Bd) (s : Value) (fp : List Nat) (w : World) (hs : BsAt w xs s fp) (hn : xs.length + szB xs ≤ 1048576) :
    Calls Tryd.prog 17 #[s] w fun e w' => ∃ s' f, e = .returned s' ∧ BsAt w' xs s' f ∧ Fresh w.heap.size w' f ∧ Below w.heap.size w w' := by
  obtain ⟨a, cap, rfl, hc, hm, hget⟩ := hs.open
  have HG := hid hget
  clear hget hs
  obtain ⟨Z, hZ, hmk⟩ : ∃ Z : Array Value, Z.size = xs.length * 3 ∧ ∀ w : World, (Instr.makeSlice 43 (.int .i64 (xs.length : Int)) (.int .i64 (xs.length : Int))).run Tryd.prog w = .ok (.slice (some ⟨w.heap.size, 0, none⟩) xs.length xs.length) (w.alloc (.cells Z 76)) := by
    obtain ⟨i0, hi, hz0, hz1, hz2⟩ := info_parts (P := Tryd.prog) (e := 76) Tryd.infoBd
    have r := fun w : World => run_make w _ _ i0 _ Tryd.underBds hi hz0 .i64 .i64 (xs.length : Int) (xs.length : Int) (by omega) (by omega) (by rw [hz2]; omega) (by omega)
    simp only [Int.toNat_natCast, hz1] at r
    exact ⟨_, size_madeCells _ _, r⟩
  have HZ := hid hZ
  have HN := hid hn
  clear hZ hn
  go_enter Tryd.func17, Tryd.ntmps17
  go_wp2_with fail
  go_loopw [4] (fun i wr => ∃ (k : Nat) (fp : List Nat), k ≤ xs.length ∧ i = .int .i64 k ∧ BuiltB w.heap.size 76 xs.length (xs.take k) fp wr ∧ Below w.heap.size w wr) (fun i _ => xs.length - (intOf i).toNat)
  case atStart =>
    exact ⟨0, [], Nat.zero_le _, rfl, ⟨Z, alloc_new _ _, HZ.out, Nat.zero_le _, rfl, Fresh.nil _ _⟩, (Below.refl _ _).alloc (Nat.le_refl _) _⟩
  case round =>
    obtain ⟨k, f0, hk, rfl, hB, hb⟩ := hrel
    by_cases hlk : k < xs.length
    · obtain ⟨b, o, nm, k1, n1, a1, c1, f1, rfl, hblt, hnm, hns, c0, d1, c2, hat, hf⟩ := HG.out k hlk
      replace c0 := (hb.cell (p := ⟨b, o + k * 3, none⟩) hblt).trans c0
      replace d1 := (hb.cell (p := ⟨b, o + k * 3 + 1, none⟩) hblt).trans d1
      replace c2 := (hb.cell (p := ⟨b, o + k * 3 + 2, none⟩) hblt).trans c2
      have hx : xs[k] = ⟨nm, xs[k].ty⟩ := by rw [hnm]
      have HX := hid hx
      clear hx hnm
      go_wp2_with fail
      refine (toBind_any nm xs[k].ty _ _ _ _ _ _ hns (hat.below hb) (by have := HN.out; have := szB_mem (List.getElem_mem hlk); omega)).mono ?_
      rintro e w1 ⟨k2, n2, a2, c2', f', rfl, hat', hf', hb1⟩
      obtain ⟨y0, y1, y2, g0, g1, g2, z0⟩ := hB.cells hlk hb1
      clear c0 d1 c2
      go_wp2_with fail
      refine ⟨⟨k + 1, f0 ++ f', by omega, by go_num, ?_, ?_⟩, by simp [intOf]; omega⟩
      · rw [List.take_succ_eq_append_getElem hlk]
        rw [← HX.out] at hat'
        exact hB.step (by rw [List.length_take]; omega) hlk hb1 hat' hf'
      · exact (((below_trans hb hb1).setCell (p := ⟨w.heap.size, k * 3, none⟩) (Nat.le_refl _) _).setCell (p := ⟨w.heap.size, k * 3 + 1, none⟩) (Nat.le_refl _) _).setCell (p := ⟨w.heap.size, k * 3 + 2, none⟩) (Nat.le_refl _) _
    · go_wp2_with fail
      go_ret
      obtain ⟨fp', hs', hf'⟩ := hB.done (by rw [List.length_take]; omega) (by unfold maxLen; omega)
      rw [List.take_of_length_le (by omega)] at hs'
      exact ⟨_, fp', rfl, hs', hf', hb⟩

set_option maxHeartbeats 1000000 in
theorem eqBind_any (nm : ByteArray) (t : Ty) (k : Int) (n : Nat) (a : Option Addr) (c : Nat) (k2 : Int) (n2 : Nat) (a2 : Option Addr) (c2 : Nat) (f1 f2 : List Nat) (w : World) (h1 : t.At w (.agg #[.int .i64 k, .slice a n c]) f1) (h2 : t.At w (.agg #[.int .i64 k2, .slice a2 n2 c2]) f2) :
    Calls Tryd.prog 65 #[.agg #[.string nm, .int .i64 k, .slice a n c], .agg #[.string nm, .int .i64 k2, .slice a2 n2 c2]] w fun e w' => e = .returned (.bool true) ∧ Below w.heap.size w w' := by
  have hb0 : Below w.heap.size w ((w.alloc (Obj.cells #[.string nm, .int .i64 k, .slice a n c] 76)).alloc (Obj.cells #[.string nm, .int .i64 k2, .slice a2 n2 c2] 76)) := ((Below.refl _ _).alloc (Nat.le_refl _) _).alloc (by simp) _
  go_enter Tryd.func65, Tryd.ntmps65
  go_wp2_with fail
  refine (eqType_any t t _ _ _ _ _ (h1.below hb0) (h2.below hb0)).mono ?_
  rw [tyEq_refl]
  rintro e w1 ⟨rfl, hb1⟩
  go_wp2_with fail
  go_ret
  exact ⟨rfl, below_trans hb0 hb1⟩

set_option maxHeartbeats 1000000 in
set_option maxRecDepth 100000 in
theorem eqBindS_any (xs : List Bd) (s1 s2 : Value) (f1 f2 : List Nat) (w : World) (hs1 : BsAt w xs s1 f1) (hs2 : BsAt w xs s2 f2) :
    Calls Tryd.prog 20 #[s1, s2] w fun e w' => e = .returned (.bool true) ∧ Below w.heap.size w w' := by
  obtain ⟨a, cap, rfl, hc, hm, hget⟩ := hs1.open
  have HG := hid hget
  obtain ⟨a2, cap2, rfl, hc2, hm2, hget2⟩ := hs2.open
  have HG2 := hid hget2
  clear hget hget2 hs1 hs2
  go_enter Tryd.func20, Tryd.ntmps20
  go_wp2_with fail
  go_loopw [5] (fun i wr => ∃ k : Nat, k ≤ xs.length ∧ i = .int .i64 k ∧ Below w.heap.size w wr) (fun i _ => xs.length - (intOf i).toNat)
  case atStart => exact ⟨0, Nat.zero_le _, rfl, Below.refl _ _⟩
  case round =>
    obtain ⟨k, hk, rfl, hb⟩ := hrel
    by_cases hlk : k < xs.length
    · obtain ⟨b, o, nm, k1, n1, a1, c1, g1, rfl, hblt, hnm, -, c0, d1, c2, hat, hf⟩ := HG.out k hlk
      obtain ⟨b2, o2, nm2, k2, n2, p2, q2, g2, rfl, hblt2, hnm2, -, e0, e1, e2, hat2, hf2⟩ := HG2.out k hlk
      obtain rfl : nm2 = nm := hnm2.trans hnm.symm
      replace c0 := cell_keep c0 hb
      replace d1 := cell_keep d1 hb
      replace c2 := cell_keep c2 hb
      replace e0 := cell_keep e0 hb
      replace e1 := cell_keep e1 hb
      replace e2 := cell_keep e2 hb
      clear hnm hnm2
      go_wp2_with fail
      go_still_tail 8, (by kernel_rfl)
      go_wp2_with fail
      refine (eqBind_any nm2 xs[k].ty _ _ _ _ _ _ _ _ _ _ _ (hat.below ?_) (hat2.below ?_)).mono ?_
      · exact hb.drew
      · exact hb.drew
      rintro e w1 ⟨rfl, hb1⟩
      have hbb := below_trans hb.drew hb1
      clear hb hb1 hat hat2 c0 d1 c2 e0 e1 e2
      go_wp2_with fail
      go_roundw
      case rel => exact ⟨k + 1, by omega, by go_num, hbb⟩
      case measure => simp [intOf]; omega
    · go_wp2_with fail
      go_ret
      exact ⟨rfl, hb⟩
end Go.Proofs.YtffmpjcjmffdeaaDoor
