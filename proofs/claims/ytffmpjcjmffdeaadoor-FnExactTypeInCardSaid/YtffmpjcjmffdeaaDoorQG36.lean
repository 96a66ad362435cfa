/- The laws' own helpers heldTermS and heldTerm: the marks asked for again. Terms that stay while others are marked; how many marks a term takes. The marks in a list of bindings. -/
import Derived.Deep.RegionHeld3
import Derived.Test.YtffmpjcjmffdeaaDoorQMMk
import Derived.Test.YtffmpjcjmffdeaaDoorQPkA
import Derived.Test.YtffmpjcjmffdeaaDoorQBd
namespace Go.Proofs.YtffmpjcjmffdeaaDoor
open Go.RowKit

end Go.Proofs.YtffmpjcjmffdeaaDoor

namespace Go.Proofs.YtffmpjcjmffdeaaDoor
open Go.RowKit

theorem Tm.At.only {w w' : World} {t : Tm} {v : Value} {fp g : List Nat} (h : t.At w v fp) (hg : Only g w w') (hd : ∀ x ∈ fp, x ∉ g) : t.At w' v fp :=
  h.congr fun x hx o' => World.cell?_of_block (w := w) (a := ⟨x, o', none⟩) (hg.block x (h.lt x hx) (hd x hx))

mutual
theorem num_le : ∀ t : Tm, t.num ≤ 6 * t.sz
  | .mk k nm num ty fr lb ts => by
    have := numL_le ts
    simp only [Tm.num, Tm.sz]
    omega
theorem numL_le : ∀ ts : List Tm, numL ts ≤ 6 * (ts.length + szML ts)
  | [] => by simp [numL]
  | t :: ts => by
    have h1 := num_le t
    have h2 := numL_le ts
    simp only [numL, List.length_cons, szML]
    omega
end
end Go.Proofs.YtffmpjcjmffdeaaDoor

namespace Go.Proofs.YtffmpjcjmffdeaaDoor
open Go.RowKit

/-- How many numbers the marks of a list of bindings take. -/
def numB : List Bd → Nat
  | [] => 0
  | x :: xs => x.ty.cnt + 2 + numB xs

theorem numB_take : ∀ {xs : List Bd} {j : Nat} (h : j < xs.length), numB (xs.take (j + 1)) = numB (xs.take j) + (xs[j].ty.cnt + 2)
  | x :: xs, 0, _ => by simp [numB]
  | x :: xs, j + 1, h => by
    have ih := numB_take (xs := xs) (j := j) (by simpa using h)
    simp only [List.take_succ_cons, numB, List.getElem_cons_succ]
    omega

theorem numB_le : ∀ (xs : List Bd) (j : Nat), numB (xs.take j) ≤ numB xs
  | [], j => by simp [numB]
  | x :: xs, 0 => by simp [numB]
  | x :: xs, j + 1 => by
    have := numB_le xs j
    simp only [List.take_succ_cons, numB]
    omega

theorem numB_sz : ∀ xs : List Bd, numB xs ≤ 2 * xs.length + szB xs
  | [] => by simp [numB]
  | x :: xs => by
    have := numB_sz xs
    simp only [numB, List.length_cons, szB]
    omega

theorem BsAt.only {w w' : World} {xs : List Bd} {s : Value} {fp g : List Nat} (h : BsAt w xs s fp) (hg : Only g w w') (hd : ∀ x ∈ fp, x ∉ g) : BsAt w' xs s fp :=
  h.congr fun x hx o' => World.cell?_of_block (w := w) (a := ⟨x, o', none⟩) (hg.block x (h.lt x hx) (hd x hx))

/-- What stays of the rest of a list when its first binding is marked. -/
theorem BdL.rest {w w1 w2 : World} {xs : List Bd} {b o : Nat} {f g : List Nat} {u v : Value} (h : BdL w xs b (o + 3) g) (hb : Below w.heap.size w w1) (hbw : b < w.heap.size)
    (hon : Only f ((w1.setCell ⟨b, o, none⟩ u).setCell ⟨b, o + 1, none⟩ v) w2) (hbf : b ∉ f) (hbg : b ∉ g) (hfg : ∀ x ∈ g, x ∉ f) : BdL w2 xs b (o + 3) g := by
  have hsz : ((w1.setCell ⟨b, o, none⟩ u).setCell ⟨b, o + 1, none⟩ v).heap.size = w1.heap.size := by rw [size_setCell, size_setCell]
  refine h.congr (fun o' ho _ => ?_) (fun x hx o' => ?_)
  · rw [World.cell?_of_block (w := (w1.setCell ⟨b, o, none⟩ u).setCell ⟨b, o + 1, none⟩ v) (a := ⟨b, o', none⟩) (hon.block b (by have := hb.size; omega) hbf), cell_setCell_other (by omega), cell_setCell_other (by omega)]
    exact hb.cell (p := ⟨b, o', none⟩) hbw
  · have hxw := h.lt x hx
    rw [World.cell?_of_block (w := (w1.setCell ⟨b, o, none⟩ u).setCell ⟨b, o + 1, none⟩ v) (a := ⟨x, o', none⟩) (hon.block x (by have := hb.size; omega) (hfg x hx)),
      World.cell?_of_block (w := w1) (a := ⟨x, o', none⟩) (by
        have hne : x ≠ b := fun e => hbg (e ▸ hx)
        show ((w1.setCell ⟨b, o, none⟩ u).setCell ⟨b, o + 1, none⟩ v).heap[x]? = w1.heap[x]?
        rw [Below.heap_setCell _ _ _ _ hne, Below.heap_setCell _ _ _ _ hne])]
    exact hb.cell (p := ⟨x, o', none⟩) hxw

theorem ty_kids {w : World} {t : Ty} {k : Int} {s : Value} {fp : List Nat} (h : t.At w (.agg #[.int .i64 k, s]) fp) : SlAt w (kidsT t) s fp := by
  obtain ⟨kk, ts⟩ := t
  obtain ⟨s', e, h⟩ := Ty.at_mk.1 h
  simp only [Value.agg.injEq, Array.mk.injEq, List.cons.injEq, and_true] at e
  rw [e.2]
  exact h

set_option linter.unusedSimpArgs false in
set_option maxRecDepth 100000 in
set_option maxHeartbeats 2000000 in
theorem markBindS_any (xs : List Bd) (s : Value) (fp : List Nat) (m : Nat) (n : Int) (w : World) (hs : BsAt w xs s fp) (hnd : fp.Nodup) (hfz : ∀ b ∈ fp, ∀ o, w.frozen? ⟨b, o, none⟩ = false) (hn : n = (m : Int)) (h0 : 0 < m) (h1 : m + numB xs ≤ 1073741824) :
    Calls Tryd.prog 21 #[s, .int .i64 n] w fun e w' => e = .returned (.int .i64 ((m + numB xs : Nat) : Int)) ∧ Only fp w w' := by
  subst hn
  rcases hs with ⟨rfl, rfl, a, cap, rfl⟩ | ⟨b, o, cap, f, rfl, hp, hc, hm, hl, rfl⟩
  · go_enter Tryd.func21, Tryd.ntmps21
    go_wp2_with fail
    go_loop [1, 5] (fun k i => k = .int .i64 (m : Int) ∧ i = .int .i64 0) (fun _ _ => 0)
    case atStart => exact ⟨rfl, rfl⟩
    case round =>
      obtain ⟨rfl, rfl⟩ := hrel
      go_wp2_with fail
      go_ret
      exact ⟨ret_i (by simp [numB]), Only.refl _ _⟩
  · unfold maxLen at hm
    obtain ⟨hbn, hnf⟩ := List.nodup_cons.1 hnd
    have HBN := hid hbn
    have HFZ := hid hfz
    have hblt : b < w.heap.size := by
      cases xs with
      | nil => simp at hp
      | cons x xs =>
        obtain ⟨v0, v1, v2, f1, f2, c0, _⟩ := hl
        exact World.block_lt_of_cell? _ _ c0
    have HZB := hid (hfz b (by simp))
    have HL := hid hl
    have HND := hid hnf
    have HM1 := hid h1
    have HT := hid (fun (j : Nat) (h : j < xs.length) => numB_take h)
    have HLE := hid (numB_le xs)
    clear hbn hnf hnd hfz hl h1
    go_enter Tryd.func21, Tryd.ntmps21
    go_wp2_with fail
    go_loopw [1, 5] (fun k i wr => ∃ (j : Nat) (g : List Nat), j ≤ xs.length ∧ i = .int .i64 j ∧ k = .int .i64 ((m + numB (xs.take j) : Nat) : Int) ∧ BdL wr (xs.drop j) b (o + j * 3) g ∧ g.Nodup ∧ (∀ x ∈ g, x ∈ f) ∧ Only (b :: f) w wr)
      (fun _ i _ => xs.length - (intOf i).toNat)
    case atStart => exact ⟨0, f, Nat.zero_le _, rfl, by simp [numB], by simpa using HL.out, HND.out, fun x hx => hx, Only.refl _ _⟩
    case round =>
      obtain ⟨j, g, hj, rfl, rfl, hl, hnd, hsub, hon⟩ := hrel
      by_cases hlk : j < xs.length
      · rw [List.drop_eq_getElem_cons hlk] at hl
        obtain ⟨v0, v1, v2, f1, f2, c0, c1, c2, ⟨k9, n9, a9, c9, hv, hns, hty⟩, hl2, rfl⟩ := hl
        simp only [Value.agg.injEq, Array.mk.injEq, List.cons.injEq, and_true] at hv
        obtain ⟨rfl, rfl, rfl⟩ := hv
        have hbr : b < wr.heap.size := Nat.lt_of_lt_of_le hblt hon.size
        have hz0 : wr.frozen? ⟨b, o + j * 3, none⟩ = false := (hon.frozen b _ hblt).trans (HZB.out _)
        have hz1 : wr.frozen? ⟨b, o + j * 3 + 1, none⟩ = false := (hon.frozen b _ hblt).trans (HZB.out _)
        have HK := hid (HT.out j hlk)
        have HK2 := hid (HLE.out (j + 1))
        generalize hK : m + numB (xs.take j) = K at *
        have HKK := hid hK
        have hK0 : 0 < K := by omega
        have hK1 : K + (xs[j].ty.cnt + 2) ≤ 1073741824 := by have := HK.out; have := HK2.out; have := HM1.out; omega
        have HK1 := hid hK1
        have hKa : (0 : Int) ≤ (K : Int) := by omega
        have hKb : (K : Int) + 2 ≤ 1073741824 := by omega
        have HMT := hid (markText_at K (K : Int) rfl hK0 (by omega) wr)
        obtain ⟨g1, g2, gd⟩ := List.nodup_append.1 hnd
        have HG := hid (And.intro g1 (And.intro g2 gd))
        have HSUB := hid hsub
        have HL2 := hid hl2
        have HTY := hid hty
        have HON := hid hon
        clear hl2 hty hon hnd hsub hK hK1 hns g1 g2 gd
        go_wp2_with fail
        refine HMT.out.mono ?_
        rintro e w1 ⟨rfl, hms, hb1⟩
        have d0 := cell_keep c0 hb1
        have d1 := cell_keep c1 hb1
        have d2 := cell_keep c2 hb1
        have hy0 : w1.frozen? ⟨b, o + j * 3, none⟩ = false := ((only_of_below (fp := []) hb1).frozen b _ hbr).trans hz0
        have hy1 : w1.frozen? ⟨b, o + j * 3 + 1, none⟩ = false := ((only_of_below (fp := []) hb1).frozen b _ hbr).trans hz1
        have hb1l : b < w1.heap.size := Nat.lt_of_lt_of_le hbr hb1.size
        have hf1b : b ∉ f1 := fun h => HBN.out (HSUB.out b (List.mem_append_left _ h))
        have hf2b : b ∉ f2 := fun h => HBN.out (HSUB.out b (List.mem_append_right _ h))
        have e1 : ((w1.setCell ⟨b, o + j * 3, none⟩ (.string (mtx K))).cell? ⟨b, o + j * 3 + 1, none⟩) = some (.int .i64 k9) := (cell_setCell_other (by omega) _).trans d1
        have e2 : (((w1.setCell ⟨b, o + j * 3, none⟩ (.string (mtx K))).setCell ⟨b, o + j * 3 + 1, none⟩ (.int .i64 ((K : Int) + 1))).cell? ⟨b, o + j * 3 + 2, none⟩) = some (.slice a9 n9 c9) := (cell_setCell_other (by omega) _).trans ((cell_setCell_other (by omega) _).trans d2)
        have hsl : SlAt ((w1.setCell ⟨b, o + j * 3, none⟩ (.string (mtx K))).setCell ⟨b, o + j * 3 + 1, none⟩ (.int .i64 ((K : Int) + 1))) (kidsT xs[j].ty) (.slice a9 n9 c9) f1 :=
          ((ty_kids (HTY.out.below hb1)).setCell (a := ⟨b, o + j * 3, none⟩) (fun x hx e => hf1b (by rw [← show x = b from e]; exact hx)) _).setCell (a := ⟨b, o + j * 3 + 1, none⟩) (fun x hx e => hf1b (by rw [← show x = b from e]; exact hx)) _
        have HMK := hid (markTypeS_any (kidsT xs[j].ty) _ f1 ((K : Int) + 1 + 1) _ hsl HG.out.1 (fun x hx o' => by
          rw [frozen_setCell, frozen_setCell, ((only_of_below (fp := []) hb1).frozen x o' (HTY.out.lt x hx)), HON.out.frozen x o' (by
            have := (HL.out.lt x (HSUB.out x (List.mem_append_left _ hx)))
            exact this)]
          exact HFZ.out x (List.mem_cons_of_mem _ (HSUB.out x (List.mem_append_left _ hx))) o') (by omega) (by have := HK1.out; have := cnt_kids xs[j].ty; omega))
        have HB1 := hid hb1
        clear hsl hb1 hms c0 c1 c2
        go_wp2_with fail
        refine HMK.out.mono ?_
        rintro e w2 ⟨rfl, -, hon2⟩
        have HR := hid (BdL.rest HL2.out HB1.out hbr hon2 hf1b hf2b (fun x hx hx' => HG.out.2.2 x hx' x hx rfl))
        have HON2 := hid (show Only (b :: f) w w2 from ((HON.out.trans (only_of_below HB1.out)).trans ((Only.setCell (b := b) (o := o + j * 3) (by simp) (.string (mtx K))).trans (Only.setCell (b := b) (o := o + j * 3 + 1) (by simp) (.int .i64 ((K : Int) + 1))))).trans (hon2.sub (fun x hx => List.mem_cons_of_mem _ (HSUB.out x (List.mem_append_left _ hx)))))
        have HCK := hid (cnt_kids xs[j].ty)
        clear hon2 d0 d1 d2 e1 e2 hy0 hy1 hz0 hz1
        go_wp2_with fail
        refine ⟨⟨j + 1, f2, by omega, by go_num, ?_, ?_, HG.out.2.1, fun x hx => HSUB.out x (List.mem_append_right _ hx), HON2.out⟩, by simp [intOf]; omega⟩
        · have h1 := HK.out
          have h2 := HKK.out
          have h3 := HCK.out
          congr 1
          omega
        · have h := HR.out
          rw [show o + (j + 1) * 3 = o + j * 3 + 3 by omega]
          exact h
      · have hjl : j = xs.length := by omega
        have HON := hid hon
        clear hl hnd hsub hon
        go_wp2_with fail
        go_ret
        refine ⟨ret_i (by rw [hjl, List.take_length]), HON.out⟩
end Go.Proofs.YtffmpjcjmffdeaaDoor
