/- Draws: one string of a list (of). Draws: a text, sometimes changed in one place (l1Bend); DrawParseType. Draws: DrawTypeValid. Draws: DrawFormatType. -/
import Derived.Test.YtelbpgdlcnnabaaDr1
import Derived.Test.YtelbpgdlcnnabaaDr3
import Derived.Test.YtelbpgdlcnnabaaDrO
import Derived.Test.YtelbpgdlcnnabaaTxt
import Derived.Deep.RegionHeld3
import Derived.IntWalk
import Derived.Test.YtelbpgdlcnnabaaDr8
namespace Go.Proofs.Ytelbpgdlcnnabaa
open Go.RowKit

/-- What a draw of a string says. -/
def StrX (M q : Nat) (w : World) (P : ByteArray → Prop) (e : Ending) (w' : World) : Prop := ∃ s, e = .returned (.string s) ∧ P s ∧ RdAt M q w' ∧ Rw M w w'

theorem of_any (M q g : Nat) (L : List ByteArray) (w : World) (h : RdAt M q w) (hq : q ≤ 1000000) (hg : g ≠ M) (hc : ∀ j, (hj : j < L.length) → w.cell? ⟨g, j, none⟩ = some (.string L[j])) (h1 : 1 ≤ L.length) (h2 : L.length ≤ 1000) :
    Calls Try.prog 112 #[.pointer (some ⟨M, 0, none⟩), .slice (some ⟨g, 0, none⟩) L.length L.length] w (StrX M (q + 1) w (fun s => s ∈ L)) := by
  have HP := hid (pick_any M q (L.length : Int) w h hq (by omega) (by omega))
  have HC := hid hc
  clear hc h
  go_enter Try.func112, Try.ntmps112
  go_wp2_with fail
  refine HP.out.mono ?_
  rintro e w1 ⟨i, rfl, ⟨hi0, hi1⟩, hR, hW⟩
  obtain ⟨j, rfl⟩ : ∃ j : Nat, i = j := ⟨i.toNat, by omega⟩
  have hj : j < L.length := by omega
  have hcj := hW.cell (HC.out j hj) hg
  have HF := hid (And.intro (List.getElem_mem hj) (And.intro hR hW))
  generalize L[j] = x at *
  clear hR hW
  go_wp2_with fail
  go_ret
  exact ⟨x, rfl, HF.out.1, HF.out.2.1, HF.out.2.2⟩

set_option maxRecDepth 100000 in
set_option maxHeartbeats 2000000 in
theorem l1Bend_any (M q g : Nat) (s : ByteArray) (L : List ByteArray) (w : World) (h : RdAt M q w) (hq : q + 10 ≤ 1000000) (hg : g ≠ M) (hc : ∀ j, (hj : j < L.length) → w.cell? ⟨g, j, none⟩ = some (.string L[j])) (h1 : 1 ≤ L.length) (h2 : L.length ≤ 1000) (hs : s.size ≤ 1000) (hL : ∀ x ∈ L, x.size ≤ 1) :
    Calls Try.prog 89 #[.pointer (some ⟨M, 0, none⟩), .string s, .slice (some ⟨g, 0, none⟩) L.length L.length] w (StrX M (q + 4) w (fun x => x.size ≤ 1001)) := by
  by_cases h0 : s.size = 0
  · have e0 : ((s.size : Int) == 0) = true := by simp [h0]
    have HF := hid (And.intro (h.mono (q' := q + 4) (by omega)) (Rw.refl M w))
    clear h hc h0
    go_enter Try.func89, Try.ntmps89
    go_wp2_with fail
    go_ret
    exact ⟨s, rfl, by omega, HF.out.1, HF.out.2⟩
  have e0 : ((s.size : Int) == 0) = false := by rw [beq_eq_false_iff_ne]; omega
  have HP := hid (pick_any M q 2 w h (by omega) (by omega) (by omega))
  have HC := hid hc
  have HL := hid hL
  clear hc h hL
  go_enter Try.func89, Try.ntmps89
  go_wp2_with fail
  refine HP.out.mono ?_
  rintro e w1 ⟨i, rfl, ⟨hi0, hi2⟩, hR1, hW1⟩
  by_cases hi : i = 0
  · subst hi
    have HF := hid (And.intro (hR1.mono (q' := q + 4) (by omega)) hW1)
    clear hR1 hW1
    go_wp2_with fail
    go_ret
    exact ⟨s, rfl, by omega, HF.out.1, HF.out.2⟩
  have e1 : (i == 0) = false := by rw [beq_eq_false_iff_ne]; exact hi
  have HK := hid (pick_any M (q + 1) s.size w1 hR1 (by omega) (by omega) (by omega))
  have HW1 := hid hW1
  clear hR1 hW1
  go_wp2_with fail
  refine HK.out.mono ?_
  rintro e w2 ⟨k0, rfl, ⟨hk0, hk1⟩, hR2, hW2⟩
  obtain ⟨k, rfl⟩ : ∃ k : Nat, k0 = k := ⟨k0.toNat, by omega⟩
  have hk : k < s.size := by omega
  have hk' : k ≤ s.size := by omega
  have hW3 := (HW1.out.trans hW2).trans (Rw.drew hR2.lt)
  have HOF := hid (of_any M (q + 2) g L w2.drew (hR2.rw (below_drew _)) (by omega) hg (fun j hj => hW3.cell (HC.out j hj) hg) h1 h2)
  have HW3 := hid hW3
  clear hR2 hW2 hW3
  go_wp2_with fail
  go_region_held3 (fun _ => True) (exact trivial)
    (first
      | (go_at_call 112; refine HOF.out.mono ?_; rintro e y1 ⟨x, rfl, hx, hR3, hW4⟩; have hxs := HL.out x hx; have q1 : ¬ (9223372036854775807 < k + x.size) := (by omega); have HW4 := hid (HW3.out.trans hW4); have HPK := hid (pick_any M (q + 3) 2 y1 hR3 (by omega) (by omega) (by omega)); clear hR3 hW4 hx)
      | (go_at_call 82; refine HPK.out.mono ?_; rintro e y2 ⟨p0, rfl, ⟨hp0, hp1⟩, hR4, hW5⟩; obtain ⟨p, rfl⟩ : ∃ p : Nat, p0 = p := ⟨p0.toNat, by omega⟩; obtain ⟨m, hm⟩ : ∃ m : Nat, m = k + p := ⟨_, rfl⟩; have hkp : m ≤ s.size := (by omega); have hki : (m : Int) ≤ (s.size : Int) := (by omega); have XW : IntKind.i64.wrap ((k : Int) + (p : Int)) = (m : Int) := (by rw [IntWalk.i64_in _ (by omega)]; omega); have q2 : ¬ (9223372036854775807 < k + x.size + (s.size - m)) := (by omega); have HMK := hid (show k ≤ m by omega); clear hm; have HF := hid (And.intro hR4 (HW4.out.trans hW5)); clear hR4 hW5))
  all_goals
    go_wp2_with fail
    go_ret
    exact ⟨_, rfl, by have h9 := HMK.out; clear XW; simp only [ByteArray.size_append, ByteArray.size_extract, Nat.min_self, Nat.min_eq_left hk', Nat.sub_zero]; omega, HF.out.1, HF.out.2⟩

/-- What a draw of a text says. -/
def TextX (w : World) (e : Ending) (w' : World) : Prop := ∃ s : ByteArray, e = .returned (.string s) ∧ s.size ≤ 1001 ∧ Below w.heap.size w w'

set_option maxRecDepth 100000 in
set_option maxHeartbeats 4000000 in
theorem drawParse_any (a : Option Addr) (n cap : Nat) (w : World) (hB : BytA w a n) (hn : n ≤ cap) (hm : cap ≤ maxLen) : Calls Try.prog 42 #[.slice a n cap] w (TextX w) := by
  have HO := hid (open_any a n cap w hB hn hm)
  clear hB
  go_enter Try.func42, Try.ntmps42
  go_wp2_with fail
  refine HO.out.mono ?_
  rintro e w1 ⟨rfl, hR1, hb1⟩
  have HB1 := hid hb1
  have HT := hid (l1Type_any w.heap.size 0 w1 hR1 (by omega))
  clear hR1 hb1
  go_wp2_with fail
  refine HT.out.mono ?_
  rintro e w2 ⟨t, v, f, rfl, hsh, hat, hf, hR2, hW2⟩
  obtain ⟨k1, n1, a1, c1, rfl⟩ := hat.agg
  have HX := hid (l1Text_any 4 t _ _ _ (Nat.le_refl _) hsh hat)
  have hlen := txt_len 4 t
  have hcn := cnt_shp4 hsh
  have HR2 := hid hR2
  have HW2 := hid hW2
  clear hR2 hW2 hat hf hsh
  go_wp2_with fail
  refine HX.out.mono ?_
  rintro e w3 ⟨rfl, hb3⟩
  have hal : Below w3.heap.size w3 (w3.alloc (Obj.cells #[.string ⟨#[]⟩, .string ⟨#[40]⟩, .string ⟨#[41]⟩, .string ⟨#[63]⟩, .string ⟨#[62]⟩, .string ⟨#[73]⟩, .string ⟨#[120]⟩] 9)) := (Below.refl _ _).alloc (Nat.le_refl _) _
  have hE := alloc_new w3 (Obj.cells #[.string ⟨#[]⟩, .string ⟨#[40]⟩, .string ⟨#[41]⟩, .string ⟨#[63]⟩, .string ⟨#[62]⟩, .string ⟨#[73]⟩, .string ⟨#[120]⟩] 9)
  have hR3 := (HR2.out.rw hb3).rw hal
  have hl3 := (HR2.out.rw hb3).lt
  have hsz : (⟨(txt 4 t).toArray⟩ : ByteArray).size ≤ 1000 := by simp [ByteArray.size]; omega
  have HBD := hid (l1Bend_any w.heap.size 100 w3.heap.size ⟨(txt 4 t).toArray⟩ [⟨#[]⟩, ⟨#[40]⟩, ⟨#[41]⟩, ⟨#[63]⟩, ⟨#[62]⟩, ⟨#[73]⟩, ⟨#[120]⟩] _ (hR3.mono (q' := 100) (by omega)) (by omega) (by omega) (fun j hj => by
    rw [cell_of_block hE]
    have : j = 0 ∨ j = 1 ∨ j = 2 ∨ j = 3 ∨ j = 4 ∨ j = 5 ∨ j = 6 := by simp at hj; omega
    rcases this with rfl | rfl | rfl | rfl | rfl | rfl | rfl <;> rfl) (by simp) (by simp) hsz (by simp only [List.mem_cons, List.not_mem_nil, or_false]; rintro x (rfl | rfl | rfl | rfl | rfl | rfl | rfl) <;> decide))
  have HBW := hid (HB1.out.trans (HW2.out.below.trans ((hb3.mono (Nat.le_of_lt HR2.out.lt)).trans (hal.mono (Nat.le_of_lt hl3)))))
  clear hal hE hR3 hl3 hb3 hlen hcn
  generalize (⟨(txt 4 t).toArray⟩ : ByteArray) = s at *
  go_wp2_with fail
  refine HBD.out.mono ?_
  rintro e w4 ⟨x, rfl, hx, hR4, hW4⟩
  have HF := hid (HBW.out.trans hW4.below)
  clear hR4 hW4
  go_wp2_with fail
  go_ret
  exact ⟨x, rfl, hx, HF.out⟩

/-- What a draw of one type says. -/
def OneX (w : World) (e : Ending) (w' : World) : Prop := ∃ t v f, e = .returned v ∧ t.cnt ≤ 100 ∧ Ty.At w' t v f ∧ (∀ b ∈ f, w.heap.size ≤ b ∧ ∀ o, w'.frozen? ⟨b, o, none⟩ = false) ∧ Below w.heap.size w w'

theorem one_close {w w2 : World} {R1 : Nat} {t : Ty} {x y : Value} {f1 : List Nat} (hP : t.cnt ≤ 100) (h1 : t.At w2 (.agg #[x, y]) f1) (m1 : ∀ b ∈ f1, w.heap.size ≤ b ∧ b ≠ R1) (z1 : ∀ b ∈ f1, ∀ o, w2.frozen? ⟨b, o, none⟩ = false) (hb : Below w.heap.size w w2) (hR1 : w.heap.size ≤ R1) :
    OneX w (.returned (.agg #[x, y])) ((w2.setCell ⟨R1, 0, none⟩ x).setCell ⟨R1, 1, none⟩ y) :=
  ⟨t, _, f1, rfl, hP, (h1.setCell (a := ⟨R1, 0, none⟩) (fun b hb => (m1 b hb).2) x).setCell (a := ⟨R1, 1, none⟩) (fun b hb => (m1 b hb).2) y, fun b hb => ⟨(m1 b hb).1, fun o => (frozen_setCell_ne _ ⟨R1, 1, none⟩ _ b o (m1 b hb).2).trans ((frozen_setCell_ne _ ⟨R1, 0, none⟩ _ b o (m1 b hb).2).trans (z1 b hb o))⟩, (hb.setCell (p := ⟨R1, 0, none⟩) hR1 x).setCell (p := ⟨R1, 1, none⟩) hR1 y⟩

set_option maxRecDepth 100000 in
set_option maxHeartbeats 4000000 in
theorem drawValid_any (a : Option Addr) (n cap : Nat) (w : World) (hB : BytA w a n) (hn : n ≤ cap) (hm : cap ≤ maxLen) : Calls Try.prog 73 #[.slice a n cap] w (OneX w) := by
  have hbA : Below w.heap.size w (w.alloc (Obj.cells #[.int .i64 0, .slice none 0 0] 25)) := (Below.refl _ _).alloc (Nat.le_refl _) _
  have hE0 := alloc_new w (Obj.cells #[.int .i64 0, .slice none 0 0] 25)
  have hsz : (w.alloc (Obj.cells #[.int .i64 0, .slice none 0 0] 25)).heap.size = w.heap.size + 1 := by simp
  have HO := hid (open_any a n cap (w.alloc (Obj.cells #[.int .i64 0, .slice none 0 0] 25)) (hB.below hbA) hn hm)
  rw [hsz] at HO
  have HBA := hid hbA
  have HE := hid hE0
  clear hB hbA hE0
  go_enter Try.func73, Try.ntmps73
  go_wp2_with fail
  refine HO.out.mono ?_
  rintro e w1 ⟨rfl, hR1, hb1⟩
  have hb1' : Below (w.alloc (Obj.cells #[.int .i64 0, .slice none 0 0] 25)).heap.size (w.alloc (Obj.cells #[.int .i64 0, .slice none 0 0] 25)) w1 := by rw [hsz]; exact hb1
  have HER1 := hid ((hb1'.block _ (by omega)).trans HE.out)
  have HBW := hid (HBA.out.trans (hb1'.mono (by omega)))
  have HT := hid (l1Type_any (w.heap.size + 1) 0 w1 hR1 (by omega))
  have hs1 := hR1.lt
  clear hb1 hb1' hR1 HE
  go_wp2_with fail
  refine HT.out.mono ?_
  rintro e w2 ⟨tt, vt, gt, rfl, hsh, hatt, hft, hR2, hW2⟩
  obtain ⟨kt, nt, at', ct, rfl⟩ := hatt.agg
  have hs2 := hW2.size
  have HCN := hid (cnt_shp4 hsh)
  have HNM := hid (show ∀ b ∈ gt, b ≠ (w.heap.size + 1) from fun b hb => by have := hft.ge b hb; omega)
  replace HER1 := hid (hW2.block HER1.out (by omega))
  replace HBW := hid (HBW.out.trans (hW2.below.mono (by omega)))
  have HM := hid (l1Mutate_any tt (w.heap.size + 1) 100 _ gt w2 (hR2.mono (q' := 100) (by omega)) (by omega) hatt HNM.out (by have := HCN.out; omega))
  clear hsh hatt hft hR2 hW2
  go_wp2_with fail
  refine HM.out.mono ?_
  rintro e w3 ⟨t3, v3, g3, rfl, hc3, hat3, hf3, hR3, hW3⟩
  obtain ⟨k3, n3, a3, c3, rfl⟩ := hat3.agg
  have hE3 := hW3.block HER1.out (by omega)
  have z0 := (cell_of_block (o := 0) hE3)
  have z1 := (cell_of_block (o := 1) hE3)
  have zf := fun o => frozen_of_block (o := o) hE3
  have hs3 : w.heap.size < w3.heap.size := lt_of_block hE3
  have HF := hid (one_close (w := w) (R1 := w.heap.size) (t := t3) (by have := HCN.out; omega) hat3 (fun b hb => by have h0 := hf3.ge b hb; refine ⟨?_, ?_⟩ <;> omega) (fun b hb o => (hf3.2 b hb).2.2 o) (HBW.out.trans (hW3.below.mono (by omega))) (Nat.le_refl _))
  clear hc3 hat3 hf3 hR3 hW3 hE3
  go_wp2_with fail
  exact bodyPost_ret (v := .agg #[.int .i64 k3, .slice a3 n3 c3]) (by simp [results, Try.results73, go_sem, z0, z1]) rfl HF.out

set_option maxRecDepth 100000 in
set_option maxHeartbeats 1000000 in
theorem drawFormat_any (a : Option Addr) (n cap : Nat) (w : World) (hB : BytA w a n) (hn : n ≤ cap) (hm : cap ≤ maxLen) : Calls Try.prog 38 #[.slice a n cap] w (OneX w) := by
  have hbA : Below w.heap.size w (w.alloc (Obj.cells #[.int .i64 0, .slice none 0 0] 25)) := (Below.refl _ _).alloc (Nat.le_refl _) _
  have hE0 := alloc_new w (Obj.cells #[.int .i64 0, .slice none 0 0] 25)
  have HD := hid (drawValid_any a n cap (w.alloc (Obj.cells #[.int .i64 0, .slice none 0 0] 25)) (hB.below hbA) hn hm)
  have HBA := hid hbA
  have HE := hid hE0
  clear hB hbA hE0
  go_enter Try.func38, Try.ntmps38
  go_wp2_with fail
  refine HD.out.mono ?_
  rintro e w1 ⟨t, v1, f1, rfl, hsm, h1, g1, hb⟩
  obtain ⟨k1, n1, a1, c1, rfl⟩ := h1.agg
  have hEa := (hb.block _ (by simp)).trans HE.out
  have z0 := (cell_of_block (o := 0) hEa)
  have z1 := (cell_of_block (o := 1) hEa)
  have zf := fun o => frozen_of_block (o := o) hEa
  have hs1 : w.heap.size < w1.heap.size := lt_of_block hEa
  have HF := hid (one_close (w := w) (R1 := w.heap.size) hsm h1 (fun b hb => by have := (g1 b hb).1; simp at this; refine ⟨?_, ?_⟩ <;> omega) (fun b hb o => (g1 b hb).2 o) (below_trans HBA.out hb) (Nat.le_refl _))
  clear h1 g1 hb hEa hsm
  go_wp2_with fail
  exact bodyPost_ret (v := .agg #[.int .i64 k1, .slice a1 n1 c1]) (by simp [results, Try.results38, go_sem, z0, z1]) rfl HF.out

end Go.Proofs.Ytelbpgdlcnnabaa
