/- The specification's list of a term's types: l2Types. -/
import Derived.Test.YtffmpjcjmffdeaaDoorUPkA
import Derived.Test.YtffmpjcjmffdeaaDoorUG4
import Derived.Test.YtffmpjcjmffdeaaDoorUPkB
namespace Go.Proofs.YtffmpjcjmffdeaaDoor
open Go.RowKit

mutual
/-- The types that a term mentions. -/
def tysOf : Tm → List Ty
  | .mk k _ _ ty _ _ ts => (if k = 5 ∨ k = 13 then [ty] else []) ++ tysL ts
def tysL : List Tm → List Ty
  | [] => []
  | t :: ts => tysOf t ++ tysL ts
end

theorem tysL_take {ts : List Tm} {k : Nat} (h : k < ts.length) : tysL (ts.take (k + 1)) = tysL (ts.take k) ++ tysOf ts[k] := by
  rw [take_succM h]
  generalize ts.take k = l
  induction l with
  | nil => simp [tysL]
  | cons a l ih => simp only [List.cons_append, tysL, ih, List.append_assoc]

mutual
theorem tysOf_len : ∀ t : Tm, (tysOf t).length ≤ t.sz + 1
  | .mk k nm num ty fr lb ts => by
    have := tysL_len ts
    simp only [tysOf, List.length_append, Tm.sz]
    split <;> simp only [List.length_cons, List.length_nil] <;> omega
theorem tysL_len : ∀ ts : List Tm, (tysL ts).length ≤ ts.length + szML ts
  | [] => by simp [tysL]
  | t :: ts => by
    have h1 := tysOf_len t
    have h2 := tysL_len ts
    simp only [tysL, List.length_append, List.length_cons, szML]
    omega
end

theorem tysL_take_len (ts : List Tm) (k : Nat) : (tysL (ts.take k)).length ≤ (tysL ts).length := by
  induction ts generalizing k with
  | nil => simp [tysL]
  | cons t ts ih =>
    cases k with
    | zero => simp [tysL]
    | succ k => simp only [List.take_succ_cons, tysL, List.length_append]; have := ih k; omega

def TyMC (t : Tm) : Prop := ∀ (B : Nat) (ds : List Ty) (v : Value) (g : List Nat) (tv : Value) (fp : List Nat) (w : World), GrowT B ds v g w → t.At w tv fp → (∀ x ∈ fp, x < B) → B ≤ w.heap.size → t.sz ≤ 1048576 → ds.length + (tysOf t).length ≤ 4194304 →
  Calls Tryd.prog 123 #[v, tv] w fun e w' => ∃ v' g', e = .returned v' ∧ GrowT B (ds ++ tysOf t) v' g' w' ∧ Gr w w' v v'

set_option linter.unusedSimpArgs false in
set_option maxRecDepth 100000 in
set_option maxHeartbeats 4000000 in
theorem l2Types_of (k : Int) (nm : ByteArray) (num : Int) (ty fr : Ty) (lb : Int) (ts : List Tm) (ih : ∀ t ∈ ts, TyMC t) : TyMC (.mk k nm num ty fr lb ts) := by
  intro B ds v g tv fp w hG hat hlt hBw hsz hlen
  have HIH := hid ih
  clear ih
  obtain ⟨k1, n1, a1, c1, k2, n2, a2, c2, a3, c3, f1, f2, f3, rfl, hnm, ht1, ht2, rfl, hs⟩ := hat.parts
  have hlt3 : ∀ x ∈ f3, x < B := fun x hx => hlt x (by simp [hx])
  have HS3 := hid hlt3
  obtain ⟨a, cap, hss, hc, hm, hget⟩ := hs.open
  cases hss
  have hblk : ∀ b o, a3 = some ⟨b, o, none⟩ → 0 < ts.length → b ∈ f3 := fun b o e hp => by
    rcases hs with ⟨h0, _⟩ | ⟨b', o', cap', f, e', _, _, _, _, rfl⟩
    · rw [h0] at hp; simp at hp
    · rw [e] at e'
      cases e'
      simp
  have HBK := hid hblk
  have HG := hid hget
  obtain ⟨av, capv, rfl⟩ := hG.shape
  have HOWN := hid hG.own_ge
  have hb0 : ∀ kx : Int, Below w.heap.size w (w.alloc (Obj.cells #[.int .i64 kx, .string nm, .int .i64 num, .int .i64 k1, .slice a1 n1 c1, .int .i64 k2, .slice a2 n2 c2, .int .i64 lb, .slice a3 ts.length c3] 35)) := fun _ => (Below.refl _ _).alloc (Nat.le_refl _) _
  obtain ⟨i0, hi0, hz0, hz1, hz2⟩ := info_parts (P := Tryd.prog) (e := 32) Tryd.infoElem
  have HSZ := hid (show ty.cnt ≤ 1048576 ∧ ts.length + szML ts ≤ 1048576 by simp only [Tm.sz] at hsz; omega)
  have hMo : some w.heap.size ≠ (Value.slice av ds.length capv).ownBlock := fun e => by have := HOWN.out _ e.symm; omega
  have HMO := hid hMo
  have hlen0 : ds.length + (tysL ts).length ≤ 4194304 ∧ ds.length ≤ 4194303 ∨ (k ≠ 5 ∧ k ≠ 13 ∧ ds.length + (tysL ts).length ≤ 4194304) := by
    simp only [tysOf, List.length_append] at hlen
    by_cases h : k = 5 ∨ k = 13
    · rw [if_pos h] at hlen
      simp only [List.length_cons, List.length_nil] at hlen
      exact .inl ⟨by omega, by omega⟩
    · exact .inr ⟨fun e => h (.inl e), fun e => h (.inr e), by omega⟩
  have HLEN := hid hlen
  clear hget hat hsz hblk hlt hlen hMo hs hlt3
  by_cases hk5 : k = 5
  · subst hk5
    have hds : ds.length + 1 + (tysL ts).length ≤ 4194304 := by have := HLEN.out; simp [tysOf] at this; omega
    go_enter Tryd.func123, Tryd.ntmps123
    go_wp2_with fail
    refine (l1Copy_any ty _ _ _ (ht1.below (hb0 5)) HSZ.out.1).mono ?_
    rintro e w1 ⟨v1, f', rfl, hat', hf', hb1⟩
    obtain ⟨kk, nn, aa, cc, rfl⟩ := hat'.agg
    obtain ⟨z0, z1, z2, z3, z4, z5, z6, z7, z8⟩ := box9 hb1
    have hGw := hG.below (hb0 5)
    obtain ⟨xs, ho1, ha1, hf1, hn1⟩ := hGw.below hb1
    have hM1 : B ≤ w1.heap.size := Nat.le_trans hBw (Nat.le_trans (hb0 5).size hb1.size)
    have h63 : ds.length + 1 ≤ maxLen := by unfold maxLen; omega
    have hby : (ds.length + 1) * 32 ≤ 140737488355328 := by omega
    go_wp2_with (refine wpList_append_lies _ rfl (.tmp 14) (.tmp 18) 30 rfl B 32 i0 _ 2 32 Tryd.underElems hi0 hz0 hz1 hz2 rfl (by omega) (.slice av ds.length capv) ds.length xs rfl (ho1.alloc _) ⟨w1.heap.size, 0, none⟩ 1 1 [.int .i64 kk, .slice aa nn cc] rfl rfl (World.news_of_block (cs := #[.int .i64 kk, .slice aa nn cc]) (t := 32) (fr := (0, 0)) (heap_alloc_new w1 _)) (by simp [Value.oneCell']) (by omega) h63 hby (by simp; omega) (w1.heap.size + 1) (by simp) ?_; intro g3 cp w3 hown3 hgrow hat3 hlt3)
    have HG3 := hid (GrowT.step (w2 := w1.alloc (Obj.cells #[.int .i64 kk, .slice aa nn cc] 32)) ha1 hf1 hn1 hGw.block.1 hGw.block.2 (Nat.le_trans hBw (hb0 5).size) hat' hf' ((Below.refl _ _).alloc (Nat.le_refl _) _) hgrow hown3 rfl (by simpa using hat3))
    have HGR := hid (Gr.append (n := ds.length + 1) (cap := cp) hb1 hgrow hat3)
    have hbx := HGR.out.heap (M := w.heap.size) (alloc_new _ _) HMO.out
    clear z0 z1 z2 z3 z4 z5 z6 z7 z8 hGw ho1 ha1 hf1 hn1 hat' hf' hb1 hgrow hown3 hat3 hlt3
    obtain ⟨z0, z1, z2, z3, z4, z5, z6, z7, z8⟩ := cells9 hbx
    clear hbx
    go_wp2_with fail
    go_loopw [0, 5] (fun out i wr => ∃ (j : Nat) (v' : Value) (g' : List Nat), j ≤ ts.length ∧ i = .int .i64 j ∧ out = v' ∧ GrowT B ((ds ++ [ty]) ++ tysL (ts.take j)) v' g' wr ∧ Gr (w.alloc (Obj.cells #[.int .i64 5, .string nm, .int .i64 num, .int .i64 k1, .slice a1 n1 c1, .int .i64 k2, .slice a2 n2 c2, .int .i64 lb, .slice a3 ts.length c3] 35)) wr (.slice av ds.length capv) v') (fun _ i _ => ts.length - (intOf i).toNat)
    case atStart => exact ⟨0, _, _, Nat.zero_le _, rfl, rfl, by simpa [tysL] using HG3.out, HGR.out⟩
    case round =>
      obtain ⟨j, v', g', hj, rfl, hout, hG4, hgr⟩ := hrel
      have hzb := hgr.heap (M := w.heap.size) (alloc_new _ _) HMO.out
      obtain ⟨z0, z1, z2, z3, z4, z5, z6, z7, z8⟩ := cells9 hzb
      obtain ⟨av', nv', capv', hshape⟩ : ∃ a n c, v' = .slice a n c := by obtain ⟨a, c, h⟩ := hG4.shape; exact ⟨a, _, c, h⟩
      subst hshape
      subst hout
      have HGR4 := hid hgr
      have HG4 := hid hG4
      have hBr : B ≤ wr.heap.size := Nat.le_trans (Nat.le_trans hBw (hb0 5).size) hgr.size
      clear hgr hG4 hzb
      by_cases hlk : j < ts.length
      · obtain ⟨b, o, q0, q1, q2, q3, q4, q5, q6, q7, q8, q9, q10, q11, q12, q13, q14, g1, hab, hblt, e0, e1, e2, e3, e4, e5, e6, e7, e8, hat, hf⟩ := HG.out j hlk
        have hbB : b < B := HS3.out b (HBK.out b o hab (by omega))
        have hnb : some b ≠ (Value.slice av ds.length capv).ownBlock := fun e => by have := HOWN.out _ e.symm; omega
        subst hab
        have hat' : Tm.At wr ts[j] _ g1 := HGR4.out.tm (hat.below (hb0 5)) (fun x hx e => by have := HOWN.out _ e.symm; have := HS3.out x (hf x hx); omega)
        replace e0 := HGR4.out.cell (cell_keep e0 (hb0 5)) hnb
        replace e1 := HGR4.out.cell (cell_keep e1 (hb0 5)) hnb
        replace e2 := HGR4.out.cell (cell_keep e2 (hb0 5)) hnb
        replace e3 := HGR4.out.cell (cell_keep e3 (hb0 5)) hnb
        replace e4 := HGR4.out.cell (cell_keep e4 (hb0 5)) hnb
        replace e5 := HGR4.out.cell (cell_keep e5 (hb0 5)) hnb
        replace e6 := HGR4.out.cell (cell_keep e6 (hb0 5)) hnb
        replace e7 := HGR4.out.cell (cell_keep e7 (hb0 5)) hnb
        replace e8 := HGR4.out.cell (cell_keep e8 (hb0 5)) hnb
        have htk := tysL_take hlk
        have hl1 := tysL_take_len ts (j + 1)
        have hl2 : ((ds ++ [ty]) ++ tysL (ts.take j)).length + (tysOf ts[j]).length ≤ 4194304 := by
          rw [htk] at hl1
          simp only [List.length_append, List.length_cons, List.length_nil] at hl1 ⊢
          omega
        have hszj : ts[j].sz ≤ 1048576 := by have := HSZ.out.2; have := sz_mem (List.getElem_mem hlk); omega
        have HTK := hid htk
        have HFJ := hid (show ∀ x ∈ g1, x < B from fun x hx => HS3.out x (hf x hx))
        clear hl1 htk hat hf
        go_wp2_with fail
        refine (HIH.out _ (List.getElem_mem hlk) B _ _ _ _ g1 _ HG4.out hat' HFJ.out hBr hszj hl2).mono ?_
        rintro e w4 ⟨v5, g5, rfl, hG5, hgr5⟩
        have HG5 := hid hG5
        have HGR5 := hid (HGR4.out.trans hgr5)
        clear hG5 hgr5 e0 e1 e2 e3 e4 e5 e6 e7 e8 z0 z1 z2 z3 z4 z5 z6 z7 z8 hat'
        go_wp2_with fail
        go_roundw
        case rel => exact ⟨j + 1, _, g5, by omega, by go_num, rfl, by rw [HTK.out, ← List.append_assoc]; exact HG5.out, HGR5.out⟩
        case measure => simp [intOf]; omega
      · have hz : ts.take j = ts := List.take_of_length_le (by omega)
        have HZ := hid hz
        clear hz
        go_wp2_with fail
        go_ret
        refine ⟨_, g', rfl, ?_, (Gr.of_below (hb0 5) _).trans HGR4.out⟩
        have := HG4.out
        rw [HZ.out] at this
        simpa [tysOf] using this
  by_cases hk13 : k = 13
  · subst hk13
    have hds : ds.length + 1 + (tysL ts).length ≤ 4194304 := by have := HLEN.out; simp [tysOf] at this; omega
    go_enter Tryd.func123, Tryd.ntmps123
    go_wp2_with fail
    refine (l1Copy_any ty _ _ _ (ht1.below (hb0 13)) HSZ.out.1).mono ?_
    rintro e w1 ⟨v1, f', rfl, hat', hf', hb1⟩
    obtain ⟨kk, nn, aa, cc, rfl⟩ := hat'.agg
    obtain ⟨z0, z1, z2, z3, z4, z5, z6, z7, z8⟩ := box9 hb1
    have hGw := hG.below (hb0 13)
    obtain ⟨xs, ho1, ha1, hf1, hn1⟩ := hGw.below hb1
    have hM1 : B ≤ w1.heap.size := Nat.le_trans hBw (Nat.le_trans (hb0 13).size hb1.size)
    have h63 : ds.length + 1 ≤ maxLen := by unfold maxLen; omega
    have hby : (ds.length + 1) * 32 ≤ 140737488355328 := by omega
    go_wp2_with (refine wpList_append_lies _ rfl (.tmp 14) (.tmp 18) 30 rfl B 32 i0 _ 2 32 Tryd.underElems hi0 hz0 hz1 hz2 rfl (by omega) (.slice av ds.length capv) ds.length xs rfl (ho1.alloc _) ⟨w1.heap.size, 0, none⟩ 1 1 [.int .i64 kk, .slice aa nn cc] rfl rfl (World.news_of_block (cs := #[.int .i64 kk, .slice aa nn cc]) (t := 32) (fr := (0, 0)) (heap_alloc_new w1 _)) (by simp [Value.oneCell']) (by omega) h63 hby (by simp; omega) (w1.heap.size + 1) (by simp) ?_; intro g3 cp w3 hown3 hgrow hat3 hlt3)
    have HG3 := hid (GrowT.step (w2 := w1.alloc (Obj.cells #[.int .i64 kk, .slice aa nn cc] 32)) ha1 hf1 hn1 hGw.block.1 hGw.block.2 (Nat.le_trans hBw (hb0 13).size) hat' hf' ((Below.refl _ _).alloc (Nat.le_refl _) _) hgrow hown3 rfl (by simpa using hat3))
    have HGR := hid (Gr.append (n := ds.length + 1) (cap := cp) hb1 hgrow hat3)
    have hbx := HGR.out.heap (M := w.heap.size) (alloc_new _ _) HMO.out
    clear z0 z1 z2 z3 z4 z5 z6 z7 z8 hGw ho1 ha1 hf1 hn1 hat' hf' hb1 hgrow hown3 hat3 hlt3
    obtain ⟨z0, z1, z2, z3, z4, z5, z6, z7, z8⟩ := cells9 hbx
    clear hbx
    go_wp2_with fail
    go_loopw [0, 5] (fun out i wr => ∃ (j : Nat) (v' : Value) (g' : List Nat), j ≤ ts.length ∧ i = .int .i64 j ∧ out = v' ∧ GrowT B ((ds ++ [ty]) ++ tysL (ts.take j)) v' g' wr ∧ Gr (w.alloc (Obj.cells #[.int .i64 13, .string nm, .int .i64 num, .int .i64 k1, .slice a1 n1 c1, .int .i64 k2, .slice a2 n2 c2, .int .i64 lb, .slice a3 ts.length c3] 35)) wr (.slice av ds.length capv) v') (fun _ i _ => ts.length - (intOf i).toNat)
    case atStart => exact ⟨0, _, _, Nat.zero_le _, rfl, rfl, by simpa [tysL] using HG3.out, HGR.out⟩
    case round =>
      obtain ⟨j, v', g', hj, rfl, hout, hG4, hgr⟩ := hrel
      have hzb := hgr.heap (M := w.heap.size) (alloc_new _ _) HMO.out
      obtain ⟨z0, z1, z2, z3, z4, z5, z6, z7, z8⟩ := cells9 hzb
      obtain ⟨av', nv', capv', hshape⟩ : ∃ a n c, v' = .slice a n c := by obtain ⟨a, c, h⟩ := hG4.shape; exact ⟨a, _, c, h⟩
      subst hshape
      subst hout
      have HGR4 := hid hgr
      have HG4 := hid hG4
      have hBr : B ≤ wr.heap.size := Nat.le_trans (Nat.le_trans hBw (hb0 13).size) hgr.size
      clear hgr hG4 hzb
      by_cases hlk : j < ts.length
      · obtain ⟨b, o, q0, q1, q2, q3, q4, q5, q6, q7, q8, q9, q10, q11, q12, q13, q14, g1, hab, hblt, e0, e1, e2, e3, e4, e5, e6, e7, e8, hat, hf⟩ := HG.out j hlk
        have hbB : b < B := HS3.out b (HBK.out b o hab (by omega))
        have hnb : some b ≠ (Value.slice av ds.length capv).ownBlock := fun e => by have := HOWN.out _ e.symm; omega
        subst hab
        have hat' : Tm.At wr ts[j] _ g1 := HGR4.out.tm (hat.below (hb0 13)) (fun x hx e => by have := HOWN.out _ e.symm; have := HS3.out x (hf x hx); omega)
        replace e0 := HGR4.out.cell (cell_keep e0 (hb0 13)) hnb
        replace e1 := HGR4.out.cell (cell_keep e1 (hb0 13)) hnb
        replace e2 := HGR4.out.cell (cell_keep e2 (hb0 13)) hnb
        replace e3 := HGR4.out.cell (cell_keep e3 (hb0 13)) hnb
        replace e4 := HGR4.out.cell (cell_keep e4 (hb0 13)) hnb
        replace e5 := HGR4.out.cell (cell_keep e5 (hb0 13)) hnb
        replace e6 := HGR4.out.cell (cell_keep e6 (hb0 13)) hnb
        replace e7 := HGR4.out.cell (cell_keep e7 (hb0 13)) hnb
        replace e8 := HGR4.out.cell (cell_keep e8 (hb0 13)) hnb
        have htk := tysL_take hlk
        have hl1 := tysL_take_len ts (j + 1)
        have hl2 : ((ds ++ [ty]) ++ tysL (ts.take j)).length + (tysOf ts[j]).length ≤ 4194304 := by
          rw [htk] at hl1
          simp only [List.length_append, List.length_cons, List.length_nil] at hl1 ⊢
          omega
        have hszj : ts[j].sz ≤ 1048576 := by have := HSZ.out.2; have := sz_mem (List.getElem_mem hlk); omega
        have HTK := hid htk
        have HFJ := hid (show ∀ x ∈ g1, x < B from fun x hx => HS3.out x (hf x hx))
        clear hl1 htk hat hf
        go_wp2_with fail
        refine (HIH.out _ (List.getElem_mem hlk) B _ _ _ _ g1 _ HG4.out hat' HFJ.out hBr hszj hl2).mono ?_
        rintro e w4 ⟨v5, g5, rfl, hG5, hgr5⟩
        have HG5 := hid hG5
        have HGR5 := hid (HGR4.out.trans hgr5)
        clear hG5 hgr5 e0 e1 e2 e3 e4 e5 e6 e7 e8 z0 z1 z2 z3 z4 z5 z6 z7 z8 hat'
        go_wp2_with fail
        go_roundw
        case rel => exact ⟨j + 1, _, g5, by omega, by go_num, rfl, by rw [HTK.out, ← List.append_assoc]; exact HG5.out, HGR5.out⟩
        case measure => simp [intOf]; omega
      · have hz : ts.take j = ts := List.take_of_length_le (by omega)
        have HZ := hid hz
        clear hz
        go_wp2_with fail
        go_ret
        refine ⟨_, g', rfl, ?_, (Gr.of_below (hb0 13) _).trans HGR4.out⟩
        have := HG4.out
        rw [HZ.out] at this
        simpa [tysOf] using this
  have h5 : (k == 5) = false := by simpa using hk5
  have h13 : (k == 13) = false := by simpa using hk13
  have hds : ds.length + (tysL ts).length ≤ 4194304 := by have := HLEN.out; simp [tysOf] at this; omega
  have HG3 := hid (hG.below (hb0 k))
  have HGR := hid (Gr.refl (w.alloc (Obj.cells #[.int .i64 k, .string nm, .int .i64 num, .int .i64 k1, .slice a1 n1 c1, .int .i64 k2, .slice a2 n2 c2, .int .i64 lb, .slice a3 ts.length c3] 35)) (.slice av ds.length capv))
  go_enter Tryd.func123, Tryd.ntmps123
  go_wp2_with fail
  go_loopw [0, 5] (fun out i wr => ∃ (j : Nat) (v' : Value) (g' : List Nat), j ≤ ts.length ∧ i = .int .i64 j ∧ out = v' ∧ GrowT B (ds ++ tysL (ts.take j)) v' g' wr ∧ Gr (w.alloc (Obj.cells #[.int .i64 k, .string nm, .int .i64 num, .int .i64 k1, .slice a1 n1 c1, .int .i64 k2, .slice a2 n2 c2, .int .i64 lb, .slice a3 ts.length c3] 35)) wr (.slice av ds.length capv) v') (fun _ i _ => ts.length - (intOf i).toNat)
  case atStart => exact ⟨0, _, _, Nat.zero_le _, rfl, rfl, by simpa [tysL] using HG3.out, HGR.out⟩
  case round =>
    obtain ⟨j, v', g', hj, rfl, hout, hG4, hgr⟩ := hrel
    have hzb := hgr.heap (M := w.heap.size) (alloc_new _ _) HMO.out
    obtain ⟨z0, z1, z2, z3, z4, z5, z6, z7, z8⟩ := cells9 hzb
    obtain ⟨av', nv', capv', hshape⟩ : ∃ a n c, v' = .slice a n c := by obtain ⟨a, c, h⟩ := hG4.shape; exact ⟨a, _, c, h⟩
    subst hshape
    subst hout
    have HGR4 := hid hgr
    have HG4 := hid hG4
    have hBr : B ≤ wr.heap.size := Nat.le_trans (Nat.le_trans hBw (hb0 k).size) hgr.size
    clear hgr hG4 hzb
    by_cases hlk : j < ts.length
    · obtain ⟨b, o, q0, q1, q2, q3, q4, q5, q6, q7, q8, q9, q10, q11, q12, q13, q14, g1, hab, hblt, e0, e1, e2, e3, e4, e5, e6, e7, e8, hat, hf⟩ := HG.out j hlk
      have hbB : b < B := HS3.out b (HBK.out b o hab (by omega))
      have hnb : some b ≠ (Value.slice av ds.length capv).ownBlock := fun e => by have := HOWN.out _ e.symm; omega
      subst hab
      have hat' : Tm.At wr ts[j] _ g1 := HGR4.out.tm (hat.below (hb0 k)) (fun x hx e => by have := HOWN.out _ e.symm; have := HS3.out x (hf x hx); omega)
      replace e0 := HGR4.out.cell (cell_keep e0 (hb0 k)) hnb
      replace e1 := HGR4.out.cell (cell_keep e1 (hb0 k)) hnb
      replace e2 := HGR4.out.cell (cell_keep e2 (hb0 k)) hnb
      replace e3 := HGR4.out.cell (cell_keep e3 (hb0 k)) hnb
      replace e4 := HGR4.out.cell (cell_keep e4 (hb0 k)) hnb
      replace e5 := HGR4.out.cell (cell_keep e5 (hb0 k)) hnb
      replace e6 := HGR4.out.cell (cell_keep e6 (hb0 k)) hnb
      replace e7 := HGR4.out.cell (cell_keep e7 (hb0 k)) hnb
      replace e8 := HGR4.out.cell (cell_keep e8 (hb0 k)) hnb
      have htk := tysL_take hlk
      have hl1 := tysL_take_len ts (j + 1)
      have hl2 : (ds ++ tysL (ts.take j)).length + (tysOf ts[j]).length ≤ 4194304 := by
        rw [htk] at hl1
        simp only [List.length_append, List.length_cons, List.length_nil] at hl1 ⊢
        omega
      have hszj : ts[j].sz ≤ 1048576 := by have := HSZ.out.2; have := sz_mem (List.getElem_mem hlk); omega
      have HTK := hid htk
      have HFJ := hid (show ∀ x ∈ g1, x < B from fun x hx => HS3.out x (hf x hx))
      clear hl1 htk hat hf
      go_wp2_with fail
      refine (HIH.out _ (List.getElem_mem hlk) B _ _ _ _ g1 _ HG4.out hat' HFJ.out hBr hszj hl2).mono ?_
      rintro e w4 ⟨v5, g5, rfl, hG5, hgr5⟩
      have HG5 := hid hG5
      have HGR5 := hid (HGR4.out.trans hgr5)
      clear hG5 hgr5 e0 e1 e2 e3 e4 e5 e6 e7 e8 z0 z1 z2 z3 z4 z5 z6 z7 z8 hat'
      go_wp2_with fail
      go_roundw
      case rel => exact ⟨j + 1, _, g5, by omega, by go_num, rfl, by rw [HTK.out, ← List.append_assoc]; exact HG5.out, HGR5.out⟩
      case measure => simp [intOf]; omega
    · have hz : ts.take j = ts := List.take_of_length_le (by omega)
      have HZ := hid hz
      clear hz
      go_wp2_with fail
      go_ret
      refine ⟨_, g', rfl, ?_, (Gr.of_below (hb0 k) _).trans HGR4.out⟩
      have := HG4.out
      rw [HZ.out] at this
      simpa [tysOf, hk5, hk13] using this

theorem l2Types_any : ∀ t : Tm, TyMC t := Tm.ind l2Types_of
end Go.Proofs.YtffmpjcjmffdeaaDoor
