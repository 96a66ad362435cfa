/- The program's eachCast, over any visit that has a contract. -/
import Derived.Test.YtjpmlmdbldcbjaaDoorQG13
import Derived.Test.YtjpmlmdbldcbjaaDoorQG11
namespace Go.Proofs.YtjpmlmdbldcbjaaDoor
open Go.RowKit

section
variable {α : Type} (step : α → Tm → α)
mutual
/-- What the visits of a term's casts make of a state. -/
def ecN : α → Tm → α
  | a, .mk k nm num ty fr lb ts => ecL (if k = 14 then step a (.mk k nm num ty fr lb ts) else a) ts
def ecL : α → List Tm → α
  | a, [] => a
  | a, t :: ts => ecL (ecN a t) ts
end

theorem ecL_take : ∀ (ts : List Tm) (a : α) (j : Nat) (h : j < ts.length), ecL step a (ts.take (j + 1)) = ecN step (ecL step a (ts.take j)) ts[j]
  | t :: ts, a, 0, _ => by simp [ecL]
  | t :: ts, a, j + 1, h => by
    simp only [List.take_succ_cons, ecL, List.getElem_cons_succ]
    exact ecL_take ts _ j (by simpa using h)

end

section
variable {α : Type}
mutual
theorem ecN_len (step : α → Tm → α) (len : α → Nat) (hlen : ∀ a t, len (step a t) ≤ len a + 2) : ∀ (t : Tm) (a : α), len (ecN step a t) ≤ len a + 2 * (t.sz + 1)
  | .mk k nm num ty fr lb ts, a => by
    have h := ecL_len step len hlen ts (if k = 14 then step a (.mk k nm num ty fr lb ts) else a)
    have h2 := hlen a (.mk k nm num ty fr lb ts)
    simp only [ecN, Tm.sz]
    split
    · rename_i e; rw [if_pos e] at h; omega
    · rename_i e; rw [if_neg e] at h; omega
theorem ecL_len (step : α → Tm → α) (len : α → Nat) (hlen : ∀ a t, len (step a t) ≤ len a + 2) : ∀ (ts : List Tm) (a : α), len (ecL step a ts) ≤ len a + 2 * (ts.length + szML ts)
  | [], a => by simp [ecL, szML]
  | t :: ts, a => by
    have h1 := ecN_len step len hlen t a
    have h2 := ecL_len step len hlen ts (ecN step a t)
    simp only [ecL, List.length_cons, szML]
    omega
end

theorem ecL_take_len (step : α → Tm → α) (len : α → Nat) (hlen : ∀ a t, len (step a t) ≤ len a + 2) (ts : List Tm) (a : α) (j : Nat) (h : j < ts.length) : len (ecL step a (ts.take j)) + 2 * (ts[j].sz + 1) ≤ len a + 2 * (ts.length + szML ts) := by
  induction ts generalizing a j with
  | nil => simp at h
  | cons t ts ih =>
    have h1 := ecN_len step len hlen t a
    cases j with
    | zero => simp only [List.take_zero, ecL, List.getElem_cons_zero, List.length_cons, szML]; omega
    | succ j =>
      have := ih (ecN step a t) j (by simpa using h)
      simp only [List.take_succ_cons, ecL, List.getElem_cons_succ, List.length_cons, szML]
      omega
end

/-- What a visit of a cast says. -/
def VisC (fc : FuncId) (bs : Array Value) (M B : Nat) {α : Type} (St : α → Value → World → Prop) (len : α → Nat) (step : α → Tm → α) : Prop :=
  ∀ (a : α) (v : Value) nm num ty fr lb ts k1 n1 a1 c1 k2 n2 a2 c2 a3 c3 fp w, St a v w → Tm.At w (.mk 14 nm num ty fr lb ts) (.agg #[.int .i64 14, .string nm, .int .i64 num, .int .i64 k1, .slice a1 n1 c1, .int .i64 k2, .slice a2 n2 c2, .int .i64 lb, .slice a3 ts.length c3]) fp → own4 nm num ty fr lb = true → (∀ x ∈ fp, x < M) → B ≤ w.heap.size → len a ≤ 4194300 →
    Calls Tryd.prog fc (#[(.agg #[.int .i64 14, .string nm, .int .i64 num, .int .i64 k1, .slice a1 n1 c1, .int .i64 k2, .slice a2 n2 c2, .int .i64 lb, .slice a3 ts.length c3])] ++ bs) w (fun e w' => (∃ r, e = .returned r) ∧ ∃ v', St (step a (.mk 14 nm num ty fr lb ts)) v' w' ∧ Lr M w w' v v')

def EcC (fc : FuncId) (bs : Array Value) (M B : Nat) {α : Type} (St : α → Value → World → Prop) (len : α → Nat) (step : α → Tm → α) (t : Tm) : Prop :=
  ∀ (a : α) (v : Value) (tv : Value) (fp : List Nat) (d : Nat) (w : World), St a v w → t.At w tv fp → (∀ x ∈ fp, x < M) → shpC d t = true → B ≤ w.heap.size → t.sz ≤ 1048576 → len a + 2 * (t.sz + 1) ≤ 4194300 →
    Calls Tryd.prog 58 #[tv, .func (.func fc) #[] bs] w (fun e w' => (∃ r, e = .returned r) ∧ ∃ v', St (ecN step a t) v' w' ∧ Lr M w w' v v')

theorem shpC_node {d : Nat} {k : Int} {nm : ByteArray} {num : Int} {ty fr : Ty} {lb : Int} {ts : List Tm} (h : shpC d (.mk k nm num ty fr lb ts) = true) : ∃ d', (∀ t ∈ ts, shpC d' t = true) ∧ (k = 14 → own4 nm num ty fr lb = true) := by
  cases d with
  | zero => simp [shpC] at h
  | succ d =>
    simp only [shpC, Bool.and_eq_true] at h
    refine ⟨d, fun t ht => List.all_eq_true.1 h.2 t ht, fun e => ?_⟩
    have := h.1.2
    rwa [if_pos e] at this

set_option linter.unusedSimpArgs false in
set_option maxRecDepth 100000 in
set_option maxHeartbeats 4000000 in
theorem eachCast_of (fc : FuncId) (bs : Array Value) (M B : Nat) {α : Type} (St : α → Value → World → Prop) (len : α → Nat) (step : α → Tm → α) (hfc : CallOkT fc) (hMB : M < B) (hlen : ∀ a t, len (step a t) ≤ len a + 2)
    (hSt : ∀ a v w w', St a v w → Below w.heap.size w w' → St a v w') (hown : ∀ a v w, St a v w → ∀ b, v.ownBlock = some b → B ≤ b ∧ b < w.heap.size) (hV : VisC fc bs M B St len step)
    (k : Int) (nm : ByteArray) (num : Int) (ty fr : Ty) (lb : Int) (ts : List Tm) (ih : ∀ t ∈ ts, EcC fc bs M B St len step t) : EcC fc bs M B St len step (.mk k nm num ty fr lb ts) := by
  intro a v tv fp d w hL hat hlt hsh hBw hsz hln
  have HIH := hid ih
  have HV := hid hV
  have HST := hid hSt
  clear ih hV hSt
  obtain ⟨d', hkids, h14⟩ := shpC_node hsh
  have HKD := hid hkids
  have hat0 := hat
  obtain ⟨k1, n1, a1, c1, k2, n2, a2, c2, a3, c3, f1, f2, f3, rfl, hnm, ht1, ht2, rfl, hs⟩ := hat.parts
  have hb0 : Below w.heap.size w (w.alloc (Obj.cells #[.int .i64 k, .string nm, .int .i64 num, .int .i64 k1, .slice a1 n1 c1, .int .i64 k2, .slice a2 n2 c2, .int .i64 lb, .slice a3 ts.length c3] 34)) := (Below.refl _ _).alloc (Nat.le_refl _) _
  obtain ⟨aa, cap, hss, hc, hm, hget⟩ := hs.open
  cases hss
  have HS3 := hid (show ∀ x ∈ f3, x < M from fun x hx => hlt x (by simp [hx]))
  have hblk : ∀ b o, a3 = some ⟨b, o, none⟩ → 0 < ts.length → b ∈ f3 := fun b o e hp => by
    rcases hs with ⟨h0, _⟩ | ⟨b', o', cap', f, e', _, _, _, _, rfl⟩
    · rw [h0] at hp; simp at hp
    · rw [e] at e'
      cases e'
      simp
  have HBK := hid hblk
  have HG := hid hget
  have HSZ := hid (show ts.length + szML ts ≤ 1048576 by simp only [Tm.sz] at hsz; omega)
  have HOWN := hid (hown a v w hL)
  have HMB := hid hMB
  have hMo : some w.heap.size ≠ v.ownBlock := fun e => by have := (HOWN.out _ e.symm).2; omega
  have HMO := hid hMo
  have HLE := hid hlen
  have HFC := hid hfc
  have HEC := hid (show ecN step a (.mk k nm num ty fr lb ts) = ecL step (if k = 14 then step a (.mk k nm num ty fr lb ts) else a) ts by rw [ecN])
  have HLN := hid (show len (if k = 14 then step a (.mk k nm num ty fr lb ts) else a) + 2 * (ts.length + szML ts) ≤ 4194300 by
    have := hlen a (.mk k nm num ty fr lb ts)
    simp only [Tm.sz] at hln
    split <;> omega)
  have hla : len a ≤ 4194300 := by omega
  obtain ⟨x0, x1, x2, x3, x4, x5, x6, x7, x8⟩ := box9 (Below.refl ((w.alloc (Obj.cells #[.int .i64 k, .string nm, .int .i64 num, .int .i64 k1, .slice a1 n1 c1, .int .i64 k2, .slice a2 n2 c2, .int .i64 lb, .slice a3 ts.length c3] 34))).heap.size (w.alloc (Obj.cells #[.int .i64 k, .string nm, .int .i64 num, .int .i64 k1, .slice a1 n1 c1, .int .i64 k2, .slice a2 n2 c2, .int .i64 lb, .slice a3 ts.length c3] 34)))
  clear hget hsz hblk hs hMo hkids hsh hat hnm ht1 ht2 hln hlen hfc hMB hown

  by_cases hk : k = 14
  · subst hk
    rw [if_pos rfl] at HEC HLN
    have hvis := HV.out a v nm num ty fr lb ts k1 n1 a1 c1 k2 n2 a2 c2 a3 c3 _ (w.alloc (Obj.cells #[.int .i64 14, .string nm, .int .i64 num, .int .i64 k1, .slice a1 n1 c1, .int .i64 k2, .slice a2 n2 c2, .int .i64 lb, .slice a3 ts.length c3] 34)) (HST.out _ _ _ _ hL hb0) (hat0.below hb0) (h14 rfl) hlt (Nat.le_trans hBw hb0.size) hla
    have HVIS := hid hvis
    generalize step a (.mk 14 nm num ty fr lb ts) = b0 at *
    rw [HEC.out]
    have hfc := HFC.out
    unfold CallOkT at hfc
    clear hvis h14 hla hL hat0 hlt HEC HV
    go_enter Tryd.func58, Tryd.ntmps58
    go_wp2_with fail
    refine HVIS.out.mono ?_
    rintro e w2 ⟨⟨r2, rfl⟩, v2, hL2, hr2⟩
    have HL2 := hid hL2
    have HR2 := hid hr2
    have hbx := hr2.heap (k := w.heap.size) (alloc_new _ _) (by have := HMB.out; omega) HMO.out
    clear hL2 hr2 x0 x1 x2 x3 x4 x5 x6 x7 x8 hfc
    obtain ⟨x0, x1, x2, x3, x4, x5, x6, x7, x8⟩ := cells9 hbx
    clear hbx
    go_wp2_with fail
    go_loopw [15] (fun i wr => ∃ (j : Nat) (v' : Value), j ≤ ts.length ∧ i = .int .i64 j ∧ St (ecL step b0 (ts.take j)) v' wr ∧ Lr M (w.alloc (Obj.cells #[.int .i64 14, .string nm, .int .i64 num, .int .i64 k1, .slice a1 n1 c1, .int .i64 k2, .slice a2 n2 c2, .int .i64 lb, .slice a3 ts.length c3] 34)) wr v v') (fun i _ => ts.length - (intOf i).toNat)
    case atStart => exact ⟨0, _, Nat.zero_le _, rfl, by simpa [ecL] using HL2.out, HR2.out⟩
    case round =>
      obtain ⟨j, v', hj, rfl, hL4, hr4⟩ := hrel
      have hbl := hr4.below HMB.out (Nat.le_trans hBw hb0.size) (fun b hb => (HOWN.out b hb).1)
      have hBr : B ≤ wr.heap.size := Nat.le_trans (Nat.le_trans hBw hb0.size) hr4.1.2.2.2
      have HL4 := hid hL4
      have HR4 := hid hr4
      have HBL := hid hbl
      clear hL4 hr4 hbl
      by_cases hlk : j < ts.length
      · obtain ⟨b, o, q0, q1, q2, q3, q4, q5, q6, q7, q8, q9, q10, q11, q12, q13, q14, g1, hab, hblt, e0, e1, e2, e3, e4, e5, e6, e7, e8, hat, hf⟩ := HG.out j hlk
        have hbM : b < M := HS3.out b (HBK.out b o hab (by omega))
        subst hab
        have hgM : ∀ x ∈ g1, x < M := fun x hx => HS3.out x (hf x hx)
        have hat' : Tm.At wr ts[j] _ g1 := (hat.below hb0).congr fun x hx o' => HBL.out.cell (p := ⟨x, o', none⟩) (hgM x hx)
        replace e0 := (HBL.out.cell (p := ⟨b, o + j * 9, none⟩) hbM).trans (cell_keep e0 hb0)
        replace e1 := (HBL.out.cell (p := ⟨b, o + j * 9 + 1, none⟩) hbM).trans (cell_keep e1 hb0)
        replace e2 := (HBL.out.cell (p := ⟨b, o + j * 9 + 2, none⟩) hbM).trans (cell_keep e2 hb0)
        replace e3 := (HBL.out.cell (p := ⟨b, o + j * 9 + 3, none⟩) hbM).trans (cell_keep e3 hb0)
        replace e4 := (HBL.out.cell (p := ⟨b, o + j * 9 + 4, none⟩) hbM).trans (cell_keep e4 hb0)
        replace e5 := (HBL.out.cell (p := ⟨b, o + j * 9 + 5, none⟩) hbM).trans (cell_keep e5 hb0)
        replace e6 := (HBL.out.cell (p := ⟨b, o + j * 9 + 6, none⟩) hbM).trans (cell_keep e6 hb0)
        replace e7 := (HBL.out.cell (p := ⟨b, o + j * 9 + 7, none⟩) hbM).trans (cell_keep e7 hb0)
        replace e8 := (HBL.out.cell (p := ⟨b, o + j * 9 + 8, none⟩) hbM).trans (cell_keep e8 hb0)
        have HTK := hid (ecL_take step ts b0 j hlk)
        have hl2 : len (ecL step b0 (ts.take j)) + 2 * (ts[j].sz + 1) ≤ 4194300 := Nat.le_trans (ecL_take_len step len HLE.out ts b0 j hlk) HLN.out
        have hszj : ts[j].sz ≤ 1048576 := by have := HSZ.out; have := sz_mem (List.getElem_mem hlk); omega
        have hkb : ∀ oo : Obj, Below wr.heap.size wr (wr.alloc oo) := fun _ => (Below.refl _ _).alloc (Nat.le_refl _) _
        have HGM := hid hgM
        have HL2' := hid hl2
        clear hat hf hgM hl2
        go_wp2_with fail
        refine (HIH.out _ (List.getElem_mem hlk) _ v' _ g1 d' _ (HST.out _ _ _ _ HL4.out (hkb _)) (hat'.below (hkb _)) HGM.out (HKD.out _ (List.getElem_mem hlk)) (Nat.le_trans hBr (hkb _).size) hszj HL2'.out).mono ?_
        rintro e w4 ⟨⟨r4, rfl⟩, v5, hL5, hr5⟩
        have HL5 := hid hL5
        have HR5 := hid ((HR4.out.trans (Lr.of_below (hkb _) v')).trans hr5)
        clear hL5 hr5 e0 e1 e2 e3 e4 e5 e6 e7 e8 hat'
        go_wp2_with fail
        go_roundw
        case rel => exact ⟨j + 1, v5, by omega, by go_num, by rw [HTK.out]; exact HL5.out, HR5.out⟩
        case measure => simp [intOf]; omega
      · have hz : ts.take j = ts := List.take_of_length_le (by omega)
        have HZ := hid hz
        clear hz
        go_wp2_with fail
        first | go_ret | go_end0
        refine ⟨⟨_, rfl⟩, v', ?_, (Lr.of_below hb0 v).trans HR4.out⟩
        have := HL4.out
        rwa [HZ.out] at this
  · rw [if_neg hk] at HEC HLN
    have hk' : (k == 14) = false := by simpa using hk
    have HL2 := hid (HST.out _ _ _ _ hL hb0)
    have HR2 := hid (Lr.of_below (M := M) (Below.refl ((w.alloc (Obj.cells #[.int .i64 k, .string nm, .int .i64 num, .int .i64 k1, .slice a1 n1 c1, .int .i64 k2, .slice a2 n2 c2, .int .i64 lb, .slice a3 ts.length c3] 34))).heap.size (w.alloc (Obj.cells #[.int .i64 k, .string nm, .int .i64 num, .int .i64 k1, .slice a1 n1 c1, .int .i64 k2, .slice a2 n2 c2, .int .i64 lb, .slice a3 ts.length c3] 34))) v)
    rw [HEC.out]
    clear h14 hla hL hat0 hlt HEC HV HFC
    go_enter Tryd.func58, Tryd.ntmps58
    go_wp2_with fail
    go_loopw [15] (fun i wr => ∃ (j : Nat) (v' : Value), j ≤ ts.length ∧ i = .int .i64 j ∧ St (ecL step a (ts.take j)) v' wr ∧ Lr M (w.alloc (Obj.cells #[.int .i64 k, .string nm, .int .i64 num, .int .i64 k1, .slice a1 n1 c1, .int .i64 k2, .slice a2 n2 c2, .int .i64 lb, .slice a3 ts.length c3] 34)) wr v v') (fun i _ => ts.length - (intOf i).toNat)
    case atStart => exact ⟨0, _, Nat.zero_le _, rfl, by simpa [ecL] using HL2.out, HR2.out⟩
    case round =>
      obtain ⟨j, v', hj, rfl, hL4, hr4⟩ := hrel
      have hbl := hr4.below HMB.out (Nat.le_trans hBw hb0.size) (fun b hb => (HOWN.out b hb).1)
      have hBr : B ≤ wr.heap.size := Nat.le_trans (Nat.le_trans hBw hb0.size) hr4.1.2.2.2
      have HL4 := hid hL4
      have HR4 := hid hr4
      have HBL := hid hbl
      clear hL4 hr4 hbl
      by_cases hlk : j < ts.length
      · obtain ⟨b, o, q0, q1, q2, q3, q4, q5, q6, q7, q8, q9, q10, q11, q12, q13, q14, g1, hab, hblt, e0, e1, e2, e3, e4, e5, e6, e7, e8, hat, hf⟩ := HG.out j hlk
        have hbM : b < M := HS3.out b (HBK.out b o hab (by omega))
        subst hab
        have hgM : ∀ x ∈ g1, x < M := fun x hx => HS3.out x (hf x hx)
        have hat' : Tm.At wr ts[j] _ g1 := (hat.below hb0).congr fun x hx o' => HBL.out.cell (p := ⟨x, o', none⟩) (hgM x hx)
        replace e0 := (HBL.out.cell (p := ⟨b, o + j * 9, none⟩) hbM).trans (cell_keep e0 hb0)
        replace e1 := (HBL.out.cell (p := ⟨b, o + j * 9 + 1, none⟩) hbM).trans (cell_keep e1 hb0)
        replace e2 := (HBL.out.cell (p := ⟨b, o + j * 9 + 2, none⟩) hbM).trans (cell_keep e2 hb0)
        replace e3 := (HBL.out.cell (p := ⟨b, o + j * 9 + 3, none⟩) hbM).trans (cell_keep e3 hb0)
        replace e4 := (HBL.out.cell (p := ⟨b, o + j * 9 + 4, none⟩) hbM).trans (cell_keep e4 hb0)
        replace e5 := (HBL.out.cell (p := ⟨b, o + j * 9 + 5, none⟩) hbM).trans (cell_keep e5 hb0)
        replace e6 := (HBL.out.cell (p := ⟨b, o + j * 9 + 6, none⟩) hbM).trans (cell_keep e6 hb0)
        replace e7 := (HBL.out.cell (p := ⟨b, o + j * 9 + 7, none⟩) hbM).trans (cell_keep e7 hb0)
        replace e8 := (HBL.out.cell (p := ⟨b, o + j * 9 + 8, none⟩) hbM).trans (cell_keep e8 hb0)
        have HTK := hid (ecL_take step ts a j hlk)
        have hl2 : len (ecL step a (ts.take j)) + 2 * (ts[j].sz + 1) ≤ 4194300 := Nat.le_trans (ecL_take_len step len HLE.out ts a j hlk) HLN.out
        have hszj : ts[j].sz ≤ 1048576 := by have := HSZ.out; have := sz_mem (List.getElem_mem hlk); omega
        have hkb : ∀ oo : Obj, Below wr.heap.size wr (wr.alloc oo) := fun _ => (Below.refl _ _).alloc (Nat.le_refl _) _
        have HGM := hid hgM
        have HL2' := hid hl2
        clear hat hf hgM hl2
        go_wp2_with fail
        refine (HIH.out _ (List.getElem_mem hlk) _ v' _ g1 d' _ (HST.out _ _ _ _ HL4.out (hkb _)) (hat'.below (hkb _)) HGM.out (HKD.out _ (List.getElem_mem hlk)) (Nat.le_trans hBr (hkb _).size) hszj HL2'.out).mono ?_
        rintro e w4 ⟨⟨r4, rfl⟩, v5, hL5, hr5⟩
        have HL5 := hid hL5
        have HR5 := hid ((HR4.out.trans (Lr.of_below (hkb _) v')).trans hr5)
        clear hL5 hr5 e0 e1 e2 e3 e4 e5 e6 e7 e8 hat'
        go_wp2_with fail
        go_roundw
        case rel => exact ⟨j + 1, v5, by omega, by go_num, by rw [HTK.out]; exact HL5.out, HR5.out⟩
        case measure => simp [intOf]; omega
      · have hz : ts.take j = ts := List.take_of_length_le (by omega)
        have HZ := hid hz
        clear hz
        go_wp2_with fail
        first | go_ret | go_end0
        refine ⟨⟨_, rfl⟩, v', ?_, (Lr.of_below hb0 v).trans HR4.out⟩
        have := HL4.out
        rwa [HZ.out] at this

theorem eachCast_any (fc : FuncId) (bs : Array Value) (M B : Nat) {α : Type} (St : α → Value → World → Prop) (len : α → Nat) (step : α → Tm → α) (hfc : CallOkT fc) (hMB : M < B) (hlen : ∀ a t, len (step a t) ≤ len a + 2)
    (hSt : ∀ a v w w', St a v w → Below w.heap.size w w' → St a v w') (hown : ∀ a v w, St a v w → ∀ b, v.ownBlock = some b → B ≤ b ∧ b < w.heap.size) (hV : VisC fc bs M B St len step) :
    ∀ t : Tm, EcC fc bs M B St len step t := Tm.ind (eachCast_of fc bs M B St len step hfc hMB hlen hSt hown hV)
end Go.Proofs.YtjpmlmdbldcbjaaDoor
