/- The program's eachCoercion, over any visit that has a contract. -/
import Derived.Test.YtgiimijooabioaaLr0
import Derived.Test.YtgiimijooabioaaCp
namespace Go.Proofs.Ytgiimijooabioaa
open Go.RowKit

section
variable {α : Type} (step : α → Co → α)
mutual
/-- What the visits of a coercion's nodes make of a state. -/
def ccN : α → Co → α
  | a, .mk k g l ts => ccL (step a (.mk k g l ts)) ts
def ccL : α → List Co → α
  | a, [] => a
  | a, t :: ts => ccL (ccN a t) ts
end

theorem ccL_take : ∀ (ts : List Co) (a : α) (j : Nat) (h : j < ts.length), ccL step a (ts.take (j + 1)) = ccN step (ccL step a (ts.take j)) ts[j]
  | t :: ts, a, 0, _ => by simp [ccL]
  | t :: ts, a, j + 1, h => by
    simp only [List.take_succ_cons, ccL, List.getElem_cons_succ]
    exact ccL_take ts _ j (by simpa using h)
end

section
variable {α : Type}
mutual
theorem ccN_len (step : α → Co → α) (len : α → Nat) (hlen : ∀ a t, len (step a t) ≤ len a + 2) : ∀ (t : Co) (a : α), len (ccN step a t) ≤ len a + 2 * (t.cnt + 1)
  | .mk k g l ts, a => by
    have h := ccL_len step len hlen ts (step a (.mk k g l ts))
    have h2 := hlen a (.mk k g l ts)
    simp only [ccN, Co.cnt]
    omega
theorem ccL_len (step : α → Co → α) (len : α → Nat) (hlen : ∀ a t, len (step a t) ≤ len a + 2) : ∀ (ts : List Co) (a : α), len (ccL step a ts) ≤ len a + 2 * (ts.length + ccntL ts)
  | [], a => by simp [ccL, ccntL]
  | t :: ts, a => by
    have h1 := ccN_len step len hlen t a
    have h2 := ccL_len step len hlen ts (ccN step a t)
    simp only [ccL, List.length_cons, ccntL]
    omega
end

theorem ccL_take_len (step : α → Co → α) (len : α → Nat) (hlen : ∀ a t, len (step a t) ≤ len a + 2) (ts : List Co) (a : α) (j : Nat) (h : j < ts.length) : len (ccL step a (ts.take j)) + 2 * (ts[j].cnt + 1) ≤ len a + 2 * (ts.length + ccntL ts) := by
  induction ts generalizing a j with
  | nil => simp at h
  | cons t ts ih =>
    have h1 := ccN_len step len hlen t a
    cases j with
    | zero => simp only [List.take_zero, ccL, List.getElem_cons_zero, List.length_cons, ccntL]; omega
    | succ j =>
      have := ih (ccN step a t) j (by simpa using h)
      simp only [List.take_succ_cons, ccL, List.getElem_cons_succ, List.length_cons, ccntL]
      omega
end

/-- What a visit of a node says. -/
def CVis (fc : FuncId) (bs : Array Value) (M B : Nat) {α : Type} (St : α → Value → World → Prop) (len : α → Nat) (step : α → Co → α) : Prop :=
  ∀ (a : α) (v : Value) k g l ts a3 c3 fp w, St a v w → Co.At w (.mk k g l ts) (.agg #[.int .i64 k, .int .i64 g, .int .i64 l, .slice a3 ts.length c3]) fp → (∀ x ∈ fp, x < M) → B ≤ w.heap.size → len a ≤ 4194300 →
    Calls Try.prog fc (#[(.agg #[.int .i64 k, .int .i64 g, .int .i64 l, .slice a3 ts.length c3])] ++ bs) w (fun e w' => (∃ r, e = .returned r) ∧ ∃ v', St (step a (.mk k g l ts)) v' w' ∧ Lr M w w' v v')

def CEcC (fc : FuncId) (bs : Array Value) (M B : Nat) {α : Type} (St : α → Value → World → Prop) (len : α → Nat) (step : α → Co → α) (t : Co) : Prop :=
  ∀ (a : α) (v : Value) (tv : Value) (fp : List Nat) (w : World), St a v w → t.At w tv fp → (∀ x ∈ fp, x < M) → B ≤ w.heap.size → t.cnt ≤ 1048576 → len a + 2 * (t.cnt + 1) ≤ 4194300 →
    Calls Try.prog 38 #[tv, .func (.func fc) #[] bs] w (fun e w' => (∃ r, e = .returned r) ∧ ∃ v', St (ccN step a t) v' w' ∧ Lr M w w' v v')

set_option linter.unusedSimpArgs false in
set_option maxRecDepth 100000 in
set_option maxHeartbeats 4000000 in
theorem eachCo_of (fc : FuncId) (bs : Array Value) (M B : Nat) {α : Type} (St : α → Value → World → Prop) (len : α → Nat) (step : α → Co → α) (hfc : CallOkT fc) (hMB : M < B) (hlen : ∀ a t, len (step a t) ≤ len a + 2)
    (hSt : ∀ a v w w', St a v w → Below w.heap.size w w' → St a v w') (hown : ∀ a v w, St a v w → ∀ b, v.ownBlock = some b → B ≤ b ∧ b < w.heap.size) (hV : CVis fc bs M B St len step)
    (k g l : Int) (ts : List Co) (ih : ∀ t ∈ ts, CEcC fc bs M B St len step t) : CEcC fc bs M B St len step (.mk k g l ts) := by
  intro a v tv fp w hL hat hlt hBw hsz hln
  have HIH := hid ih
  have HV := hid hV
  have HST := hid hSt
  clear ih hV hSt
  have hat0 := hat
  obtain ⟨s, rfl, hs⟩ := Co.at_mk.1 hat
  have hb00 : ∀ o : Obj, Below w.heap.size w (w.alloc o) := fun o => (Below.refl _ _).alloc (Nat.le_refl _) _
  obtain ⟨a3, c3, hss, hc, hm, hget⟩ := hs.open
  subst hss
  have hb0 : Below w.heap.size w (w.alloc (Obj.cells #[.int .i64 k, .int .i64 g, .int .i64 l, .slice a3 ts.length c3] 40)) := hb00 _
  have hblk : ∀ b o, a3 = some ⟨b, o, none⟩ → 0 < ts.length → b ∈ fp := fun b o e hp => by
    rcases hs with ⟨h0, _⟩ | ⟨b', o', cap', f, e', _, _, _, _, rfl⟩
    · rw [h0] at hp; simp at hp
    · rw [e] at e'
      cases e'
      simp
  have HBK := hid hblk
  have HG := hid hget
  have HS3 := hid hlt
  have HSZ := hid (show ts.length + ccntL ts ≤ 1048576 by simp only [Co.cnt] at hsz; omega)
  have HOWN := hid (hown a v w hL)
  have HMB := hid hMB
  have hMo : some w.heap.size ≠ v.ownBlock := fun e => by have := (HOWN.out _ e.symm).2; omega
  have HMO := hid hMo
  have HLE := hid hlen
  have HFC := hid hfc
  have HEC := hid (show ccN step a (.mk k g l ts) = ccL step (step a (.mk k g l ts)) ts by rw [ccN])
  have HLN := hid (show len (step a (.mk k g l ts)) + 2 * (ts.length + ccntL ts) ≤ 4194300 by
    have := hlen a (.mk k g l ts)
    simp only [Co.cnt] at hln
    omega)
  have hla : len a ≤ 4194300 := by omega
  obtain ⟨x0, x1, x2, x3⟩ := box4 (Below.refl ((w.alloc (Obj.cells #[.int .i64 k, .int .i64 g, .int .i64 l, .slice a3 ts.length c3] 40))).heap.size (w.alloc (Obj.cells #[.int .i64 k, .int .i64 g, .int .i64 l, .slice a3 ts.length c3] 40)))
  have hvis := HV.out a v k g l ts a3 c3 _ (w.alloc (Obj.cells #[.int .i64 k, .int .i64 g, .int .i64 l, .slice a3 ts.length c3] 40)) (HST.out _ _ _ _ hL hb0) (hat0.below hb0) hlt (Nat.le_trans hBw hb0.size) hla
  have HVIS := hid hvis
  generalize step a (.mk k g l ts) = b0 at *
  rw [HEC.out]
  have hfc := HFC.out
  unfold CallOkT at hfc
  clear hvis hla hL hat0 hlt HEC HV hget hsz hblk hs hMo hat hln hlen hMB hown hb00
  go_enter Try.func38, Try.ntmps38
  go_wp2_with fail
  refine HVIS.out.mono ?_
  rintro e w2 ⟨⟨r2, rfl⟩, v2, hL2, hr2⟩
  have HL2 := hid hL2
  have HR2 := hid hr2
  have hbx := hr2.heap (k := w.heap.size) (alloc_new _ _) (by have := HMB.out; omega) HMO.out
  clear hL2 hr2 x0 x1 x2 x3 hfc
  have x0 : w2.cell? ⟨w.heap.size, 0, none⟩ = some (.int .i64 k) := by rw [cell_of_block hbx]; rfl
  have x1 : w2.cell? ⟨w.heap.size, 1, none⟩ = some (.int .i64 g) := by rw [cell_of_block hbx]; rfl
  have x2 : w2.cell? ⟨w.heap.size, 2, none⟩ = some (.int .i64 l) := by rw [cell_of_block hbx]; rfl
  have x3 : w2.cell? ⟨w.heap.size, 3, none⟩ = some (.slice a3 ts.length c3) := by rw [cell_of_block hbx]; rfl
  clear hbx
  go_wp2_with fail
  go_loopw [12] (fun i wr => ∃ (j : Nat) (v' : Value), j ≤ ts.length ∧ i = .int .i64 j ∧ St (ccL step b0 (ts.take j)) v' wr ∧ Lr M (w.alloc (Obj.cells #[.int .i64 k, .int .i64 g, .int .i64 l, .slice a3 ts.length c3] 40)) wr v v') (fun i _ => ts.length - (intOf i).toNat)
  case atStart => exact ⟨0, _, Nat.zero_le _, rfl, by simpa [ccL] using HL2.out, HR2.out⟩
  case round =>
    obtain ⟨j, v', hj, rfl, hL4, hr4⟩ := hrel
    have hbl := hr4.below HMB.out (Nat.le_trans hBw hb0.size) (fun b hb => (HOWN.out b hb).1)
    have hBr : B ≤ wr.heap.size := Nat.le_trans (Nat.le_trans hBw hb0.size) hr4.1.2.2.2
    have HL4 := hid hL4
    have HR4 := hid hr4
    have HBL := hid hbl
    clear hL4 hr4 hbl
    by_cases hlk : j < ts.length
    · obtain ⟨b, o, q0, q1, q2, q3, q4, q5, g1, hab, hblt, e0, e1, e2, e3, hat, hf⟩ := HG.out j hlk
      have hbM : b < M := HS3.out b (HBK.out b o hab (by omega))
      subst hab
      have hgM : ∀ x ∈ g1, x < M := fun x hx => HS3.out x (hf x hx)
      have hat' : Co.At wr ts[j] _ g1 := (hat.below hb0).congr fun x hx o' => HBL.out.cell (p := ⟨x, o', none⟩) (hgM x hx)
      replace e0 := (HBL.out.cell (p := ⟨b, o + j * 4, none⟩) hbM).trans (cell_keep e0 hb0)
      replace e1 := (HBL.out.cell (p := ⟨b, o + j * 4 + 1, none⟩) hbM).trans (cell_keep e1 hb0)
      replace e2 := (HBL.out.cell (p := ⟨b, o + j * 4 + 2, none⟩) hbM).trans (cell_keep e2 hb0)
      replace e3 := (HBL.out.cell (p := ⟨b, o + j * 4 + 3, none⟩) hbM).trans (cell_keep e3 hb0)
      have HTK := hid (ccL_take step ts b0 j hlk)
      have hl2 : len (ccL step b0 (ts.take j)) + 2 * (ts[j].cnt + 1) ≤ 4194300 := Nat.le_trans (ccL_take_len step len HLE.out ts b0 j hlk) HLN.out
      have hszj : ts[j].cnt ≤ 1048576 := by have := HSZ.out; have := ccnt_mem (List.getElem_mem hlk); omega
      have hkb : ∀ oo : Obj, Below wr.heap.size wr (wr.alloc oo) := fun _ => (Below.refl _ _).alloc (Nat.le_refl _) _
      have HGM := hid hgM
      have HL2' := hid hl2
      clear hat hf hgM hl2
      go_wp2_with fail
      refine (HIH.out _ (List.getElem_mem hlk) _ v' _ g1 _ (HST.out _ _ _ _ HL4.out (hkb _)) (hat'.below (hkb _)) HGM.out (Nat.le_trans hBr (hkb _).size) hszj HL2'.out).mono ?_
      rintro e w4 ⟨⟨r4, rfl⟩, v5, hL5, hr5⟩
      have HL5 := hid hL5
      have HR5 := hid ((HR4.out.trans (Lr.of_below (hkb _) v')).trans hr5)
      clear hL5 hr5 e0 e1 e2 e3 hat'
      go_wp2_with fail
      go_roundw
      case rel => exact ⟨j + 1, v5, by omega, by go_num, by rw [HTK.out]; exact HL5.out, HR5.out⟩
      case measure => simp [intOf]; omega
    · have hz : ts.take j = ts := List.take_of_length_le (by omega)
      have HZ := hid hz
      clear hz
      go_wp2_with fail
      first | go_ret | go_end0
      refine ⟨⟨_, rfl⟩, v', ?_, (Lr.of_below hb0 v).trans HR4.out⟩
      have := HL4.out
      rwa [HZ.out] at this

theorem eachCo_any (fc : FuncId) (bs : Array Value) (M B : Nat) {α : Type} (St : α → Value → World → Prop) (len : α → Nat) (step : α → Co → α) (hfc : CallOkT fc) (hMB : M < B) (hlen : ∀ a t, len (step a t) ≤ len a + 2)
    (hSt : ∀ a v w w', St a v w → Below w.heap.size w w' → St a v w') (hown : ∀ a v w, St a v w → ∀ b, v.ownBlock = some b → B ≤ b ∧ b < w.heap.size) (hV : CVis fc bs M B St len step) :
    ∀ t : Co, CEcC fc bs M B St len step t := Co.ind (eachCo_of fc bs M B St len step hfc hMB hlen hSt hown hV)
end Go.Proofs.Ytgiimijooabioaa
