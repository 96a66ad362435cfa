/- The specification's CoercionValid. -/
import Derived.Test.YtgiimijooabioaaCp
namespace Go.Proofs.Ytgiimijooabioaa
open Go.RowKit

theorem plain_mk (k g l : Int) (ts : List Co) : plainC (.mk k g l ts) = (k == 2 || k == 3 || k == 1 && g != 1) := rfl
theorem unk_mk (k g l : Int) (ts : List Co) : unkC (.mk k g l ts) = (k == 5 || k == 1 && g == 1) := rfl

set_option maxHeartbeats 400000 in
theorem l6Ground_any (t : Co) (v : Value) (f : List Nat) (w : World) (hat : t.At w v f) :
    Calls Try.prog 58 #[v] w fun e w' => e = .returned (.bool (plainC t)) ∧ Below w.heap.size w w' := by
  obtain ⟨k, g, l, ts, rfl⟩ := t.shape
  obtain ⟨s, rfl, hs⟩ := Co.at_mk.1 hat
  obtain ⟨a, cap, rfl⟩ := hs.shape
  generalize hn : ts.length = n at *
  have hb0 : Below w.heap.size w (w.alloc (Obj.cells #[.int .i64 k, .int .i64 g, .int .i64 l, .slice a n cap] 40)) := (Below.refl _ _).alloc (Nat.le_refl _) _
  rw [plain_mk]
  clear hat hs hn
  by_cases h2 : k = 2
  · subst h2
    go_enter Try.func58, Try.ntmps58
    go_wp2_with fail
    go_ret
    exact ⟨ret_b (by rfl), hb0⟩
  have e2 : (k == 2) = false := by simpa using h2
  have f2 : (k != 2) = true := by simpa using h2
  by_cases h3 : k = 3
  · subst h3
    go_enter Try.func58, Try.ntmps58
    go_wp2_with fail
    go_ret
    exact ⟨ret_b (by rfl), hb0⟩
  have e3 : (k == 3) = false := by simpa using h3
  have f3 : (k != 3) = true := by simpa using h3
  by_cases h1 : k = 1
  · subst h1
    go_enter Try.func58, Try.ntmps58
    go_wp2_with fail
    go_ret
    exact ⟨ret_b (by rfl), hb0⟩
  have e1 : (k == 1) = false := by simpa using h1
  have f1 : (k != 1) = true := by simpa using h1
  rw [e2, e3, e1]
  go_enter Try.func58, Try.ntmps58
  go_wp2_with fail
  go_ret
  exact ⟨ret_b (by rfl), hb0⟩


def Sh6C (d : Nat) : Prop := ∀ (t : Co) (v : Value) (fp : List Nat) (n : Int) (w : World), n ≤ 100 → n.toNat = d → t.At w v fp →
  Calls Try.prog 47 #[v, .int .i64 n] w fun e w' => e = .returned (.bool (shpK d t)) ∧ Below w.heap.size w w'

set_option maxHeartbeats 400000 in
theorem l6Shape_zero : Sh6C 0 := by
  intro t v fp n w hn0 hn hat
  obtain ⟨k, g, l, m, a, cap, rfl⟩ := hat.agg
  have hn1 : n < 1 := by omega
  have hn2 : decide (n < 1) = true := by simp; omega
  clear hn
  go_enter Try.func47, Try.ntmps47
  go_wp2_with fail
  go_ret
  exact ⟨ret_b (by simp only [shpK]), (Below.refl _ _).alloc (Nat.le_refl _) _⟩

set_option maxHeartbeats 2000000 in
theorem l6Shape_succ (d : Nat) (ih : Sh6C d) : Sh6C (d + 1) := by
  intro t v fp n w hn0 hn hat
  have HIH := hid ih
  clear ih
  obtain ⟨k, g, l, ts, rfl⟩ := t.shape
  obtain ⟨s, rfl, hs⟩ := Co.at_mk.1 hat
  obtain ⟨a, cap, rfl, hc, hm, hget⟩ := hs.open
  have HG := hid hget
  clear hget hat hs
  have hn1 : 1 ≤ n := by omega
  have hn2 : decide (n < 1) = false := by simp; omega
  have HN := hid hn
  clear hn
  have HT := hid (show shpK (d + 1) (.mk k g l ts) = (nodeC k g l ts && ts.all (shpK d)) by simp only [shpK])
  go_enter Try.func47, Try.ntmps47
  go_wp2_with fail
  go_loopw [5] (fun i wr => ∃ j : Nat, j ≤ ts.length ∧ i = .int .i64 j ∧ (ts.drop j).all (shpK d) = ts.all (shpK d) ∧ Below (w.alloc (Obj.cells #[.int .i64 k, .int .i64 g, .int .i64 l, .slice a ts.length cap] 40)).heap.size (w.alloc (Obj.cells #[.int .i64 k, .int .i64 g, .int .i64 l, .slice a ts.length cap] 40)) wr) (fun i _ => ts.length - (intOf i).toNat)
  case atStart => exact ⟨0, Nat.zero_le _, rfl, rfl, Below.refl _ _⟩
  case round =>
    obtain ⟨j, hj, rfl, hdr, hb⟩ := hrel
    have HD := hid hdr
    clear hdr
    obtain ⟨x0, x1, x2, x3⟩ := box4 hb
    by_cases hlk : j < ts.length
    · obtain ⟨b, o, k1, g1, l1, n1, a1, cap1, f1, rfl, hblt, c0, c1, c2, c3, hat, hf⟩ := HG.out j hlk
      have hbw := alloc1 hb
      have d0 := (hbw.cell (p := ⟨b, o + j * 4, none⟩) hblt).trans c0
      have d1 := (hbw.cell (p := ⟨b, o + j * 4 + 1, none⟩) hblt).trans c1
      have d2 := (hbw.cell (p := ⟨b, o + j * 4 + 2, none⟩) hblt).trans c2
      have d3 := (hbw.cell (p := ⟨b, o + j * 4 + 3, none⟩) hblt).trans c3
      clear c0 c1 c2 c3
      have HST := hid (shpK_all (d := d) hlk)
      go_wp2_with fail
      refine (HIH.out _ _ _ _ _ (by omega) (by have := HN.out; omega) (hat.below hbw)).mono ?_
      rintro e w1 ⟨rfl, hb1⟩
      have hbb := hb.trans (hb1.mono hb.size)
      clear hb hb1 hat d0 d1 d2 d3 hbw
      generalize shpK d ts[j] = r at *
      cases r
      · go_wp2_with fail
        go_ret
        exact ⟨ret_b (by rw [HT.out, ← HD.out, HST.out, Bool.false_and, Bool.and_false]), alloc1 hbb⟩
      · go_wp2_with fail
        go_roundw
        case rel => exact ⟨j + 1, by omega, by go_num, by rw [← HD.out, HST.out, Bool.true_and], hbb⟩
        case measure => simp [intOf]; omega
    · have hall : ts.all (shpK d) = true := by rw [← HD.out, List.drop_of_length_le (by omega)]; rfl
      rw [hall, Bool.and_true] at HT
      clear hall
      have hbb := alloc1 hb
      by_cases h1 : k = 1
      case pos =>
        subst h1
        by_cases qn : ts.length = 0
        case neg =>
          have HR := hid (show nodeC 1 g l ts = false by simp [nodeC, qn])
          have qn1 : ((ts.length : Int) == 0) = false := by rw [beq_eq_false_iff_ne]; omega
          have qn2 : ((ts.length : Int) != 0) = true := by rw [bne_iff_ne]; omega
          clear qn
          go_wp2_with fail
          go_ret
          exact ⟨ret_b (by rw [HT.out, HR.out]), hbb⟩
        have qn1 : ((ts.length : Int) == 0) = true := by simp [qn]
        have qn2 : ((ts.length : Int) != 0) = false := by simp [qn]
        have Qn := hid qn
        clear qn
        by_cases ql : l = 0
        case neg =>
          have HR := hid (show nodeC 1 g l ts = false by simp [nodeC, Qn.out, ql])
          have ql1 : (l == 0) = false := by simpa using ql
          have ql2 : (l != 0) = true := by simpa using ql
          go_wp2_with fail
          go_ret
          exact ⟨ret_b (by rw [HT.out, HR.out]), hbb⟩
        have ql1 : (l == 0) = true := by simpa using ql
        have ql2 : (l != 0) = false := by simpa using ql
        have Ql := hid ql
        clear ql
        by_cases qag : 1 ≤ g
        case neg =>
          have HR := hid (show nodeC 1 g l ts = false by simp [nodeC, Qn.out, Ql.out, qag])
          have qag1 : decide (1 ≤ g) = false := by simpa using qag
          have qag2 : decide (g ≥ 1) = false := by simpa using qag
          go_wp2_with fail
          go_ret
          exact ⟨ret_b (by rw [HT.out, HR.out]), hbb⟩
        have qag1 : decide (1 ≤ g) = true := by simpa using qag
        have qag2 : decide (g ≥ 1) = true := by simpa using qag
        by_cases qbg : g ≤ 3
        case neg =>
          have HR := hid (show nodeC 1 g l ts = false by simp [nodeC, Qn.out, Ql.out, qag, qbg])
          have qbg1 : decide (g ≤ 3) = false := by simpa using qbg
          go_wp2_with fail
          go_ret
          exact ⟨ret_b (by rw [HT.out, HR.out]), hbb⟩
        have qbg1 : decide (g ≤ 3) = true := by simpa using qbg
        have HR := hid (show nodeC 1 g l ts = true by simp [nodeC, Qn.out, Ql.out, qag, qbg])
        go_wp2_with fail
        go_ret
        exact ⟨ret_b (by rw [HT.out, HR.out]), hbb⟩
      have e1 : (k == 1) = false := by simpa using h1
      have f1 : (k != 1) = true := by simpa using h1
      by_cases h2 : k = 2
      case pos =>
        subst h2
        by_cases qn : ts.length = 2
        case neg =>
          have HR := hid (show nodeC 2 g l ts = false by simp [nodeC, qn])
          have qn1 : ((ts.length : Int) == 2) = false := by rw [beq_eq_false_iff_ne]; omega
          have qn2 : ((ts.length : Int) != 2) = true := by rw [bne_iff_ne]; omega
          clear qn
          go_wp2_with fail
          go_ret
          exact ⟨ret_b (by rw [HT.out, HR.out]), hbb⟩
        have qn1 : ((ts.length : Int) == 2) = true := by simp [qn]
        have qn2 : ((ts.length : Int) != 2) = false := by simp [qn]
        have Qn := hid qn
        clear qn
        by_cases ql : l = 0
        case neg =>
          have HR := hid (show nodeC 2 g l ts = false by simp [nodeC, Qn.out, ql])
          have ql1 : (l == 0) = false := by simpa using ql
          have ql2 : (l != 0) = true := by simpa using ql
          go_wp2_with fail
          go_ret
          exact ⟨ret_b (by rw [HT.out, HR.out]), hbb⟩
        have ql1 : (l == 0) = true := by simpa using ql
        have ql2 : (l != 0) = false := by simpa using ql
        have Ql := hid ql
        clear ql
        by_cases qg : g = 0
        case neg =>
          have HR := hid (show nodeC 2 g l ts = false by simp [nodeC, Qn.out, Ql.out, qg])
          have qg1 : (g == 0) = false := by simpa using qg
          have qg2 : (g != 0) = true := by simpa using qg
          go_wp2_with fail
          go_ret
          exact ⟨ret_b (by rw [HT.out, HR.out]), hbb⟩
        have qg1 : (g == 0) = true := by simpa using qg
        have qg2 : (g != 0) = false := by simpa using qg
        have Qg := hid qg
        clear qg
        have HR := hid (show nodeC 2 g l ts = true by simp [nodeC, Qn.out, Ql.out, Qg.out])
        go_wp2_with fail
        go_ret
        exact ⟨ret_b (by rw [HT.out, HR.out]), hbb⟩
      have e2 : (k == 2) = false := by simpa using h2
      have f2 : (k != 2) = true := by simpa using h2
      by_cases h3 : k = 3
      case pos =>
        subst h3
        by_cases qn : ts.length = 2
        case neg =>
          have HR := hid (show nodeC 3 g l ts = false by simp [nodeC, qn])
          have qn1 : ((ts.length : Int) == 2) = false := by rw [beq_eq_false_iff_ne]; omega
          have qn2 : ((ts.length : Int) != 2) = true := by rw [bne_iff_ne]; omega
          clear qn
          go_wp2_with fail
          go_ret
          exact ⟨ret_b (by rw [HT.out, HR.out]), hbb⟩
        have qn1 : ((ts.length : Int) == 2) = true := by simp [qn]
        have qn2 : ((ts.length : Int) != 2) = false := by simp [qn]
        have Qn := hid qn
        clear qn
        by_cases ql : l = 0
        case neg =>
          have HR := hid (show nodeC 3 g l ts = false by simp [nodeC, Qn.out, ql])
          have ql1 : (l == 0) = false := by simpa using ql
          have ql2 : (l != 0) = true := by simpa using ql
          go_wp2_with fail
          go_ret
          exact ⟨ret_b (by rw [HT.out, HR.out]), hbb⟩
        have ql1 : (l == 0) = true := by simpa using ql
        have ql2 : (l != 0) = false := by simpa using ql
        have Ql := hid ql
        clear ql
        by_cases qg : g = 0
        case neg =>
          have HR := hid (show nodeC 3 g l ts = false by simp [nodeC, Qn.out, Ql.out, qg])
          have qg1 : (g == 0) = false := by simpa using qg
          have qg2 : (g != 0) = true := by simpa using qg
          go_wp2_with fail
          go_ret
          exact ⟨ret_b (by rw [HT.out, HR.out]), hbb⟩
        have qg1 : (g == 0) = true := by simpa using qg
        have qg2 : (g != 0) = false := by simpa using qg
        have Qg := hid qg
        clear qg
        have HR := hid (show nodeC 3 g l ts = true by simp [nodeC, Qn.out, Ql.out, Qg.out])
        go_wp2_with fail
        go_ret
        exact ⟨ret_b (by rw [HT.out, HR.out]), hbb⟩
      have e3 : (k == 3) = false := by simpa using h3
      have f3 : (k != 3) = true := by simpa using h3
      by_cases h4 : k = 4
      case pos =>
        subst h4
        by_cases qn : ts.length = 1
        case neg =>
          have HR := hid (show nodeC 4 g l ts = false by simp [nodeC, qn])
          have qn1 : ((ts.length : Int) == 1) = false := by rw [beq_eq_false_iff_ne]; omega
          have qn2 : ((ts.length : Int) != 1) = true := by rw [bne_iff_ne]; omega
          clear qn
          go_wp2_with fail
          go_ret
          exact ⟨ret_b (by rw [HT.out, HR.out]), hbb⟩
        have qn1 : ((ts.length : Int) == 1) = true := by simp [qn]
        have qn2 : ((ts.length : Int) != 1) = false := by simp [qn]
        have Qn := hid qn
        clear qn
        have h0 : 0 < ts.length := by have := Qn.out; omega
        obtain ⟨b, o, k1, g1, l1, n1, a1, cap1, f1, rfl, hblt, c0, c1, c2, c3, hat0, hf⟩ := HG.out 0 h0
        simp only [Nat.zero_mul, Nat.add_zero] at c0 c1 c2 c3
        have hbw := alloc1 hb
        have d0 := (hbw.cell (p := ⟨b, o, none⟩) hblt).trans c0
        have d1 := (hbw.cell (p := ⟨b, o + 1, none⟩) hblt).trans c1
        have d2 := (hbw.cell (p := ⟨b, o + 2, none⟩) hblt).trans c2
        have d3 := (hbw.cell (p := ⟨b, o + 3, none⟩) hblt).trans c3
        have hat1 := hat0.below hbw
        clear c0 c1 c2 c3 hat0
        by_cases ql : l = 0
        case neg =>
          have HR := hid (show nodeC 4 g l ts = false by simp [nodeC, Qn.out, ql])
          have ql1 : (l == 0) = false := by simpa using ql
          have ql2 : (l != 0) = true := by simpa using ql
          go_wp2_with fail
          go_ret
          exact ⟨ret_b (by rw [HT.out, HR.out]), hbb⟩
        have ql1 : (l == 0) = true := by simpa using ql
        have ql2 : (l != 0) = false := by simpa using ql
        have Ql := hid ql
        clear ql
        by_cases qg : g = 0
        case neg =>
          have HR := hid (show nodeC 4 g l ts = false by simp [nodeC, Qn.out, Ql.out, qg])
          have qg1 : (g == 0) = false := by simpa using qg
          have qg2 : (g != 0) = true := by simpa using qg
          go_wp2_with fail
          go_ret
          exact ⟨ret_b (by rw [HT.out, HR.out]), hbb⟩
        have qg1 : (g == 0) = true := by simpa using qg
        have qg2 : (g != 0) = false := by simpa using qg
        have Qg := hid qg
        clear qg
        have HR := hid (show nodeC 4 g l ts = plainC ts[0] by simp [nodeC, Qn.out, Ql.out, Qg.out, all_one Qn.out plainC])
        go_wp2_with fail
        refine (l6Ground_any ts[0] _ _ _ hat1).mono ?_
        rintro e w1 ⟨rfl, hbg⟩
        go_wp2_with fail
        go_ret
        exact ⟨ret_b (by rw [HT.out, HR.out]), below_trans hbb hbg⟩
      have e4 : (k == 4) = false := by simpa using h4
      have f4 : (k != 4) = true := by simpa using h4
      by_cases h5 : k = 5
      case pos =>
        subst h5
        by_cases qn : ts.length = 1
        case neg =>
          have HR := hid (show nodeC 5 g l ts = false by simp [nodeC, qn])
          have qn1 : ((ts.length : Int) == 1) = false := by rw [beq_eq_false_iff_ne]; omega
          have qn2 : ((ts.length : Int) != 1) = true := by rw [bne_iff_ne]; omega
          clear qn
          go_wp2_with fail
          go_ret
          exact ⟨ret_b (by rw [HT.out, HR.out]), hbb⟩
        have qn1 : ((ts.length : Int) == 1) = true := by simp [qn]
        have qn2 : ((ts.length : Int) != 1) = false := by simp [qn]
        have Qn := hid qn
        clear qn
        have h0 : 0 < ts.length := by have := Qn.out; omega
        obtain ⟨b, o, k1, g1, l1, n1, a1, cap1, f1, rfl, hblt, c0, c1, c2, c3, hat0, hf⟩ := HG.out 0 h0
        simp only [Nat.zero_mul, Nat.add_zero] at c0 c1 c2 c3
        have hbw := alloc1 hb
        have d0 := (hbw.cell (p := ⟨b, o, none⟩) hblt).trans c0
        have d1 := (hbw.cell (p := ⟨b, o + 1, none⟩) hblt).trans c1
        have d2 := (hbw.cell (p := ⟨b, o + 2, none⟩) hblt).trans c2
        have d3 := (hbw.cell (p := ⟨b, o + 3, none⟩) hblt).trans c3
        have hat1 := hat0.below hbw
        clear c0 c1 c2 c3 hat0
        by_cases qlb : isLb l = true
        case neg =>
          have HR := hid (show nodeC 5 g l ts = false by simp [nodeC, Qn.out, qlb])
          have qlbn : isLb l = false := by simpa using qlb
          go_wp2_with fail
          refine (l6Label_any _ _).mono ?_
          rintro e w1 ⟨rfl, rfl⟩
          first | rw [qlb] | rw [qlbn]
          go_wp2_with fail
          go_ret
          exact ⟨ret_b (by rw [HT.out, HR.out]), hbb⟩
        by_cases qg : g = 0
        case neg =>
          have HR := hid (show nodeC 5 g l ts = false by simp [nodeC, Qn.out, qlb, qg])
          have qg1 : (g == 0) = false := by simpa using qg
          have qg2 : (g != 0) = true := by simpa using qg
          go_wp2_with fail
          refine (l6Label_any _ _).mono ?_
          rintro e w1 ⟨rfl, rfl⟩
          first | rw [qlb] | rw [qlbn]
          go_wp2_with fail
          go_ret
          exact ⟨ret_b (by rw [HT.out, HR.out]), hbb⟩
        have qg1 : (g == 0) = true := by simpa using qg
        have qg2 : (g != 0) = false := by simpa using qg
        have Qg := hid qg
        clear qg
        obtain ⟨us, hu, _⟩ := hat1.tree
        have HU := hid (show unkC ts[0] = (k1 == 5 || k1 == 1 && g1 == 1) by rw [hu]; rfl)
        clear hu
        have HR := hid (show nodeC 5 g l ts = !unkC ts[0] by simp [nodeC, Qn.out, qlb, Qg.out, all_one Qn.out])
        by_cases k5 : k1 = 5
        case pos =>
          subst k5
          go_wp2_with fail
          refine (l6Label_any _ _).mono ?_
          rintro e w1 ⟨rfl, rfl⟩
          first | rw [qlb] | rw [qlbn]
          go_wp2_with fail
          go_ret
          exact ⟨ret_b (by rw [HT.out, HR.out, HU.out]; simp), hbb⟩
        have k51 : (k1 == 5) = false := by simpa using k5
        have k52 : (k1 != 5) = true := by simpa using k5
        rw [k51] at HU
        by_cases kq : k1 = 1
        case neg =>
          have kq1 : (k1 == 1) = false := by simpa using kq
          have kq2 : (k1 != 1) = true := by simpa using kq
          rw [kq1] at HU
          go_wp2_with fail
          refine (l6Label_any _ _).mono ?_
          rintro e w1 ⟨rfl, rfl⟩
          first | rw [qlb] | rw [qlbn]
          go_wp2_with fail
          go_ret
          exact ⟨ret_b (by rw [HT.out, HR.out, HU.out]; simp), hbb⟩
        subst kq
        by_cases gq : g1 = 1
        case pos =>
          subst gq
          go_wp2_with fail
          refine (l6Label_any _ _).mono ?_
          rintro e w1 ⟨rfl, rfl⟩
          first | rw [qlb] | rw [qlbn]
          go_wp2_with fail
          go_ret
          exact ⟨ret_b (by rw [HT.out, HR.out, HU.out]; simp), hbb⟩
        have gq1 : (g1 == 1) = false := by simpa using gq
        have gq2 : (g1 != 1) = true := by simpa using gq
        rw [gq1] at HU
        go_wp2_with fail
        refine (l6Label_any _ _).mono ?_
        rintro e w1 ⟨rfl, rfl⟩
        first | rw [qlb] | rw [qlbn]
        go_wp2_with fail
        go_ret
        exact ⟨ret_b (by rw [HT.out, HR.out, HU.out]; simp), hbb⟩
      have e5 : (k == 5) = false := by simpa using h5
      have f5 : (k != 5) = true := by simpa using h5
      by_cases h6 : k = 6
      case pos =>
        subst h6
        by_cases qn : ts.length = 0
        case neg =>
          have HR := hid (show nodeC 6 g l ts = false by simp [nodeC, qn])
          have qn1 : ((ts.length : Int) == 0) = false := by rw [beq_eq_false_iff_ne]; omega
          have qn2 : ((ts.length : Int) != 0) = true := by rw [bne_iff_ne]; omega
          clear qn
          go_wp2_with fail
          go_ret
          exact ⟨ret_b (by rw [HT.out, HR.out]), hbb⟩
        have qn1 : ((ts.length : Int) == 0) = true := by simp [qn]
        have qn2 : ((ts.length : Int) != 0) = false := by simp [qn]
        have Qn := hid qn
        clear qn
        by_cases qlb : isLb l = true
        case neg =>
          have HR := hid (show nodeC 6 g l ts = false by simp [nodeC, Qn.out, qlb])
          have qlbn : isLb l = false := by simpa using qlb
          go_wp2_with fail
          refine (l6Label_any _ _).mono ?_
          rintro e w1 ⟨rfl, rfl⟩
          first | rw [qlb] | rw [qlbn]
          go_wp2_with fail
          go_ret
          exact ⟨ret_b (by rw [HT.out, HR.out]), hbb⟩
        by_cases qag : 2 ≤ g
        case neg =>
          have HR := hid (show nodeC 6 g l ts = false by simp [nodeC, Qn.out, qlb, qag])
          have qag1 : decide (2 ≤ g) = false := by simpa using qag
          have qag2 : decide (g ≥ 2) = false := by simpa using qag
          go_wp2_with fail
          refine (l6Label_any _ _).mono ?_
          rintro e w1 ⟨rfl, rfl⟩
          first | rw [qlb] | rw [qlbn]
          go_wp2_with fail
          go_ret
          exact ⟨ret_b (by rw [HT.out, HR.out]), hbb⟩
        have qag1 : decide (2 ≤ g) = true := by simpa using qag
        have qag2 : decide (g ≥ 2) = true := by simpa using qag
        by_cases qbg : g ≤ 5
        case neg =>
          have HR := hid (show nodeC 6 g l ts = false by simp [nodeC, Qn.out, qlb, qag, qbg])
          have qbg1 : decide (g ≤ 5) = false := by simpa using qbg
          go_wp2_with fail
          refine (l6Label_any _ _).mono ?_
          rintro e w1 ⟨rfl, rfl⟩
          first | rw [qlb] | rw [qlbn]
          go_wp2_with fail
          go_ret
          exact ⟨ret_b (by rw [HT.out, HR.out]), hbb⟩
        have qbg1 : decide (g ≤ 5) = true := by simpa using qbg
        have HR := hid (show nodeC 6 g l ts = true by simp [nodeC, Qn.out, qlb, qag, qbg])
        go_wp2_with fail
        refine (l6Label_any _ _).mono ?_
        rintro e w1 ⟨rfl, rfl⟩
        first | rw [qlb] | rw [qlbn]
        go_wp2_with fail
        go_ret
        exact ⟨ret_b (by rw [HT.out, HR.out]), hbb⟩
      have e6 : (k == 6) = false := by simpa using h6
      have f6 : (k != 6) = true := by simpa using h6
      have HR := hid (show nodeC k g l ts = false by simp [nodeC, h1, h2, h3, h4, h5, h6])
      go_wp2_with fail
      go_ret
      exact ⟨ret_b (by rw [HT.out, HR.out]), hbb⟩

theorem l6Shape_any (d : Nat) : Sh6C d := by
  induction d with
  | zero => exact l6Shape_zero
  | succ d ih => exact l6Shape_succ d ih

theorem specCoercionValid_any (t : Co) (v : Value) (fp : List Nat) (w : World) (h : t.At w v fp) :
    Calls Try.prog 34 #[v] w fun e w' => e = .returned (.bool (vldK t)) ∧ Below w.heap.size w w' := by
  obtain ⟨k, g, l, m, a, cap, rfl⟩ := h.agg
  go_enter Try.func34, Try.ntmps34
  go_wp2_with fail
  refine (l6Shape_any 9 t _ fp 9 _ (by omega) rfl (h.below ?_)).mono ?_
  · exact (Below.refl _ _).alloc (Nat.le_refl _) _
  rintro e w1 ⟨rfl, hb⟩
  generalize hr : shpK 9 t = r
  have HR := hid hr
  clear hr
  go_wp2_with fail
  go_ret
  exact ⟨ret_b HR.out.symm, alloc1 hb⟩
end Go.Proofs.Ytgiimijooabioaa
