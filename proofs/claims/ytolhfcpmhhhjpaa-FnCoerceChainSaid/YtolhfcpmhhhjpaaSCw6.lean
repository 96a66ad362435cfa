/- The program's CoercionValid. -/
import Derived.Test.YtolhfcpmhhhjpaaSG3
namespace Go.Proofs.Ytolhfcpmhhhjpaa
open Go.RowKit

def fpC : Co → Bool
  | .mk k _ _ _ => k == 2 || k == 3
theorem fp_mk (k g l : Int) (ts : List Co) : fpC (.mk k g l ts) = (k == 2 || k == 3) := rfl
def uidC : Co → Bool
  | .mk k g _ _ => k == 1 && g == 1
theorem uid_mk (k g l : Int) (ts : List Co) : uidC (.mk k g l ts) = (k == 1 && g == 1) := rfl

set_option maxHeartbeats 400000 in
theorem isFunOrPair_any (t : Co) (v : Value) (f : List Nat) (w : World) (hat : t.At w v f) :
    Calls Try.prog 53 #[v] w fun e w' => e = .returned (.bool (fpC t)) ∧ Below w.heap.size w w' := by
  obtain ⟨k, g, l, ts, rfl⟩ := t.shape
  obtain ⟨s, rfl, hs⟩ := Co.at_mk.1 hat
  obtain ⟨a, cap, rfl⟩ := hs.shape
  generalize hn : ts.length = n at *
  have hb0 : Below w.heap.size w (w.alloc (Obj.cells #[.int .i64 k, .int .i64 g, .int .i64 l, .slice a n cap] 30)) := (Below.refl _ _).alloc (Nat.le_refl _) _
  rw [fp_mk]
  clear hat hs hn
  by_cases h2 : k = 2
  · subst h2
    go_enter Try.func53, Try.ntmps53
    go_wp2_with fail
    go_ret
    exact ⟨ret_b (by rfl), hb0⟩
  have e2 : (k == 2) = false := by simpa using h2
  have f2 : (k != 2) = true := by simpa using h2
  by_cases h3 : k = 3
  · subst h3
    go_enter Try.func53, Try.ntmps53
    go_wp2_with fail
    go_ret
    exact ⟨ret_b (by rfl), hb0⟩
  have e3 : (k == 3) = false := by simpa using h3
  have f3 : (k != 3) = true := by simpa using h3
  rw [e2, e3]
  go_enter Try.func53, Try.ntmps53
  go_wp2_with fail
  go_ret
  exact ⟨ret_b (by rfl), hb0⟩

set_option maxHeartbeats 400000 in
theorem isUnknownId_any (t : Co) (v : Value) (f : List Nat) (w : World) (hat : t.At w v f) :
    Calls Try.prog 93 #[v] w fun e w' => e = .returned (.bool (uidC t)) ∧ Below w.heap.size w w' := by
  obtain ⟨k, g, l, ts, rfl⟩ := t.shape
  obtain ⟨s, rfl, hs⟩ := Co.at_mk.1 hat
  obtain ⟨a, cap, rfl⟩ := hs.shape
  generalize hn : ts.length = n at *
  have hb0 : Below w.heap.size w (w.alloc (Obj.cells #[.int .i64 k, .int .i64 g, .int .i64 l, .slice a n cap] 30)) := (Below.refl _ _).alloc (Nat.le_refl _) _
  rw [uid_mk]
  clear hat hs hn
  by_cases h1 : k = 1
  · subst h1
    go_enter Try.func93, Try.ntmps93
    go_wp2_with fail
    go_ret
    exact ⟨ret_b (by rfl), hb0⟩
  have e1 : (k == 1) = false := by simpa using h1
  have f1 : (k != 1) = true := by simpa using h1
  rw [e1]
  go_enter Try.func93, Try.ntmps93
  go_wp2_with fail
  go_ret
  exact ⟨ret_b (by rfl), hb0⟩

set_option maxHeartbeats 400000 in
theorem isPlain_any (t : Co) (v : Value) (f : List Nat) (w : World) (hat : t.At w v f) :
    Calls Try.prog 110 #[v] w fun e w' => e = .returned (.bool (plainC t)) ∧ Below w.heap.size w w' := by
  obtain ⟨k, g, l, ts, rfl⟩ := t.shape
  have HE := hid (show plainC (.mk k g l ts) = (fpC (.mk k g l ts) || (k == 1 && g != 1)) from rfl)
  obtain ⟨s, rfl, hs⟩ := Co.at_mk.1 hat
  obtain ⟨a, cap, rfl⟩ := hs.shape
  have hb0 : Below w.heap.size w (w.alloc (Obj.cells #[.int .i64 k, .int .i64 g, .int .i64 l, .slice a ts.length cap] 30)) := (Below.refl _ _).alloc (Nat.le_refl _) _
  have hat1 := hat.below hb0
  clear hat hs
  by_cases h1 : k = 1
  · subst h1
    go_enter Try.func110, Try.ntmps110
    go_wp2_with fail
    refine (isFunOrPair_any _ _ _ _ hat1).mono ?_
    rintro e w1 ⟨rfl, hb1⟩
    obtain ⟨x0, x1, x2, x3⟩ := box4 hb1
    have hbb := below_trans hb0 hb1
    rw [fp_mk] at *
    go_wp2_with fail
    go_ret
    exact ⟨ret_b (by rw [HE.out]; rfl), hbb⟩
  have e1 : (k == 1) = false := by simpa using h1
  rw [e1, Bool.false_and, Bool.or_false] at HE
  go_enter Try.func110, Try.ntmps110
  go_wp2_with fail
  refine (isFunOrPair_any _ _ _ _ hat1).mono ?_
  rintro e w1 ⟨rfl, hb1⟩
  obtain ⟨x0, x1, x2, x3⟩ := box4 hb1
  have hbb := below_trans hb0 hb1
  rw [← HE.out]
  generalize hr : plainC (.mk k g l ts) = r
  have HR := hid hr
  clear hr
  cases r
  all_goals
    go_wp2_with fail
    go_ret
    exact ⟨ret_b HR.out.symm, hbb⟩

set_option maxHeartbeats 400000 in
theorem fromUnknown_any (t : Co) (v : Value) (f : List Nat) (w : World) (hat : t.At w v f) :
    Calls Try.prog 94 #[v] w fun e w' => e = .returned (.bool (unkC t)) ∧ Below w.heap.size w w' := by
  obtain ⟨k, g, l, ts, rfl⟩ := t.shape
  have HE := hid (show unkC (.mk k g l ts) = (k == 5 || uidC (.mk k g l ts)) from rfl)
  obtain ⟨s, rfl, hs⟩ := Co.at_mk.1 hat
  obtain ⟨a, cap, rfl⟩ := hs.shape
  have hb0 : Below w.heap.size w (w.alloc (Obj.cells #[.int .i64 k, .int .i64 g, .int .i64 l, .slice a ts.length cap] 30)) := (Below.refl _ _).alloc (Nat.le_refl _) _
  have hat1 := hat.below hb0
  clear hat hs
  by_cases h5 : k = 5
  · subst h5
    go_enter Try.func94, Try.ntmps94
    go_wp2_with fail
    go_ret
    exact ⟨ret_b (by rw [HE.out]; rfl), hb0⟩
  have e5 : (k == 5) = false := by simpa using h5
  rw [e5, Bool.false_or] at HE
  go_enter Try.func94, Try.ntmps94
  go_wp2_with fail
  refine (isUnknownId_any _ _ _ _ hat1).mono ?_
  rintro e w1 ⟨rfl, hb1⟩
  have hbb := below_trans hb0 hb1
  rw [← HE.out]
  generalize hr : unkC (.mk k g l ts) = r
  have HR := hid hr
  clear hr
  go_wp2_with fail
  go_ret
  exact ⟨ret_b HR.out.symm, hbb⟩

set_option maxHeartbeats 4000000 in
theorem validNode_any (k g l : Int) (ts : List Co) (v : Value) (f : List Nat) (w : World) (hat : (Co.mk k g l ts).At w v f) :
    Calls Try.prog 86 #[v] w fun e w' => e = .returned (.bool (nodeC k g l ts)) ∧ Below w.heap.size w w' := by
  obtain ⟨s, rfl, hs⟩ := Co.at_mk.1 hat
  obtain ⟨a, cap, rfl, hc, hm, hget⟩ := hs.open
  have HG := hid hget
  have hb0 : Below w.heap.size w (w.alloc (Obj.cells #[.int .i64 k, .int .i64 g, .int .i64 l, .slice a ts.length cap] 30)) := (Below.refl _ _).alloc (Nat.le_refl _) _
  have hbn := belowN hb0
  obtain ⟨x0, x1, x2, x3⟩ := box4 (Below.refl (w.alloc (Obj.cells #[.int .i64 k, .int .i64 g, .int .i64 l, .slice a ts.length cap] 30)).heap.size (w.alloc (Obj.cells #[.int .i64 k, .int .i64 g, .int .i64 l, .slice a ts.length cap] 30)))
  clear hget hat hs
  by_cases h1 : k = 1
  case pos =>
    subst h1
    by_cases ql : l = 0
    case neg =>
      have HR := hid (show nodeC 1 g l ts = false by simp [nodeC, ql])
      have ql1 : (l == 0) = false := by simpa using ql
      have ql2 : (l != 0) = true := by simpa using ql
      go_enter Try.func86, Try.ntmps86
      go_wp2_with fail
      go_quiet (first | (go_at_call 38; exact Calls.quiet_of_same (isLabel_any _ _)) | (go_at_call 109; exact Calls.quiet_of_same (validOrZero_any _ _ _ _)))
      go_wp2_with fail
      go_ret
      exact ⟨ret_b HR.out.symm, hbn _⟩
    have ql1 : (l == 0) = true := by simpa using ql
    have ql2 : (l != 0) = false := by simpa using ql
    have Ql := hid ql
    clear ql
    by_cases qn : ts.length = 0
    case neg =>
      have HR := hid (show nodeC 1 g l ts = false by simp [nodeC, Ql.out, qn])
      have qn1 : ((ts.length : Int) == 0) = false := by rw [beq_eq_false_iff_ne]; omega
      have qn2 : ((ts.length : Int) != 0) = true := by rw [bne_iff_ne]; omega
      clear qn
      go_enter Try.func86, Try.ntmps86
      go_wp2_with fail
      go_quiet (first | (go_at_call 38; exact Calls.quiet_of_same (isLabel_any _ _)) | (go_at_call 109; exact Calls.quiet_of_same (validOrZero_any _ _ _ _)))
      go_wp2_with fail
      go_ret
      exact ⟨ret_b HR.out.symm, hbn _⟩
    have qn1 : ((ts.length : Int) == 0) = true := by simp [qn]
    have qn2 : ((ts.length : Int) != 0) = false := by simp [qn]
    have Qn := hid qn
    clear qn
    by_cases qag : 1 ≤ g
    case neg =>
      have HR := hid (show nodeC 1 g l ts = false by simp [nodeC, Ql.out, Qn.out, qag])
      have qag1 : decide (1 ≤ g) = false := by simpa using qag
      have qag2 : decide (g ≥ 1) = false := by simpa using qag
      go_enter Try.func86, Try.ntmps86
      go_wp2_with fail
      go_quiet (first | (go_at_call 38; exact Calls.quiet_of_same (isLabel_any _ _)) | (go_at_call 109; exact Calls.quiet_of_same (validOrZero_any _ _ _ _)))
      go_wp2_with fail
      go_ret
      exact ⟨ret_b HR.out.symm, hbn _⟩
    have qag1 : decide (1 ≤ g) = true := by simpa using qag
    have qag2 : decide (g ≥ 1) = true := by simpa using qag
    by_cases qbg : g ≤ 3
    case neg =>
      have HR := hid (show nodeC 1 g l ts = false by simp [nodeC, Ql.out, Qn.out, qag, qbg])
      have qbg1 : decide (g ≤ 3) = false := by simpa using qbg
      go_enter Try.func86, Try.ntmps86
      go_wp2_with fail
      go_quiet (first | (go_at_call 38; exact Calls.quiet_of_same (isLabel_any _ _)) | (go_at_call 109; exact Calls.quiet_of_same (validOrZero_any _ _ _ _)))
      go_wp2_with fail
      go_ret
      exact ⟨ret_b HR.out.symm, hbn _⟩
    have qbg1 : decide (g ≤ 3) = true := by simpa using qbg
    have HR := hid (show nodeC 1 g l ts = true by simp [nodeC, Ql.out, Qn.out, qag, qbg])
    go_enter Try.func86, Try.ntmps86
    go_wp2_with fail
    go_quiet (first | (go_at_call 38; exact Calls.quiet_of_same (isLabel_any _ _)) | (go_at_call 109; exact Calls.quiet_of_same (validOrZero_any _ _ _ _)))
    go_wp2_with fail
    go_ret
    exact ⟨ret_b HR.out.symm, hbn _⟩
  have e1 : (k == 1) = false := by simpa using h1
  have f1 : (k != 1) = true := by simpa using h1
  by_cases h2 : k = 2
  case pos =>
    subst h2
    by_cases ql : l = 0
    case neg =>
      have HR := hid (show nodeC 2 g l ts = false by simp [nodeC, ql])
      have ql1 : (l == 0) = false := by simpa using ql
      have ql2 : (l != 0) = true := by simpa using ql
      go_enter Try.func86, Try.ntmps86
      go_wp2_with fail
      go_quiet (first | (go_at_call 38; exact Calls.quiet_of_same (isLabel_any _ _)) | (go_at_call 109; exact Calls.quiet_of_same (validOrZero_any _ _ _ _)))
      go_wp2_with fail
      go_ret
      exact ⟨ret_b HR.out.symm, hbn _⟩
    have ql1 : (l == 0) = true := by simpa using ql
    have ql2 : (l != 0) = false := by simpa using ql
    have Ql := hid ql
    clear ql
    by_cases qn : ts.length = 2
    case neg =>
      have HR := hid (show nodeC 2 g l ts = false by simp [nodeC, Ql.out, qn])
      have qn1 : ((ts.length : Int) == 2) = false := by rw [beq_eq_false_iff_ne]; omega
      have qn2 : ((ts.length : Int) != 2) = true := by rw [bne_iff_ne]; omega
      clear qn
      go_enter Try.func86, Try.ntmps86
      go_wp2_with fail
      go_quiet (first | (go_at_call 38; exact Calls.quiet_of_same (isLabel_any _ _)) | (go_at_call 109; exact Calls.quiet_of_same (validOrZero_any _ _ _ _)))
      go_wp2_with fail
      go_ret
      exact ⟨ret_b HR.out.symm, hbn _⟩
    have qn1 : ((ts.length : Int) == 2) = true := by simp [qn]
    have qn2 : ((ts.length : Int) != 2) = false := by simp [qn]
    have Qn := hid qn
    clear qn
    by_cases qg : g = 0
    case neg =>
      have HR := hid (show nodeC 2 g l ts = false by simp [nodeC, Ql.out, Qn.out, qg])
      have qg1 : (g == 0) = false := by simpa using qg
      have qg2 : (g != 0) = true := by simpa using qg
      go_enter Try.func86, Try.ntmps86
      go_wp2_with fail
      go_quiet (first | (go_at_call 38; exact Calls.quiet_of_same (isLabel_any _ _)) | (go_at_call 109; exact Calls.quiet_of_same (validOrZero_any _ _ _ _)))
      go_wp2_with fail
      go_ret
      exact ⟨ret_b HR.out.symm, hbn _⟩
    have qg1 : (g == 0) = true := by simpa using qg
    have qg2 : (g != 0) = false := by simpa using qg
    have Qg := hid qg
    clear qg
    have HR := hid (show nodeC 2 g l ts = true by simp [nodeC, Ql.out, Qn.out, Qg.out])
    go_enter Try.func86, Try.ntmps86
    go_wp2_with fail
    go_quiet (first | (go_at_call 38; exact Calls.quiet_of_same (isLabel_any _ _)) | (go_at_call 109; exact Calls.quiet_of_same (validOrZero_any _ _ _ _)))
    go_wp2_with fail
    go_ret
    exact ⟨ret_b HR.out.symm, hbn _⟩
  have e2 : (k == 2) = false := by simpa using h2
  have f2 : (k != 2) = true := by simpa using h2
  by_cases h3 : k = 3
  case pos =>
    subst h3
    by_cases ql : l = 0
    case neg =>
      have HR := hid (show nodeC 3 g l ts = false by simp [nodeC, ql])
      have ql1 : (l == 0) = false := by simpa using ql
      have ql2 : (l != 0) = true := by simpa using ql
      go_enter Try.func86, Try.ntmps86
      go_wp2_with fail
      go_quiet (first | (go_at_call 38; exact Calls.quiet_of_same (isLabel_any _ _)) | (go_at_call 109; exact Calls.quiet_of_same (validOrZero_any _ _ _ _)))
      go_wp2_with fail
      go_ret
      exact ⟨ret_b HR.out.symm, hbn _⟩
    have ql1 : (l == 0) = true := by simpa using ql
    have ql2 : (l != 0) = false := by simpa using ql
    have Ql := hid ql
    clear ql
    by_cases qn : ts.length = 2
    case neg =>
      have HR := hid (show nodeC 3 g l ts = false by simp [nodeC, Ql.out, qn])
      have qn1 : ((ts.length : Int) == 2) = false := by rw [beq_eq_false_iff_ne]; omega
      have qn2 : ((ts.length : Int) != 2) = true := by rw [bne_iff_ne]; omega
      clear qn
      go_enter Try.func86, Try.ntmps86
      go_wp2_with fail
      go_quiet (first | (go_at_call 38; exact Calls.quiet_of_same (isLabel_any _ _)) | (go_at_call 109; exact Calls.quiet_of_same (validOrZero_any _ _ _ _)))
      go_wp2_with fail
      go_ret
      exact ⟨ret_b HR.out.symm, hbn _⟩
    have qn1 : ((ts.length : Int) == 2) = true := by simp [qn]
    have qn2 : ((ts.length : Int) != 2) = false := by simp [qn]
    have Qn := hid qn
    clear qn
    by_cases qg : g = 0
    case neg =>
      have HR := hid (show nodeC 3 g l ts = false by simp [nodeC, Ql.out, Qn.out, qg])
      have qg1 : (g == 0) = false := by simpa using qg
      have qg2 : (g != 0) = true := by simpa using qg
      go_enter Try.func86, Try.ntmps86
      go_wp2_with fail
      go_quiet (first | (go_at_call 38; exact Calls.quiet_of_same (isLabel_any _ _)) | (go_at_call 109; exact Calls.quiet_of_same (validOrZero_any _ _ _ _)))
      go_wp2_with fail
      go_ret
      exact ⟨ret_b HR.out.symm, hbn _⟩
    have qg1 : (g == 0) = true := by simpa using qg
    have qg2 : (g != 0) = false := by simpa using qg
    have Qg := hid qg
    clear qg
    have HR := hid (show nodeC 3 g l ts = true by simp [nodeC, Ql.out, Qn.out, Qg.out])
    go_enter Try.func86, Try.ntmps86
    go_wp2_with fail
    go_quiet (first | (go_at_call 38; exact Calls.quiet_of_same (isLabel_any _ _)) | (go_at_call 109; exact Calls.quiet_of_same (validOrZero_any _ _ _ _)))
    go_wp2_with fail
    go_ret
    exact ⟨ret_b HR.out.symm, hbn _⟩
  have e3 : (k == 3) = false := by simpa using h3
  have f3 : (k != 3) = true := by simpa using h3
  by_cases h4 : k = 4
  case pos =>
    subst h4
    by_cases ql : l = 0
    case neg =>
      have HR := hid (show nodeC 4 g l ts = false by simp [nodeC, ql])
      have ql1 : (l == 0) = false := by simpa using ql
      have ql2 : (l != 0) = true := by simpa using ql
      go_enter Try.func86, Try.ntmps86
      go_wp2_with fail
      go_quiet (first | (go_at_call 38; exact Calls.quiet_of_same (isLabel_any _ _)) | (go_at_call 109; exact Calls.quiet_of_same (validOrZero_any _ _ _ _)))
      go_wp2_with fail
      go_ret
      exact ⟨ret_b HR.out.symm, hbn _⟩
    have ql1 : (l == 0) = true := by simpa using ql
    have ql2 : (l != 0) = false := by simpa using ql
    have Ql := hid ql
    clear ql
    by_cases qn : ts.length = 1
    case neg =>
      have HR := hid (show nodeC 4 g l ts = false by simp [nodeC, Ql.out, qn])
      have qn1 : ((ts.length : Int) == 1) = false := by rw [beq_eq_false_iff_ne]; omega
      have qn2 : ((ts.length : Int) != 1) = true := by rw [bne_iff_ne]; omega
      clear qn
      go_enter Try.func86, Try.ntmps86
      go_wp2_with fail
      go_quiet (first | (go_at_call 38; exact Calls.quiet_of_same (isLabel_any _ _)) | (go_at_call 109; exact Calls.quiet_of_same (validOrZero_any _ _ _ _)))
      go_wp2_with fail
      go_ret
      exact ⟨ret_b HR.out.symm, hbn _⟩
    have qn1 : ((ts.length : Int) == 1) = true := by simp [qn]
    have qn2 : ((ts.length : Int) != 1) = false := by simp [qn]
    have Qn := hid qn
    clear qn
    have h0 : 0 < ts.length := by have := Qn.out; omega
    obtain ⟨b, o, k1, g1, l1, n1, a1, cap1, f1, rfl, hblt, c0, c1, c2, c3, hat0, hf⟩ := HG.out 0 h0
    simp only [Nat.zero_mul, Nat.add_zero] at c0 c1 c2 c3
    have hbw := hb0
    have d0 := (hbw.cell (p := ⟨b, o, none⟩) hblt).trans c0
    have d1 := (hbw.cell (p := ⟨b, o + 1, none⟩) hblt).trans c1
    have d2 := (hbw.cell (p := ⟨b, o + 2, none⟩) hblt).trans c2
    have d3 := (hbw.cell (p := ⟨b, o + 3, none⟩) hblt).trans c3
    have hat1 := hat0.below hbw
    clear c0 c1 c2 c3 hat0
    by_cases qg : g = 0
    case neg =>
      have HR := hid (show nodeC 4 g l ts = false by simp [nodeC, Ql.out, Qn.out, qg])
      have qg1 : (g == 0) = false := by simpa using qg
      have qg2 : (g != 0) = true := by simpa using qg
      go_enter Try.func86, Try.ntmps86
      go_wp2_with fail
      go_quiet (first | (go_at_call 38; exact Calls.quiet_of_same (isLabel_any _ _)) | (go_at_call 109; exact Calls.quiet_of_same (validOrZero_any _ _ _ _)))
      go_wp2_with fail
      go_ret
      exact ⟨ret_b HR.out.symm, hbn _⟩
    have qg1 : (g == 0) = true := by simpa using qg
    have qg2 : (g != 0) = false := by simpa using qg
    have Qg := hid qg
    clear qg
    have HR := hid (show nodeC 4 g l ts = plainC ts[0] by simp [nodeC, Ql.out, Qn.out, Qg.out, all_one Qn.out])
    go_enter Try.func86, Try.ntmps86
    go_wp2_with fail
    go_quiet (first | (go_at_call 38; exact Calls.quiet_of_same (isLabel_any _ _)) | (go_at_call 109; exact Calls.quiet_of_same (validOrZero_any _ _ _ _)))
    go_wp2_with fail
    refine (isPlain_any ts[0] _ _ _ (hat1.below (belowN (Below.refl _ _) _))).mono ?_
    rintro e w1 ⟨rfl, hbg⟩
    have hbz := (hbn _).trans (hbg.mono (hbn _).size)
    go_wp2_with fail
    go_ret
    exact ⟨ret_b HR.out.symm, hbz⟩
  have e4 : (k == 4) = false := by simpa using h4
  have f4 : (k != 4) = true := by simpa using h4
  by_cases h5 : k = 5
  case pos =>
    subst h5
    by_cases qlb : isLb l = true
    case neg =>
      have HR := hid (show nodeC 5 g l ts = false by simp [nodeC, qlb])
      have qlbn : isLb l = false := by simpa using qlb
      go_enter Try.func86, Try.ntmps86
      go_wp2_with fail
      go_quiet (first | (go_at_call 38; exact Calls.quiet_of_same (isLabel_any _ _)) | (go_at_call 109; exact Calls.quiet_of_same (validOrZero_any _ _ _ _)))
      go_wp2_with fail
      go_ret
      exact ⟨ret_b HR.out.symm, hbn _⟩
    have qlbt := qlb
    by_cases qn : ts.length = 1
    case neg =>
      have HR := hid (show nodeC 5 g l ts = false by simp [nodeC, qlb, qn])
      have qn1 : ((ts.length : Int) == 1) = false := by rw [beq_eq_false_iff_ne]; omega
      have qn2 : ((ts.length : Int) != 1) = true := by rw [bne_iff_ne]; omega
      clear qn
      go_enter Try.func86, Try.ntmps86
      go_wp2_with fail
      go_quiet (first | (go_at_call 38; exact Calls.quiet_of_same (isLabel_any _ _)) | (go_at_call 109; exact Calls.quiet_of_same (validOrZero_any _ _ _ _)))
      go_wp2_with fail
      go_ret
      exact ⟨ret_b HR.out.symm, hbn _⟩
    have qn1 : ((ts.length : Int) == 1) = true := by simp [qn]
    have qn2 : ((ts.length : Int) != 1) = false := by simp [qn]
    have Qn := hid qn
    clear qn
    have h0 : 0 < ts.length := by have := Qn.out; omega
    obtain ⟨b, o, k1, g1, l1, n1, a1, cap1, f1, rfl, hblt, c0, c1, c2, c3, hat0, hf⟩ := HG.out 0 h0
    simp only [Nat.zero_mul, Nat.add_zero] at c0 c1 c2 c3
    have hbw := hb0
    have d0 := (hbw.cell (p := ⟨b, o, none⟩) hblt).trans c0
    have d1 := (hbw.cell (p := ⟨b, o + 1, none⟩) hblt).trans c1
    have d2 := (hbw.cell (p := ⟨b, o + 2, none⟩) hblt).trans c2
    have d3 := (hbw.cell (p := ⟨b, o + 3, none⟩) hblt).trans c3
    have hat1 := hat0.below hbw
    clear c0 c1 c2 c3 hat0
    by_cases qg : g = 0
    case neg =>
      have HR := hid (show nodeC 5 g l ts = false by simp [nodeC, qlb, Qn.out, qg])
      have qg1 : (g == 0) = false := by simpa using qg
      have qg2 : (g != 0) = true := by simpa using qg
      go_enter Try.func86, Try.ntmps86
      go_wp2_with fail
      go_quiet (first | (go_at_call 38; exact Calls.quiet_of_same (isLabel_any _ _)) | (go_at_call 109; exact Calls.quiet_of_same (validOrZero_any _ _ _ _)))
      go_wp2_with fail
      go_ret
      exact ⟨ret_b HR.out.symm, hbn _⟩
    have qg1 : (g == 0) = true := by simpa using qg
    have qg2 : (g != 0) = false := by simpa using qg
    have Qg := hid qg
    clear qg
    have HR := hid (show nodeC 5 g l ts = (!unkC ts[0]) by simp [nodeC, qlb, Qn.out, Qg.out, all_one Qn.out])
    go_enter Try.func86, Try.ntmps86
    go_wp2_with fail
    go_quiet (first | (go_at_call 38; exact Calls.quiet_of_same (isLabel_any _ _)) | (go_at_call 109; exact Calls.quiet_of_same (validOrZero_any _ _ _ _)))
    go_wp2_with fail
    refine (fromUnknown_any ts[0] _ _ _ (hat1.below (belowN (Below.refl _ _) _))).mono ?_
    rintro e w1 ⟨rfl, hbg⟩
    have hbz := (hbn _).trans (hbg.mono (hbn _).size)
    go_wp2_with fail
    go_ret
    exact ⟨ret_b HR.out.symm, hbz⟩
  have e5 : (k == 5) = false := by simpa using h5
  have f5 : (k != 5) = true := by simpa using h5
  by_cases h6 : k = 6
  case pos =>
    subst h6
    by_cases qlb : isLb l = true
    case neg =>
      have HR := hid (show nodeC 6 g l ts = false by simp [nodeC, qlb])
      have qlbn : isLb l = false := by simpa using qlb
      go_enter Try.func86, Try.ntmps86
      go_wp2_with fail
      go_quiet (first | (go_at_call 38; exact Calls.quiet_of_same (isLabel_any _ _)) | (go_at_call 109; exact Calls.quiet_of_same (validOrZero_any _ _ _ _)))
      go_wp2_with fail
      go_ret
      exact ⟨ret_b HR.out.symm, hbn _⟩
    have qlbt := qlb
    by_cases qn : ts.length = 0
    case neg =>
      have HR := hid (show nodeC 6 g l ts = false by simp [nodeC, qlb, qn])
      have qn1 : ((ts.length : Int) == 0) = false := by rw [beq_eq_false_iff_ne]; omega
      have qn2 : ((ts.length : Int) != 0) = true := by rw [bne_iff_ne]; omega
      clear qn
      go_enter Try.func86, Try.ntmps86
      go_wp2_with fail
      go_quiet (first | (go_at_call 38; exact Calls.quiet_of_same (isLabel_any _ _)) | (go_at_call 109; exact Calls.quiet_of_same (validOrZero_any _ _ _ _)))
      go_wp2_with fail
      go_ret
      exact ⟨ret_b HR.out.symm, hbn _⟩
    have qn1 : ((ts.length : Int) == 0) = true := by simp [qn]
    have qn2 : ((ts.length : Int) != 0) = false := by simp [qn]
    have Qn := hid qn
    clear qn
    by_cases qag : 2 ≤ g
    case neg =>
      have HR := hid (show nodeC 6 g l ts = false by simp [nodeC, qlb, Qn.out, qag])
      have qag1 : decide (2 ≤ g) = false := by simpa using qag
      have qag2 : decide (g ≥ 2) = false := by simpa using qag
      go_enter Try.func86, Try.ntmps86
      go_wp2_with fail
      go_quiet (first | (go_at_call 38; exact Calls.quiet_of_same (isLabel_any _ _)) | (go_at_call 109; exact Calls.quiet_of_same (validOrZero_any _ _ _ _)))
      go_wp2_with fail
      go_ret
      exact ⟨ret_b HR.out.symm, hbn _⟩
    have qag1 : decide (2 ≤ g) = true := by simpa using qag
    have qag2 : decide (g ≥ 2) = true := by simpa using qag
    by_cases qbg : g ≤ 5
    case neg =>
      have HR := hid (show nodeC 6 g l ts = false by simp [nodeC, qlb, Qn.out, qag, qbg])
      have qbg1 : decide (g ≤ 5) = false := by simpa using qbg
      go_enter Try.func86, Try.ntmps86
      go_wp2_with fail
      go_quiet (first | (go_at_call 38; exact Calls.quiet_of_same (isLabel_any _ _)) | (go_at_call 109; exact Calls.quiet_of_same (validOrZero_any _ _ _ _)))
      go_wp2_with fail
      go_ret
      exact ⟨ret_b HR.out.symm, hbn _⟩
    have qbg1 : decide (g ≤ 5) = true := by simpa using qbg
    have HR := hid (show nodeC 6 g l ts = true by simp [nodeC, qlb, Qn.out, qag, qbg])
    go_enter Try.func86, Try.ntmps86
    go_wp2_with fail
    go_quiet (first | (go_at_call 38; exact Calls.quiet_of_same (isLabel_any _ _)) | (go_at_call 109; exact Calls.quiet_of_same (validOrZero_any _ _ _ _)))
    go_wp2_with fail
    go_ret
    exact ⟨ret_b HR.out.symm, hbn _⟩
  have e6 : (k == 6) = false := by simpa using h6
  have f6 : (k != 6) = true := by simpa using h6
  have HR := hid (show nodeC k g l ts = false by simp [nodeC, h1, h2, h3, h4, h5, h6])
  by_cases ql : l = 0
  case neg =>
    have ql1 : (l == 0) = false := by simpa using ql
    go_enter Try.func86, Try.ntmps86
    go_wp2_with fail
    go_quiet (first | (go_at_call 38; exact Calls.quiet_of_same (isLabel_any _ _)) | (go_at_call 109; exact Calls.quiet_of_same (validOrZero_any _ _ _ _)))
    go_wp2_with fail
    go_ret
    exact ⟨ret_b HR.out.symm, hbn _⟩
  have ql1 : (l == 0) = true := by simpa using ql
  clear ql
  go_enter Try.func86, Try.ntmps86
  go_wp2_with fail
  go_quiet (first | (go_at_call 38; exact Calls.quiet_of_same (isLabel_any _ _)) | (go_at_call 109; exact Calls.quiet_of_same (validOrZero_any _ _ _ _)))
  go_wp2_with fail
  go_ret
  exact ⟨ret_b HR.out.symm, hbn _⟩

def CwC (d : Nat) : Prop := ∀ (t : Co) (v : Value) (fp : List Nat) (n : Int) (w : World), n ≤ 100 → n.toNat = d → t.At w v fp →
  Calls Try.prog 49 #[v, .int .i64 n] w fun e w' => e = .returned (.bool (shpK d t)) ∧ Below w.heap.size w w'

set_option maxHeartbeats 400000 in
theorem coercionWithin_zero : CwC 0 := by
  intro t v fp n w hn0 hn hat
  obtain ⟨k, g, l, m, a, cap, rfl⟩ := hat.agg
  have hn1 : n < 1 := by omega
  have hn2 : decide (n < 1) = true := by simp; omega
  clear hn
  go_enter Try.func49, Try.ntmps49
  go_wp2_with fail
  go_ret
  exact ⟨ret_b (by simp only [shpK]), (Below.refl _ _).alloc (Nat.le_refl _) _⟩

set_option maxHeartbeats 1000000 in
theorem coercionWithin_succ (d : Nat) (ih : CwC d) : CwC (d + 1) := by
  intro t v fp n w hn0 hn hat
  have HIH := hid ih
  clear ih
  obtain ⟨k, g, l, ts, rfl⟩ := t.shape
  have HAT := hid hat
  obtain ⟨s, rfl, hs⟩ := Co.at_mk.1 hat
  obtain ⟨a, cap, rfl, hc, hm, hget⟩ := hs.open
  have HG := hid hget
  clear hget hat hs
  have hb0 : Below w.heap.size w (w.alloc (Obj.cells #[.int .i64 k, .int .i64 g, .int .i64 l, .slice a ts.length cap] 30)) := (Below.refl _ _).alloc (Nat.le_refl _) _
  have hn1 : 1 ≤ n := by omega
  have hn2 : decide (n < 1) = false := by simp; omega
  have HN := hid hn
  clear hn
  have HT := hid (show shpK (d + 1) (.mk k g l ts) = (nodeC k g l ts && ts.all (shpK d)) by simp only [shpK])
  go_enter Try.func49, Try.ntmps49
  go_wp2_with fail
  refine (validNode_any k g l ts _ _ _ (HAT.out.below hb0)).mono ?_
  rintro e w0 ⟨rfl, hb1⟩
  generalize nodeC k g l ts = r at *
  cases r
  · go_wp2_with fail
    go_ret
    exact ⟨ret_b (by rw [HT.out, Bool.false_and]), alloc1 hb1⟩
  rw [Bool.true_and] at HT
  have HB1 := hid hb1
  obtain ⟨x0, x1, x2, x3⟩ := box4 hb1
  clear hb1
  go_wp2_with fail
  go_loopw [17] (fun i wr => ∃ j : Nat, j ≤ ts.length ∧ i = .int .i64 j ∧ (ts.drop j).all (shpK d) = ts.all (shpK d) ∧ Below (w.alloc (Obj.cells #[.int .i64 k, .int .i64 g, .int .i64 l, .slice a ts.length cap] 30)).heap.size (w.alloc (Obj.cells #[.int .i64 k, .int .i64 g, .int .i64 l, .slice a ts.length cap] 30)) wr) (fun i _ => ts.length - (intOf i).toNat)
  case atStart => exact ⟨0, Nat.zero_le _, rfl, rfl, HB1.out⟩
  case round =>
    obtain ⟨j, hj, rfl, hdr, hb⟩ := hrel
    have HD := hid hdr
    clear hdr x0 x1 x2 x3
    obtain ⟨x0, x1, x2, x3⟩ := box4 hb
    by_cases hlk : j < ts.length
    · obtain ⟨b, o, k1, g1, l1, n1, a1, cap1, f1, rfl, hblt, c0, c1, c2, c3, hat, hf⟩ := HG.out j hlk
      have hbw := alloc1 hb
      have d0 := (hbw.cell (p := ⟨b, o + j * 4, none⟩) hblt).trans c0
      have d1 := (hbw.cell (p := ⟨b, o + j * 4 + 1, none⟩) hblt).trans c1
      have d2 := (hbw.cell (p := ⟨b, o + j * 4 + 2, none⟩) hblt).trans c2
      have d3 := (hbw.cell (p := ⟨b, o + j * 4 + 3, none⟩) hblt).trans c3
      clear c0 c1 c2 c3
      have HST := hid (shpK_all (d := d) hlk)
      go_wp2_with fail
      refine (HIH.out _ _ _ _ _ (by omega) (by have := HN.out; omega) (hat.below ?_)).mono ?_
      · exact hbw.alloc (by have := hbw.size; omega) _
      rintro e w1 ⟨rfl, hb1⟩
      have hbb := hb.trans ((alloc1 hb1).mono hb.size)
      clear hb hb1 hat d0 d1 d2 d3 hbw
      generalize shpK d ts[j] = r at *
      cases r
      · go_wp2_with fail
        go_ret
        exact ⟨ret_b (by rw [HT.out, ← HD.out, HST.out, Bool.false_and]), alloc1 hbb⟩
      · go_wp2_with fail
        go_roundw
        case rel => exact ⟨j + 1, by omega, by go_num, by rw [← HD.out, HST.out, Bool.true_and], hbb⟩
        case measure => simp [intOf]; omega
    · go_wp2_with fail
      go_ret
      exact ⟨ret_b (by rw [HT.out, ← HD.out, List.drop_of_length_le (by omega), List.all_nil]), alloc1 hb⟩

theorem coercionWithin_any (d : Nat) : CwC d := by
  induction d with
  | zero => exact coercionWithin_zero
  | succ d ih => exact coercionWithin_succ d ih

theorem implCoercionValid_any (t : Co) (v : Value) (fp : List Nat) (w : World) (h : t.At w v fp) :
    Calls Try.prog 18 #[v] w fun e w' => e = .returned (.bool (vldK t)) ∧ Below w.heap.size w w' := by
  obtain ⟨k, g, l, m, a, cap, rfl⟩ := h.agg
  go_enter Try.func18, Try.ntmps18
  go_wp2_with fail
  refine (coercionWithin_any 9 t _ fp 9 _ (by omega) rfl (h.below ?_)).mono ?_
  · exact (Below.refl _ _).alloc (Nat.le_refl _) _
  rintro e w1 ⟨rfl, hb⟩
  generalize hr : shpK 9 t = r
  have HR := hid hr
  clear hr
  go_wp2_with fail
  go_ret
  exact ⟨ret_b HR.out.symm, alloc1 hb⟩
end Go.Proofs.Ytolhfcpmhhhjpaa
