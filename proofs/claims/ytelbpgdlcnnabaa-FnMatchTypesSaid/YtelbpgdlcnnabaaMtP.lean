/- Matching is consistency, plainly. -/
import Derived.Test.YtelbpgdlcnnabaaDlP
import Derived.Test.YtelbpgdlcnnabaaMtcI
namespace Go.Proofs.Ytelbpgdlcnnabaa
open Go.RowKit

theorem mt_cons (q : Int) (hq : q = 4 ∨ q = 5) (t : Ty) : mtOk q t = consOf t (.mk q [.mk 1 [], .mk 1 []]) := by
  have hv2 : vld (.mk q [.mk 1 [], .mk 1 []]) = true := by rcases hq with rfl | rfl <;> decide
  simp only [mtOk, consOf, hv2, Bool.and_true]
  cases hv : vld t with
  | false => rfl
  | true =>
    simp only [Bool.true_and]
    obtain ⟨k, ts, rfl⟩ := t.shape
    have hs : shp 4 (.mk k ts) = true := hv
    have hk : knd (.mk k ts) = k := rfl
    rw [hk]
    by_cases h1 : k = 1
    · subst h1
      rw [cons_any (.inl rfl)]
      rfl
    · by_cases h2 : k = q
      · subst h2
        obtain ⟨a, b, rfl⟩ := two_of hq hv
        rw [cons_two hq, cons_any (.inr rfl), cons_any (.inr rfl)]
        simp
      · have e1 : (k == 1) = false := by simpa using h1
        have e2 : (k == q) = false := by simpa using h2
        rw [e1, e2, cons_diff (a := .mk k ts) h1 (show kindT (.mk q [.mk 1 [], .mk 1 []]) ≠ 1 by show q ≠ 1; omega) h2]
        rfl
end Go.Proofs.Ytelbpgdlcnnabaa
