/- The program's writeCoercion: the whole. -/
import Derived.Test.YtgekfnodmgkdaaaDoorFcX
import Derived.Test.YtgekfnodmgkdaaaDoorFcY
namespace Go.Proofs.YtgekfnodmgkdaaaDoor
open Go.RowKit

theorem writeCoercion_succ (d : Nat) (ih : WcX d) : WcX (d + 1) := by
  intro t v fp B b acc w hd hs hat hfp htab hBw hbw hacc hI
  obtain ⟨k, g, l, ts, rfl⟩ := t.shape
  obtain ⟨hn, _⟩ := shpK_node hs
  rcases nodeC_cases hn with ⟨rfl, rfl, rfl, hg1, hg2⟩ | ⟨rfl, rfl, rfl, x, y, rfl⟩ | ⟨rfl, rfl, rfl, x, y, rfl⟩ | ⟨rfl, rfl, rfl, x, rfl, _⟩ | ⟨rfl, rfl, _, x, rfl, _⟩ | ⟨rfl, rfl, _, hg1, hg2⟩
  · have hg : g = 1 ∨ g = 2 ∨ g = 3 := by omega
    rcases hg with rfl | rfl | rfl
    · exact wc_id1 d ih v fp B b acc w hd hs hat hfp htab hBw hbw hacc hI
    · exact wc_id2 d ih v fp B b acc w hd hs hat hfp htab hBw hbw hacc hI
    · exact wc_id3 d ih v fp B b acc w hd hs hat hfp htab hBw hbw hacc hI
  · exact wc_two2 d ih x y v fp B b acc w hd hs hat hfp htab hBw hbw hacc hI
  · exact wc_two3 d ih x y v fp B b acc w hd hs hat hfp htab hBw hbw hacc hI
  · exact wc_one4 d ih x v fp B b acc w hd hs hat hfp htab hBw hbw hacc hI
  · exact wc_one5 d ih x l v fp B b acc w hd hs hat hfp htab hBw hbw hacc hI
  · have hg : g = 2 ∨ g = 3 ∨ g = 4 ∨ g = 5 := by omega
    rcases hg with rfl | rfl | rfl | rfl
    · exact wc_fail2 d ih l v fp B b acc w hd hs hat hfp htab hBw hbw hacc hI
    · exact wc_fail3 d ih l v fp B b acc w hd hs hat hfp htab hBw hbw hacc hI
    · exact wc_fail4 d ih l v fp B b acc w hd hs hat hfp htab hBw hbw hacc hI
    · exact wc_fail5 d ih l v fp B b acc w hd hs hat hfp htab hBw hbw hacc hI

theorem writeCoercion_any : ∀ d : Nat, WcX d
  | 0 => fun t v fp B b acc w _ hs => by simp [shpK] at hs
  | d + 1 => writeCoercion_succ d (writeCoercion_any d)
end Go.Proofs.YtgekfnodmgkdaaaDoor
