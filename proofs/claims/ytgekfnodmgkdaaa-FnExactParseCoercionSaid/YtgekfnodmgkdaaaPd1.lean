/- The specification's l2Digits and l6Number, loosely: some number; of a label's own text the label. -/
import Derived.Test.YtgekfnodmgkdaaaPd0
namespace Go.Proofs.Ytgekfnodmgkdaaa
open Go.RowKit

theorem ext_size {s : ByteArray} {a q : Nat} (h : q ≤ s.size) : (s.extract a q).size = q - a := by
  rw [ByteArray.size_extract]
  omega

theorem ext_byt {s : ByteArray} {a q i : Nat} (h : q ≤ s.size) (hi : a + i < q) : byt (s.extract a q) i = byt s (a + i) := by
  have h1 : i < (s.extract a q).size := by rw [ext_size h]; omega
  rw [byt_ix h1, byt_ix (show a + i < s.size by omega)]
  rw [ByteArray.getElem_extract]

theorem TxtAt.get {s : ByteArray} : ∀ {l : List UInt8} {i k : Nat} (_h : TxtAt s i l) (hk : k < l.length), byt s (i + k) = (l[k]).toNat ∧ i + k < s.size
  | c :: l, i, 0, h, _ => ⟨h.1, h.2.1⟩
  | c :: l, i, k + 1, h, hk => by
    have := TxtAt.get (k := k) h.2.2 (by simpa using hk)
    rw [show i + (k + 1) = i + 1 + k by omega]
    simpa using this

/-- Where the digits of a label's text end, and what they say. -/
theorem dig_exact {s : ByteArray} {a q n : Nat} {ok : Bool} (h1 : a ≤ q) (h2 : q ≤ s.size) (h3 : q ≤ a + 4) (hd : ∀ i, a ≤ i → i < q → isDg (byt s i) = true) (hex : q = s.size ∨ q = a + 4 ∨ isDg (byt s q) = false)
    (hx : 1 ≤ (s.extract a q).size → byt (s.extract a q) 0 ≠ 48 → ok = true ∧ NumV (s.extract a q) (s.extract a q).size n) {u : Nat} (hu1 : 1 ≤ u) (hu2 : u ≤ 99) (ht : TxtAt s a (Lib.decDigits u)) (he : isDg (byt s (a + (Lib.decDigits u).length)) = false) :
    q = a + (Lib.decDigits u).length ∧ ok = true ∧ n = u := by
  have hle : q ≤ a + (Lib.decDigits u).length := by
    by_cases h : q ≤ a + (Lib.decDigits u).length
    · exact h
    · have := hd (a + (Lib.decDigits u).length) (by omega) (by omega)
      rw [he] at this
      cases this
  by_cases hu : u < 10
  · rw [dec_one hu] at ht hle ⊢
    simp only [TxtAt, ofNat_dg hu] at ht
    simp only [List.length_cons, List.length_nil, Nat.zero_add] at hle ⊢
    have hq : q = a + 1 := by
      by_cases h : q = a
      · subst h
        rcases hex with h | h | h
        · omega
        · omega
        · rw [ht.1] at h; simp [isDg] at h; omega
      · omega
    subst hq
    have e0 : byt (s.extract a (a + 1)) 0 = 48 + u := by rw [ext_byt h2 (by omega)]; exact ht.1
    have es : (s.extract a (a + 1)).size = 1 := by rw [ext_size h2]; omega
    obtain ⟨g1, g2⟩ := hx (by omega) (by omega)
    rw [es] at g2
    have := g2.2.2.1 rfl
    exact ⟨rfl, g1, by omega⟩
  · rw [dec_two (by omega) (by omega)] at ht hle ⊢
    simp only [TxtAt, ofNat_dg (show u / 10 < 10 by omega), ofNat_dg (show u % 10 < 10 by omega)] at ht
    simp only [List.length_cons, List.length_nil, Nat.zero_add] at hle ⊢
    have hq : q = a + 2 := by
      by_cases h : q = a
      · subst h
        rcases hex with h | h | h
        · omega
        · omega
        · rw [ht.1] at h; simp [isDg] at h; omega
      · by_cases h' : q = a + 1
        · subst h'
          rcases hex with h | h | h
          · omega
          · omega
          · rw [ht.2.2.1] at h; simp [isDg] at h; omega
        · omega
    subst hq
    have e0 : byt (s.extract a (a + 2)) 0 = 48 + u / 10 := by rw [ext_byt h2 (by omega)]; exact ht.1
    have e1 : byt (s.extract a (a + 2)) 1 = 48 + u % 10 := by rw [ext_byt h2 (by omega)]; exact ht.2.2.1
    have es : (s.extract a (a + 2)).size = 2 := by rw [ext_size h2]; omega
    obtain ⟨g1, g2⟩ := hx (by omega) (by omega)
    rw [es] at g2
    have := g2.2.2.2 rfl
    exact ⟨rfl, g1, by omega⟩

/-- What l2Digits says. -/
def DigX (s : ByteArray) (at0 : Nat) (w : World) (e : Ending) (w' : World) : Prop :=
  ∃ (n : Nat) (p : Int), e = .returned (.tuple #[.int .i64 (n : Int), .int .i64 p]) ∧ n ≤ 9999 ∧ (p = -1 ∨ ∃ q : Nat, p = (q : Int) ∧ at0 ≤ q ∧ q ≤ s.size) ∧
    (∀ u, 1 ≤ u → u ≤ 99 → TxtAt s at0 (Lib.decDigits u) → isDg (byt s (at0 + (Lib.decDigits u).length)) = false → n = u ∧ p = ((at0 + (Lib.decDigits u).length : Nat) : Int)) ∧ Below w.heap.size w w'

set_option linter.unusedVariables false in
set_option linter.unusedSimpArgs false in
set_option maxHeartbeats 4000000 in
theorem l2Digits_any (s : ByteArray) (at0 : Nat) (w : World) (hs : s.size ≤ 1048576) (ha : at0 ≤ s.size) : Calls Try.prog 75 #[.string s, .int .i64 (at0 : Int)] w (DigX s at0 w) := by
  have hw4 : IntKind.i64.wrap ((at0 : Int) + 4) = (at0 : Int) + 4 := by rw [IntKind.wrap_i64]; omega
  go_enter Try.func75, Try.ntmps75
  go_wp2_with fail
  go_loopw [6] (fun i wr => ∃ q : Nat, i = .int .i64 (q : Int) ∧ at0 ≤ q ∧ q ≤ s.size ∧ q ≤ at0 + 4 ∧ (∀ i, at0 ≤ i → i < q → isDg (byt s i) = true) ∧ Below w.heap.size w wr) (fun i _ => s.size - (intOf i).toNat)
  case atStart => exact ⟨at0, rfl, Nat.le_refl _, ha, by omega, fun i h1 h2 => by omega, by first | exact Below.refl _ _ | exact below_drew _⟩
  case round =>
    obtain ⟨q, rfl, hq1, hq2, hq3, hdg, hb⟩ := hrel
    by_cases c1 : q < s.size
    case neg =>
      have k1 : ¬ ((q : Int) < (s.size : Int)) := by omega
      have HEX := hid (show q = s.size ∨ q = at0 + 4 ∨ isDg (byt s q) = false from .inl (by omega))
      have HLOW := hid (And.intro hq1 (And.intro hq2 hq3))
      have HN := hid (fun w0 => l18Num_dg (s.extract at0 q) w0 (by rw [ext_size hq2]; omega) (fun i hi => by rw [ext_size hq2] at hi; rw [ext_byt hq2 (by omega)]; exact hdg (at0 + i) (by omega) (by omega)))
      have HDG := hid hdg
      have HB := hid hb
      clear hdg hb
      go_wp2_with fail
      refine (HN.out _).mono ?_
      rintro e w2 ⟨n, ok, rfl, hn, hex, hb2⟩
      have HX := hid hex
      have HB2 := hid (HB.out.trans (hb2.mono HB.out.size))
      clear hex hb2
      cases ok
      · have HU := hid (show ∀ u, 1 ≤ u → u ≤ 99 → TxtAt s at0 (Lib.decDigits u) → isDg (byt s (at0 + (Lib.decDigits u).length)) = false → False from fun u h1 h2 h3 h4 => by
          obtain ⟨_, hok, _⟩ := dig_exact HLOW.out.1 HLOW.out.2.1 HLOW.out.2.2 HDG.out HEX.out HX.out h1 h2 h3 h4
          cases hok)
        go_wp2_with fail
        exact bodyPost_ret (v := .tuple #[.int .i64 0, .int .i64 (-1)]) (by simp [results, Try.results75, go_sem]) rfl ⟨0, -1, rfl, by omega, .inl rfl, fun u h1 h2 h3 h4 => (HU.out u h1 h2 h3 h4).elim, HB2.out⟩
      · have HU := hid (show ∀ u, 1 ≤ u → u ≤ 99 → TxtAt s at0 (Lib.decDigits u) → isDg (byt s (at0 + (Lib.decDigits u).length)) = false → n = u ∧ (q : Int) = ((at0 + (Lib.decDigits u).length : Nat) : Int) from fun u h1 h2 h3 h4 => by
          obtain ⟨hq, _, hnu⟩ := dig_exact HLOW.out.1 HLOW.out.2.1 HLOW.out.2.2 HDG.out HEX.out HX.out h1 h2 h3 h4
          exact ⟨hnu, by omega⟩)
        go_wp2_with fail
        exact bodyPost_ret (v := .tuple #[.int .i64 (n : Int), .int .i64 (q : Int)]) (by simp [results, Try.results75, go_sem]) rfl ⟨n, (q : Int), rfl, hn, .inr ⟨q, rfl, HLOW.out.1, HLOW.out.2.1⟩, HU.out, HB2.out⟩
    have k1 : (q : Int) < (s.size : Int) := by omega
    by_cases c2 : q < at0 + 4
    case neg =>
      have k2 : ¬ ((q : Int) < (at0 : Int) + 4) := by omega
      have HEX := hid (show q = s.size ∨ q = at0 + 4 ∨ isDg (byt s q) = false from .inr (.inl (by omega)))
      have HLOW := hid (And.intro hq1 (And.intro hq2 hq3))
      have HN := hid (fun w0 => l18Num_dg (s.extract at0 q) w0 (by rw [ext_size hq2]; omega) (fun i hi => by rw [ext_size hq2] at hi; rw [ext_byt hq2 (by omega)]; exact hdg (at0 + i) (by omega) (by omega)))
      have HDG := hid hdg
      have HB := hid hb
      clear hdg hb
      go_wp2_with fail
      refine (HN.out _).mono ?_
      rintro e w2 ⟨n, ok, rfl, hn, hex, hb2⟩
      have HX := hid hex
      have HB2 := hid (HB.out.trans (hb2.mono HB.out.size))
      clear hex hb2
      cases ok
      · have HU := hid (show ∀ u, 1 ≤ u → u ≤ 99 → TxtAt s at0 (Lib.decDigits u) → isDg (byt s (at0 + (Lib.decDigits u).length)) = false → False from fun u h1 h2 h3 h4 => by
          obtain ⟨_, hok, _⟩ := dig_exact HLOW.out.1 HLOW.out.2.1 HLOW.out.2.2 HDG.out HEX.out HX.out h1 h2 h3 h4
          cases hok)
        go_wp2_with fail
        exact bodyPost_ret (v := .tuple #[.int .i64 0, .int .i64 (-1)]) (by simp [results, Try.results75, go_sem]) rfl ⟨0, -1, rfl, by omega, .inl rfl, fun u h1 h2 h3 h4 => (HU.out u h1 h2 h3 h4).elim, HB2.out⟩
      · have HU := hid (show ∀ u, 1 ≤ u → u ≤ 99 → TxtAt s at0 (Lib.decDigits u) → isDg (byt s (at0 + (Lib.decDigits u).length)) = false → n = u ∧ (q : Int) = ((at0 + (Lib.decDigits u).length : Nat) : Int) from fun u h1 h2 h3 h4 => by
          obtain ⟨hq, _, hnu⟩ := dig_exact HLOW.out.1 HLOW.out.2.1 HLOW.out.2.2 HDG.out HEX.out HX.out h1 h2 h3 h4
          exact ⟨hnu, by omega⟩)
        go_wp2_with fail
        exact bodyPost_ret (v := .tuple #[.int .i64 (n : Int), .int .i64 (q : Int)]) (by simp [results, Try.results75, go_sem]) rfl ⟨n, (q : Int), rfl, hn, .inr ⟨q, rfl, HLOW.out.1, HLOW.out.2.1⟩, HU.out, HB2.out⟩
    have k2 : (q : Int) < (at0 : Int) + 4 := by omega
    have hbq := byt_ix c1
    by_cases c3 : 48 ≤ byt s q
    case neg =>
      have k3 : ¬ ((48 : Int) ≤ ((s[q]'c1).toNat : Int)) := by omega
      have HEX := hid (show q = s.size ∨ q = at0 + 4 ∨ isDg (byt s q) = false from .inr (.inr (by simp [isDg, c3])))
      have HLOW := hid (And.intro hq1 (And.intro hq2 hq3))
      have HN := hid (fun w0 => l18Num_dg (s.extract at0 q) w0 (by rw [ext_size hq2]; omega) (fun i hi => by rw [ext_size hq2] at hi; rw [ext_byt hq2 (by omega)]; exact hdg (at0 + i) (by omega) (by omega)))
      have HDG := hid hdg
      have HB := hid hb
      clear hdg hb
      go_wp2_with fail
      refine (HN.out _).mono ?_
      rintro e w2 ⟨n, ok, rfl, hn, hex, hb2⟩
      have HX := hid hex
      have HB2 := hid (HB.out.trans (hb2.mono HB.out.size))
      clear hex hb2
      cases ok
      · have HU := hid (show ∀ u, 1 ≤ u → u ≤ 99 → TxtAt s at0 (Lib.decDigits u) → isDg (byt s (at0 + (Lib.decDigits u).length)) = false → False from fun u h1 h2 h3 h4 => by
          obtain ⟨_, hok, _⟩ := dig_exact HLOW.out.1 HLOW.out.2.1 HLOW.out.2.2 HDG.out HEX.out HX.out h1 h2 h3 h4
          cases hok)
        go_wp2_with fail
        exact bodyPost_ret (v := .tuple #[.int .i64 0, .int .i64 (-1)]) (by simp [results, Try.results75, go_sem]) rfl ⟨0, -1, rfl, by omega, .inl rfl, fun u h1 h2 h3 h4 => (HU.out u h1 h2 h3 h4).elim, HB2.out⟩
      · have HU := hid (show ∀ u, 1 ≤ u → u ≤ 99 → TxtAt s at0 (Lib.decDigits u) → isDg (byt s (at0 + (Lib.decDigits u).length)) = false → n = u ∧ (q : Int) = ((at0 + (Lib.decDigits u).length : Nat) : Int) from fun u h1 h2 h3 h4 => by
          obtain ⟨hq, _, hnu⟩ := dig_exact HLOW.out.1 HLOW.out.2.1 HLOW.out.2.2 HDG.out HEX.out HX.out h1 h2 h3 h4
          exact ⟨hnu, by omega⟩)
        go_wp2_with fail
        exact bodyPost_ret (v := .tuple #[.int .i64 (n : Int), .int .i64 (q : Int)]) (by simp [results, Try.results75, go_sem]) rfl ⟨n, (q : Int), rfl, hn, .inr ⟨q, rfl, HLOW.out.1, HLOW.out.2.1⟩, HU.out, HB2.out⟩
    have k3 : (48 : Int) ≤ ((s[q]'c1).toNat : Int) := by omega
    by_cases c4 : byt s q ≤ 57
    case neg =>
      have k4 : ¬ (((s[q]'c1).toNat : Int) ≤ 57) := by omega
      have HEX := hid (show q = s.size ∨ q = at0 + 4 ∨ isDg (byt s q) = false from .inr (.inr (by simp [isDg, c4])))
      have HLOW := hid (And.intro hq1 (And.intro hq2 hq3))
      have HN := hid (fun w0 => l18Num_dg (s.extract at0 q) w0 (by rw [ext_size hq2]; omega) (fun i hi => by rw [ext_size hq2] at hi; rw [ext_byt hq2 (by omega)]; exact hdg (at0 + i) (by omega) (by omega)))
      have HDG := hid hdg
      have HB := hid hb
      clear hdg hb
      go_wp2_with fail
      refine (HN.out _).mono ?_
      rintro e w2 ⟨n, ok, rfl, hn, hex, hb2⟩
      have HX := hid hex
      have HB2 := hid (HB.out.trans (hb2.mono HB.out.size))
      clear hex hb2
      cases ok
      · have HU := hid (show ∀ u, 1 ≤ u → u ≤ 99 → TxtAt s at0 (Lib.decDigits u) → isDg (byt s (at0 + (Lib.decDigits u).length)) = false → False from fun u h1 h2 h3 h4 => by
          obtain ⟨_, hok, _⟩ := dig_exact HLOW.out.1 HLOW.out.2.1 HLOW.out.2.2 HDG.out HEX.out HX.out h1 h2 h3 h4
          cases hok)
        go_wp2_with fail
        exact bodyPost_ret (v := .tuple #[.int .i64 0, .int .i64 (-1)]) (by simp [results, Try.results75, go_sem]) rfl ⟨0, -1, rfl, by omega, .inl rfl, fun u h1 h2 h3 h4 => (HU.out u h1 h2 h3 h4).elim, HB2.out⟩
      · have HU := hid (show ∀ u, 1 ≤ u → u ≤ 99 → TxtAt s at0 (Lib.decDigits u) → isDg (byt s (at0 + (Lib.decDigits u).length)) = false → n = u ∧ (q : Int) = ((at0 + (Lib.decDigits u).length : Nat) : Int) from fun u h1 h2 h3 h4 => by
          obtain ⟨hq, _, hnu⟩ := dig_exact HLOW.out.1 HLOW.out.2.1 HLOW.out.2.2 HDG.out HEX.out HX.out h1 h2 h3 h4
          exact ⟨hnu, by omega⟩)
        go_wp2_with fail
        exact bodyPost_ret (v := .tuple #[.int .i64 (n : Int), .int .i64 (q : Int)]) (by simp [results, Try.results75, go_sem]) rfl ⟨n, (q : Int), rfl, hn, .inr ⟨q, rfl, HLOW.out.1, HLOW.out.2.1⟩, HU.out, HB2.out⟩
    have k4 : ((s[q]'c1).toNat : Int) ≤ 57 := by omega
    have HDG := hid (show ∀ i, at0 ≤ i → i < q + 1 → isDg (byt s i) = true from fun i h1 h2 => by
      by_cases h : i = q
      · subst h; simp [isDg, c3, c4]
      · exact hdg i h1 (by omega))
    have HB := hid hb
    clear hdg hb hbq
    go_wp2_with fail
    go_roundw
    case rel => exact ⟨q + 1, by go_num, by omega, by omega, by omega, HDG.out, HB.out⟩
    case measure => simp [intOf]; omega
end Go.Proofs.Ytgekfnodmgkdaaa
