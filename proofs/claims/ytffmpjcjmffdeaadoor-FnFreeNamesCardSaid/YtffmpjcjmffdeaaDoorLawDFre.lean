/- The law FnFreeNames: it returns true and writes nothing that was there. -/
import Derived.Test.YtffmpjcjmffdeaaDoorDwFre
import Derived.Test.YtffmpjcjmffdeaaDoorPkE
import Derived.Test.YtffmpjcjmffdeaaDoorFr2
import Derived.Test.YtffmpjcjmffdeaaDoorFrX
namespace Go.Proofs.YtffmpjcjmffdeaaDoor
open Go.RowKit

set_option linter.unusedSimpArgs false in
set_option linter.unusedVariables false in
set_option maxRecDepth 100000 in
set_option maxHeartbeats 8000000 in
theorem lawDFre (a00 : Option Addr) (n00 cap00 : Nat) (w : World) (hF : Forms w) (hB0 : BytA w a00 n00) (hn0 : n00 ≤ cap00) (hm0 : cap00 ≤ maxLen) :
    Calls Tryd.prog 9 #[.slice a00 n00 cap00] w fun e w' => e = .returned (.bool true) ∧ Below w.heap.size w w' := by
  by_cases hl0 : (n00 : Int) > 1048576
  · clear hB0
    go_enter Tryd.func9, Tryd.ntmps9
    go_wp2_with fail
    go_ret
    exact ⟨rfl, Below.refl _ _⟩
  have HD := hid (drawFreeNames_any a00 n00 cap00 w hB0 hn0 hm0)
  have HF := hid hF
  clear hB0 hF
  go_enter Tryd.func9, Tryd.ntmps9
  go_wp2_with fail
  refine HD.out.mono ?_
  rintro e z ⟨t, v, f, rfl, hts, hat, hfz, hbz⟩
  obtain ⟨k, nm, num, k1, n1, a1, c1, k2, n2, a2, c2, lb, n3, a3, c3, rfl⟩ := hat.agg
  have hba : Below z.heap.size z (z.alloc (Obj.cells #[.int .i64 k, .string nm, .int .i64 num, .int .i64 k1, .slice a1 n1 c1, .int .i64 k2, .slice a2 n2 c2, .int .i64 lb, .slice a3 n3 c3] 35)) := (Below.refl _ _).alloc (Nat.le_refl _) _
  have hbb := below_trans hbz hba
  have HBB := hid hbb
  have HFB := hid (HF.out.below hbb)
  have HAT := hid (hat.below hba)
  have HBX := hid (alloc_new z (Obj.cells #[.int .i64 k, .string nm, .int .i64 num, .int .i64 k1, .slice a1 n1 c1, .int .i64 k2, .slice a2 n2 c2, .int .i64 lb, .slice a3 n3 c3] 35))
  have HTS := hid hts
  have HIF := hid (implFreeNames t _ _ _ (by omega) HFB.out HAT.out)
  have hsz : (z.alloc (Obj.cells #[.int .i64 k, .string nm, .int .i64 num, .int .i64 k1, .slice a1 n1 c1, .int .i64 k2, .slice a2 n2 c2, .int .i64 lb, .slice a3 n3 c3] 35)).heap.size = z.heap.size + 1 := by simp
  clear hat hfz hbz hba hbb hts
  go_wp2_with fail
  refine HIF.out.mono ?_
  rintro e w3 ⟨rfl, hb3⟩
  have hE3 := (hb3.block _ (by omega)).trans HBX.out
  obtain ⟨x0, x1, x2, x3, x4, x5, x6, x7, x8⟩ := cells9 hE3
  have hb5 : Below w3.heap.size w3 ((w3.alloc (Obj.cells #[.int .i64 k, .string nm, .int .i64 num, .int .i64 k1, .slice a1 n1 c1, .int .i64 k2, .slice a2 n2 c2, .int .i64 lb, .slice a3 n3 c3] 35)).alloc (Obj.cells #[.int .i64 5, .string ⟨#[120]⟩, .int .i64 0, .int .i64 1, .slice none 0 0, .int .i64 0, .slice none 0 0, .int .i64 0, .slice (some ⟨w3.heap.size, 0, none⟩) 1 1] 35)) := ((Below.refl _ _).alloc (Nat.le_refl _) _).alloc (by simp) _
  have hlt3 : z.heap.size < w3.heap.size := lt_of_block hE3
  have HE3 := hid hE3
  have HB3 := hid (below_trans HBB.out hb3)
  have HF5 := hid ((HFB.out.below hb3).below hb5)
  have HAT5 := hid ((HAT.out.below hb3).below hb5)
  have HB5 := hid hb5
  obtain ⟨hq1, hq2⟩ := two_out (Below.refl (((w3.alloc (Obj.cells #[.int .i64 k, .string nm, .int .i64 num, .int .i64 k1, .slice a1 n1 c1, .int .i64 k2, .slice a2 n2 c2, .int .i64 lb, .slice a3 n3 c3] 35)).alloc (Obj.cells #[.int .i64 5, .string ⟨#[120]⟩, .int .i64 0, .int .i64 1, .slice none 0 0, .int .i64 0, .slice none 0 0, .int .i64 0, .slice (some ⟨w3.heap.size, 0, none⟩) 1 1] 35))).heap.size ((w3.alloc (Obj.cells #[.int .i64 k, .string nm, .int .i64 num, .int .i64 k1, .slice a1 n1 c1, .int .i64 k2, .slice a2 n2 c2, .int .i64 lb, .slice a3 n3 c3] 35)).alloc (Obj.cells #[.int .i64 5, .string ⟨#[120]⟩, .int .i64 0, .int .i64 1, .slice none 0 0, .int .i64 0, .slice none 0 0, .int .i64 0, .slice (some ⟨w3.heap.size, 0, none⟩) 1 1] 35)))
  have HQ1 := hid hq1
  have HQ2 := hid hq2
  have HATF := hid (show (lamX t).At ((w3.alloc (Obj.cells #[.int .i64 k, .string nm, .int .i64 num, .int .i64 k1, .slice a1 n1 c1, .int .i64 k2, .slice a2 n2 c2, .int .i64 lb, .slice a3 n3 c3] 35)).alloc (Obj.cells #[.int .i64 5, .string ⟨#[120]⟩, .int .i64 0, .int .i64 1, .slice none 0 0, .int .i64 0, .slice none 0 0, .int .i64 0, .slice (some ⟨w3.heap.size, 0, none⟩) 1 1] 35)) (.agg #[.int .i64 5, .string ⟨#[120]⟩, .int .i64 0, .int .i64 1, .slice none 0 0, .int .i64 0, .slice none 0 0, .int .i64 0, .slice (some ⟨w3.heap.size, 0, none⟩) 1 1]) (w3.heap.size :: f) from
    Tm.at_mk.2 ⟨_, _, _, _, _, [], [], w3.heap.size :: f, rfl, by decide, Ty.at_mk.2 ⟨_, rfl, .inl ⟨rfl, rfl, _, _, rfl⟩⟩, Ty.at_mk.2 ⟨_, rfl, .inl ⟨rfl, rfl, _, _, rfl⟩⟩, rfl,
      .inr ⟨w3.heap.size, 0, 1, f, rfl, by simp, Nat.le_refl _, by unfold maxLen; simp, ⟨#[.int .i64 k, .string nm, .int .i64 num, .int .i64 k1, .slice a1 n1 c1, .int .i64 k2, .slice a2 n2 c2, .int .i64 lb, .slice a3 n3 c3], f, [], fun i hi => by rw [Nat.zero_add, cell_of_block HQ1.out], HAT5.out, rfl, by simp⟩, rfl⟩⟩)
  have HSF := hid (fun (W : World) (h : Below (((w3.alloc (Obj.cells #[.int .i64 k, .string nm, .int .i64 num, .int .i64 k1, .slice a1 n1 c1, .int .i64 k2, .slice a2 n2 c2, .int .i64 lb, .slice a3 n3 c3] 35)).alloc (Obj.cells #[.int .i64 5, .string ⟨#[120]⟩, .int .i64 0, .int .i64 1, .slice none 0 0, .int .i64 0, .slice none 0 0, .int .i64 0, .slice (some ⟨w3.heap.size, 0, none⟩) 1 1] 35))).heap.size ((w3.alloc (Obj.cells #[.int .i64 k, .string nm, .int .i64 num, .int .i64 k1, .slice a1 n1 c1, .int .i64 k2, .slice a2 n2 c2, .int .i64 lb, .slice a3 n3 c3] 35)).alloc (Obj.cells #[.int .i64 5, .string ⟨#[120]⟩, .int .i64 0, .int .i64 1, .slice none 0 0, .int .i64 0, .slice none 0 0, .int .i64 0, .slice (some ⟨w3.heap.size, 0, none⟩) 1 1] 35)) W) => specFreeNames t _ _ W (by have := HTS.out; omega) (HAT5.out.below h))
  have HTV := hid (fun (W : World) (h : Below (((w3.alloc (Obj.cells #[.int .i64 k, .string nm, .int .i64 num, .int .i64 k1, .slice a1 n1 c1, .int .i64 k2, .slice a2 n2 c2, .int .i64 lb, .slice a3 n3 c3] 35)).alloc (Obj.cells #[.int .i64 5, .string ⟨#[120]⟩, .int .i64 0, .int .i64 1, .slice none 0 0, .int .i64 0, .slice none 0 0, .int .i64 0, .slice (some ⟨w3.heap.size, 0, none⟩) 1 1] 35))).heap.size ((w3.alloc (Obj.cells #[.int .i64 k, .string nm, .int .i64 num, .int .i64 k1, .slice a1 n1 c1, .int .i64 k2, .slice a2 n2 c2, .int .i64 lb, .slice a3 n3 c3] 35)).alloc (Obj.cells #[.int .i64 5, .string ⟨#[120]⟩, .int .i64 0, .int .i64 1, .slice none 0 0, .int .i64 0, .slice none 0 0, .int .i64 0, .slice (some ⟨w3.heap.size, 0, none⟩) 1 1] 35)) W) => implTermValid (lamX t) _ _ W (HF5.out.below h) (HATF.out.below h))
  have HFL := hid (fun (W : World) (h : Below (((w3.alloc (Obj.cells #[.int .i64 k, .string nm, .int .i64 num, .int .i64 k1, .slice a1 n1 c1, .int .i64 k2, .slice a2 n2 c2, .int .i64 lb, .slice a3 n3 c3] 35)).alloc (Obj.cells #[.int .i64 5, .string ⟨#[120]⟩, .int .i64 0, .int .i64 1, .slice none 0 0, .int .i64 0, .slice none 0 0, .int .i64 0, .slice (some ⟨w3.heap.size, 0, none⟩) 1 1] 35))).heap.size ((w3.alloc (Obj.cells #[.int .i64 k, .string nm, .int .i64 num, .int .i64 k1, .slice a1 n1 c1, .int .i64 k2, .slice a2 n2 c2, .int .i64 lb, .slice a3 n3 c3] 35)).alloc (Obj.cells #[.int .i64 5, .string ⟨#[120]⟩, .int .i64 0, .int .i64 1, .slice none 0 0, .int .i64 0, .slice none 0 0, .int .i64 0, .slice (some ⟨w3.heap.size, 0, none⟩) 1 1] 35)) W) => implFreeNames (lamX t) _ _ W (by have := HTS.out; simp only [lamX, Tm.sz, szML, Ty.cnt, cntL, List.length_cons, List.length_nil, show (⟨#[120]⟩ : ByteArray).size = 1 from rfl]; omega) (HF5.out.below h) (HATF.out.below h))
  obtain ⟨y0, y1, y2, y3, y4, y5, y6, y7, y8⟩ := cells9 hq2
  have HX5 := hid (fun (W : World) (h : Below (((w3.alloc (Obj.cells #[.int .i64 k, .string nm, .int .i64 num, .int .i64 k1, .slice a1 n1 c1, .int .i64 k2, .slice a2 n2 c2, .int .i64 lb, .slice a3 n3 c3] 35)).alloc (Obj.cells #[.int .i64 5, .string ⟨#[120]⟩, .int .i64 0, .int .i64 1, .slice none 0 0, .int .i64 0, .slice none 0 0, .int .i64 0, .slice (some ⟨w3.heap.size, 0, none⟩) 1 1] 35))).heap.size ((w3.alloc (Obj.cells #[.int .i64 k, .string nm, .int .i64 num, .int .i64 k1, .slice a1 n1 c1, .int .i64 k2, .slice a2 n2 c2, .int .i64 lb, .slice a3 n3 c3] 35)).alloc (Obj.cells #[.int .i64 5, .string ⟨#[120]⟩, .int .i64 0, .int .i64 1, .slice none 0 0, .int .i64 0, .slice none 0 0, .int .i64 0, .slice (some ⟨w3.heap.size, 0, none⟩) 1 1] 35)) W) => cells9 ((h.block z.heap.size (by have := hb5.size; omega)).trans ((hb5.block z.heap.size (by omega)).trans hE3)))
  have HY5 := hid (fun (W : World) (h : Below (((w3.alloc (Obj.cells #[.int .i64 k, .string nm, .int .i64 num, .int .i64 k1, .slice a1 n1 c1, .int .i64 k2, .slice a2 n2 c2, .int .i64 lb, .slice a3 n3 c3] 35)).alloc (Obj.cells #[.int .i64 5, .string ⟨#[120]⟩, .int .i64 0, .int .i64 1, .slice none 0 0, .int .i64 0, .slice none 0 0, .int .i64 0, .slice (some ⟨w3.heap.size, 0, none⟩) 1 1] 35))).heap.size ((w3.alloc (Obj.cells #[.int .i64 k, .string nm, .int .i64 num, .int .i64 k1, .slice a1 n1 c1, .int .i64 k2, .slice a2 n2 c2, .int .i64 lb, .slice a3 n3 c3] 35)).alloc (Obj.cells #[.int .i64 5, .string ⟨#[120]⟩, .int .i64 0, .int .i64 1, .slice none 0 0, .int .i64 0, .slice none 0 0, .int .i64 0, .slice (some ⟨w3.heap.size, 0, none⟩) 1 1] 35)) W) => cells9 (two_out h).2)
  have HS := hid (show vldM (lamX t) = true → freeS t = ⟨(lst (frN 0 0 t)).toArray⟩ from free_body)
  have HL := hid (show vldM (lamX t) = true → freeS (lamX t) = ⟨(noX (lst (frN 0 0 t))).toArray⟩ from free_lamX)
  have hL26 := lst_len (frN 0 0 t)
  generalize freeS t = S at *
  generalize freeS (lamX t) = SX at *
  generalize lst (frN 0 0 t) = L at *
  clear hb3 hE3 hb5 hq1 hq2
  go_wp2_with fail
  obtain ⟨x0, x1, x2, x3, x4, x5, x6, x7, x8⟩ := HX5.out _ (Below.refl _ _)
  refine (HSF.out _ (Below.refl _ _)).mono ?_
  rintro e w6 ⟨rfl, hb6⟩
  obtain ⟨y0, y1, y2, y3, y4, y5, y6, y7, y8⟩ := HY5.out w6 hb6
  go_wp2_with fail
  refine (HTV.out w6 hb6).mono ?_
  rintro e w7 ⟨rfl, hb7⟩
  have hb67 := below_trans hb6 hb7
  have HB7 := hid hb67
  obtain ⟨x0, x1, x2, x3, x4, x5, x6, x7, x8⟩ := HX5.out w7 hb67
  obtain ⟨y0, y1, y2, y3, y4, y5, y6, y7, y8⟩ := HY5.out w7 hb67
  have HSF2 := hid (HSF.out w7 hb67)
  have HFL2 := hid (HFL.out w7 hb67)
  have HB8 := hid (below_trans HB3.out (below_trans HB5.out hb67))
  clear hb6 hb7 hb67
  cases hv : vldM (lamX t) with
  | false =>
    clear hv
    go_wp2_with fail
    refine HSF2.out.mono ?_
    rintro e w8 ⟨rfl, hb8⟩
    have HB9 := hid (below_trans HB8.out hb8)
    clear hb8
    go_wp2_with fail
    go_ret
    exact ⟨rfl, HB9.out⟩
  | true =>
    have HSE := hid (HS.out hv)
    have HLE := hid (HL.out hv)
    have HSD := hid (show S.data.toList = L by rw [HSE.out])
    have hSz : S.size = L.length := by rw [HSE.out]; rfl
    have hS26 : S.size ≤ 26 := by omega
    clear hv
    go_wp2_with fail
    go_loopw [6, 7] (fun r i wr => ∃ (j : Nat) (R : ByteArray), j ≤ S.size ∧ i = .int .i64 j ∧ r = .string R ∧ R.data.toList = noX (L.take j) ∧ wr = w7) (fun _ i _ => S.size - (intOf i).toNat)
    case atStart => exact ⟨0, ⟨#[]⟩, Nat.zero_le _, rfl, rfl, by simp [noX], rfl⟩
    case round =>
      obtain ⟨j, R, hj, rfl, rfl, hR, rfl⟩ := hrel
      have hRl : R.size ≤ 26 := by
        have h1 : R.data.toList.length = R.size := Array.length_toList
        have h2 := noX_len (L.take j)
        rw [hR] at h1
        have h3 : (L.take j).length ≤ L.length := by rw [List.length_take]; omega
        omega
      have HR := hid hR
      clear hR
      by_cases hlt : j < S.size
      · have hlk : j < L.length := by omega
        have hsj : L[j] = S[j] := by obtain ⟨_, e⟩ := fr_at HSD.out hlt; exact e
        have HT := hid (noX_take hlk)
        have hxs : (S.extract j (j + 1)).size = 1 := by rw [ByteArray.size_extract]; omega
        by_cases hc : S[j] = 120
        · have e1 : ((S.extract j (j + 1)).toList == [120]) = true := by rw [fr_ext hlt, hc]; simp
          have e2 : ((S.extract j (j + 1)).toList != [120]) = false := by rw [bne, e1]; rfl
          have HN := hid (show R.data.toList = noX (L.take (j + 1)) by rw [HT.out, if_pos (hsj.trans hc), List.append_nil]; exact HR.out)
          clear hc hsj
          go_wp2_with fail
          rw [fr_slice _ _ _ hlt]
          go_wp2_with fail
          exact ⟨⟨j + 1, R, by omega, by go_num, rfl, HN.out, trivial⟩, by simp [intOf]; omega⟩
        · have e1 : ((S.extract j (j + 1)).toList == [120]) = false := by rw [fr_ext hlt]; simp [hc]
          have e2 : ((S.extract j (j + 1)).toList != [120]) = true := by rw [bne, e1]; rfl
          have HN := hid (show (R ++ S.extract j (j + 1)).data.toList = noX (L.take (j + 1)) by
            rw [HT.out, if_neg (fun e => hc (hsj ▸ e)), ByteArray.data_append, Array.toList_append, HR.out, hsj]
            have h5 := fr_ext hlt
            rw [ByteArray.toList_eq] at h5
            rw [h5])
          clear hc hsj
          go_wp2_with fail
          rw [fr_slice _ _ _ hlt]
          go_wp2_with fail
          rw [fr_slice _ _ _ hlt]
          go_wp2_with fail
          exact ⟨⟨j + 1, _, by omega, by go_num, rfl, HN.out, trivial⟩, by simp [intOf]; omega⟩
      · have hjl : j = S.size := by omega
        have hRX : R = SX := by
          have h1 := HR.out
          rw [List.take_of_length_le (by omega)] at h1
          rw [HLE.out]
          have h2 : R.data = (noX L).toArray := by rw [← h1]
          cases R
          simpa using h2
        subst hRX
        go_wp2_with fail
        refine HFL2.out.mono ?_
        rintro e w8 ⟨rfl, hb8⟩
        have HB9 := hid (below_trans HB8.out hb8)
        clear hb8
        go_wp2_with fail
        go_ret
        exact ⟨rfl, HB9.out⟩
end Go.Proofs.YtffmpjcjmffdeaaDoor
