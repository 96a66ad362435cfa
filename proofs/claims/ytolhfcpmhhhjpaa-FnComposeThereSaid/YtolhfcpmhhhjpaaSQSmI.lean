/- The program's comparison of types. -/
import Derived.Test.YtolhfcpmhhhjpaaSQSam
namespace Go.Proofs.Ytolhfcpmhhhjpaa
open Go.RowKit

theorem Try.infoNPQ : (Try.prog.info? 92).map (fun i => (i.zero, i.size, i.bytes)) = some (some (.agg #[.pointer none, .pointer none]), 2, 16) := by kernel_rfl
theorem Try.underNPsQ : Try.prog.underlying 93 = some (.slice 92) := by kernel_rfl

set_option maxHeartbeats 400000 in
theorem kids1_anyQ (b o : Nat) (s : Value) (w : World) (h1 : w.cell? ⟨b, o + 3, none⟩ = some s) :
    Calls Try.prog 43 #[.pointer (some ⟨b, o, none⟩)] w fun e w' => e = .returned s ∧ w' = w := by
  go_enter Try.func43, Try.ntmps43
  go_wp2_with fail
  go_ret
  exact ⟨rfl, rfl⟩

def alk (k g l k' g' l' : Int) : Bool := k == k' && (g == g' && l == l')

theorem alk_eq {k g l k' g' l' : Int} (h : alk k g l k' g' l' = true) : k = k' ∧ g = g' ∧ l = l' := by simpa [alk] using h

set_option maxHeartbeats 1000000 in
theorem alike_anyQ (k g l k' g' l' : Int) (b o b' o' : Nat) (w : World) (h1 : w.cell? ⟨b, o, none⟩ = some (.int .i64 k)) (h2 : w.cell? ⟨b, o + 1, none⟩ = some (.int .i64 g)) (h3 : w.cell? ⟨b, o + 2, none⟩ = some (.int .i64 l))
    (e1 : w.cell? ⟨b', o', none⟩ = some (.int .i64 k')) (e2 : w.cell? ⟨b', o' + 1, none⟩ = some (.int .i64 g')) (e3 : w.cell? ⟨b', o' + 2, none⟩ = some (.int .i64 l')) :
    Calls Try.prog 44 #[.pointer (some ⟨b, o, none⟩), .pointer (some ⟨b', o', none⟩)] w fun e w' => e = .returned (.bool (alk k g l k' g' l')) ∧ Below w.heap.size w w' := by
  by_cases hk : k = k'
  case neg =>
    have q1 : (k == k') = false := by simpa using hk
    have HR := hid (show alk k g l k' g' l' = false by simp [alk, hk])
    clear hk
    go_enter Try.func44, Try.ntmps44
    go_wp2_with fail
    go_quiet (fail)
    go_wp2_with fail
    go_ret
    exact ⟨ret_b HR.out.symm, belowN (Below.refl _ _) _⟩
  subst hk
  by_cases hg : g = g'
  case neg =>
    have q1 : (g == g') = false := by simpa using hg
    have HR := hid (show alk k g l k g' l' = false by simp [alk, hg])
    clear hg
    go_enter Try.func44, Try.ntmps44
    go_wp2_with fail
    go_quiet (fail)
    go_wp2_with fail
    go_ret
    exact ⟨ret_b HR.out.symm, belowN (Below.refl _ _) _⟩
  subst hg
  have HR := hid (show alk k g l k g l' = (l == l') by simp [alk])
  go_enter Try.func44, Try.ntmps44
  go_wp2_with fail
  go_quiet (fail)
  go_wp2_with fail
  go_ret
  exact ⟨ret_b HR.out.symm, belowN (Below.refl _ _) _⟩

theorem cmp_runQ (w : World) (a b c d : Nat) (ha : RawQ w a) (hb : RawQ w c) : (binOp .eql 56 (.pointer (some ⟨a, b, none⟩)) (.pointer (some ⟨c, d, none⟩))).run Try.prog w = .ok (.bool (decide (a = c ∧ b = d))) w := by
  have h := ptr_eqQ w 9999 a b c d ha hb
  simp only [binOp]
  simp [Op.equal, Op.maxDepth, h]

/-- What the comparison says. -/
def SameQ (M : Nat) (t u : Co) (w : World) (e : Ending) (w' : World) : Prop :=
  ∃ r : Bool, e = .returned (.bool r) ∧ (r = true ↔ t = u) ∧ Cx M w w' ∧ ∃ es c, w'.heap[M]? = some (.map es c) ∧ (r = true → GoodKQ w es.toList)

/-- The loop's relation: the work list owns its row, the map and the comparison's box stand. -/
def SmRQ (w : World) (t u : Co) (M : Nat) (D : List (Co × Co)) (its : List ItQ) (es : Array MapEntry) (c : Nat) (op : Value) (wr : World) : Prop :=
  wr.ownsRow (w.heap.size + 1) 92 2 op its.length (scQ its) ∧ wr.heap[M]? = some (.map es c) ∧ InvQ w t u D its es.toList ∧ wr.heap[w.heap.size]? = some (Obj.cells #[.map (some M), .func (.func 43) #[] #[], .func (.func 44) #[] #[]] 60) ∧ Cx M w wr

theorem smR_startQ {t u : Co} {b o b' o' M : Nat} {es : Array MapEntry} {c : Nat} {w : World} (ht : NdAtQ w t (b, o)) (hu : NdAtQ w u (b', o')) (hM : w.heap[M]? = some (.map es c)) (hg : GoodKQ w es.toList) :
    SmRQ w t u M [] [⟨t, u, (b, o), (b', o')⟩] es c (.slice (some ⟨w.heap.size + 1, 0, none⟩) 1 1) ((w.alloc (Obj.cells #[.map (some M), .func (.func 43) #[] #[], .func (.func 44) #[] #[]] 60)).alloc (Obj.cells #[.pointer (some ⟨b, o, none⟩), .pointer (some ⟨b', o', none⟩)] 92)) := by
  have hs : (w.alloc (Obj.cells #[.map (some M), .func (.func 43) #[] #[], .func (.func 44) #[] #[]] 60)).heap.size = w.heap.size + 1 := by simp
  have hr : ((w.alloc (Obj.cells #[.map (some M), .func (.func 43) #[] #[], .func (.func 44) #[] #[]] 60)).alloc (Obj.cells #[.pointer (some ⟨b, o, none⟩), .pointer (some ⟨b', o', none⟩)] 92)).heap[w.heap.size + 1]? = some (Obj.cells #[.pointer (some ⟨b, o, none⟩), .pointer (some ⟨b', o', none⟩)] 92) := by
    rw [← hs]
    exact alloc_new _ _
  have hbl : Below w.heap.size w ((w.alloc (Obj.cells #[.map (some M), .func (.func 43) #[] #[], .func (.func 44) #[] #[]] 60)).alloc (Obj.cells #[.pointer (some ⟨b, o, none⟩), .pointer (some ⟨b', o', none⟩)] 92)) := ((Below.refl _ _).alloc (Nat.le_refl _) _).alloc (by simp) _
  exact ⟨⟨rfl, .inr ⟨w.heap.size + 1, 1, _, rfl, Nat.le_refl _, hr, Nat.le_refl _, by decide, rfl, rfl⟩⟩, (hbl.block M (lt_of_block hM)).trans hM, InvQ.start ht hu hg, (Below.heap_alloc _ _ _ (by simp)).trans (alloc_new _ _), Cx.of_below hbl⟩

/-- What a row's value looks like. -/
theorem row_shapeQ {w : World} {B n : Nat} {v : Value} {xs : List Value} (h : w.ownsRow B 92 2 v n xs) : ∃ a cap, v = .slice a n cap ∧ n ≤ cap ∧ cap ≤ 9223372036854775807 ∧ (0 < n → ∃ g, a = some ⟨g, 0, none⟩ ∧ g < w.heap.size) := by
  rcases h.2 with ⟨rfl, rfl⟩ | ⟨g, cap, cur, rfl, hb, hg, hn, hm, _⟩
  · exact ⟨none, 0, rfl, Nat.le_refl _, by omega, fun h => by omega⟩
  · exact ⟨_, cap, rfl, hn, hm, fun _ => ⟨g, rfl, lt_of_block hg⟩⟩

set_option maxHeartbeats 4000000 in
set_option maxRecDepth 100000 in
theorem same_anyQ (t u : Co) (b o b' o' : Nat) (M : Nat) (es : Array MapEntry) (c : Nat) (w : World) (hn : t.cnt ≤ 16777216) (ht : NdAtQ w t (b, o)) (hu : NdAtQ w u (b', o')) (hM : w.heap[M]? = some (.map es c)) (hg : GoodKQ w es.toList) :
    Calls Try.prog 45 #[(.agg #[.map (some M), .func (.func 43) #[] #[], .func (.func 44) #[] #[]]), .pointer (some ⟨b, o, none⟩), .pointer (some ⟨b', o', none⟩)] w (SameQ M t u w) := by
  have HS := hid (smR_startQ ht hu hM hg)
  have HM := hid hM
  clear ht hu hM hg
  go_enter Try.func45, Try.ntmps45
  go_wp2_with fail
  go_loopg [7] (t.cnt + 1) (fun n op wr => ∃ D its es c, SmRQ w t u M D its es c op wr ∧ wtQ its ≤ n ∧ n ≤ t.cnt + 1)
  case atStart => exact ⟨_, _, _, _, HS.out, by simp [wtQ], Nat.le_refl _⟩
  case round =>
    obtain ⟨D, its, es, c, hR, hw1, hw2⟩ := hrel
    obtain ⟨hrow, hmap, hinv, hbox, hcx⟩ := hR
    rcases List.eq_nil_or_concat its with rfl | ⟨its, it, rfl⟩
    · obtain ⟨a, cap, rfl, hc1, hc2, -⟩ := row_shapeQ hrow
      have HD := hid hinv.done
      have HX := hid (And.intro hcx hmap)
      clear hrow hmap hinv hbox hcx
      simp only [List.length_nil]
      go_wp2_with fail
      go_ret
      exact ⟨true, rfl, by simp [HD.out.1], HX.out.1, _, _, HX.out.2, fun _ => HD.out.2⟩
    · obtain ⟨it_t, it_u, ⟨b1, o1⟩, ⟨b2, o2⟩⟩ := it
      obtain ⟨k, kg, kl, ts, rfl⟩ := it_t.shape
      obtain ⟨l, lg, ll, us, rfl⟩ := it_u.shape
      rw [List.concat_eq_append] at *
      have hlen : (its ++ [(⟨.mk k kg kl ts, .mk l lg ll us, (b1, o1), (b2, o2)⟩ : ItQ)]).length = its.length + 1 := by simp
      rw [hlen] at hrow
      obtain ⟨a, cap, rfl, hc1, hc2, hsome⟩ := row_shapeQ hrow
      obtain ⟨g, rfl, hg⟩ := hsome (Nat.succ_pos _)
      obtain ⟨hrow', r0, r1⟩ := row_popQ hrow
      simp only at r0 r1
      obtain ⟨hnt, hnu⟩ := hinv.rd ⟨.mk k kg kl ts, .mk l lg ll us, (b1, o1), (b2, o2)⟩ (by simp)
      have hal : Below wr.heap.size wr (wr.alloc (Obj.cells #[.pointer (some ⟨b1, o1, none⟩), .pointer (some ⟨b2, o2, none⟩)] 92)) := (Below.refl _ _).alloc (Nat.le_refl _) _
      have hx1 : Cx M w (wr.alloc (Obj.cells #[.pointer (some ⟨b1, o1, none⟩), .pointer (some ⟨b2, o2, none⟩)] 92)) := hcx.alloc _
      have hm1 : ((wr.alloc (Obj.cells #[.pointer (some ⟨b1, o1, none⟩), .pointer (some ⟨b2, o2, none⟩)] 92))).heap[M]? = some (.map es c) := (hal.block M (lt_of_block hmap)).trans hmap
      have hbox1 : ((wr.alloc (Obj.cells #[.pointer (some ⟨b1, o1, none⟩), .pointer (some ⟨b2, o2, none⟩)] 92))).heap[w.heap.size]? = some (Obj.cells #[.map (some M), .func (.func 43) #[] #[], .func (.func 44) #[] #[]] 60) := (hal.block _ (lt_of_block hbox)).trans hbox
      have hrow1 : ((wr.alloc (Obj.cells #[.pointer (some ⟨b1, o1, none⟩), .pointer (some ⟨b2, o2, none⟩)] 92))).ownsRow (w.heap.size + 1) 92 2 (.slice (some ⟨g, 0, none⟩) its.length cap) its.length (scQ its) := hrow'.alloc _
      have hnt1 := hnt.cx hx1 HM.out
      have hnu1 := hnu.cx hx1 HM.out
      obtain ⟨a1, cap1, n0, nG, nL, n1, hl1, hl2, hk1⟩ := hnt.open
      obtain ⟨a2, cap2, m0, mG, mL, m1, hl3, hl4, hk2⟩ := hnu.open
      obtain ⟨_, _, _, _, _, -, -, -, -, -, hra, -⟩ := hnt1
      obtain ⟨_, _, _, _, _, -, -, -, -, -, hrb, -⟩ := hnu1
      simp only at n0 nG nL n1 m0 mG mL m1 hra hrb
      replace n0 := hx1.cell n0 (hra.ne hm1)
      replace nG := hx1.cell nG (hra.ne hm1)
      replace nL := hx1.cell nL (hra.ne hm1)
      replace n1 := hx1.cell n1 (hra.ne hm1)
      replace m0 := hx1.cell m0 (hrb.ne hm1)
      replace mG := hx1.cell mG (hrb.ne hm1)
      replace mL := hx1.cell mL (hrb.ne hm1)
      replace m1 := hx1.cell m1 (hrb.ne hm1)
      have HK1 := hid hk1
      have HK2 := hid hk2
      clear hk1 hk2
      have hcmp := cmp_runQ (wr.alloc (Obj.cells #[.pointer (some ⟨b1, o1, none⟩), .pointer (some ⟨b2, o2, none⟩)] 92)) b1 o1 b2 o2 hra hrb
      obtain ⟨r2, hlook, hlk⟩ := look_runQ (wr.alloc (Obj.cells #[.pointer (some ⟨b1, o1, none⟩), .pointer (some ⟨b2, o2, none⟩)] 92)) M es c (b1, o1) (b2, o2) hm1 (hinv.kp hx1 HM.out) hra hrb
      simp only [kvQ] at hlook
      have c0 : ((wr.alloc (Obj.cells #[.pointer (some ⟨b1, o1, none⟩), .pointer (some ⟨b2, o2, none⟩)] 92))).cell? ⟨w.heap.size, 0, none⟩ = some (.map (some M)) := by rw [cell_of_block hbox1]; rfl
      have c1 : ((wr.alloc (Obj.cells #[.pointer (some ⟨b1, o1, none⟩), .pointer (some ⟨b2, o2, none⟩)] 92))).cell? ⟨w.heap.size, 1, none⟩ = some (.func (.func 43) #[] #[]) := by rw [cell_of_block hbox1]; rfl
      have c2 : ((wr.alloc (Obj.cells #[.pointer (some ⟨b1, o1, none⟩), .pointer (some ⟨b2, o2, none⟩)] 92))).cell? ⟨w.heap.size, 2, none⟩ = some (.func (.func 44) #[] #[]) := by rw [cell_of_block hbox1]; rfl
      have hN := hid (And.intro hnt hnu)
      have HRA := hid (And.intro hra hrb)
      have hsmall : its.length ≤ 16777216 := by
        have h1 := wt_lenQ its
        have h2 := wt_appendQ its [(⟨.mk k kg kl ts, .mk l lg ll us, (b1, o1), (b2, o2)⟩ : ItQ)]
        simp only [wtQ] at h2
        omega
      have HW := hid (show wtQ its + ((Co.mk k kg kl ts).cnt + 1) ≤ gk by
        have h2 := wt_appendQ its [(⟨.mk k kg kl ts, .mk l lg ll us, (b1, o1), (b2, o2)⟩ : ItQ)]
        simp only [wtQ] at h2
        omega)
      have HINV := hid hinv
      have HX1 := hid hx1
      have HM1 := hid hm1
      have HB1 := hid hbox1
      have HR1 := hid hrow1
      have HLK := hid hlk
      have hgk : gk ≤ t.cnt + 1 := hw2
      generalize hml : its.length = m at *
      have HML := hid hml
      clear hml hrow hrow' hmap hinv hbox hcx hx1 hm1 hbox1 hrow1 hlk hnt hnu hal hw1 hw2 hlen hra hrb
      by_cases hpq : b1 = b2 ∧ o1 = o2
      · have hdt := NdAtQ.det (hpq.1 ▸ hpq.2 ▸ hN.out.1) hN.out.2
        have HI := hid (HINV.out.pop (.inl hdt))
        rw [decide_eq_true hpq] at hcmp
        clear hpq hdt hlook
        go_wp2_with fail
        go_roundg (wtQ its)
        case measure => have := HW.out; omega
        case rel =>
          refine ⟨D, its, es, c, ⟨?_, HM1.out, HI.out, HB1.out, HX1.out⟩, Nat.le_refl _, by have := HW.out; omega⟩
          rw [HML.out]
          exact HR1.out
      · rw [decide_eq_false hpq] at hcmp
        have HPQ := hid hpq
        clear hpq
        cases r2 with
        | true =>
          have hin : Co.mk k kg kl ts = .mk l lg ll us ∨ (Co.mk k kg kl ts, Co.mk l lg ll us) ∈ D := by
            obtain ⟨e, he, hke⟩ := HLK.out rfl
            obtain ⟨p', q', t', u', h1, _, h3, h4, h5⟩ := HINV.out.key e he
            obtain ⟨rfl, rfl⟩ := kv_injQ (h1.symm.trans hke)
            have d1 : Co.mk k kg kl ts = t' := NdAtQ.det hN.out.1 h3
            have d2 : Co.mk l lg ll us = u' := NdAtQ.det hN.out.2 h4
            rw [d1, d2]
            exact h5
          have HI := hid (HINV.out.pop hin)
          clear hin
          go_wp2_with fail
          go_roundg (wtQ its)
          case measure => have := HW.out; omega
          case rel =>
            refine ⟨D, its, es, c, ⟨?_, HM1.out, HI.out, HB1.out, HX1.out⟩, Nat.le_refl _, by have := HW.out; omega⟩
            rw [HML.out]
            exact HR1.out
        | false =>
          go_wp2_with fail
          go_quiet ((first | (go_at_call 43; exact Calls.quiet_of_same (kids1_anyQ _ _ _ _ n1)) | (go_at_call 43; exact Calls.quiet_of_same (kids1_anyQ _ _ _ _ m1))))
          by_cases hlen : ts.length = us.length
          case neg =>
            have hq1 : ((ts.length : Int) == (us.length : Int)) = false := by simp; omega
            have hq2 : ((ts.length : Int) != (us.length : Int)) = true := by simp; omega
            have hne : t ≠ u := fun e => by
              have := HINV.out.sound e ⟨.mk k kg kl ts, .mk l lg ll us, (b1, o1), (b2, o2)⟩ (by simp)
              simp only [Co.mk.injEq] at this
              exact hlen (by rw [this.2.2.2])
            have HNE := hid hne
            clear hlen hne
            go_wp2_with fail
            go_ret
            exact ⟨false, rfl, by simp [HNE.out], HX1.out.drewN _, _, _, HM1.out, fun h => by cases h⟩
          have hq1 : ((ts.length : Int) == (us.length : Int)) = true := by simp; omega
          have hq2 : ((ts.length : Int) != (us.length : Int)) = false := by simp; omega
          have HLEN := hid hlen
          clear hlen
          go_wp2_with fail
          refine (alike_anyQ k kg kl l lg ll b1 o1 b2 o2 _ (by exact n0) (by exact nG) (by exact nL) (by exact m0) (by exact mG) (by exact mL)).mono ?_
          rintro e w1 ⟨rfl, hb⟩
          have hb' : Below (wr.alloc (Obj.cells #[.pointer (some ⟨b1, o1, none⟩), .pointer (some ⟨b2, o2, none⟩)] 92)).heap.size (wr.alloc (Obj.cells #[.pointer (some ⟨b1, o1, none⟩), .pointer (some ⟨b2, o2, none⟩)] 92)) w1 := (belowN (Below.refl _ (wr.alloc (Obj.cells #[.pointer (some ⟨b1, o1, none⟩), .pointer (some ⟨b2, o2, none⟩)] 92))) nq).trans hb
          have HBL := hid hb'
          have HX2 := hid (HX1.out.trans (Cx.of_below hb'))
          have HM2 := hid ((hb'.block M (lt_of_block HM1.out)).trans HM1.out)
          have hbox2 := (hb'.block _ (lt_of_block HB1.out)).trans HB1.out
          have HB2 := hid hbox2
          have HR2 := hid (HR1.out.kept (row := none) ⟨hb'.os, hb'.tape, hb'.output, hb'.size, fun k hk _ => hb'.block k hk⟩ (.inr (by simp [Value.ownBlock])))
          have hpb := (hb'.block wr.heap.size (by simp)).trans (alloc_new wr _)
          have HPB := hid hpb
          clear hb hb' hbox2 hpb n0 nG nL n1 m0 mG mL m1 c0 c1 c2 hcmp hlook r0 r1
          generalize hkl : alk k kg kl l lg ll = r
          cases r
          case false =>
            have hne : t ≠ u := fun e => by
              have := HINV.out.sound e ⟨.mk k kg kl ts, .mk l lg ll us, (b1, o1), (b2, o2)⟩ (by simp)
              simp only [Co.mk.injEq] at this
              rw [this.1, this.2.1, this.2.2.1] at hkl
              simp [alk] at hkl
            have HNE := hid hne
            clear hkl hne
            go_wp2_with fail
            go_ret
            exact ⟨false, rfl, by simp [HNE.out], HX2.out, _, _, HM2.out, fun h => by cases h⟩
          obtain ⟨rfl, rfl, rfl⟩ := alk_eq hkl
          clear hkl
          by_cases hz : ts.length = 0
          · have hts : ts = [] := List.length_eq_zero_iff.1 hz
            have hus : us = [] := List.length_eq_zero_iff.1 (by have := HLEN.out; omega)
            subst hts hus
            simp only [List.length_nil] at hl1 hl2 hl3 hl4 hq1 hq2 ⊢
            have HI := hid (HINV.out.push (ks := []) (es' := es.toList) rfl (by simp) (by simp) (fun i hi => by simp at hi) (fun e he => .inl ⟨e, he, rfl, rfl⟩))
            go_wp2_with fail
            go_loopw [7, 74] (fun op i wi => op = .slice (some ⟨g, 0, none⟩) m cap ∧ i = .int .i64 0 ∧ wi = w1) (fun _ _ _ => 0)
            case atStart => exact ⟨rfl, rfl, rfl⟩
            case round =>
              obtain ⟨rfl, rfl, rfl⟩ := hrel
              go_wp2_with fail
              go_roundg (wtQ its)
              case measure => have := HW.out; omega
              case rel =>
                refine ⟨_, its, es, c, ⟨?_, HM2.out, by simpa using HI.out, HB2.out, HX2.out⟩, Nat.le_refl _, by have := HW.out; omega⟩
                rw [HML.out]
                exact HR2.out
          · have hz1 : (0 : Int) < (ts.length : Int) := by omega
            obtain ⟨x1, y1, rfl, -⟩ := HK1.out 0 (by omega)
            obtain ⟨x2, y2, rfl, -⟩ := HK2.out 0 (by have := HLEN.out; omega)
            have hx12 : Cx M (wr.alloc (Obj.cells #[.pointer (some ⟨b1, o1, none⟩), .pointer (some ⟨b2, o2, none⟩)] 92)) w1 := Cx.of_below HBL.out
            have hkp := HINV.out.kp HX2.out HM.out
            have hra2 := HRA.out.1.cx hx12 (HRA.out.1.ne HM1.out)
            have hrb2 := HRA.out.2.cx hx12 (HRA.out.2.ne HM1.out)
            have hp0 : w1.cell? ⟨wr.heap.size, 0, none⟩ = some (.pointer (some ⟨b1, o1, none⟩)) := by rw [cell_of_block HPB.out]; rfl
            have hp1 : w1.cell? ⟨wr.heap.size, 1, none⟩ = some (.pointer (some ⟨b2, o2, none⟩)) := by rw [cell_of_block HPB.out]; rfl
            have hc0 : w1.cell? ⟨w.heap.size, 0, none⟩ = some (.map (some M)) := by rw [cell_of_block HB2.out]; rfl
            have HS2 := hid (And.intro hkp (And.intro hra2 hrb2))
            clear hx12 hkp hra2 hrb2
            go_wp2_with (at_mapUpdate; refine wpList_store_ptrQ _ rfl _ _ _ rfl M es c (b1, o1) (b2, o2) rfl rfl rfl HM2.out HS2.out.1 HS2.out.2.1 HS2.out.2.2 ?_)
            intro w2 es' c' hmap2 hx2 hes
            have hes' : ∀ e ∈ es'.toList, (∃ e0 ∈ es.toList, e.key = e0.key ∧ e.val = e0.val) ∨ e.key = kvQ (b1, o1) (b2, o2) ∧ e.val = .bool true := by simpa using hes
            have hMw : M < w.heap.size := lt_of_block HM.out
            have hrowlt := (HR2.out.lt g rfl).1
            have HR3 := hid (HR2.out.kept hx2 (.inr (by simp [Value.ownBlock]; omega)))
            have HB3 := hid (hx2.blk HB2.out (by omega))
            have HX3 := hid (HX2.out.trans hx2)
            have HM3 := hid hmap2
            have HI := hid (HINV.out.push (ks := kidsQ x1 y1 x2 y2 0 ts us) (es' := es'.toList) HLEN.out (fun it hmm => by
              obtain ⟨i, hi, rfl⟩ := List.getElem_of_mem hmm
              have hi' := hi
              rw [kids_lenQ HLEN.out] at hi'
              have hi2 : i < us.length := by have := HLEN.out; omega
              rw [kids_getQ HLEN.out hi' hi2 hi]
              obtain ⟨_, _, e1, g1⟩ := HK1.out i hi'
              obtain ⟨_, _, e2, g2⟩ := HK2.out i hi2
              simp only [Option.some.injEq, Addr.mk.injEq, and_true] at e1 e2
              obtain ⟨rfl, rfl⟩ := e1
              obtain ⟨rfl, rfl⟩ := e2
              simp only [Nat.zero_add]
              exact ⟨g1, g2⟩) (fun e it hmm => by
              obtain ⟨i, hi, rfl⟩ := List.getElem_of_mem hmm
              have hi' := hi
              rw [kids_lenQ HLEN.out] at hi'
              rw [kids_getQ HLEN.out hi' (by have := HLEN.out; omega) hi]
              simp only [e]) (fun i hi hi' => by
              have h3 : i < (kidsQ x1 y1 x2 y2 0 ts us).length := by rw [kids_lenQ HLEN.out]; exact hi
              exact ⟨_, List.getElem_mem h3, by rw [kids_getQ HLEN.out hi hi' h3], by rw [kids_getQ HLEN.out hi hi' h3]⟩) hes')
            have HKW := hid (kids_wtQ (b := x1) (o := y1) (b' := x2) (o' := y2) (i := 0) HLEN.out)
            have HKL := hid (kids_lenQ (b := x1) (o := y1) (b' := x2) (o' := y2) (i := 0) HLEN.out)
            have HCN := hid (show (Co.mk k kg kl ts).cnt = ts.length + ccntL ts by simp only [Co.cnt])
            have HTK := hid (fun j (hj : j < ts.length) => sc_takeQ (x1 := x1) (y1 := y1) (x2 := x2) (y2 := y2) (its := its) HLEN.out hj)
            clear hmap2 hx2 hes hes' hp0 hp1 hc0
            go_wp2_with fail
            go_loopw [7, 74] (fun op i wi => ∃ j : Nat, j ≤ ts.length ∧ i = .int .i64 j ∧ wi.ownsRow (w.heap.size + 1) 92 2 op (m + j) (scQ (its ++ (kidsQ x1 y1 x2 y2 0 ts us).take j)) ∧ Hid (wi.heap[M]? = some (.map es' c')) ∧ Hid (wi.heap[w.heap.size]? = some (Obj.cells #[.map (some M), .func (.func 43) #[] #[], .func (.func 44) #[] #[]] 60)) ∧ Cx M w wi) (fun _ i _ => ts.length - (intOf i).toNat)
            case atStart => exact ⟨0, Nat.zero_le _, rfl, by simpa using HR3.out, hid HM3.out, hid HB3.out, HX3.out⟩
            case round =>
              obtain ⟨j, hj, rfl, hoj, hmj, hbj, hxj⟩ := hrel
              obtain ⟨aj, capj, rfl, hcj1, hcj2, -⟩ := row_shapeQ hoj
              by_cases hlj : j < ts.length
              · have hlj2 : j < us.length := by have := HLEN.out; omega
                have hbig : m + j + 1 ≤ 16777217 := by
                  have h1 := wt_lenQ its
                  have h2 := HW.out
                  have h3 := HCN.out
                  have h4 := HML.out
                  omega
                have h63 : m + j + 1 ≤ maxLen := by unfold maxLen; omega
                have hby : (m + j + 1) * 16 ≤ 140737488355328 := by omega
                obtain ⟨i0, hi0, hz0', hz1', hz2'⟩ := info_parts (P := Try.prog) (e := 92) Try.infoNPQ
                have hwi : w.heap.size + 1 ≤ wr.heap.size := lt_of_block hbj.out
                have hj0 : (0 : Int) ≤ (j : Int) := by omega
                have hj1 : (j : Int) < (ts.length : Int) := by omega
                have hj2 : (j : Int) < (us.length : Int) := by omega
                go_wp2_with fail
                go_region_law ((refine step_append_lies _ (by rfl) _ _ _ (by rfl) (w.heap.size + 1) 92 i0 _ 2 16 Try.underNPsQ hi0 hz0' hz1' hz2' rfl (by omega) (.slice aj (m + j) capj) (m + j) (scQ (its ++ (kidsQ x1 y1 x2 y2 0 ts us).take j)) (by rfl) (hoj.alloc _) ⟨wr.heap.size, 0, none⟩ 1 1 [.pointer (some ⟨x1, y1 + j * 4, none⟩), .pointer (some ⟨x2, y2 + j * 4, none⟩)] (by rfl) (by rfl) (World.news_of_block (cs := #[.pointer (some ⟨x1, y1 + j * 4, none⟩), .pointer (some ⟨x2, y2 + j * 4, none⟩)]) (t := 92) (fr := (0, 0)) (heap_alloc_new wr _)) (by simp [Value.oneCell']) (by omega) h63 hby (by simp; omega) (wr.heap.size + 1) (by simp) ?_; intro g3 cp w3 hown3 hgrow hat3 hlt3))
                all_goals
                  have HO := hid hown3
                  have HGW := hid hgrow
                  have hlt : ∀ g, (Value.slice aj (m + j) capj).ownBlock = some g → w.heap.size + 1 ≤ g := fun g h => (hoj.lt g h).1
                  have HLT := hid hlt
                  clear hown3 hgrow hat3 hlt
                  go_wp2_with fail
                  refine ⟨⟨j + 1, by omega, by go_num, ?_, hid ?_, hid ?_, ?_⟩, by simp [intOf]; omega⟩
                  · rw [HTK.out j hlj]
                    exact HO.out
                  · exact grow_keep HGW.out ((Below.heap_alloc _ _ _ (lt_of_block hmj.out)).trans hmj.out) (fun e => by have := HLT.out M e.symm; omega)
                  · exact grow_keep HGW.out ((Below.heap_alloc _ _ _ (lt_of_block hbj.out)).trans hbj.out) (fun e => by have := HLT.out _ e.symm; omega)
                  · exact (hxj.alloc _).drew.grownQ HGW.out (fun g h => by have := HLT.out g h; omega)
              · have hjl : j = ts.length := by omega
                subst hjl
                have hj1 : ¬ (ts.length : Int) < (ts.length : Int) := by omega
                go_wp2_with fail
                go_roundg (wtQ (its ++ kidsQ x1 y1 x2 y2 0 ts us))
                case measure =>
                  have h1 := HW.out
                  have h2 := HCN.out
                  have h3 := HKW.out
                  rw [wt_appendQ, h3]
                  omega
                case rel =>
                  refine ⟨_, its ++ kidsQ x1 y1 x2 y2 0 ts us, es', c', ⟨?_, hmj.out, HI.out, hbj.out, hxj⟩, Nat.le_refl _, ?_⟩
                  · rw [List.take_of_length_le (by rw [HKL.out]; exact Nat.le_refl _)] at hoj
                    rw [List.length_append, HKL.out, HML.out]
                    exact hoj
                  · have h1 := HW.out
                    have h2 := HCN.out
                    have h3 := HKW.out
                    rw [wt_appendQ, h3]
                    omega
end Go.Proofs.Ytolhfcpmhhhjpaa
