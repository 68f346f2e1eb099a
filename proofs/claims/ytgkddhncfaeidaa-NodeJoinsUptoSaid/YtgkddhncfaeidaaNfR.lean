/- The reference's Right of whatever node. -/
import Derived.Test.YtgkddhncfaeidaaNfE
namespace Go.Proofs.Ytgkddhncfaeidaa
open Go.ChangeShapes Go.WideShapes Go.ChangeAt Go.RowKit CrcM PageM
set_option linter.unusedVariables false

theorem apart_split (p e : EntD) : apartB p e = true ↔ lessB p.key e.key = true ∧ (p.se = e.se → p.en < e.st) := by
  unfold apartB
  simp only [Bool.and_eq_true, Bool.or_eq_true, decide_eq_true_eq]
  constructor
  · rintro ⟨h1, h2 | h2⟩
    · exact ⟨h1, fun h => absurd h h2⟩
    · exact ⟨h1, fun _ => h2⟩
  · rintro ⟨h1, h2⟩
    by_cases h : p.se = e.se
    · exact ⟨h1, .inr (h2 h)⟩
    · exact ⟨h1, .inl h⟩

set_option maxRecDepth 100000 in
set_option maxHeartbeats 8000000 in
theorem refRight_any (n : NodeD) (l : NdL) (r : Bool) (hr : IsB r (okNode n)) (w : World) (h : NodeAt w n l) :
    Calls Try.prog 14 #[.agg #[.bool n.leaf, .slice l.EA n.es.length l.ec, .slice l.KA n.ks.length l.kc, .slice l.DA n.ds.length l.dc]] w fun e w' => e = .returned (.bool r) ∧ Below w.heap.size w w' := by
  have H := Lib.hid h
  have HR := Lib.hid hr
  obtain ⟨lf, es, ks, ds⟩ := n
  obtain ⟨EA, ec, KA, kc, DA, dc⟩ := l
  dsimp only at *
  obtain ⟨ne, hne⟩ : ∃ x, es.length = x := ⟨_, rfl⟩
  obtain ⟨nk, hnk⟩ : ∃ x, ks.length = x := ⟨_, rfl⟩
  obtain ⟨nd, hnd⟩ : ∃ x, ds.length = x := ⟨_, rfl⟩
  have hem : ne ≤ maxLen := by rw [← hne]; exact Nat.le_trans h.ec h.em
  have hkm : nk ≤ maxLen := by rw [← hnk]; exact Nat.le_trans h.kc h.km
  have hdm : nd ≤ maxLen := by rw [← hnd]; exact Nat.le_trans h.dc h.dm
  have hdc : nd ≤ dc := by rw [← hnd]; exact h.dc
  rw [hne, hnk, hnd]
  have HNE := Lib.hid hne
  have HNK := Lib.hid hnk
  have HND := Lib.hid hnd
  unfold maxLen at hem hkm hdm
  have HEM := Lib.hid hem
  have HKM := Lib.hid hkm
  have HDM := Lib.hid hdm
  have HDC := Lib.hid hdc
  obtain ⟨W, eW⟩ : ∃ W, W = w.alloc (.cells #[.bool lf, .slice EA ne ec, .slice KA nk kc, .slice DA nd dc] 26) := ⟨_, rfl⟩
  have hrow : W.heap[w.heap.size]? = some (.cells #[.bool lf, .slice EA ne ec, .slice KA nk kc, .slice DA nd dc] 26 (0, 0)) := by rw [eW]; exact heap_alloc_new _ _
  have hbel : Below w.heap.size w W := by rw [eW]; exact (Below.refl _ _).alloc (Nat.le_refl _) _
  have EW := Lib.hid eW.symm
  have HB := Lib.hid hbel
  have HROW := Lib.hid hrow
  have k0 := nd_cell hrow 0 _ rfl
  have k1 := nd_cell hrow 1 _ rfl
  have k2 := nd_cell hrow 2 _ rfl
  have k3 := nd_cell hrow 3 _ rfl
  have hblt := (Array.getElem?_eq_some_iff.1 hrow).1
  have HBLT := Lib.hid hblt
  clear h hr hblt hne hnk hnd hem hkm hdm hdc eW hrow hbel
  cases lf with
  | true =>
    by_cases h1 : ne < 1
    · have d1 : decide ((ne : Int) < 1) = true := by simp; omega
      have d1' : decide (ne < 1) = true := by simp; omega
      have hf := HR.out.isF (by unfold okNode; simp only [if_true]; intro hx; have := hx.2.2.1; have := HNE.out; omega)
      subst hf
      go_enter Try.func14, Try.ntmps14
      go_upto_region 1 with fail
      rw [EW.out]
      go_wp2_with fail
      go_ret
      exact ⟨rfl, HB.out⟩
    · have d1 : decide ((ne : Int) < 1) = false := by simp; omega
      have d1' : decide (ne < 1) = false := by simp; omega
      by_cases h2 : 7 < ne
      · have d2 : decide ((7 : Int) < (ne : Int)) = true := by simp; omega
        have d2' : decide (7 < ne) = true := by simp; omega
        have hf := HR.out.isF (by unfold okNode; simp only [if_true]; intro hx; have := hx.2.2.2.1; have := HNE.out; omega)
        subst hf
        go_enter Try.func14, Try.ntmps14
        go_upto_region 1 with fail
        rw [EW.out]
        go_wp2_with fail
        go_ret
        exact ⟨rfl, HB.out⟩
      · have d2 : decide ((7 : Int) < (ne : Int)) = false := by simp; omega
        have d2' : decide (7 < ne) = false := by simp; omega
        by_cases h3 : 0 < nk
        · have d3 : decide ((0 : Int) < (nk : Int)) = true := by simp; omega
          have d3' : decide (0 < nk) = true := by simp; omega
          have hf := HR.out.isF (by unfold okNode; simp only [if_true]; intro hx; have h' := hx.1; have := HNK.out; rw [h'] at this; simp at this; omega)
          subst hf
          go_enter Try.func14, Try.ntmps14
          go_upto_region 1 with fail
          rw [EW.out]
          go_wp2_with fail
          go_ret
          exact ⟨rfl, HB.out⟩
        · have d3 : decide ((0 : Int) < (nk : Int)) = false := by simp; omega
          have d3' : decide (0 < nk) = false := by simp; omega
          by_cases h4 : 0 < nd
          · have d4 : decide ((0 : Int) < (nd : Int)) = true := by simp; omega
            have d4' : decide (0 < nd) = true := by simp; omega
            have hf := HR.out.isF (by unfold okNode; simp only [if_true]; intro hx; have h' := hx.2.1; have := HND.out; rw [h'] at this; simp at this; omega)
            subst hf
            go_enter Try.func14, Try.ntmps14
            go_upto_region 1 with fail
            rw [EW.out]
            go_wp2_with fail
            go_ret
            exact ⟨rfl, HB.out⟩
          · have d4 : decide ((0 : Int) < (nd : Int)) = false := by simp; omega
            have d4' : decide (0 < nd) = false := by simp; omega
            have hq : IsB r (okEnts es) := by
              have a := HR.out
              unfold okNode at a
              simp only [if_true] at a
              have e1 : ks = [] := List.eq_nil_of_length_eq_zero (by rw [HNK.out]; omega)
              have e2 : ds = [] := List.eq_nil_of_length_eq_zero (by rw [HND.out]; omega)
              unfold IsB at a ⊢
              simpa [e1, e2] using a
            have HQ := Lib.hid hq
            clear hq
            obtain ⟨b, off, rfl, hcell⟩ := (H.out.below HB.out).e (by intro e; have := HNE.out; dsimp only at e; rw [e] at this; simp at this; omega)
            have HC : Hid (∀ i e, es[i]? = some e → entAt W b (off + i * 8) e) := Lib.hid hcell
            clear hcell
            go_enter Try.func14, Try.ntmps14
            go_upto_region 1 with fail
            rw [EW.out]
            go_upto_region 5 with fail
            clear d1 d1' d2 d2' d3 d3' d4 d4' h3 h4
            have hn1 : 1 ≤ ne := by omega
            have hn7 : ne ≤ 7 := by omega
            clear h1 h2
            go_loopw [3] (fun i wr => ∃ k : Nat, k ≤ ne ∧ i = .int .i64 k ∧ Hid (∀ j, j < k → okStep es j) ∧ Hid (Below W.heap.size W wr)) (fun i _ => ne - (intOf i).toNat)
            case atStart => exact ⟨0, by omega, rfl, Lib.hid (fun j hj => by omega), Lib.hid (Below.refl _ _)⟩
            case round =>
              clear k0 k1 k2 k3
              obtain ⟨k, hk, rfl, HS, HBR⟩ := hrel
              have k1 := nd_cell ((HBR.out.block _ HBLT.out).trans HROW.out) 1 _ rfl
              by_cases hlt : k < ne
              · obtain ⟨e, he⟩ : ∃ e, es[k]? = some e := ⟨_, List.getElem?_eq_getElem (by rw [HNE.out]; exact hlt)⟩
                obtain ⟨c0, c1, c2, c3, c4, c5, c6, c7⟩ := (HC.out k e he).below HBR.out
                have HE := Lib.hid he
                clear he
                go_upto_region 8 with fail
                obtain ⟨W2, eW2⟩ : ∃ W2, W2 = wr.alloc (.cells #[.int .i64 e.se, .int .i64 e.st, .int .i64 e.en, .int .i64 e.ad, .int .i64 e.le, .int .i64 e.cn, .int .i64 e.co, .int .u32 e.cr] 51) := ⟨_, rfl⟩
                have hrow2 : W2.heap[wr.heap.size]? = some (.cells #[.int .i64 e.se, .int .i64 e.st, .int .i64 e.en, .int .i64 e.ad, .int .i64 e.le, .int .i64 e.cn, .int .i64 e.co, .int .u32 e.cr] 51 (0, 0)) := by rw [eW2]; exact heap_alloc_new _ _
                have hbW2 : Below W.heap.size W W2 := by rw [eW2]; exact HBR.out.alloc HBR.out.size _
                rw [← eW2]
                clear eW2 c0 c1 c2 c3 c4 c5 c6 c7 k1
                obtain ⟨g, hg⟩ : ∃ g, g = wr.heap.size := ⟨_, rfl⟩
                rw [← hg] at hrow2 ⊢
                clear hg
                have HROW2 := Lib.hid hrow2
                have HBW2 := Lib.hid hbW2
                have b0 := nd_cell hrow2 0 _ rfl
                have b1 := nd_cell hrow2 1 _ rfl
                have b2 := nd_cell hrow2 2 _ rfl
                have b3 := nd_cell hrow2 3 _ rfl
                have b4 := nd_cell hrow2 4 _ rfl
                have b5 := nd_cell hrow2 5 _ rfl
                have b6 := nd_cell hrow2 6 _ rfl
                have b7 := nd_cell hrow2 7 _ rfl
                clear hrow2 hbW2
                by_cases hE : okEnt e
                · have HD : Hid (decide (okEnt e) = true) := Lib.hid (decide_eq_true hE)
                  have HOE := Lib.hid hE
                  clear hE
                  go_upto_region 10 with (go_at_call 41; (refine (refEntry_any e true HD.out _).mono ?_); rintro e' w3 ⟨rfl, hb3⟩; have HB3 := Lib.hid hb3; clear hb3)
                  clear b0 b1 b2 b3 b4 b5 b6 b7
                  have HBW := Lib.hid (HBW2.out.trans (HB3.out.mono HBW2.out.size))
                  have hrow3 := (HB3.out.block _ (Array.getElem?_eq_some_iff.1 HROW2.out).1).trans HROW2.out
                  have G0 : ∀ y : SubW w3.heap.size w3, y.at_.cell? ⟨g, 0, none⟩ = some (.int .i64 e.se) := fun y => nd_cell ((y.ok_.block _ (Array.getElem?_eq_some_iff.1 hrow3).1).trans hrow3) 0 _ rfl
                  have G1 : ∀ y : SubW w3.heap.size w3, y.at_.cell? ⟨g, 1, none⟩ = some (.int .i64 e.st) := fun y => nd_cell ((y.ok_.block _ (Array.getElem?_eq_some_iff.1 hrow3).1).trans hrow3) 1 _ rfl
                  have G2 : ∀ y : SubW w3.heap.size w3, y.at_.cell? ⟨g, 2, none⟩ = some (.int .i64 e.en) := fun y => nd_cell ((y.ok_.block _ (Array.getElem?_eq_some_iff.1 hrow3).1).trans hrow3) 2 _ rfl
                  have hnode := (HBW.out.block _ HBLT.out).trans HROW.out
                  have N1 : ∀ y : SubW w3.heap.size w3, y.at_.cell? ⟨w.heap.size, 1, none⟩ = some (.slice (some ⟨b, off, none⟩) ne ec) := fun y => nd_cell ((y.ok_.block _ (Array.getElem?_eq_some_iff.1 hnode).1).trans hnode) 1 _ rfl
                  clear hrow3 hnode
                  by_cases hk0 : k = 0
                  · have d0 : decide ((0 : Int) < (k : Int)) = false := by simp; omega
                    have d0' : decide (0 < k) = false := by simp; omega
                    refine region_below w3.heap.size w3 (Below.refl _ _) (by kernel_rfl) (by kernel_rfl) ?_
                    repeat (go_big_quiet_step (fail))
                    refine wpQuiet_nil ?_
                    rintro w' ⟨y, rfl⟩
                    have HY := Lib.hid (HBW.out.trans (y.ok_.mono HBW.out.size))
                    clear G0 G1 G2 N1
                    go_wp2_with fail
                    go_roundw
                    case rel => exact ⟨k + 1, by omega, by go_num, Lib.hid (fun j hj => by rcases Nat.lt_succ_iff_lt_or_eq.1 hj with h | rfl; exact HS.out j h; exact ⟨e, HE.out, HOE.out, .inl hk0⟩), HY⟩
                    case measure => first | (simp [intOf]; done) | (simp [intOf]; omega)
                  · obtain ⟨m, hm1⟩ : ∃ m, k = m + 1 := ⟨k - 1, by omega⟩
                    have d0 : decide ((0 : Int) < (k : Int)) = true := by simp; omega
                    have d0' : decide (0 < k) = true := by simp; omega
                    have hwm : (k : Int) - 1 = (m : Int) := by omega
                    have hmn : m < ne := by omega
                    obtain ⟨p, hp⟩ : ∃ p, es[m]? = some p := ⟨_, List.getElem?_eq_getElem (by have := HNE.out; omega)⟩
                    obtain ⟨x0, x1, x2, -⟩ := (HC.out m p hp).below HBW.out
                    have hlt0 := World.block_lt_of_cell? _ _ x0
                    have P0 : ∀ y : SubW w3.heap.size w3, y.at_.cell? ⟨b, off + m * 8, none⟩ = some (.int .i64 p.se) := fun y => (y.ok_.cell (p := ⟨b, off + m * 8, none⟩) hlt0).trans x0
                    have P1 : ∀ y : SubW w3.heap.size w3, y.at_.cell? ⟨b, off + m * 8 + 1, none⟩ = some (.int .i64 p.st) := fun y => (y.ok_.cell (p := ⟨b, off + m * 8 + 1, none⟩) hlt0).trans x1
                    have P2 : ∀ y : SubW w3.heap.size w3, y.at_.cell? ⟨b, off + m * 8 + 2, none⟩ = some (.int .i64 p.en) := fun y => (y.ok_.cell (p := ⟨b, off + m * 8 + 2, none⟩) hlt0).trans x2
                    have HPP := Lib.hid hp
                    have HM1 := Lib.hid hm1
                    clear x0 x1 x2 hlt0 hp hm1 hk0
                    obtain ⟨a, ha⟩ : ∃ a, lessB p.key e.key = a := ⟨_, rfl⟩
                    have HA := Lib.hid ha
                    clear ha
                    cases a
                    · have HRF : Hid (r = false) := Lib.hid (HQ.out.isF (fun h => okStep_not_apart HM1.out HE.out HPP.out (by rw [Bool.eq_false_iff]; intro hx; rw [apart_split] at hx; rw [HA.out] at hx; cases hx.1) (h.2.2 k (by have := HNE.out; omega))))
                      refine region_below w3.heap.size w3 (Below.refl _ _) (by kernel_rfl) (by kernel_rfl) ?_
                      repeat (go_big_quiet_step ((go_at_call 42; exact calls_sub (Nat.le_refl _) (refLess_r p.key e.key _ HA.out _))))
                      refine wpQuiet_nil ?_
                      rintro w' ⟨y, rfl⟩
                      have HY := Lib.hid (HBW.out.trans (y.ok_.mono HBW.out.size))
                      clear G0 G1 G2 N1 P0 P1 P2
                      go_wp2_with fail
                      go_ret
                      exact ⟨nd_retB HRF.out.symm, HB.out.trans (HY.out.mono HB.out.size)⟩
                    · by_cases hs : p.se = e.se
                      · have ds : (p.se == e.se) = true := by simp [hs]
                        have HSE := Lib.hid hs
                        clear hs
                        by_cases ht : e.st ≤ p.en
                        · have dt : decide (e.st ≤ p.en) = true := by simpa using ht
                          have HRF : Hid (r = false) := Lib.hid (HQ.out.isF (fun h => okStep_not_apart HM1.out HE.out HPP.out (by rw [Bool.eq_false_iff]; intro hx; rw [apart_split] at hx; have := hx.2 HSE.out; omega) (h.2.2 k (by have := HNE.out; omega))))
                          clear ht
                          refine region_below w3.heap.size w3 (Below.refl _ _) (by kernel_rfl) (by kernel_rfl) ?_
                          repeat (go_big_quiet_step ((go_at_call 42; exact calls_sub (Nat.le_refl _) (refLess_r p.key e.key _ HA.out _))))
                          refine wpQuiet_nil ?_
                          rintro w' ⟨y, rfl⟩
                          have HY := Lib.hid (HBW.out.trans (y.ok_.mono HBW.out.size))
                          clear G0 G1 G2 N1 P0 P1 P2
                          go_wp2_with fail
                          go_ret
                          exact ⟨nd_retB HRF.out.symm, HB.out.trans (HY.out.mono HB.out.size)⟩
                        · have dt : decide (e.st ≤ p.en) = false := by simpa using ht
                          have HAP : Hid (apartB p e = true) := Lib.hid ((apart_split p e).2 ⟨HA.out, fun _ => by omega⟩)
                          clear ht
                          refine region_below w3.heap.size w3 (Below.refl _ _) (by kernel_rfl) (by kernel_rfl) ?_
                          repeat (go_big_quiet_step ((go_at_call 42; exact calls_sub (Nat.le_refl _) (refLess_r p.key e.key _ HA.out _))))
                          refine wpQuiet_nil ?_
                          rintro w' ⟨y, rfl⟩
                          have HY := Lib.hid (HBW.out.trans (y.ok_.mono HBW.out.size))
                          clear G0 G1 G2 N1 P0 P1 P2
                          go_wp2_with fail
                          go_roundw
                          case rel => exact ⟨k + 1, by omega, by go_num, Lib.hid (fun j hj => by rcases Nat.lt_succ_iff_lt_or_eq.1 hj with h | rfl; exact HS.out j h; exact ⟨e, HE.out, HOE.out, .inr ⟨p, by have := HM1.out; subst this; exact HPP.out, HAP.out⟩⟩), HY⟩
                          case measure => first | (simp [intOf]; done) | (simp [intOf]; omega)
                      · have ds : (p.se == e.se) = false := by simp [hs]
                        have HAP : Hid (apartB p e = true) := Lib.hid ((apart_split p e).2 ⟨HA.out, fun h => absurd h hs⟩)
                        clear hs
                        refine region_below w3.heap.size w3 (Below.refl _ _) (by kernel_rfl) (by kernel_rfl) ?_
                        repeat (go_big_quiet_step ((go_at_call 42; exact calls_sub (Nat.le_refl _) (refLess_r p.key e.key _ HA.out _))))
                        refine wpQuiet_nil ?_
                        rintro w' ⟨y, rfl⟩
                        have HY := Lib.hid (HBW.out.trans (y.ok_.mono HBW.out.size))
                        clear G0 G1 G2 N1 P0 P1 P2
                        go_wp2_with fail
                        go_roundw
                        case rel => exact ⟨k + 1, by omega, by go_num, Lib.hid (fun j hj => by rcases Nat.lt_succ_iff_lt_or_eq.1 hj with h | rfl; exact HS.out j h; exact ⟨e, HE.out, HOE.out, .inr ⟨p, by have := HM1.out; subst this; exact HPP.out, HAP.out⟩⟩), HY⟩
                        case measure => first | (simp [intOf]; done) | (simp [intOf]; omega)
                · have HD : Hid (decide (okEnt e) = false) := Lib.hid (decide_eq_false hE)
                  have HRF : Hid (r = false) := Lib.hid (HQ.out.isF (fun h => okStep_not_ent HE.out hE (h.2.2 k (by have := HNE.out; omega))))
                  clear hE
                  go_wp2_with (go_at_call 41; (refine (refEntry_any e false HD.out _).mono ?_); rintro e' w3 ⟨rfl, hb3⟩; have HB3 := Lib.hid hb3; clear hb3)
                  go_ret
                  exact ⟨nd_retB HRF.out.symm, HB.out.trans ((HBW2.out.trans (HB3.out.mono HBW2.out.size)).mono HB.out.size)⟩
              · obtain rfl : k = ne := by omega
                have hf : r = true := HQ.out.isT ⟨by have := HNE.out; omega, by have := HNE.out; omega, fun i hi => HS.out i (by have := HNE.out; omega)⟩
                subst hf
                go_wp2_with fail
                go_ret
                exact ⟨rfl, HB.out.trans (HBR.out.mono HB.out.size)⟩
  | false =>
    by_cases h1 : nd < 1
    · have d1 : decide ((nd : Int) < 1) = true := by simp; omega
      have d1' : decide (nd < 1) = true := by simp; omega
      have hf := HR.out.isF (by unfold okNode; simp only [Bool.false_eq_true, if_false]; intro hx; have h' := hx.2.1; have h'' := hx.2.2.1.1; have := HND.out; omega)
      subst hf
      go_enter Try.func14, Try.ntmps14
      go_upto_region 13 with fail
      rw [EW.out]
      go_wp2_with fail
      go_ret
      exact ⟨rfl, HB.out⟩
    · have d1 : decide ((nd : Int) < 1) = false := by simp; omega
      have d1' : decide (nd < 1) = false := by simp; omega
      by_cases h2 : 16 < nd
      · have d2 : decide ((16 : Int) < (nd : Int)) = true := by simp; omega
        have d2' : decide (16 < nd) = true := by simp; omega
        have hf := HR.out.isF (by unfold okNode; simp only [Bool.false_eq_true, if_false]; intro hx; have h' := hx.2.1; have h'' := hx.2.2.1.2.1; have := HND.out; omega)
        subst hf
        go_enter Try.func14, Try.ntmps14
        go_upto_region 13 with fail
        rw [EW.out]
        go_wp2_with fail
        go_ret
        exact ⟨rfl, HB.out⟩
      · have d2 : decide ((16 : Int) < (nd : Int)) = false := by simp; omega
        have d2' : decide (16 < nd) = false := by simp; omega
        by_cases h3 : nk = nd
        rotate_left
        · have d3 : ((nk : Int) != (nd : Int)) = true := by simp; omega
          have d3' : (nk != nd) = true := by simp; omega
          have hf := HR.out.isF (by unfold okNode; simp only [Bool.false_eq_true, if_false]; intro hx; have h' := hx.2.1; have := HND.out; have := HNK.out; omega)
          subst hf
          go_enter Try.func14, Try.ntmps14
          go_upto_region 13 with fail
          rw [EW.out]
          go_wp2_with fail
          go_ret
          exact ⟨rfl, HB.out⟩
        · have d3 : ((nk : Int) != (nd : Int)) = false := by simp; omega
          have d3' : (nk != nd) = false := by simp; omega
          by_cases h4 : 0 < ne
          · have d4 : decide ((0 : Int) < (ne : Int)) = true := by simp; omega
            have d4' : decide (0 < ne) = true := by simp; omega
            have H3 := Lib.hid h3
            clear h3
            have hf := HR.out.isF (by unfold okNode; simp only [Bool.false_eq_true, if_false]; intro hx; have h' := hx.1; have := HNE.out; rw [h'] at this; simp at this; omega)
            subst hf
            go_enter Try.func14, Try.ntmps14
            go_upto_region 13 with fail
            rw [EW.out]
            go_wp2_with fail
            go_ret
            exact ⟨rfl, HB.out⟩
          · have d4 : decide ((0 : Int) < (ne : Int)) = false := by simp; omega
            have d4' : decide (0 < ne) = false := by simp; omega
            have hq : IsB r (okKeys ks ∧ okKids ds) := by
              have a := HR.out
              unfold okNode at a
              simp only [Bool.false_eq_true, if_false] at a
              have e1 : es = [] := List.eq_nil_of_length_eq_zero (by rw [HNE.out]; omega)
              have e2 : ks.length = ds.length := by rw [HNK.out, HND.out, h3]
              unfold IsB at a ⊢
              rw [a]
              exact ⟨fun x => x.2.2, fun x => ⟨e1, e2, x⟩⟩
            have HQ := Lib.hid hq
            have H3 := Lib.hid h3
            clear hq h3
            obtain ⟨bk, ok, rfl, hck⟩ := (H.out.below HB.out).k (by intro e; have h' := HNK.out; have := H3.out; dsimp only at e; rw [e] at h'; simp at h'; omega)
            obtain ⟨bd, od, rfl, hcd⟩ := (H.out.below HB.out).d (by intro e; have h' := HND.out; dsimp only at e; rw [e] at h'; simp at h'; omega)
            have HCK : Hid (∀ i e, ks[i]? = some e → keyAt W bk (ok + i * 2) e) := Lib.hid hck
            have HCD : Hid (∀ i z, ds[i]? = some z → W.cell? ⟨bd, od + i, none⟩ = some (.int .i64 z)) := Lib.hid hcd
            clear hck hcd
            go_enter Try.func14, Try.ntmps14
            go_upto_region 1 with fail
            rw [EW.out]
            go_upto_region 16 with fail
            clear d1 d1' d2 d2' d3 d3' d4 d4' h4
            have hn1 : 1 ≤ nd := by omega
            have hn7 : nd ≤ 16 := by omega
            clear h1 h2
            go_loopw [5] (fun i wr => ∃ k : Nat, k ≤ nd ∧ i = .int .i64 k ∧ Hid (∀ j, j < k → okStepK ks j ∧ okKidStep ds j) ∧ Hid (Below W.heap.size W wr)) (fun i _ => nd - (intOf i).toNat)
            case atStart => exact ⟨0, by omega, rfl, Lib.hid (fun j hj => by omega), Lib.hid (Below.refl _ _)⟩
            case round =>
              clear k0 k1 k2 k3
              obtain ⟨k, hk, rfl, HS, HBR⟩ := hrel
              obtain ⟨W0, rfl⟩ : ∃ W0, W0 = wr := ⟨_, rfl⟩
              have k3 := nd_cell ((HBR.out.block _ HBLT.out).trans HROW.out) 3 _ rfl
              by_cases hlt : k < nd
              · obtain ⟨e, he⟩ : ∃ e, ks[k]? = some e := ⟨_, List.getElem?_eq_getElem (by have := H3.out; rw [HNK.out]; omega)⟩
                obtain ⟨z, hz⟩ : ∃ z, ds[k]? = some z := ⟨_, List.getElem?_eq_getElem (by rw [HND.out]; omega)⟩
                have hkk : k < nk := by have := H3.out; omega
                obtain ⟨x0, x1⟩ := (HCK.out k e he).below HBR.out
                have hlt0 := World.block_lt_of_cell? _ _ x0
                have x2 := (HBR.out.cell (World.block_lt_of_cell? _ _ (HCD.out k z hz))).trans (HCD.out k z hz)
                have hlt2 := World.block_lt_of_cell? _ _ x2
                have hnode := (HBR.out.block _ HBLT.out).trans HROW.out
                have N2 : ∀ y : SubW W0.heap.size W0, y.at_.cell? ⟨w.heap.size, 2, none⟩ = some (.slice (some ⟨bk, ok, none⟩) nk kc) := fun y => nd_cell ((y.ok_.block _ (Array.getElem?_eq_some_iff.1 hnode).1).trans hnode) 2 _ rfl
                have N3 : ∀ y : SubW W0.heap.size W0, y.at_.cell? ⟨w.heap.size, 3, none⟩ = some (.slice (some ⟨bd, od, none⟩) nd dc) := fun y => nd_cell ((y.ok_.block _ (Array.getElem?_eq_some_iff.1 hnode).1).trans hnode) 3 _ rfl
                have E0 : ∀ y : SubW W0.heap.size W0, y.at_.cell? ⟨bk, ok + k * 2, none⟩ = some (.int .i64 e.se) := fun y => (y.ok_.cell (p := ⟨bk, ok + k * 2, none⟩) hlt0).trans x0
                have E1 : ∀ y : SubW W0.heap.size W0, y.at_.cell? ⟨bk, ok + k * 2 + 1, none⟩ = some (.int .i64 e.st) := fun y => (y.ok_.cell (p := ⟨bk, ok + k * 2 + 1, none⟩) hlt0).trans x1
                have E2 : ∀ y : SubW W0.heap.size W0, y.at_.cell? ⟨bd, od + k, none⟩ = some (.int .i64 z) := fun y => (y.ok_.cell (p := ⟨bd, od + k, none⟩) hlt2).trans x2
                have HE := Lib.hid he
                have HZ := Lib.hid hz
                clear he hz x0 x1 x2 hlt0 hlt2 hnode
                go_upto_region 18 with fail
                by_cases hE : okKey e.se
                rotate_left
                · have HD : Hid (decide (okKey e.se) = false) := Lib.hid (decide_eq_false hE)
                  have HRF : Hid (r = false) := Lib.hid (HQ.out.isF (fun h => okStepK_not_key HE.out hE (h.1.2.2 k (by have := HNK.out; omega))))
                  clear hE
                  refine region_below W0.heap.size W0 (Below.refl _ _) (by kernel_rfl) (by kernel_rfl) ?_
                  repeat (go_big_quiet_step ((go_at_call 43; exact calls_sub (Nat.le_refl _) (refKey_d e _ HD.out _))))
                  refine wpQuiet_nil ?_
                  rintro w' ⟨y, rfl⟩
                  have HY := Lib.hid (HBR.out.trans (y.ok_.mono HBR.out.size))
                  clear N2 N3 E0 E1 E2
                  go_wp2_with fail
                  go_ret
                  exact ⟨nd_retB HRF.out.symm, HB.out.trans (HY.out.mono HB.out.size)⟩
                · have HD : Hid (decide (okKey e.se) = true) := Lib.hid (decide_eq_true hE)
                  have HOE := Lib.hid hE
                  clear hE
                  by_cases hz1 : z < 2
                  · have dz1 : decide (z < 2) = true := by simpa using hz1
                    have HRF : Hid (r = false) := Lib.hid (HQ.out.isF (fun h => by obtain ⟨y, g1, g2, _⟩ := h.2 k (by have := HND.out; omega); rw [HZ.out] at g1; cases g1; unfold okAddr at g2; omega))
                    clear hz1
                    refine region_below W0.heap.size W0 (Below.refl _ _) (by kernel_rfl) (by kernel_rfl) ?_
                    repeat (go_big_quiet_step ((go_at_call 43; exact calls_sub (Nat.le_refl _) (refKey_d e _ HD.out _))))
                    refine wpQuiet_nil ?_
                    rintro w' ⟨y, rfl⟩
                    have HY := Lib.hid (HBR.out.trans (y.ok_.mono HBR.out.size))
                    clear N2 N3 E0 E1 E2
                    go_wp2_with fail
                    go_ret
                    exact ⟨nd_retB HRF.out.symm, HB.out.trans (HY.out.mono HB.out.size)⟩
                  · have dz1 : decide (z < 2) = false := by simpa using hz1
                    by_cases hz2 : 511 < z
                    · have dz2 : decide (511 < z) = true := by simpa using hz2
                      have HRF : Hid (r = false) := Lib.hid (HQ.out.isF (fun h => by obtain ⟨y, g1, g2, _⟩ := h.2 k (by have := HND.out; omega); rw [HZ.out] at g1; cases g1; unfold okAddr at g2; omega))
                      clear hz1 hz2
                      refine region_below W0.heap.size W0 (Below.refl _ _) (by kernel_rfl) (by kernel_rfl) ?_
                      repeat (go_big_quiet_step ((go_at_call 43; exact calls_sub (Nat.le_refl _) (refKey_d e _ HD.out _))))
                      refine wpQuiet_nil ?_
                      rintro w' ⟨y, rfl⟩
                      have HY := Lib.hid (HBR.out.trans (y.ok_.mono HBR.out.size))
                      clear N2 N3 E0 E1 E2
                      go_wp2_with fail
                      go_ret
                      exact ⟨nd_retB HRF.out.symm, HB.out.trans (HY.out.mono HB.out.size)⟩
                    · have dz2 : decide (511 < z) = false := by simpa using hz2
                      have HOA : Hid (okAddr z) := Lib.hid ⟨by omega, by omega⟩
                      clear hz1 hz2
                      by_cases hk0 : k = 0
                      · have d0 : decide ((0 : Int) < (k : Int)) = false := by simp; omega
                        have d0' : decide (0 < k) = false := by simp; omega
                        have HK0 := Lib.hid hk0
                        clear hk0
                        refine region_below W0.heap.size W0 (Below.refl _ _) (by kernel_rfl) (by kernel_rfl) ?_
                        repeat (go_big_quiet_step ((go_at_call 43; exact calls_sub (Nat.le_refl _) (refKey_d e _ HD.out _))))
                        refine wpQuiet_nil ?_
                        rintro w' ⟨y, rfl⟩
                        have HY := Lib.hid (HBR.out.trans (y.ok_.mono HBR.out.size))
                        clear N2 N3 E0 E1 E2
                        obtain ⟨W5, eW5⟩ : ∃ W5, W5 = y.at_ := ⟨_, rfl⟩
                        rw [← eW5] at HY ⊢
                        clear eW5 k3
                        have k3 := nd_cell ((HY.out.block _ HBLT.out).trans HROW.out) 3 _ rfl
                        have HSK : Hid (okStepK ks k) := Lib.hid (⟨e, HE.out, HOE.out, .inl HK0.out⟩)
                        go_upto_region 21 with fail
                        go_loopw [6] (fun i2 wr => ∃ m : Nat, m ≤ k ∧ i2 = .int .i64 m ∧ Hid (∀ j, j < m → ds[j]? ≠ ds[k]?) ∧ Hid (Below W.heap.size W wr)) (fun i2 _ => k - (intOf i2).toNat)
                        case atStart => exact ⟨0, by omega, rfl, Lib.hid (fun j hj => by omega), HY⟩
                        case round =>
                          clear HY k3
                          obtain ⟨m, hm, rfl, HM, HY⟩ := hrel
                          have k3 := nd_cell ((HY.out.block _ HBLT.out).trans HROW.out) 3 _ rfl
                          by_cases hlt5 : m < k
                          · obtain ⟨z2, hz2⟩ : ∃ z, ds[m]? = some z := ⟨_, List.getElem?_eq_getElem (by rw [HND.out]; omega)⟩
                            have hmd : m < nd := by omega
                            have v1 := (HY.out.cell (World.block_lt_of_cell? _ _ (HCD.out k z HZ.out))).trans (HCD.out k z HZ.out)
                            have v2 := (HY.out.cell (World.block_lt_of_cell? _ _ (HCD.out m z2 hz2))).trans (HCD.out m z2 hz2)
                            have hl3 := World.block_lt_of_cell? _ _ k3
                            have hl1 := World.block_lt_of_cell? _ _ v1
                            have M3 : ∀ y : SubW wr.heap.size wr, y.at_.cell? ⟨w.heap.size, 3, none⟩ = some (.slice (some ⟨bd, od, none⟩) nd dc) := fun y => (y.ok_.cell (p := ⟨w.heap.size, 3, none⟩) hl3).trans k3
                            have M1 : ∀ y : SubW wr.heap.size wr, y.at_.cell? ⟨bd, od + k, none⟩ = some (.int .i64 z) := fun y => (y.ok_.cell (p := ⟨bd, od + k, none⟩) hl1).trans v1
                            have M2 : ∀ y : SubW wr.heap.size wr, y.at_.cell? ⟨bd, od + m, none⟩ = some (.int .i64 z2) := fun y => (y.ok_.cell (p := ⟨bd, od + m, none⟩) hl1).trans v2
                            have HZ2 := Lib.hid hz2
                            clear hz2 v1 v2 hl3 hl1
                            go_upto_region 23 with fail
                            refine region_below wr.heap.size wr (Below.refl _ _) (by kernel_rfl) (by kernel_rfl) ?_
                            repeat (go_big_quiet_step (fail))
                            refine wpQuiet_nil ?_
                            rintro w' ⟨y, rfl⟩
                            have HY2 := Lib.hid (HY.out.trans (y.ok_.mono HY.out.size))
                            clear M1 M2 M3
                            by_cases hzz : z2 = z
                            · have dzz : (z2 == z) = true := by simp [hzz]
                              have HRF : Hid (r = false) := Lib.hid (HQ.out.isF (fun h => by obtain ⟨y, g1, _, g3⟩ := h.2 k (by have := HND.out; omega); rw [HZ.out] at g1; cases g1; exact g3 (List.mem_of_getElem? (i := m) (by rw [List.getElem?_take, if_pos hlt5, HZ2.out, hzz]))))
                              clear hzz
                              go_wp2_with fail
                              go_ret
                              exact ⟨nd_retB HRF.out.symm, HB.out.trans (HY2.out.mono HB.out.size)⟩
                            · have dzz : (z2 == z) = false := by simp [hzz]
                              have HNE2 := Lib.hid hzz
                              clear hzz
                              go_wp2_with fail
                              go_roundw
                              case rel => exact ⟨m + 1, by omega, by go_num, Lib.hid (fun j hj => by rcases Nat.lt_succ_iff_lt_or_eq.1 hj with h | rfl; exact HM.out j h; rw [HZ2.out, HZ.out]; intro e; injection e with e; exact HNE2.out e), HY2⟩
                              case measure => first | (simp [intOf]; done) | (simp [intOf]; omega)
                          · obtain rfl : m = k := by omega
                            go_wp2_with fail
                            go_roundw
                            case rel => exact ⟨m + 1, by omega, by go_num, Lib.hid (fun j hj => by rcases Nat.lt_succ_iff_lt_or_eq.1 hj with h | rfl; exact HS.out j h; exact ⟨HSK.out, z, HZ.out, HOA.out, fun hx => by obtain ⟨i, hi⟩ := List.getElem?_of_mem hx; rw [List.getElem?_take] at hi; split at hi; exact HM.out i (by assumption) (hi.trans HZ.out.symm); cases hi⟩), HY⟩
                            case measure => first | (simp [intOf]; done) | (simp [intOf]; omega)
                      · obtain ⟨m, hm1⟩ : ∃ m, k = m + 1 := ⟨k - 1, by omega⟩
                        have d0 : decide ((0 : Int) < (k : Int)) = true := by simp; omega
                        have d0' : decide (0 < k) = true := by simp; omega
                        have hwm : (k : Int) - 1 = (m : Int) := by omega
                        have hmn : m < nk := by omega
                        obtain ⟨p, hp⟩ : ∃ p, ks[m]? = some p := ⟨_, List.getElem?_eq_getElem (by have := HNK.out; omega)⟩
                        obtain ⟨x0, x1⟩ := (HCK.out m p hp).below HBR.out
                        have hlt0 := World.block_lt_of_cell? _ _ x0
                        have P0 : ∀ y : SubW W0.heap.size W0, y.at_.cell? ⟨bk, ok + m * 2, none⟩ = some (.int .i64 p.se) := fun y => (y.ok_.cell (p := ⟨bk, ok + m * 2, none⟩) hlt0).trans x0
                        have P1 : ∀ y : SubW W0.heap.size W0, y.at_.cell? ⟨bk, ok + m * 2 + 1, none⟩ = some (.int .i64 p.st) := fun y => (y.ok_.cell (p := ⟨bk, ok + m * 2 + 1, none⟩) hlt0).trans x1
                        have HPP := Lib.hid hp
                        have HM1 := Lib.hid hm1
                        clear x0 x1 hlt0 hp hm1 hk0
                        obtain ⟨a, ha⟩ : ∃ a, lessB p e = a := ⟨_, rfl⟩
                        have HA := Lib.hid ha
                        clear ha
                        cases a
                        · have HRF : Hid (r = false) := Lib.hid (HQ.out.isF (fun h => okStepK_not_less HM1.out HE.out HPP.out HA.out (h.1.2.2 k (by have := HNK.out; omega))))
                          refine region_below W0.heap.size W0 (Below.refl _ _) (by kernel_rfl) (by kernel_rfl) ?_
                          repeat (go_big_quiet_step ((first | (go_at_call 43; exact calls_sub (Nat.le_refl _) (refKey_d e _ HD.out _)) | (go_at_call 42; exact calls_sub (Nat.le_refl _) (refLess_r p e _ HA.out _)))))
                          refine wpQuiet_nil ?_
                          rintro w' ⟨y, rfl⟩
                          have HY := Lib.hid (HBR.out.trans (y.ok_.mono HBR.out.size))
                          clear N2 N3 E0 E1 E2 P0 P1
                          go_wp2_with fail
                          go_ret
                          exact ⟨nd_retB HRF.out.symm, HB.out.trans (HY.out.mono HB.out.size)⟩
                        · skip
                          refine region_below W0.heap.size W0 (Below.refl _ _) (by kernel_rfl) (by kernel_rfl) ?_
                          repeat (go_big_quiet_step ((first | (go_at_call 43; exact calls_sub (Nat.le_refl _) (refKey_d e _ HD.out _)) | (go_at_call 42; exact calls_sub (Nat.le_refl _) (refLess_r p e _ HA.out _)))))
                          refine wpQuiet_nil ?_
                          rintro w' ⟨y, rfl⟩
                          have HY := Lib.hid (HBR.out.trans (y.ok_.mono HBR.out.size))
                          clear N2 N3 E0 E1 E2 P0 P1
                          clear hwm hmn
                          obtain ⟨W5, eW5⟩ : ∃ W5, W5 = y.at_ := ⟨_, rfl⟩
                          rw [← eW5] at HY ⊢
                          clear eW5 k3
                          have k3 := nd_cell ((HY.out.block _ HBLT.out).trans HROW.out) 3 _ rfl
                          have HSK : Hid (okStepK ks k) := Lib.hid (⟨e, HE.out, HOE.out, .inr ⟨p, by have := HM1.out; subst this; exact HPP.out, HA.out⟩⟩)
                          go_upto_region 21 with fail
                          go_loopw [6] (fun i2 wr => ∃ m : Nat, m ≤ k ∧ i2 = .int .i64 m ∧ Hid (∀ j, j < m → ds[j]? ≠ ds[k]?) ∧ Hid (Below W.heap.size W wr)) (fun i2 _ => k - (intOf i2).toNat)
                          case atStart => exact ⟨0, by omega, rfl, Lib.hid (fun j hj => by omega), HY⟩
                          case round =>
                            clear HY k3
                            obtain ⟨m, hm, rfl, HM, HY⟩ := hrel
                            have k3 := nd_cell ((HY.out.block _ HBLT.out).trans HROW.out) 3 _ rfl
                            by_cases hlt5 : m < k
                            · obtain ⟨z2, hz2⟩ : ∃ z, ds[m]? = some z := ⟨_, List.getElem?_eq_getElem (by rw [HND.out]; omega)⟩
                              have hmd : m < nd := by omega
                              have v1 := (HY.out.cell (World.block_lt_of_cell? _ _ (HCD.out k z HZ.out))).trans (HCD.out k z HZ.out)
                              have v2 := (HY.out.cell (World.block_lt_of_cell? _ _ (HCD.out m z2 hz2))).trans (HCD.out m z2 hz2)
                              have hl3 := World.block_lt_of_cell? _ _ k3
                              have hl1 := World.block_lt_of_cell? _ _ v1
                              have M3 : ∀ y : SubW wr.heap.size wr, y.at_.cell? ⟨w.heap.size, 3, none⟩ = some (.slice (some ⟨bd, od, none⟩) nd dc) := fun y => (y.ok_.cell (p := ⟨w.heap.size, 3, none⟩) hl3).trans k3
                              have M1 : ∀ y : SubW wr.heap.size wr, y.at_.cell? ⟨bd, od + k, none⟩ = some (.int .i64 z) := fun y => (y.ok_.cell (p := ⟨bd, od + k, none⟩) hl1).trans v1
                              have M2 : ∀ y : SubW wr.heap.size wr, y.at_.cell? ⟨bd, od + m, none⟩ = some (.int .i64 z2) := fun y => (y.ok_.cell (p := ⟨bd, od + m, none⟩) hl1).trans v2
                              have HZ2 := Lib.hid hz2
                              clear hz2 v1 v2 hl3 hl1
                              go_upto_region 23 with fail
                              refine region_below wr.heap.size wr (Below.refl _ _) (by kernel_rfl) (by kernel_rfl) ?_
                              repeat (go_big_quiet_step (fail))
                              refine wpQuiet_nil ?_
                              rintro w' ⟨y, rfl⟩
                              have HY2 := Lib.hid (HY.out.trans (y.ok_.mono HY.out.size))
                              clear M1 M2 M3
                              by_cases hzz : z2 = z
                              · have dzz : (z2 == z) = true := by simp [hzz]
                                have HRF : Hid (r = false) := Lib.hid (HQ.out.isF (fun h => by obtain ⟨y, g1, _, g3⟩ := h.2 k (by have := HND.out; omega); rw [HZ.out] at g1; cases g1; exact g3 (List.mem_of_getElem? (i := m) (by rw [List.getElem?_take, if_pos hlt5, HZ2.out, hzz]))))
                                clear hzz
                                go_wp2_with fail
                                go_ret
                                exact ⟨nd_retB HRF.out.symm, HB.out.trans (HY2.out.mono HB.out.size)⟩
                              · have dzz : (z2 == z) = false := by simp [hzz]
                                have HNE2 := Lib.hid hzz
                                clear hzz
                                go_wp2_with fail
                                go_roundw
                                case rel => exact ⟨m + 1, by omega, by go_num, Lib.hid (fun j hj => by rcases Nat.lt_succ_iff_lt_or_eq.1 hj with h | rfl; exact HM.out j h; rw [HZ2.out, HZ.out]; intro e; injection e with e; exact HNE2.out e), HY2⟩
                                case measure => first | (simp [intOf]; done) | (simp [intOf]; omega)
                            · obtain rfl : m = k := by omega
                              go_wp2_with fail
                              go_roundw
                              case rel => exact ⟨m + 1, by omega, by go_num, Lib.hid (fun j hj => by rcases Nat.lt_succ_iff_lt_or_eq.1 hj with h | rfl; exact HS.out j h; exact ⟨HSK.out, z, HZ.out, HOA.out, fun hx => by obtain ⟨i, hi⟩ := List.getElem?_of_mem hx; rw [List.getElem?_take] at hi; split at hi; exact HM.out i (by assumption) (hi.trans HZ.out.symm); cases hi⟩), HY⟩
                              case measure => first | (simp [intOf]; done) | (simp [intOf]; omega)
              · obtain rfl : k = nd := by omega
                have hf : r = true := HQ.out.isT ⟨⟨by have := HNK.out; have := H3.out; omega, by have := HNK.out; have := H3.out; omega, fun i hi => (HS.out i (by have := HNK.out; have := H3.out; omega)).1⟩, fun i hi => (HS.out i (by have := HND.out; omega)).2⟩
                subst hf
                go_wp2_with fail
                go_ret
                exact ⟨rfl, HB.out.trans (HBR.out.mono HB.out.size)⟩
end Go.Proofs.Ytgkddhncfaeidaa
