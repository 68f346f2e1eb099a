/- Several texts in one: Load: a new tree of entries. Load of no entries. The entries that the law's build loads. -/
import Derived.Test.YtgkddhncfaeidaaPart25
import Derived.Test.YtgkddhncfaeidaaPart26
import Derived.Test.YtgkddhncfaeidaaPart13
set_option linter.unusedSimpArgs false
set_option linter.unusedVariables false
namespace Go.Proofs.Ytgkddhncfaeidaa
open Go.RowKit Go.ChangeShapes Go.WideShapes Go.ChangeAt CrcM PageM
set_option linter.unusedVariables false

def lvlE (es : List EntD) : List NodeD := (chs 7 es.length ((es.length + 6) / 7)).map fun x => ⟨true, (es.drop x.1).take x.2, [], []⟩
theorem fillP_lvlE (es : List EntD) (l : NdL) : (fillP ⟨true, es, [], []⟩ l).map Prod.fst = lvlE es := by
  have h0 : (chs 16 ([] : List Int).length ((([] : List Int).length + 15) / 16)) = [] := rfl
  rw [fillP]
  dsimp only
  rw [h0, List.map_nil, List.append_nil, List.map_map, lvlE]
  rfl
theorem okM_or {p : Nat} {U V : List Bool} (hU : okM (p : Int) U) (hV : okM (p : Int) V) (lV : V.length = 512) : okM (p : Int) (orK U V 512) := by
  obtain ⟨h1, h2, h3⟩ := hU
  refine ⟨h1, h2, fun j hj => ?_⟩
  have a1 := h3 j hj
  have a2 := hV.2.2 j hj
  unfold okAt at a1 a2 ⊢
  rw [getD_orK U V j 512 (by rw [lV]; exact Nat.le_refl _), if_pos hj]
  cases hu : U.getD j false <;> cases hv : V.getD j false <;> simp_all
theorem Picks.free {p : Nat} {V : List Bool} : ∀ {qs : List Nat} {U : List Bool}, U.length = 512 → p ≤ 512 → Picks p V U qs → ∀ b ∈ qs, U.getD b false = false ∧ b < p
  | [], _, _, _, _, b, hb => by cases hb
  | a :: qs, U, hU, hp, h, b, hb => by
    rcases List.mem_cons.1 hb with rfl | hb
    · have h1 := h.1.1.2 0 (by decide)
      exact ⟨by simpa using h1.1, by have := h.1.1.1; omega⟩
    · have h2 := Picks.free (by rw [length_markN]; exact hU) hp h.2 b hb
      rw [getD_markN U a true b 1 (by have := h.1.1.1; omega)] at h2
      by_cases hab : a ≤ b ∧ b < a + 1
      · rw [if_pos hab] at h2
        exact absurd h2.1 (by decide)
      · rw [if_neg hab] at h2
        exact h2
theorem Picks.nodup {p : Nat} {V : List Bool} : ∀ {qs : List Nat} {U : List Bool}, U.length = 512 → p ≤ 512 → Picks p V U qs → qs.Nodup
  | [], _, _, _, _ => List.nodup_nil
  | a :: qs, U, hU, hp, h => by
    refine List.nodup_cons.2 ⟨fun hm => ?_, Picks.nodup (by rw [length_markN]; exact hU) hp h.2⟩
    have h2 := Picks.free (by rw [length_markN]; exact hU) hp h.2 a hm
    rw [getD_markN U a true a 1 (by have := h.1.1.1; omega), if_pos (by omega)] at h2
    exact absurd h2.1 (by decide)

set_option maxRecDepth 100000 in
set_option maxHeartbeats 8000000 in
theorem load_yes (gv g gen p : Nat) (U V : List Bool) (hU : U.length = 512) (hV : V.length = 512) (okU : okM (p : Int) U) (okV : okM (p : Int) V) (hg : gen < 18446744073709551616) {B N gs gn Ls cs cn : Nat} {rw : Value} {st nw : List UInt8} {ws : List (Nat × List UInt8)}
    (es : List EntD) (A : Option Addr) (n c : Nat) (hn : es.length = n) (hm : n ≤ 1000000) (hr : RisingD es) (Lr : List (Nat × NodeD)) (nr : NodeD) (h' a : Nat) (ht : Tops (lvlE es) 1 Lr nr h') (h5 : h' ≤ 5) (hnr : nr.leaf = false → 2 ≤ nr.ds.length) (hp : Picks p (orK U V 512) U (Lr.map Prod.fst ++ [a]))
    (hok : ∀ x ∈ Lr ++ [(a, nr)], okNode x.2 ∧ 256 * x.1 + 256 ≤ Ls) (hws : ws.length + 4 * (Lr.length + 1) ≤ 500) (w : World) (hx : NodeT w ⟨true, es, [], []⟩ ⟨A, c, none, 0, none, 0⟩) (hv : ViewAt w gv g gen (p : Int) U V) (hd : Dk w B N g gs gn rw Ls cs cn st nw ws true (-1)) :
    Calls Try.prog 56 #[.pointer (some ⟨gv, 0, none⟩), .slice A n c] w fun e w' => e = .returned (.tuple #[.agg #[.int .i64 (a : Int), .int .i64 (h' : Int)], .int .i64 0]) ∧ ∃ Lx, Lx.map strip = Lr ++ [(a, nr)] ∧ Wrote w w' gv g gen p (marks U (Lr.map Prod.fst ++ [a])) V B gs gn Ls cs cn rw st nw ws Lx := by
  have HU := Lib.hid hU
  have HV := Lib.hid hV
  have HOU := Lib.hid okU
  have HOV := Lib.hid okV
  have HG := Lib.hid hg
  have HN := Lib.hid hn
  have HRI := Lib.hid hr
  have HT := Lib.hid ht
  have H5 := Lib.hid h5
  have HNR := Lib.hid hnr
  have HP := Lib.hid hp
  have HOK := Lib.hid hok
  have HWS := Lib.hid hws
  have HX := Lib.hid hx
  have HVW := Lib.hid hv
  have HD := Lib.hid hd
  have HMM := Lib.hid hm
  have HPB : Hid (p ≤ 512) := Lib.hid (by have := okU.2.1; omega)
  clear hU hV okU okV hg hn hr ht h5 hnr hp hok hws hx hv hd hm
  go_enter Try.func56, Try.ntmps56
  go_upto_region 1 with fail
  obtain ⟨w1, hw1⟩ : ∃ w1, w1 = w.alloc (.cells #[.int .i64 0, .int .i64 0] 63) := ⟨_, rfl⟩
  have G1 : Hid (w1.heap[w.heap.size]? = some (.cells #[.int .i64 0, .int .i64 0] 63 (0, 0))) := Lib.hid (by rw [hw1]; exact heap_alloc_new _ _)
  have B1 := Lib.hid (alloc_bel hw1)
  rw [← hw1]
  clear hw1
  have HV1 := Lib.hid (HVW.out.below B1.out)
  go_upto_region 6 with (first
    | (go_at_call 76; refine (open_yes gv g gen p U V _ HV1.out).mono ?_; rintro e w2 ⟨rfl, rfl⟩)
    | (go_at_call 77; refine (rising_yes es A n c HN.out (by rw [← HN.out]; exact HX.out.at_.ec) HX.out.at_.em HMM.out HRI.out _ (HX.out.at_.below B1.out).e).mono ?_; rintro e w2 ⟨rfl, hb2⟩; have B2 := Lib.hid (B1.out.trans (hb2.mono B1.out.size)); have G2 := Lib.hid (row_stays G1.out hb2); clear hb2))
  have HV2 := Lib.hid (HVW.out.below B2.out)
  go_upto_region 7 with (go_at_call 78; refine (begin_yes gv g gen p U V HU.out HV.out _ HV2.out).mono ?_; rintro e w3 ⟨gc, rfl, hc3, hb3⟩; have C3 := Lib.hid hc3; have B23 := Lib.hid hb3; have G3 := Lib.hid (row_stays G2.out hb3); clear hc3 hb3)
  have BW3 : Hid (Below w.heap.size w w3) := Lib.hid (B2.out.trans (B23.out.mono B2.out.size))
  have HX3 := Lib.hid (HX.out.below BW3.out)
  obtain ⟨pr, hpr⟩ : ∃ pr, pr = fillP ⟨true, es, [], []⟩ ⟨A, c, none, 0, none, 0⟩ := ⟨_, rfl⟩
  obtain ⟨m, hm⟩ : ∃ m, pr.length = m := ⟨_, rfl⟩
  have HPM := Lib.hid hm
  have HPF : Hid (pr.map Prod.fst = lvlE es) := Lib.hid (by rw [hpr]; exact fillP_lvlE _ _)
  have HPT : Hid (∀ W, NodeT W ⟨true, es, [], []⟩ ⟨A, c, none, 0, none, 0⟩ → LvlT W pr) := Lib.hid (fun W hW => by rw [hpr]; exact fillP_T hW rfl)
  have HFI : Hid (Calls Try.prog 81 #[.agg #[.bool true, .slice A n c, .slice none 0 0, .slice none 0 0]] w3 fun e w' => (∃ A4 c4, e = .returned (.slice A4 m c4) ∧ w'.ownsRow w3.heap.size 34 4 (.slice A4 m c4) m (pr.flatMap ndP)) ∧ Below w3.heap.size w3 w') := Lib.hid (by
    have h1 := filled_any ⟨true, es, [], []⟩ ⟨A, c, none, 0, none, 0⟩ rfl (by show es.length ≤ _; rw [HN.out]; exact HMM.out) (by show ([] : List Int).length ≤ _; simp) w3 HX3.out.at_
    rw [← hpr, hm] at h1
    rw [← HN.out]
    exact h1)
  have HTOP : Hid (∀ (A4 : Option Addr) (c4 : Nat) (W : World), w3.heap.size ≤ W.heap.size → Below w3.heap.size w3 W → W.ownsRow w3.heap.size 34 4 (.slice A4 m c4) m (pr.flatMap ndP) → Calls Try.prog 80 #[.pointer (some ⟨gc, 0, none⟩), .slice A4 m c4, .int .i64 1] W fun e w' => e = .returned (.tuple #[.agg #[.int .i64 (a : Int), .int .i64 (h' : Int)], .int .i64 0]) ∧
      (∃ lv' Lx, ChgS w' gc gv p w2.heap.size (marks U (Lr.map Prod.fst ++ [a])) (orK U V 512) lv' Lx ∧ Lx.map strip = Lr ++ [(a, nr)] ∧ ∀ x ∈ Lx, NodeT w' x.2.1 x.2.2) ∧ OutT gc w2.heap.size 176 W w') := Lib.hid (fun A4 c4 W hs hb hr => by
    have h1 := top_yes gc gv p w2.heap.size U (orK U V 512) (.slice none 0 0) [] HU.out (by rw [length_orK]; exact HV.out) HOU.out (okM_or HOU.out HOV.out HV.out) pr A4 c4 1 Lr nr h' a (by rw [HPF.out]; exact HT.out) HNR.out HP.out (by have := HWS.out; simp; omega) H5.out W (C3.out.below hb) (by simp) (ChAt.of_row (base := w3.heap.size) (c := c4) (by rw [HPM.out]; exact hr)) (HPT.out W (HX3.out.below hb))
    rw [HPM.out] at h1
    simp only [List.nil_append] at h1
    exact h1)
  clear hpr hm
  go_wp2_with (first
    | (go_at_call 81; refine HFI.out.mono ?_; rintro e w4 ⟨⟨A4, c4, rfl, hr4⟩, hb4⟩; have R4 := Lib.hid hr4; have B34 := Lib.hid hb4; clear hr4 hb4)
    | (go_at_call 80; refine (HTOP.out A4 c4 _ B34.out.size B34.out R4.out).mono ?_; rintro e w5 ⟨rfl, ⟨lv5, Lx, hc5, hL5, hn5⟩, ho5⟩; have C5 := Lib.hid hc5; have L5 := Lib.hid hL5; have N5 := Lib.hid hn5; have O5 := Lib.hid ho5; clear hc5 hL5 hn5 ho5))
  have B25 : Hid (Below w2.heap.size w2 w5) := Lib.hid ((B23.out.trans (B34.out.mono B23.out.size)).trans (O5.out.below C3.out.B0 (by have := B23.out.size; have := B34.out.size; omega)))
  have BW5 : Hid (Below w.heap.size w w5) := Lib.hid (B2.out.trans (B25.out.mono B2.out.size))
  have D5 := Lib.hid (HD.out.below BW5.out)
  have V5 := Lib.hid (HVW.out.below BW5.out)
  have G4 := row_stays G3.out B34.out
  have G5 := Lib.hid ((O5.out.typed G4 (by decide) (chg_ne_box (C3.out.below B34.out) G4 (by decide))).trans G4)
  clear G4
  have LF : Hid (Lx.map Prod.fst = Lr.map Prod.fst ++ [a]) := Lib.hid (by
    have h1 := congrArg (List.map Prod.fst) L5.out
    rw [List.map_map, List.map_append] at h1
    exact h1)
  refine (done_yes a h' gc gv g gen p (marks U (Lr.map Prod.fst ++ [a])) U V Lx w5 D5.out V5.out (fun W hW => ?_)).mono ?_
  · refine (write_yes gc gv p w2.heap.size gen (marks U (Lr.map Prod.fst ++ [a])) U V (orK U V 512) lv5 Lx (by rw [length_marks]; exact HU.out) HU.out (by rw [length_orK]; exact HV.out) HV.out HG.out (by
      have h1 := congrArg List.length L5.out
      rw [List.length_map, List.length_append, List.length_singleton] at h1
      rw [h1]
      exact HWS.out) (by rw [LF.out]; exact HP.out.nodup HU.out HPB.out) (fun x hx => by
      have h1 : strip x ∈ Lr ++ [(a, nr)] := by rw [← L5.out]; exact List.mem_map_of_mem hx
      exact HOK.out (strip x) h1) W (fun x hx => (N5.out x hx).below hW) (C5.out.below hW) (V5.out.below hW) (D5.out.below hW)).mono ?_
    rintro e w' ⟨h1, h2, h3, h4⟩
    exact ⟨h1, ⟨h2, h3, h4⟩⟩
  · rintro e w6 ⟨rfl, hw6⟩
    have W6 := Lib.hid hw6
    clear hw6
    have hX : ¬ (DkX g gn rw w.heap.size ∨ w.heap.size = gv) := fun hx => by
      rcases hx with hx | hx
      · exact D5.out.notX G5.out (by decide) (.inl (by decide)) (by decide) hx
      · have h1 := V5.out
        have h2 := G5.out
        unfold ViewAt at h1
        rw [hx, h1] at h2
        cases h2
    have G6 := Lib.hid (W6.out.out.heap G5.out hX)
    clear hX
    go_wp2_with (refine wpList_store_row rfl 63 (.tmp 4) (.tmp 29) rfl w.heap.size #[.int .i64 (a : Int), .int .i64 (h' : Int)] rfl rfl 63 _ G6.out (by kernel_rfl) rfl (by simp [Value.oneCell']) ?_)
    refine bodyPost_ret (v := .tuple #[.agg #[.int .i64 (a : Int), .int .i64 (h' : Int)], .int .i64 0]) (results_cell_tmpB (p := 4) (u := 5) (ty := 63) rfl _ _ w.heap.size 63 _ (0, 0) _ rfl (setRow_heap _ _ _ _ _ _ G6.out) Try.underlying63 rfl (by kernel_rfl)) rfl ⟨rfl, Lx, L5.out, ?_⟩
    exact (W6.out.pre BW5.out).post (KeptNot.of_setRow G6.out _) (below_setRow (Below.refl _ _) (Nat.le_refl _) _) (by decide) (by decide) (by decide) (by decide)
end Go.Proofs.Ytgkddhncfaeidaa

namespace Go.Proofs.Ytgkddhncfaeidaa
open Go.RowKit Go.ChangeShapes Go.WideShapes Go.ChangeAt CrcM PageM
set_option linter.unusedVariables false

set_option maxRecDepth 100000 in
set_option maxHeartbeats 4000000 in
theorem top_none (gc : Nat) (A : Option Addr) (c : Nat) (w : World) :
    Calls Try.prog 80 #[.pointer (some ⟨gc, 0, none⟩), .slice A 0 c, .int .i64 1] w fun e w' => e = .returned (.tuple #[.agg #[.int .i64 0, .int .i64 0], .int .i64 0]) ∧ Below w.heap.size w w' := by
  go_enter Try.func80, Try.ntmps80
  go_upto_region 1 with fail
  obtain ⟨w1, hw1⟩ : ∃ w1, w1 = w.alloc (.cells #[.int .i64 0, .int .i64 0] 63) := ⟨_, rfl⟩
  have G1 : Hid (w1.heap[w.heap.size]? = some (.cells #[.int .i64 0, .int .i64 0] 63 (0, 0))) := Lib.hid (by rw [hw1]; exact heap_alloc_new _ _)
  have B1 := Lib.hid (alloc_bel hw1)
  rw [← hw1]
  clear hw1
  go_loopw [1, 2] (fun l i wr => l = .slice A 0 c ∧ i = .int .i64 1 ∧ Hid (wr = w1)) (fun _ _ _ => 0)
  case atStart => exact ⟨rfl, rfl, Lib.hid rfl⟩
  case round =>
    obtain ⟨rfl, rfl, HW⟩ := hrel
    obtain ⟨W0, rfl⟩ : ∃ W0, W0 = wr := ⟨_, rfl⟩
    have G2 : Hid (W0.heap[w.heap.size]? = some (.cells #[.int .i64 0, .int .i64 0] 63 (0, 0))) := Lib.hid (by rw [HW.out]; exact G1.out)
    have hd : decide ((0 : Int) > 1) = false := by simp
    go_wp2_with (refine wpList_store_row rfl 63 (.tmp 6) (.tmp 38) rfl w.heap.size #[.int .i64 0, .int .i64 0] rfl rfl 63 _ G2.out (by kernel_rfl) rfl (by simp [Value.oneCell']) ?_)

    refine bodyPost_ret (v := .tuple #[.agg #[.int .i64 0, .int .i64 0], .int .i64 0]) (results_cell_tmpB (p := 6) (u := 7) (ty := 63) rfl _ _ w.heap.size 63 _ (0, 0) _ rfl (setRow_heap _ _ _ _ _ _ G2.out) Try.underlying63 rfl (by kernel_rfl)) rfl ⟨rfl, ?_⟩
    rw [HW.out]
    exact below_setRow B1.out (Nat.le_refl _) _
set_option maxRecDepth 100000 in
set_option maxHeartbeats 8000000 in
theorem load_none (gv g gen p : Nat) (U V : List Bool) (hU : U.length = 512) (hV : V.length = 512) (okU : okM (p : Int) U) (hg : gen < 18446744073709551616) {B N gs gn Ls cs cn : Nat} {rw : Value} {st nw : List UInt8} {ws : List (Nat × List UInt8)}
    (hws : ws.length ≤ 500) (w : World) (hv : ViewAt w gv g gen (p : Int) U V) (hd : Dk w B N g gs gn rw Ls cs cn st nw ws true (-1)) :
    Calls Try.prog 56 #[.pointer (some ⟨gv, 0, none⟩), .slice none 0 0] w fun e w' => e = .returned (.tuple #[.agg #[.int .i64 0, .int .i64 0], .int .i64 0]) ∧ Wrote w w' gv g gen p U V B gs gn Ls cs cn rw st nw ws [] := by
  have HU := Lib.hid hU
  have HV := Lib.hid hV
  have HOU := Lib.hid okU
  have HG := Lib.hid hg
  have HWS := Lib.hid hws
  have HVW := Lib.hid hv
  have HD := Lib.hid hd
  have HPB : Hid (p ≤ 512) := Lib.hid (by have := okU.2.1; omega)
  have HX : Hid (NodeT w ⟨true, [], [], []⟩ ⟨none, 0, none, 0, none, 0⟩) := Lib.hid { at_ := { e := fun h => absurd rfl h, k := fun h => absurd rfl h, d := fun h => absurd rfl h, ec := Nat.le_refl _, kc := Nat.le_refl _, dc := Nat.le_refl _, em := by unfold maxLen; simp, km := by unfold maxLen; simp, dm := by unfold maxLen; simp }, te := fun h => absurd rfl h, tk := fun h => absurd rfl h, td := fun h => absurd rfl h }
  clear hU hV okU hg hws hv hd
  go_enter Try.func56, Try.ntmps56
  go_upto_region 1 with fail
  obtain ⟨w1, hw1⟩ : ∃ w1, w1 = w.alloc (.cells #[.int .i64 0, .int .i64 0] 63) := ⟨_, rfl⟩
  have G1 : Hid (w1.heap[w.heap.size]? = some (.cells #[.int .i64 0, .int .i64 0] 63 (0, 0))) := Lib.hid (by rw [hw1]; exact heap_alloc_new _ _)
  have B1 := Lib.hid (alloc_bel hw1)
  rw [← hw1]
  clear hw1
  have HV1 := Lib.hid (HVW.out.below B1.out)
  go_upto_region 6 with (first
    | (go_at_call 76; refine (open_yes gv g gen p U V _ HV1.out).mono ?_; rintro e w2 ⟨rfl, rfl⟩)
    | (go_at_call 77; refine (rising_yes [] none 0 0 rfl (Nat.le_refl _) (by unfold maxLen; simp) (by decide) ⟨by simp, by simp⟩ _ (fun h => absurd rfl h)).mono ?_; rintro e w2 ⟨rfl, hb2⟩; have B2 := Lib.hid (B1.out.trans (hb2.mono B1.out.size)); have G2 := Lib.hid (row_stays G1.out hb2); clear hb2))
  have HV2 := Lib.hid (HVW.out.below B2.out)
  go_upto_region 7 with (go_at_call 78; refine (begin_yes gv g gen p U V HU.out HV.out _ HV2.out).mono ?_; rintro e w3 ⟨gc, rfl, hc3, hb3⟩; have C3 := Lib.hid hc3; have B23 := Lib.hid hb3; have G3 := Lib.hid (row_stays G2.out hb3); clear hc3 hb3)
  have BW3 : Hid (Below w.heap.size w w3) := Lib.hid (B2.out.trans (B23.out.mono B2.out.size))
  have HX3 := Lib.hid (HX.out.below BW3.out)
  have HFI : Hid (Calls Try.prog 81 #[.agg #[.bool true, .slice none 0 0, .slice none 0 0, .slice none 0 0]] w3 fun e w' => (∃ A4 c4, e = .returned (.slice A4 0 c4)) ∧ Below w3.heap.size w3 w') := Lib.hid (by
    have h1 := filled_any ⟨true, [], [], []⟩ ⟨none, 0, none, 0, none, 0⟩ rfl (by simp) (by simp) w3 HX3.out.at_
    have h2 : (fillP ⟨true, [], [], []⟩ ⟨none, 0, none, 0, none, 0⟩).length = 0 := rfl
    rw [h2] at h1
    refine h1.mono ?_
    rintro e w' ⟨⟨A4, c4, h3, h4⟩, h5⟩
    exact ⟨⟨A4, c4, h3⟩, h5⟩)
  go_wp2_with (first
    | (go_at_call 81; refine HFI.out.mono ?_; rintro e w4 ⟨⟨A4, c4, rfl⟩, hb4⟩; have B34 := Lib.hid hb4; clear hb4)
    | (go_at_call 80; refine (top_none gc A4 c4 _).mono ?_; rintro e w5 ⟨rfl, hb5⟩; have B45 := Lib.hid hb5; clear hb5))
  have B35 : Hid (Below w3.heap.size w3 w5) := Lib.hid (B34.out.trans (B45.out.mono B34.out.size))
  have B25 : Hid (Below w2.heap.size w2 w5) := Lib.hid (B23.out.trans (B35.out.mono B23.out.size))
  have BW5 : Hid (Below w.heap.size w w5) := Lib.hid (B2.out.trans (B25.out.mono B2.out.size))
  have D5 := Lib.hid (HD.out.below BW5.out)
  have V5 := Lib.hid (HVW.out.below BW5.out)
  have G5 := Lib.hid (row_stays G3.out B35.out)
  have C5 := Lib.hid (C3.out.below B35.out)
  refine (done_yes 0 0 gc gv g gen p U U V [] w5 D5.out V5.out (fun W hW => ?_)).mono ?_
  · refine (write_yes gc gv p w2.heap.size gen U U V (orK U V 512) _ [] HU.out HU.out (by rw [length_orK]; exact HV.out) HV.out HG.out (by
      have := HWS.out
      simpa using this) (by simp) (fun x hx => by cases hx) W (fun x hx => by cases hx) (C5.out.below hW) (V5.out.below hW) (D5.out.below hW)).mono ?_
    rintro e w' ⟨h1, h2, h3, h4⟩
    exact ⟨h1, ⟨h2, h3, h4⟩⟩
  · rintro e w6 ⟨rfl, hw6⟩
    have W6 := Lib.hid hw6
    clear hw6
    have hX : ¬ (DkX g gn rw w.heap.size ∨ w.heap.size = gv) := fun hx => by
      rcases hx with hx | hx
      · exact D5.out.notX G5.out (by decide) (.inl (by decide)) (by decide) hx
      · have h1 := V5.out
        have h2 := G5.out
        unfold ViewAt at h1
        rw [hx, h1] at h2
        cases h2
    have G6 := Lib.hid (W6.out.out.heap G5.out hX)
    clear hX
    go_wp2_with (refine wpList_store_row rfl 63 (.tmp 4) (.tmp 29) rfl w.heap.size #[.int .i64 ((0 : Nat) : Int), .int .i64 ((0 : Nat) : Int)] rfl rfl 63 _ G6.out (by kernel_rfl) rfl (by simp [Value.oneCell']) ?_)
    refine bodyPost_ret (v := .tuple #[.agg #[.int .i64 ((0 : Nat) : Int), .int .i64 ((0 : Nat) : Int)], .int .i64 0]) (results_cell_tmpB (p := 4) (u := 5) (ty := 63) rfl _ _ w.heap.size 63 _ (0, 0) _ rfl (setRow_heap _ _ _ _ _ _ G6.out) Try.underlying63 rfl (by kernel_rfl)) rfl ⟨rfl, ?_⟩
    exact (W6.out.pre BW5.out).post (KeptNot.of_setRow G6.out _) (below_setRow (Below.refl _ _) (Nat.le_refl _) _) (by decide) (by decide) (by decide) (by decide)
end Go.Proofs.Ytgkddhncfaeidaa

namespace Go.Proofs.Ytgkddhncfaeidaa
open Go.RowKit CrcM PageM
set_option linter.unusedVariables false

/-- The i-th entry; s is one less than the step. -/
def entI (s i : Nat) : EntD := ⟨((i / 30 : Nat) : Int), ((i % 30 * (s + 1) : Nat) : Int), ((i % 30 * (s + 1) + i % (s + 1) : Nat) : Int), ((2 + i : Nat) : Int), 1, 1, 0, 0⟩
/-- The first k. -/
def ents (k s : Nat) : List EntD := (List.range k).map (entI s)
theorem ents_len (k s : Nat) : (ents k s).length = k := by simp [ents]
theorem ents_get {k s i : Nat} (h : i < k) : (ents k s)[i]? = some (entI s i) := by simp [ents, h]
theorem ents_inv {k s i : Nat} {e : EntD} (h : (ents k s)[i]? = some e) : i < k ∧ e = entI s i := by
  have h1 : i < k := by
    have := (List.getElem?_eq_some_iff.1 h).1
    rwa [ents_len] at this
  rw [ents_get h1] at h
  cases h
  exact ⟨h1, rfl⟩
theorem ents_succ (k s : Nat) : ents (k + 1) s = ents k s ++ [entI s k] := by simp [ents, List.range_succ]
theorem ents_flat (k s : Nat) : (ents (k + 1) s).flatMap enC = (ents k s).flatMap enC ++ enC (entI s k) := by rw [ents_succ]; simp
theorem mul_small {a s : Nat} (ha : a < 30) (hs : s ≤ 8) : a * (s + 1) ≤ 261 := Nat.le_trans (Nat.mul_le_mul (by omega : a ≤ 29) (by omega : s + 1 ≤ 9)) (by decide)
theorem entI_ok {s i : Nat} (hi : i < 150) (hs : s ≤ 8) : okEnt (entI s i) := by
  refine ⟨⟨by simp [entI]; omega, by simp only [entI]; omega⟩, by simp only [entI]; omega, by simp [entI], by simp [entI], ⟨by simp only [entI]; omega, by simp only [entI]; omega⟩, ?_, by simp [entI], by simp [entI], by simp [entI], by simp [entI]⟩
  show ((2 + i : Nat) : Int) + (1 + 255) / 256 ≤ 512
  omega
theorem entI_in {s i : Nat} (hi : i < 150) (hs : s ≤ 8) : inEnt (entI s i) := by
  have h1 := mul_small (Nat.mod_lt i (by decide : 0 < 30)) hs
  have h2 := Nat.mod_lt i (by omega : 0 < s + 1)
  refine ⟨⟨?_, ?_⟩, ⟨?_, ?_⟩, by simp [entI], by simp [entI]⟩ <;> simp only [entI] <;> omega
theorem up_nums {a b c d e f : Nat} (h : b = a + 1) (hf : f < e) (hc : c = a * e) (hd : d = b * e) : c + f < d := by
  subst hc hd h
  rw [Nat.succ_mul]
  omega
theorem entI_up {s i : Nat} : apartB (entI s i) (entI s (i + 1)) = true := by
  have h2 := Nat.mod_lt i (Nat.succ_pos s)
  simp only [apartB, lessB, EntD.key, Bool.and_eq_true, Bool.or_eq_true, decide_eq_true_eq]
  by_cases h : (i + 1) / 30 = i / 30
  · have h3 : (i + 1) % 30 = i % 30 + 1 := by omega
    have h5 := up_nums h3 h2 rfl rfl
    refine ⟨decide_eq_true (.inr ⟨by simp only [entI, h], Int.ofNat_lt.2 (Nat.lt_of_le_of_lt (Nat.le_add_right _ _) h5)⟩), .inr (Int.ofNat_lt.2 h5)⟩
  · have h5 : i / 30 < (i + 1) / 30 := by omega
    refine ⟨decide_eq_true (.inl (Int.ofNat_lt.2 h5)), .inl (fun e => h (Int.ofNat.inj e).symm)⟩
theorem ents_rising {k s : Nat} (hk : k ≤ 150) (hs : s ≤ 8) : RisingD (ents k s) where
  ok := fun e he => by
    obtain ⟨i, hi, rfl⟩ := List.mem_map.1 he
    have := List.mem_range.1 hi
    exact entI_ok (by omega) hs
  up := fun i p e hp he => by
    obtain ⟨h1, rfl⟩ := ents_inv hp
    obtain ⟨h2, rfl⟩ := ents_inv he
    exact entI_up
theorem ents_in {k s : Nat} (hk : k ≤ 150) (hs : s ≤ 8) : ∀ e ∈ ents k s, inEnt e := fun e he => by
  obtain ⟨i, hi, rfl⟩ := List.mem_map.1 he
  have := List.mem_range.1 hi
  exact entI_in (by omega) hs
theorem ents_take (k s j : Nat) : (ents k s).take j = ents (min j k) s := by
  apply List.ext_getElem?
  intro i
  rw [List.getElem?_take]
  by_cases h1 : i < j
  · rw [if_pos h1]
    by_cases h2 : i < k
    · rw [ents_get h2, ents_get (by omega)]
    · rw [List.getElem?_eq_none (by rw [ents_len]; omega), List.getElem?_eq_none (by rw [ents_len]; omega)]
  · rw [if_neg h1, List.getElem?_eq_none (by rw [ents_len]; omega)]
end Go.Proofs.Ytgkddhncfaeidaa
