/- Several texts in one: Open. rising: entries that may be a tree's. -/
import Derived.Test.YtgkddhncfaeidaaPart25
import Derived.Test.YtgkddhncfaeidaaPart01
import Derived.Test.YtgkddhncfaeidaaPart21
import Derived.Test.YtgkddhncfaeidaaPart15
set_option linter.unusedSimpArgs false
set_option linter.unusedVariables false
namespace Go.Proofs.Ytgkddhncfaeidaa
open Go.RowKit Go.ChangeShapes Go.WideShapes Go.ChangeAt CrcM PageM
set_option linter.unusedVariables false

set_option maxRecDepth 100000 in
set_option maxHeartbeats 4000000 in
theorem takes_yes (gv g gen p : Nat) (U V M : List Bool) {B N gs gn Ls cs cn : Nat} {rw : Value} {st nw : List UInt8} {ws : List (Nat × List UInt8)} (hM : M.length = 512) (okU : okM (p : Int) M) (hp : Ls / 256 = p) (C : Array Value) (hC : C = mapC (p : Int) M) (w : World) (hv : ViewAt w gv g gen (p : Int) U V) (hd : Dk w B N g gs gn rw Ls cs cn st nw ws true (-1)) :
    Calls Try.prog 73 #[.pointer (some ⟨gv, 0, none⟩), .agg C] w fun e w' => e = .returned (.bool true) ∧ Below w.heap.size w w' := by
  have HV := Lib.hid hv
  have HD := Lib.hid hd
  have HM := Lib.hid hM
  have HOM := Lib.hid okU
  have HP := Lib.hid hp
  have HC := Lib.hid hC
  have HC1 : Hid (C.size = 513) := Lib.hid (by rw [hC]; exact size_mapC hM)
  clear hv hd hM okU hp hC
  obtain ⟨w1, hw1⟩ : ∃ w1, w1 = w.alloc (.cells C 115) := ⟨_, rfl⟩
  have G1 : Hid (w1.heap[w.heap.size]? = some (.cells C 115 (0, 0))) := Lib.hid (by rw [hw1]; exact heap_alloc_new _ _)
  have B1 := Lib.hid (alloc_bel hw1)
  have HV1 := Lib.hid (HV.out.below B1.out)
  have HD1 := Lib.hid (HD.out.below B1.out)
  go_enter Try.func73, Try.ntmps73
  go_upto_region 1 with fail
  rw [← hw1]
  clear hw1
  have g1 : ∀ y : SubW w1.heap.size w1, y.at_.heap[w.heap.size]? = some (.cells C 115 (0, 0)) := fun y => row_stays G1.out y.ok_
  have g2 : ∀ y : SubW w1.heap.size w1, y.at_.cell? ⟨gv, 256, none⟩ = some (.pointer (some ⟨g, 0, none⟩)) := fun y => (HV1.out.below y.ok_).cd
  have g3 : ∀ y : SubW w1.heap.size w1, y.at_.cell? ⟨w.heap.size, 0, none⟩ = some (.int .i64 (p : Int)) := fun y => nd_cell (g1 y) 0 _ (by rw [HC.out]; exact mapC_0 _ _)
  refine region_below w1.heap.size w1 (Below.refl _ _) (by kernel_rfl) (by kernel_rfl) ?_
  repeat (first
    | (go_big_quiet_want; refine quiet_load_row 115 (.tmp 3) rfl w.heap.size rfl 115 C (0, 0) _ g1 Try.underlying115 rfl (by rw [HC1.out]; exact infoMap) ?_; simp only [Act.put, List.setIfInBounds_toArray, List.set_cons_zero, List.set_cons_succ]; go_big_quiet_on)
    | go_big_quiet_step (first
        | (go_at_call 76; exact calls_sub (Nat.le_refl _) ((open_yes gv g gen p U V _ (HV1.out.below (SubW.ok_ _))).mono (fun e w' h => ⟨h.1, by rw [← h.2]; exact Below.refl _ _⟩)))
        | (go_at_call 87; exact calls_sub (Nat.le_refl _) (right_bmC p M HM.out _ C HC.out true (decide_eq_true HOM.out).symm))
        | (go_at_call 88; exact calls_sub (Nat.le_refl _) ((pages_any (HD1.out.below (SubW.ok_ _))).mono (fun e w' h => ⟨h.1, by rw [← h.2]; exact Below.refl _ _⟩)))))
  refine wpQuiet_nil ?_
  rintro w' ⟨y, rfl⟩
  have HY := Lib.hid (B1.out.trans (y.ok_.mono B1.out.size))
  clear g1 g2 g3
  go_wp2_with fail
  go_ret
  refine ⟨nd_retB ?_, HY.out⟩
  have := HP.out
  simp only [beq_iff_eq]
  omega

/-- The cells of a view as they are built. -/
theorem built_view (parts : List (Nat × Value)) : Try.prog.built 143 parts = Instr.fill (fun i => ([(0, 256), (256, 1), (257, 1), (258, 513), (771, 513)].toArray : Array (Nat × Nat))[i]?) Try.zeroCells143 parts := by kernel_rfl
theorem size_zeroView : (Try.zeroCells143).size = 1284 := by kernel_rfl
theorem fold_mid (X V Y : List Value) (h : V.length ≤ Y.length) : (V.zipIdx 0).foldl (fun cs (x : Value × Nat) => cs.setIfInBounds (X.length + x.2) x.1) (X ++ Y).toArray = ((X ++ V) ++ Y.drop V.length).toArray := by
  obtain ⟨s1, q1⟩ := Great.foldl_set X.length V 0 (X ++ Y).toArray
  apply Array.ext_getElem?
  intro k
  have e1 : (X ++ Y).toArray[k]? = (X ++ Y)[k]? := by simp
  have e2 : ((X ++ V) ++ Y.drop V.length).toArray[k]? = ((X ++ V) ++ Y.drop V.length)[k]? := by simp
  have e3 : (X ++ Y).toArray.size = X.length + Y.length := by simp
  rw [q1 k, e1, e2, e3]
  by_cases h1 : k < X.length
  · rw [if_neg (by omega), List.append_assoc, List.getElem?_append_left h1, List.getElem?_append_left h1]
  · by_cases h2 : k < X.length + V.length
    · rw [if_pos (by omega), List.append_assoc, List.getElem?_append_right (by omega), List.getElem?_append_left (by omega)]
      congr 1
    · rw [if_neg (by omega), List.getElem?_append_right (by omega), List.getElem?_append_right (by rw [List.length_append]; omega), List.getElem?_drop, List.length_append]
      congr 1
      omega
theorem fill_next {place : Nat → Option (Nat × Nat)} {X Y V : List Value} {i : Nat} {v : Value} {rest : List (Nat × Value)} (hv : v.cells = V.toArray) (hp : place i = some (X.length, V.length)) (hs : V.length ≤ Y.length) :
    Instr.fill place (X ++ Y).toArray ((i, v) :: rest) = Instr.fill place ((X ++ V) ++ Y.drop V.length).toArray rest := by
  rw [fill_one hv hp (by simp; omega), fold_mid X V Y hs]
set_option maxRecDepth 100000 in
theorem view_built (g gen p : Nat) (U V : List Bool) (hU : U.length = 512) (hV : V.length = 512) :
    Try.prog.built 143 [(0, .agg tab), (1, .pointer (some ⟨g, 0, none⟩)), (2, .int .u64 (gen : Int)), (3, .agg (mapL (p : Int) U).toArray), (4, .agg (mapL (p : Int) V).toArray)] = some (viewL g gen (p : Int) U V).toArray := by
  rw [built_view]
  have lU := mapL_len (p : Int) hU
  have lV := mapL_len (p : Int) hV
  obtain ⟨Z, hZ⟩ : ∃ Z, Z = (Try.zeroCells143).toList := ⟨_, rfl⟩
  have lZ : Z.length = 1284 := by rw [hZ, Array.length_toList]; exact size_zeroView
  have e0 : Try.zeroCells143 = ([] ++ Z).toArray := by rw [hZ]; simp
  rw [e0]
  rw [fill_next (V := tab.toList) (by rw [Array.toArray_toList]; rfl) (by rw [tab_len]; rfl) (by rw [tab_len, lZ]; simp)]
  rw [fill_next (V := [.pointer (some ⟨g, 0, none⟩)]) rfl (by rw [List.nil_append, tab_len]; rfl) (by rw [List.length_drop, lZ, tab_len]; simp)]
  rw [fill_next (V := [.int .u64 (gen : Int)]) rfl (by rw [List.nil_append, List.length_append, tab_len]; rfl) (by rw [List.length_drop, List.length_drop, lZ, tab_len]; simp)]
  rw [fill_next (V := mapL (p : Int) U) rfl (by rw [List.nil_append, List.length_append, List.length_append, tab_len, lU]; rfl) (by rw [List.length_drop, List.length_drop, List.length_drop, lZ, tab_len, lU]; simp)]
  rw [fill_next (V := mapL (p : Int) V) rfl (by rw [List.nil_append, List.length_append, List.length_append, List.length_append, tab_len, lU, lV]; rfl) (by rw [List.length_drop, List.length_drop, List.length_drop, List.length_drop, lZ, tab_len, lU, lV]; simp)]
  rw [Instr.fill]
  congr 1
  rw [List.drop_drop, List.drop_drop, List.drop_drop, List.drop_drop, List.drop_eq_nil_of_le (by rw [lZ, tab_len, lU, lV]; simp)]
  simp [viewL]

set_option maxRecDepth 100000 in
set_option maxHeartbeats 4000000 in
theorem topen_yes (g gen p : Nat) (U V : List Bool) {B N gs gn Ls cs cn : Nat} {rw : Value} {st nw : List UInt8} {ws : List (Nat × List UInt8)} (hU : U.length = 512) (hV : V.length = 512) (okU : okM (p : Int) U) (okV : okM (p : Int) V) (hp : Ls / 256 = p) (CU CV : Array Value) (hCU : CU = mapC (p : Int) U) (hCV : CV = mapC (p : Int) V) (w : World) (hd : Dk w B N g gs gn rw Ls cs cn st nw ws true (-1)) :
    Calls Try.prog 53 #[.agg tab, .pointer (some ⟨g, 0, none⟩), .int .u64 (gen : Int), .agg CU, .agg CV] w fun e w' => ∃ gv, e = .returned (.tuple #[.pointer (some ⟨gv, 0, none⟩), .int .i64 0]) ∧ w.heap.size ≤ gv ∧ ViewAt w' gv g gen (p : Int) U V ∧ Below w.heap.size w w' := by
  have HD := Lib.hid hd
  have HU1 : Hid (CU.size = 513) := Lib.hid (by rw [hCU]; exact size_mapC hU)
  have HV1 : Hid (CV.size = 513) := Lib.hid (by rw [hCV]; exact size_mapC hV)
  have HBU : Hid (Try.prog.built 143 [(0, .agg tab), (1, .pointer (some ⟨g, 0, none⟩)), (2, .int .u64 (gen : Int)), (3, .agg CU), (4, .agg CV)] = some (viewL g gen (p : Int) U V).toArray) := Lib.hid (by rw [hCU, hCV]; exact view_built g gen p U V hU hV)
  have HTU : Hid (∀ gv W, ViewAt W gv g gen (p : Int) U V → Dk W B N g gs gn rw Ls cs cn st nw ws true (-1) → Calls Try.prog 73 #[.pointer (some ⟨gv, 0, none⟩), .agg CU] W fun e w' => e = .returned (.bool true) ∧ Below W.heap.size W w') := Lib.hid (fun gv W h1 h2 => takes_yes gv g gen p U V U hU okU hp CU hCU W h1 h2)
  have HTV : Hid (∀ gv W, ViewAt W gv g gen (p : Int) U V → Dk W B N g gs gn rw Ls cs cn st nw ws true (-1) → Calls Try.prog 73 #[.pointer (some ⟨gv, 0, none⟩), .agg CV] W fun e w' => e = .returned (.bool true) ∧ Below W.heap.size W w') := Lib.hid (fun gv W h1 h2 => takes_yes gv g gen p U V V hV okV hp CV hCV W h1 h2)
  obtain ⟨C, hC⟩ : ∃ C, C = (viewL g gen (p : Int) U V).toArray := ⟨_, rfl⟩
  rw [← hC] at HBU
  have HC := Lib.hid hC
  obtain ⟨T, hT⟩ : ∃ T, T = tab := ⟨_, rfl⟩
  have HT1 : Hid (T.size = 256) := Lib.hid (by rw [hT]; exact size_tab)
  rw [← hT] at HBU ⊢
  clear hd hU hV okU okV hp hCU hCV hC hT
  go_enter Try.func53, Try.ntmps53
  go_upto_region 1 with fail
  obtain ⟨w3, hw3⟩ : ∃ w3, w3 = (((w.alloc (.cells T 111)).alloc (.cells CU 115)).alloc (.cells CV 115)) := ⟨_, rfl⟩
  have B3 : Hid (Below w.heap.size w w3) := Lib.hid (by rw [hw3]; exact (((Below.refl _ _).alloc (Nat.le_refl _) _).alloc (by simp) _).alloc (by simp; omega) _)
  have G5 : Hid (w3.heap[w.heap.size]? = some (.cells T 111 (0, 0))) := Lib.hid (by
    rw [hw3]
    exact row_stays (row_stays (heap_alloc_new w _) (alloc_bel rfl)) (alloc_bel rfl))
  have G8 : Hid (w3.heap[w.heap.size + 1]? = some (.cells CU 115 (0, 0))) := Lib.hid (by
    rw [hw3]
    have h1 := heap_alloc_new (w.alloc (.cells T 111)) (.cells CU 115)
    rw [World.size_alloc] at h1
    exact row_stays h1 (alloc_bel rfl))
  have G9 : Hid (w3.heap[w.heap.size + 1 + 1]? = some (.cells CV 115 (0, 0))) := Lib.hid (by
    rw [hw3]
    have h1 := heap_alloc_new ((w.alloc (.cells T 111)).alloc (.cells CU 115)) (.cells CV 115)
    rw [World.size_alloc, World.size_alloc] at h1
    exact h1)
  rw [← hw3]
  clear hw3
  go_upto_region 2 with (first
    | (refine wpList_load_row rfl 111 (.tmp 5) rfl w.heap.size rfl 111 T (0, 0) _ G5.out Try.underlying111 rfl (by rw [HT1.out]; exact info64) ?_)
    | (refine wpList_load_row rfl 115 (.tmp 8) rfl (w.heap.size + 1) rfl 115 CU (0, 0) _ G8.out Try.underlying115 rfl (by rw [HU1.out]; exact infoMap) ?_)
    | (refine wpList_load_row rfl 115 (.tmp 9) rfl (w.heap.size + 1 + 1) rfl 115 CV (0, 0) _ G9.out Try.underlying115 rfl (by rw [HV1.out]; exact infoMap) ?_)
    | (refine wpList_buildTo rfl 143 _ rfl (some 18) rfl C (by simp only [List.map_toArray, List.map_cons, List.map_nil]; exact HBU.out) ?_))
  obtain ⟨gv, hgv⟩ : ∃ gv, gv = w3.heap.size := ⟨_, rfl⟩
  obtain ⟨w4, hw4⟩ : ∃ w4, w4 = w3.alloc (.cells C 143) := ⟨_, rfl⟩
  have B4 := Lib.hid (B3.out.trans ((alloc_bel hw4).mono B3.out.size))
  have HV4 : Hid (ViewAt w4 gv g gen (p : Int) U V) := Lib.hid (by rw [hw4, hgv, HC.out]; exact heap_alloc_new _ _)
  have G84 := Lib.hid (row_stays G8.out (alloc_bel hw4))
  have G94 := Lib.hid (row_stays G9.out (alloc_bel hw4))
  have HD4 := Lib.hid (HD.out.below B4.out)
  have HGV : Hid (w.heap.size ≤ gv) := Lib.hid (by rw [hgv]; exact B3.out.size)
  rw [← hw4, ← hgv]
  clear hw4 hgv HBU HC G5 G8 G9 B3
  go_upto_region 4 with (first
    | (refine wpList_load_row rfl 115 (.tmp 8) rfl (w.heap.size + 1) rfl 115 CU (0, 0) _ G84.out Try.underlying115 rfl (by rw [HU1.out]; exact infoMap) ?_)
    | (go_at_call 73; refine (HTU.out gv _ HV4.out HD4.out).mono ?_; clear HTU; rintro e w5 ⟨rfl, hb5⟩; have B5 := Lib.hid (B4.out.trans (hb5.mono B4.out.size)); have HV5 := Lib.hid (HV4.out.below hb5); have G95 := Lib.hid (row_stays G94.out hb5); have HD5 := Lib.hid (HD4.out.below hb5); clear hb5))
  refine wp_load_row 115 (.tmp 9) rfl (w.heap.size + 1 + 1) rfl 115 CV (0, 0) _ G95.out Try.underlying115 rfl (by rw [HV1.out]; exact infoMap) ?_
  rename_i K2 hK2
  refine hK2 _ _ ?_
  clear hK2
  simp only [Act.put, List.setIfInBounds_toArray, List.set_cons_zero, List.set_cons_succ]
  go_wp2_with (go_at_call 73; refine (HTV.out gv _ HV5.out HD5.out).mono ?_; rintro e w6 ⟨rfl, hb6⟩; have B6 := Lib.hid (B5.out.trans (hb6.mono B5.out.size)); have HV6 := Lib.hid (HV5.out.below hb6); clear hb6)
  go_ret2
  exact ⟨gv, rfl, HGV.out, HV6.out, B6.out⟩
end Go.Proofs.Ytgkddhncfaeidaa

namespace Go.Proofs.Ytgkddhncfaeidaa
open Go.RowKit Go.ChangeShapes Go.WideShapes Go.ChangeAt CrcM PageM
set_option linter.unusedVariables false

def enV (e : EntD) : Value := .agg #[.int .i64 e.se, .int .i64 e.st, .int .i64 e.en, .int .i64 e.ad, .int .i64 e.le, .int .i64 e.cn, .int .i64 e.co, .int .u32 e.cr]
structure RisingD (es : List EntD) : Prop where
  ok : ∀ e ∈ es, okEnt e
  up : ∀ i p e, es[i]? = some p → es[i + 1]? = some e → apartB p e = true

theorem okNode_one {e : EntD} (h : okEnt e) : okNode ⟨true, [e], [], []⟩ := ⟨rfl, rfl, Nat.le_refl _, by simp, fun i hi => by
  have hi0 : i = 0 := by simp at hi; omega
  subst hi0
  exact ⟨e, rfl, h, .inl rfl⟩⟩
theorem okNode_two {p e : EntD} (h : okEnt p) (h2 : okEnt e) (ha : apartB p e = true) : okNode ⟨true, [p, e], [], []⟩ := ⟨rfl, rfl, by simp, by simp, fun i hi => by
  rcases i with _ | i
  · exact ⟨p, rfl, h, .inl rfl⟩
  · have hi0 : i = 0 := by simp at hi; omega
    subst hi0
    exact ⟨e, rfl, h2, .inr ⟨p, rfl, ha⟩⟩⟩

theorem one_at (w : World) (e : EntD) : NodeAt (w.alloc (.cells #[.int .i64 e.se, .int .i64 e.st, .int .i64 e.en, .int .i64 e.ad, .int .i64 e.le, .int .i64 e.cn, .int .i64 e.co, .int .u32 e.cr] 77)) ⟨true, [e], [], []⟩ ⟨some ⟨w.heap.size, 0, none⟩, 1, none, 0, none, 0⟩ := by
  have g := heap_alloc_new w (.cells #[.int .i64 e.se, .int .i64 e.st, .int .i64 e.en, .int .i64 e.ad, .int .i64 e.le, .int .i64 e.cn, .int .i64 e.co, .int .u32 e.cr] 77)
  exact { e := fun _ => ⟨_, 0, rfl, fun i e' he => by
            have hi0 : i = 0 := by
              have := (List.getElem?_eq_some_iff.1 he).1
              simp at this
              omega
            subst hi0
            obtain rfl : e = e' := by simpa using he
            exact ⟨nd_cell g 0 _ rfl, nd_cell g 1 _ rfl, nd_cell g 2 _ rfl, nd_cell g 3 _ rfl, nd_cell g 4 _ rfl, nd_cell g 5 _ rfl, nd_cell g 6 _ rfl, nd_cell g 7 _ rfl⟩⟩
          k := fun h => absurd rfl h, d := fun h => absurd rfl h, ec := Nat.le_refl _, kc := Nat.le_refl _, dc := Nat.le_refl _, em := by show 1 ≤ maxLen; unfold maxLen; omega, km := Nat.zero_le _, dm := Nat.zero_le _ }

set_option maxRecDepth 100000 in
set_option maxHeartbeats 4000000 in
theorem rightEntry_yes (e : EntD) (he : okEnt e) (w : World) :
    Calls Try.prog 89 #[.agg #[.int .i64 e.se, .int .i64 e.st, .int .i64 e.en, .int .i64 e.ad, .int .i64 e.le, .int .i64 e.cn, .int .i64 e.co, .int .u32 e.cr]] w fun e' w' => e' = .returned (.bool true) ∧ Below w.heap.size w w' := by
  obtain ⟨w1, hw1⟩ : ∃ w1, w1 = w.alloc (.cells #[.int .i64 e.se, .int .i64 e.st, .int .i64 e.en, .int .i64 e.ad, .int .i64 e.le, .int .i64 e.cn, .int .i64 e.co, .int .u32 e.cr] 77) := ⟨_, rfl⟩
  have G1 : Hid (w1.heap[w.heap.size]? = some (.cells #[.int .i64 e.se, .int .i64 e.st, .int .i64 e.en, .int .i64 e.ad, .int .i64 e.le, .int .i64 e.cn, .int .i64 e.co, .int .u32 e.cr] 77 (0, 0))) := Lib.hid (by rw [hw1]; exact heap_alloc_new _ _)
  have B1 := Lib.hid (alloc_bel hw1)
  have HE := Lib.hid he
  clear he
  go_enter Try.func89, Try.ntmps89
  go_upto_region 1 with fail
  rw [← hw1]
  clear hw1
  go_wp2_with (first
    | (refine wpList_load_row rfl 77 (.tmp 1) rfl w.heap.size rfl 77 _ (0, 0) _ G1.out Try.underlying77 rfl (by kernel_rfl) ?_)
    | (go_at_call 13; refine (right_any ⟨true, [e], [], []⟩ ⟨some ⟨w1.heap.size, 0, none⟩, 1, none, 0, none, 0⟩ true (IsB.mkT (okNode_one HE.out)) _ (one_at w1 e)).mono ?_; rintro e2 w2 ⟨rfl, hb2⟩; have B2 := Lib.hid hb2; clear hb2))
  go_ret
  exact ⟨rfl, B1.out.trans (((alloc_bel rfl).trans (B2.out.mono (alloc_bel rfl).size)).mono B1.out.size)⟩

theorem meas_step5 {M k : Nat} {z : Int} (h : k < M) (e : z = (k : Int) + 1) : M - (intOf (.int .i64 z)).toNat < M - (intOf (.int .i64 (k : Int))).toNat := by
  subst e
  simp only [intOf]
  omega
theorem meas_step6 {M j : Nat} (h : j + 1 < M) : M + 1 - (intOf (.int .i64 ((j : Int) + 1 + 1))).toNat < M + 1 - (intOf (.int .i64 ((j : Int) + 1))).toNat := by
  simp only [intOf]
  omega
set_option maxRecDepth 100000 in
set_option maxHeartbeats 8000000 in
theorem rising_yes (es : List EntD) (A : Option Addr) (n c : Nat) (hn : es.length = n) (hnc : n ≤ c) (hc : c ≤ maxLen) (hm : n ≤ 1000000) (hr : RisingD es) (w : World) (hx : EnAt w A es) :
    Calls Try.prog 77 #[.slice A n c] w fun e w' => e = .returned (.int .i64 0) ∧ Below w.heap.size w w' := by
  have HN := Lib.hid hn
  have HR := Lib.hid hr
  have HX := Lib.hid hx
  have HCM : Hid (c ≤ 9223372036854775807) := Lib.hid hc
  clear hn hr hx hc
  go_enter Try.func77, Try.ntmps77
  go_upto_region 2 with fail
  go_loopw [8] (fun i wr => ∃ k : Nat, k ≤ n ∧ i = .int .i64 (k : Int) ∧ Hid (Below w.heap.size w wr)) (fun i _ => n - (intOf i).toNat)
  case atStart => exact ⟨0, Nat.zero_le _, rfl, Lib.hid (Below.refl _ _)⟩
  case round =>
    obtain ⟨k, hk, rfl, HB⟩ := hrel
    have hkw : wrap64 ((k : Int) + 1) = (k : Int) + 1 := by unfold wrap64; omega
    by_cases hlt : k < n
    · obtain ⟨e, he⟩ : ∃ e, es[k]? = some e := ⟨_, List.getElem?_eq_getElem (by rw [HN.out]; exact hlt)⟩
      have HE := Lib.hid (HR.out.ok e (List.mem_of_getElem? he))
      obtain ⟨b, off, hA, hcs⟩ := HX.out (by intro h; rw [h] at he; simp at he)
      subst hA
      obtain ⟨e0, e1, e2, e3, e4, e5, e6, e7⟩ := (hcs k e he).below HB.out
      have hkm : decide ((k : Int) < (n : Int)) = true := by simp; omega
      clear he hcs
      go_upto_region 4 with fail
      obtain ⟨wa, hwa⟩ : ∃ wa, wa = wr.alloc (.cells #[.int .i64 e.se, .int .i64 e.st, .int .i64 e.en, .int .i64 e.ad, .int .i64 e.le, .int .i64 e.cn, .int .i64 e.co, .int .u32 e.cr] 77) := ⟨_, rfl⟩
      have GA : Hid (wa.heap[wr.heap.size]? = some (.cells #[.int .i64 e.se, .int .i64 e.st, .int .i64 e.en, .int .i64 e.ad, .int .i64 e.le, .int .i64 e.cn, .int .i64 e.co, .int .u32 e.cr] 77 (0, 0))) := Lib.hid (by rw [hwa]; exact heap_alloc_new _ _)
      have BA := Lib.hid (alloc_bel hwa)
      rw [← hwa]
      clear hwa e0 e1 e2 e3 e4 e5 e6 e7
      go_wp2_with (first
        | (refine wpList_load_row rfl 77 (.tmp 4) rfl wr.heap.size rfl 77 _ (0, 0) _ GA.out Try.underlying77 rfl (by kernel_rfl) ?_)
        | (go_at_call 89; refine (rightEntry_yes e HE.out _).mono ?_; rintro e2 w2 ⟨rfl, hb2⟩; have B2 := Lib.hid (BA.out.trans (hb2.mono BA.out.size)); clear hb2))
      have B3 := Lib.hid (HB.out.trans (B2.out.mono HB.out.size))
      go_roundw
      case rel => exact ⟨k + 1, by omega, by go_num, B3⟩
      case measure => first | exact meas_step5 hlt rfl | exact meas_step5 hlt hkw
    · obtain rfl : k = n := by omega
      have hkm : decide ((k : Int) < (k : Int)) = false := by simp
      go_upto_region 8 with fail
      clear hkm hkw
      obtain ⟨w1, hw1⟩ : ∃ w1, w1 = wr := ⟨_, rfl⟩
      rw [← hw1] at HB ⊢
      clear hw1
      go_loopw [5] (fun i w2 => ∃ j : Nat, j ≤ k ∧ i = .int .i64 ((j : Int) + 1) ∧ Hid (Below w.heap.size w w2)) (fun i _ => k + 1 - (intOf i).toNat)
      case atStart => exact ⟨0, Nat.zero_le _, rfl, HB⟩
      case round =>
        clear HB
        obtain ⟨j, hj, rfl, HB⟩ := hrel
        have hw1 : wrap64 ((j : Int) + 1 - 1) = (j : Int) := by unfold wrap64; omega
        have hw2 : wrap64 ((j : Int) + 1 + 1) = (j : Int) + 1 + 1 := by unfold wrap64; omega
        have hw3 : wrap64 (j : Int) = (j : Int) := by unfold wrap64; omega
        by_cases hlj : j + 1 < k
        · have hkm : decide ((j : Int) + 1 < (k : Int)) = true := by simp; omega
          obtain ⟨p, hp⟩ : ∃ p, es[j]? = some p := ⟨_, List.getElem?_eq_getElem (by rw [HN.out]; omega)⟩
          obtain ⟨e, he⟩ : ∃ e, es[j + 1]? = some e := ⟨_, List.getElem?_eq_getElem (by rw [HN.out]; exact hlj)⟩
          have HOK : Hid (okNode ⟨true, [p, e], [], []⟩) := Lib.hid (okNode_two (HR.out.ok p (List.mem_of_getElem? hp)) (HR.out.ok e (List.mem_of_getElem? he)) (HR.out.up j p e hp he))
          obtain ⟨b, off, hA, hcs⟩ := HX.out (by intro h; rw [h] at hp; simp at hp)
          subst hA
          have HAT : Hid (∀ W, Below w.heap.size w W → NodeAt W ⟨true, [p, e], [], []⟩ ⟨some ⟨b, off + j * 8, none⟩, c - j, none, 0, none, 0⟩) := Lib.hid (fun W hW =>
            { e := fun _ => ⟨b, off + j * 8, rfl, fun i x hx => by
                rcases i with _ | i
                · obtain rfl : p = x := by simpa using hx
                  exact (hcs j p hp).below hW
                · have hi0 : i = 0 := by
                    have := (List.getElem?_eq_some_iff.1 hx).1
                    simp at this
                    omega
                  subst hi0
                  obtain rfl : e = x := by simpa using hx
                  have h1 := (hcs (j + 1) e he).below hW
                  rwa [show off + j * 8 + (0 + 1) * 8 = off + (j + 1) * 8 by omega]⟩
              k := fun h => absurd rfl h, d := fun h => absurd rfl h, ec := by show 2 ≤ c - j; omega, kc := Nat.le_refl _, dc := Nat.le_refl _, em := by show c - j ≤ maxLen; have := HCM.out; unfold maxLen; omega, km := Nat.zero_le _, dm := Nat.zero_le _ })
          have hjc : j + 1 + 1 ≤ c := by omega
          have hcne : ¬ c = j := by omega
          have HRI : Hid (∀ W, Below w.heap.size w W → Calls Try.prog 13 #[.agg #[.bool true, .slice (some ⟨b, off + j * 8, none⟩) 2 (c - j), .slice none 0 0, .slice none 0 0]] W fun e w' => e = .returned (.bool true) ∧ Below W.heap.size W w') := Lib.hid (fun W hW => right_any ⟨true, [p, e], [], []⟩ ⟨some ⟨b, off + j * 8, none⟩, c - j, none, 0, none, 0⟩ true (IsB.mkT HOK.out) W (HAT.out W hW))
          have h2 : j + 1 + 1 - j = 2 := by omega
          rw [← h2] at HRI
          clear hp he hcs HAT h2
          have hcm := HCM.out
          go_wp2_with (go_at_call 13; refine (HRI.out _ HB.out).mono ?_; rintro e2 w3 ⟨rfl, hb3⟩; have B3 := Lib.hid (HB.out.trans (hb3.mono HB.out.size)); clear hb3)
          exact ⟨⟨j + 1, by omega, rfl, B3⟩, meas_step6 hlj⟩
        · have hkm : decide ((j : Int) + 1 < (k : Int)) = false := by simp; omega
          go_wp2_with fail
          go_ret
          exact ⟨rfl, HB.out⟩
end Go.Proofs.Ytgkddhncfaeidaa
