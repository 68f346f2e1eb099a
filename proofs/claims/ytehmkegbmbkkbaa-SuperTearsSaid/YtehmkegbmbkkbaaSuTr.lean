/- SuperTears: its walk. -/
import Derived.Test.YtehmkegbmbkkbaaPartG
import Derived.Test.YtehmkegbmbkkbaaWays4
namespace Go.Proofs.Ytehmkegbmbkkbaa
open Go.ChangeShapes Go.WideShapes Go.ChangeAt Go.RowKit CrcM PageM SupM
set_option linter.unusedVariables false

/-- What stands where the two superblocks and the two rows are laid. -/
structure TearsAt (w0 wx : World) (k3 g7 g8 : Nat) (A B : Sup) (u0 u1 u2 u3 : Bool) (y0 y1 y2 y3 : UInt8) : Prop where
  bel : Below k3 w0 wx
  box3 : wx.heap[k3]? = some (.cells (supC A) 77 (0, 0))
  box4 : wx.heap[k3 + 1]? = some (.cells (supC B) 77 (0, 0))
  row7 : wx.heap[g7]? = some (.cells #[.bool u0, .bool u1, .bool u2, .bool u3] 92 (0, 0))
  row8 : wx.heap[g8]? = some (.cells #[.int .u8 (y0.toNat : Int), .int .u8 (y1.toNat : Int), .int .u8 (y2.toNat : Int), .int .u8 (y3.toNat : Int)] 90 (0, 0))
  ne7 : k3 + 3 ≤ g7
  ne8 : k3 + 3 ≤ g8

theorem tears_at {w W0 wx : World} {g7 g8 : Nat} {A B : Sup} {u0 u1 u2 u3 : Bool} {y0 y1 y2 y3 : UInt8} (hb0 : Below w.heap.size w W0) (h3 : W0.heap[w.heap.size]? = some (.cells (supC A) 77 (0, 0))) (h4 : W0.heap[w.heap.size + 1]? = some (.cells (supC B) 77 (0, 0)))
    (hsz : W0.heap.size = w.heap.size + 3) (hb : Below W0.heap.size W0 wx) (h7 : wx.heap[g7]? = some (.cells #[.bool u0, .bool u1, .bool u2, .bool u3] 92 (0, 0))) (h8 : wx.heap[g8]? = some (.cells #[.int .u8 (y0.toNat : Int), .int .u8 (y1.toNat : Int), .int .u8 (y2.toNat : Int), .int .u8 (y3.toNat : Int)] 90 (0, 0)))
    (n7 : W0.heap.size ≤ g7) (n8 : W0.heap.size ≤ g8) : TearsAt w wx w.heap.size g7 g8 A B u0 u1 u2 u3 y0 y1 y2 y3 :=
  ⟨hb0.trans (hb.mono hb0.size), (hb.block _ (by omega)).trans h3, (hb.block _ (by omega)).trans h4, h7, h8, by omega, by omega⟩

theorem laid0 {w wc W : World} {k3 g7 g8 T : Nat} {A B : Sup} {u0 u1 u2 u3 : Bool} {y0 y1 y2 y3 : UInt8} (h : TearsAt w wc k3 g7 g8 A B u0 u1 u2 u3 y0 y1 y2 y3) (hb : Below wc.heap.size wc W) (ht : W.heap[T]? = some (.cells tab 61 (0, 0))) (hT : wc.heap.size ≤ T) : TearsIn w W k3 g7 g8 A B u0 u1 u2 u3 y0 y1 y2 y3 wc.heap.size T := by
  have l3 := (Array.getElem?_eq_some_iff.1 h.box3).1
  have l4 := (Array.getElem?_eq_some_iff.1 h.box4).1
  have l7 := (Array.getElem?_eq_some_iff.1 h.row7).1
  have l8 := (Array.getElem?_eq_some_iff.1 h.row8).1
  have n7 := h.ne7
  exact ⟨h.bel.trans (hb.mono (by omega)), (hb.block _ l3).trans h.box3, (hb.block _ l4).trans h.box4, (hb.block _ l7).trans h.row7, (hb.block _ l8).trans h.row8, ht, h.ne7, h.ne8, l7, l8, by omega, hT⟩

set_option maxHeartbeats 8000000 in
set_option maxRecDepth 100000 in
theorem superTears_walk (s : Sup) (ra : s.gen < 18446744073709551616 ∧ (-9223372036854775808 ≤ s.addr ∧ s.addr ≤ 9223372036854775807) ∧ (-9223372036854775808 ≤ s.height ∧ s.height ≤ 9223372036854775807) ∧ (-9223372036854775808 ≤ s.bitmap ∧ s.bitmap ≤ 9223372036854775807) ∧ (-9223372036854775808 ≤ s.pages ∧ s.pages ≤ 9223372036854775807))
    (t : Sup) (rb : t.gen < 18446744073709551616 ∧ (-9223372036854775808 ≤ t.addr ∧ t.addr ≤ 9223372036854775807) ∧ (-9223372036854775808 ≤ t.height ∧ t.height ≤ 9223372036854775807) ∧ (-9223372036854775808 ≤ t.bitmap ∧ t.bitmap ≤ 9223372036854775807) ∧ (-9223372036854775808 ≤ t.pages ∧ t.pages ≤ 9223372036854775807))
    (x0 x1 x2 x3 y0 y1 y2 y3 : UInt8) {w : World} :
    Calls Try.prog 7 #[.agg (supC s), .agg (supC t), .agg #[.int .u8 (x0.toNat : Int), .int .u8 (x1.toNat : Int), .int .u8 (x2.toNat : Int), .int .u8 (x3.toNat : Int), .int .u8 (y0.toNat : Int), .int .u8 (y1.toNat : Int), .int .u8 (y2.toNat : Int), .int .u8 (y3.toNat : Int)]] w fun e w' => e = .returned (.bool true) ∧ Below w.heap.size w w' := by
  have hg1 := ra.1
  have hg2 := rb.1
  clear ra rb
  obtain ⟨u0, hu0⟩ : ∃ u, (bits BinOp.and IntKind.u8 (x0.toNat : Int) 1 == 1) = u := ⟨_, rfl⟩
  obtain ⟨u1, hu1⟩ : ∃ u, (bits BinOp.and IntKind.u8 (x1.toNat : Int) 1 == 1) = u := ⟨_, rfl⟩
  obtain ⟨u2, hu2⟩ : ∃ u, (bits BinOp.and IntKind.u8 (x2.toNat : Int) 1 == 1) = u := ⟨_, rfl⟩
  obtain ⟨u3, hu3⟩ : ∃ u, (bits BinOp.and IntKind.u8 (x3.toNat : Int) 1 == 1) = u := ⟨_, rfl⟩
  obtain ⟨CA, eCA⟩ : ∃ C, C = supC s := ⟨_, rfl⟩
  obtain ⟨CB, eCB⟩ : ∃ C, C = supC t := ⟨_, rfl⟩
  obtain ⟨CK, eCK⟩ : ∃ C : Array Value, C = #[.int .u8 (x0.toNat : Int), .int .u8 (x1.toNat : Int), .int .u8 (x2.toNat : Int), .int .u8 (x3.toNat : Int), .int .u8 (y0.toNat : Int), .int .u8 (y1.toNat : Int), .int .u8 (y2.toNat : Int), .int .u8 (y3.toNat : Int)] := ⟨_, rfl⟩
  rw [← eCA, ← eCB, ← eCK]
  obtain ⟨W0, eW0⟩ : ∃ W0, W0 = ((w.alloc (.cells CA 77)).alloc (.cells CB 77)).alloc (.cells CK 91) := ⟨_, rfl⟩
  have hw0 : W0.heap.size = w.heap.size + 3 := by rw [eW0]; simp
  have hb0 : Below w.heap.size w W0 := by rw [eW0]; exact (((Below.refl _ _).alloc (Nat.le_refl _) _).alloc (by simp) _).alloc (by simp; omega) _
  have h3 : W0.heap[w.heap.size]? = some (.cells CA 77 (0, 0)) := by rw [eW0]; exact (Below.heap_alloc _ _ _ (by simp; omega)).trans (heap_alloc2_old _ _ _)
  have h4 : W0.heap[w.heap.size + 1]? = some (.cells CB 77 (0, 0)) := by rw [eW0]; exact (Below.heap_alloc _ _ _ (by simp)).trans (heap_alloc2_new _ _ _)
  have h5 : W0.heap[w.heap.size + 2]? = some (.cells CK 91 (0, 0)) := by
    rw [eW0]
    have := heap_alloc_new ((w.alloc (.cells CA 77)).alloc (.cells CB 77)) (.cells CK 91)
    rwa [show ((w.alloc (.cells CA 77)).alloc (.cells CB 77)).heap.size = w.heap.size + 2 by simp] at this
  have EW0 := Lib.hid eW0.symm
  clear eW0
  have cf : ∀ (i : Nat) (v : Value), CK[i]? = some v → ∀ y : SubW W0.heap.size W0, y.at_.cell? ⟨w.heap.size + 2, i, none⟩ = some v := fun i v hv y => (cell_of_row _ _ _ _ _ _ ((y.ok_.block _ (by omega)).trans h5)).trans hv
  have f0 := cf 0 (.int .u8 (x0.toNat : Int)) (by rw [eCK]; rfl)
  have f1 := cf 1 (.int .u8 (x1.toNat : Int)) (by rw [eCK]; rfl)
  have f2 := cf 2 (.int .u8 (x2.toNat : Int)) (by rw [eCK]; rfl)
  have f3 := cf 3 (.int .u8 (x3.toNat : Int)) (by rw [eCK]; rfl)
  have f4 := cf 4 (.int .u8 (y0.toNat : Int)) (by rw [eCK]; rfl)
  have f5 := cf 5 (.int .u8 (y1.toNat : Int)) (by rw [eCK]; rfl)
  have f6 := cf 6 (.int .u8 (y2.toNat : Int)) (by rw [eCK]; rfl)
  have f7 := cf 7 (.int .u8 (y3.toNat : Int)) (by rw [eCK]; rfl)
  rw [eCA] at h3
  rw [eCB] at h4
  have H3 := Lib.hid h3
  have H4 := Lib.hid h4
  have HB0 := Lib.hid hb0
  clear eCA eCB eCK h3 h4 h5 hb0 cf
  go_enter Try.func7, Try.ntmps7
  go_upto_region 1 with fail
  rw [EW0.out]
  go_cut [7, 8] (fun s7 s8 wx => ∃ g7 g8, s7 = .pointer (some ⟨g7, 0, none⟩) ∧ s8 = .pointer (some ⟨g8, 0, none⟩) ∧ Hid (TearsAt w wx w.heap.size g7 g8 s t u0 u1 u2 u3 y0 y1 y2 y3))
  case first =>
    refine region_ways4 W0.heap.size (Nat.le_refl _) (.two [0, 1, 2, 3, 4, 5, 6, 7, 8, 9, 10, 11, 12, 13, 14, 15, 16, 17, 18, 19, 20, 21, 22] 23 (.one [] 24 (.one [] 25 (.one [] 26 (.done [])))) 24 (.one [] 23 (.one [] 25 (.one [] 26 (.done []))))) (by kernel_rfl) (by kernel_rfl) ?_
    rintro wd hbd
    rw [wpWays_two4]
    try simp only [List.map_cons, List.map_nil, opAt, List.getElem?_toArray, List.getElem?_cons_zero, List.getElem?_cons_succ, Option.getD_some]
    repeat (go_big_quiet_step (fail))
    have i7 : (Try.prog.info? 92).map (·.size) = some 4 := by kernel_rfl
    have i8 : (Try.prog.info? 90).map (·.size) = some 4 := by kernel_rfl
    have hwd := hbd.size
    refine wpQuiet_nil ⟨?_, ?_⟩
    · have b1 := hbd.alloc hwd (.cells #[.bool false, .bool false, .bool false, .bool false] 92)
      have b2 := b1.alloc b1.size (.cells #[.int .u8 0, .int .u8 0, .int .u8 0, .int .u8 0] 90)
      have b3 := (hbd.alloc hwd (.cells #[.bool u0, .bool u1, .bool u2, .bool u3] 92)).alloc (by simp; omega) (.cells #[.int .u8 0, .int .u8 0, .int .u8 0, .int .u8 0] 90)
      have b4 := (hbd.alloc hwd (.cells #[.bool u0, .bool u1, .bool u2, .bool u3] 92)).alloc (by simp; omega) (.cells #[.int .u8 (y0.toNat : Int), .int .u8 (y1.toNat : Int), .int .u8 (y2.toNat : Int), .int .u8 (y3.toNat : Int)] 90)
      go_wp2_with fail
      refine ⟨⟨⟨_, b1⟩, rfl⟩, ?_⟩
      try simp only [Act.put, List.setIfInBounds_toArray, List.set_cons_zero, List.set_cons_succ]
      rw [wpWays_one4]
      try simp only [List.map_cons, List.map_nil, opAt, List.getElem?_toArray, List.getElem?_cons_zero, List.getElem?_cons_succ, Option.getD_some]
      refine wpQuiet_nil ?_
      go_wp2_with fail
      refine ⟨⟨⟨_, b2⟩, rfl⟩, ?_⟩
      try simp only [Act.put, List.setIfInBounds_toArray, List.set_cons_zero, List.set_cons_succ]
      rw [wpWays_one4]
      try simp only [List.map_cons, List.map_nil, opAt, List.getElem?_toArray, List.getElem?_cons_zero, List.getElem?_cons_succ, Option.getD_some]
      refine wpQuiet_nil ?_
      go_wp2_with fail
      refine ⟨⟨⟨_, b3⟩, rfl⟩, ?_⟩
      try simp only [Act.put, List.setIfInBounds_toArray, List.set_cons_zero, List.set_cons_succ]
      rw [wpWays_one4]
      try simp only [List.map_cons, List.map_nil, opAt, List.getElem?_toArray, List.getElem?_cons_zero, List.getElem?_cons_succ, Option.getD_some]
      refine wpQuiet_nil ?_
      go_wp2_with fail
      refine ⟨⟨⟨_, b4⟩, rfl⟩, ?_⟩
      try simp only [Act.put, List.setIfInBounds_toArray, List.set_cons_zero, List.set_cons_succ]
      rw [wpWays_done4]
      try simp only [List.map_nil]
      refine wpQuiet_nil ?_
      go_wp2_with fail
      go_meet
      exact ⟨_, _, rfl, rfl, Lib.hid (tears_at HB0.out H3.out H4.out hw0 b4 (heap_alloc2_old _ _ _) (heap_alloc2_new _ _ _) hwd (by omega))⟩
    · have b1 := hbd.alloc hwd (.cells #[.int .u8 0, .int .u8 0, .int .u8 0, .int .u8 0] 90)
      have b2 := b1.alloc b1.size (.cells #[.bool false, .bool false, .bool false, .bool false] 92)
      have b3 := (hbd.alloc hwd (.cells #[.int .u8 0, .int .u8 0, .int .u8 0, .int .u8 0] 90)).alloc (by simp; omega) (.cells #[.bool u0, .bool u1, .bool u2, .bool u3] 92)
      have b4 := (hbd.alloc hwd (.cells #[.int .u8 (y0.toNat : Int), .int .u8 (y1.toNat : Int), .int .u8 (y2.toNat : Int), .int .u8 (y3.toNat : Int)] 90)).alloc (by simp; omega) (.cells #[.bool u0, .bool u1, .bool u2, .bool u3] 92)
      go_wp2_with fail
      refine ⟨⟨⟨_, b1⟩, rfl⟩, ?_⟩
      try simp only [Act.put, List.setIfInBounds_toArray, List.set_cons_zero, List.set_cons_succ]
      rw [wpWays_one4]
      try simp only [List.map_cons, List.map_nil, opAt, List.getElem?_toArray, List.getElem?_cons_zero, List.getElem?_cons_succ, Option.getD_some]
      refine wpQuiet_nil ?_
      go_wp2_with fail
      refine ⟨⟨⟨_, b2⟩, rfl⟩, ?_⟩
      try simp only [Act.put, List.setIfInBounds_toArray, List.set_cons_zero, List.set_cons_succ]
      rw [wpWays_one4]
      try simp only [List.map_cons, List.map_nil, opAt, List.getElem?_toArray, List.getElem?_cons_zero, List.getElem?_cons_succ, Option.getD_some]
      refine wpQuiet_nil ?_
      go_wp2_with fail
      refine ⟨⟨⟨_, b3⟩, rfl⟩, ?_⟩
      try simp only [Act.put, List.setIfInBounds_toArray, List.set_cons_zero, List.set_cons_succ]
      rw [wpWays_one4]
      try simp only [List.map_cons, List.map_nil, opAt, List.getElem?_toArray, List.getElem?_cons_zero, List.getElem?_cons_succ, Option.getD_some]
      refine wpQuiet_nil ?_
      go_wp2_with fail
      refine ⟨⟨⟨_, b4⟩, rfl⟩, ?_⟩
      try simp only [Act.put, List.setIfInBounds_toArray, List.set_cons_zero, List.set_cons_succ]
      rw [wpWays_done4]
      try simp only [List.map_nil]
      refine wpQuiet_nil ?_
      go_wp2_with fail
      go_meet
      exact ⟨_, _, rfl, rfl, Lib.hid (tears_at HB0.out H3.out H4.out hw0 b4 (heap_alloc2_new _ _ _) (heap_alloc2_old _ _ _) (by omega) hwd)⟩
  case rest =>
    obtain ⟨g7, g8, rfl, rfl, ta⟩ := hcut
    have TA := Lib.hid ta.out
    clear ta f0 f1 f2 f3 f4 f5 f6 f7
    have tsz := TA.out.bel.size
    go_upto_region 4 with (first
      | (go_at_call 20; (refine (new_ok 16 (by omega) (by omega) _).mono ?_); rintro e w1 ⟨g, gs, gn, cs, cn, rfl, d1, hb1⟩; have D1 := Lib.hid d1; clear d1)
      | (go_at_call 29; refine (new_any _).mono ?_; rintro e w2 ⟨rfl, hb2⟩)
      | (refine wpList_store_row rfl 61 (.tmp 11) (.tmp 52) rfl w2.heap.size tab rfl rfl 61 Try.zeroCells61 (heap_alloc_new _ _) (by rw [size_tab]; exact info64) (by rw [size_tab, zero64, size_tabC]) (tab_one _) ?_; rw [World.setRow_alloc_new]))
    obtain ⟨T, hT⟩ : ∃ T, T = w2.heap.size := ⟨_, rfl⟩
    have hbW : Below w1.heap.size w1 (w2.alloc (.cells tab 61)) := hb2.alloc hb2.size _
    have hd3 := D1.out.below hbW
    have hbC : Below wc.heap.size wc (w2.alloc (.cells tab 61)) := hb1.trans (hbW.mono hb1.size)
    have ht3 : (w2.alloc (.cells tab 61)).heap[T]? = some (.cells tab 61 (0, 0)) := by rw [hT]; exact heap_alloc_new _ _
    have hgT : g ≠ T ∧ gn ≠ T ∧ gs ≠ T ∧ wc.heap.size ≤ T := by
      have h1 := D1.out.gN
      have h2 := D1.out.nN
      have h4 := D1.out.sN
      have h3 := hb1.size
      have h5 := hb2.size
      omega
    have hla := laid0 TA.out hbC ht3 hgT.2.2.2
    rw [← hT]
    obtain ⟨W3, eW⟩ : ∃ W3, W3 = w2.alloc (.cells tab 61) := ⟨_, rfl⟩
    rw [← eW] at hd3 hbC ht3 hla ⊢
    obtain ⟨B, hB⟩ : ∃ B, B = wc.heap.size := ⟨_, rfl⟩
    rw [← hB] at hd3 hgT hla
    have D3 := Lib.hid hd3
    have LA := Lib.hid hla
    have HT3 := Lib.hid ht3
    have c34 := blk_cell hla.box3 4 (.int .i64 s.pages) rfl
    have c30 := blk_cell hla.box3 0 (.int .u64 (s.gen : Int)) rfl
    have c44 := blk_cell hla.box4 4 (.int .i64 t.pages) rfl
    have c40 := blk_cell hla.box4 0 (.int .u64 (t.gen : Int)) rfl
    have z34 : W3.frozen? ⟨w.heap.size, 4, none⟩ = false := by simp [World.frozen?, hla.box3]
    have z30 : W3.frozen? ⟨w.heap.size, 0, none⟩ = false := by simp [World.frozen?, hla.box3]
    have z44 : W3.frozen? ⟨w.heap.size + 1, 4, none⟩ = false := by simp [World.frozen?, hla.box4]
    have z40 : W3.frozen? ⟨w.heap.size + 1, 0, none⟩ = false := by simp [World.frozen?, hla.box4]
    clear hla hd3 ht3 D1 hb1 hb2 hbW TA eW hT hbC
    go_upto_region 7 with fail
    clear c34 c30 c44 c40 z34 z30 z44 z40 HT3
    obtain ⟨G, hG⟩ : ∃ G, G = s.gen % 1000 + 1 := ⟨_, rfl⟩
    have hG1 : 1 ≤ G := by omega
    have hG2 : G ≤ 1000 := by omega
    obtain ⟨W4, eW4⟩ : ∃ W4, W4 = (((W3.setCell ⟨w.heap.size, 4, none⟩ (.int .i64 16)).setCell ⟨w.heap.size + 1, 4, none⟩ (.int .i64 16)).setCell ⟨w.heap.size, 0, none⟩ (.int .u64 ((s.gen : Int) % 1000 + 1))).setCell ⟨w.heap.size + 1, 0, none⟩ (.int .u64 ((s.gen : Int) % 1000 + 1 + 1)) := ⟨_, rfl⟩
    rw [← eW4]
    obtain ⟨la4, hk4, hs4⟩ := LA.out.set G _ _ (by rw [hG]; simp) (by rw [hG]; simp) eW4
    have hd4 := D3.out.keep (w' := W4) (by omega) (fun k h1 _ => hk4 k (by have := LA.out.lt3; omega) (by have := LA.out.lt3; omega))
    obtain ⟨SA, eSA⟩ : ∃ S : Sup, S = ⟨G, s.addr, s.height, s.bitmap, 16⟩ := ⟨_, rfl⟩
    obtain ⟨SB, eSB⟩ : ∃ S : Sup, S = ⟨G + 1, t.addr, t.height, t.bitmap, 16⟩ := ⟨_, rfl⟩
    rw [← eSA, ← eSB] at la4
    have gA : SA.gen = G := by rw [eSA]
    have gB : SB.gen = G + 1 := by rw [eSB]
    have pA : SA.pages = 16 := by rw [eSA]
    have pB : SB.pages = 16 := by rw [eSB]
    have GA := Lib.hid gA
    have GB := Lib.hid gB
    have PGA := Lib.hid pA
    have PGB := Lib.hid pB
    clear gA gB pA pB
    have D4 := Lib.hid hd4
    have LA4 := Lib.hid la4
    clear eSA eSB hG eW4 hk4 hs4 hd4 la4 D3 LA hu0 hu1 hu2 hu3 tsz EW0 HB0 hw0 H3 H4 hg1 hg2
    obtain ⟨CA', eCA⟩ : ∃ C, C = supC SA := ⟨_, rfl⟩
    obtain ⟨CB', eCB⟩ : ∃ C, C = supC SB := ⟨_, rfl⟩
    have hA5 : Hid (some 5 = some CA'.size) := Lib.hid (by rw [eCA]; rfl)
    have hB5 : Hid (some 5 = some CB'.size) := Lib.hid (by rw [eCB]; rfl)
    have ECA := Lib.hid eCA
    have ECB := Lib.hid eCB
    have HTA : Hid (∀ W, Calls Try.prog 40 #[.agg CA'] W fun e w' => e = .returned (.agg CA') ∧ Below W.heap.size W w') := Lib.hid (fun W => by rw [eCA]; exact to_su SA W)
    have HTB : Hid (∀ W, Calls Try.prog 40 #[.agg CB'] W fun e w' => e = .returned (.agg CB') ∧ Below W.heap.size W w') := Lib.hid (fun W => by rw [eCB]; exact to_su SB W)
    have HRA : Hid (∀ W, Calls Try.prog 42 #[.agg CA'] W fun e w' => e = .returned (.bool (decide (okS SA))) ∧ Below W.heap.size W w') := Lib.hid (fun W => by rw [eCA]; exact right_ref SA W)
    have HRB : Hid (∀ W, Calls Try.prog 42 #[.agg CB'] W fun e w' => e = .returned (.bool (decide (okS SB))) ∧ Below W.heap.size W w') := Lib.hid (fun W => by rw [eCB]; exact right_ref SB W)
    have HX3 : Hid (∀ y : SubW W4.heap.size W4, y.at_.heap[w.heap.size]? = some (.cells CA' 77 (0, 0))) := Lib.hid (fun y => (LA4.out.below y.ok_).box3.trans (by rw [ECA.out]))
    have HXT : Hid (∀ y : SubW W4.heap.size W4, y.at_.heap[T]? = some (.cells tab 61 (0, 0))) := Lib.hid (fun y => (LA4.out.below y.ok_).tbl)
    clear eCA eCB
    refine region_below_tail 4 W4.heap.size W4 (Below.refl _ _) (by kernel_rfl) (by kernel_rfl) ?_
    simp only [List.take_succ_cons, List.take_zero, List.drop_succ_cons, List.drop_zero]
    repeat (first
      | (go_big_quiet_want; refine quiet_load_row 61 (.tmp 11) rfl T rfl 61 tab (0, 0) _ HXT.out Try.underlying61 rfl (by rw [size_tab]; exact info64) ?_; simp only [Act.put, List.setIfInBounds_toArray, List.set_cons_zero, List.set_cons_succ]; go_big_quiet_on)
      | (go_big_quiet_want; refine quiet_load_row 77 (.tmp 3) rfl w.heap.size rfl 77 CA' (0, 0) _ HX3.out Try.underlying77 rfl (infoRef.trans hA5.out) ?_; simp only [Act.put, List.setIfInBounds_toArray, List.set_cons_zero, List.set_cons_succ]; go_big_quiet_on)
      | go_big_quiet_step ((go_at_call 40; exact calls_sub (Nat.le_refl _) (HTA.out _))))
    refine wpQuiet_nil ?_
    rintro w' ⟨y, rfl⟩
    have D5 := Lib.hid (D4.out.below y.ok_)
    have LA5 := Lib.hid (LA4.out.below y.ok_)
    obtain ⟨W5, eW5⟩ : ∃ W5, W5 = y.at_ := ⟨_, rfl⟩
    rw [← eW5] at D5 LA5 ⊢
    clear HX3 HXT D4 LA4 eW5 y
    by_cases okA : okS SA
    · have dA : decide (okS SA) = true := decide_eq_true okA
      rw [dA] at HRA
      go_upto_region 8 with (go_at_call 46; (refine (swrite_x D5.out (by decide) (by decide) (by decide) SA okA (by have := GA.out; omega) CA' ECA.out).mono ?_); rintro e w6 h6; have H6 := Lib.hid h6.full; clear h6; rw [H6.out.1])
      obtain ⟨rw6, d6, m6, o6⟩ := H6.out.2
      have hb6 := D5.out.outer_below o6
      have hT6 := o6.keep LA5.out.sizeT hgT.1.symm hgT.2.1.symm (by simp [Value.ownBlock])
      have LA6 := Lib.hid (LA5.out.keep hb6 hT6)
      have hlp := length_PPt (SA.gen % 2) SA
      obtain ⟨PA, ePA⟩ : ∃ PA, PA = putP ⟨83, ((SA.gen % 2 : Nat) : Int), SA.gen, supB SA⟩ := ⟨_, rfl⟩
      rw [← ePA] at d6 hlp
      have hsy : synced (List.replicate 4096 0) (rawN (List.replicate 4096 0) (256 * (SA.gen % 2)) PA 4) ([] ++ secs (SA.gen % 2) PA 4) := (show synced (List.replicate 4096 0) (List.replicate 4096 0) [] from rfl).wrote _ _ (by rw [List.length_replicate]; omega) (by omega)
      have hlen6 : ([] ++ secs (SA.gen % 2) PA 4).length = 4 := by rw [List.nil_append, length_secs]
      have hpa6 := page_same (nw := List.replicate 4096 (0 : UInt8)) (a := SA.gen % 2) (bs := PA) (by rw [List.length_replicate]; omega) hlp
      have hpb6 : pageOf (rawN (List.replicate 4096 (0 : UInt8)) (256 * (SA.gen % 2)) PA 4) (SB.gen % 2) = List.replicate 256 0 := (page_other (by rw [List.length_replicate]; omega) hlp (by have := GA.out; have := GB.out; omega)).trans (page_zeros (by omega))
      obtain ⟨NW, eNW⟩ : ∃ NW, NW = rawN (List.replicate 4096 (0 : UInt8)) (256 * (SA.gen % 2)) PA 4 := ⟨_, rfl⟩
      obtain ⟨WS, eWS⟩ : ∃ WS, WS = [] ++ secs (SA.gen % 2) PA 4 := ⟨_, rfl⟩
      have d6' : Dk w6 B w6.heap.size g gs gn rw6 4096 cs cn (List.replicate 4096 0) NW WS true (-1) := by rw [eNW, eWS]; exact d6
      rw [← eNW] at hpa6 hpb6 hsy
      rw [← eWS] at hsy hlen6
      rw [ePA] at hpa6
      have D6 := Lib.hid d6'
      have HPA := Lib.hid hpa6
      have HPB := Lib.hid hpb6
      have HSY := Lib.hid hsy
      have HL6 := Lib.hid hlen6
      have HL6' : Hid (WS.length ≤ 1000) := Lib.hid (by omega)
      clear eNW eWS ePA d6 d6' m6 o6 hb6 hT6 hlp hsy hlen6 hpa6 hpb6 H6 D5 LA5
      go_upto_region 11 with (first
        | (go_at_call 15; (refine (flush_x D6.out (by decide) (by decide) (by decide) (-1) (by decide) HL6'.out).mono ?_); rintro e w7 ⟨rfl, d7, o7⟩)
        | (go_at_call 41; (refine (counts_any _).mono ?_); rintro e w8 ⟨rfl, hb8⟩))
      have hs : flushN (List.replicate 4096 0) WS WS.length = NW := HSY.out
      rw [hs] at d7
      have hb7 := flush_below D6.out o7
      have hT7 := o7.block T LA6.out.sizeT (by rintro (e | e) <;> omega)
      have la8 := (LA6.out.keep hb7 hT7).below hb8
      have D8 := Lib.hid (d7.below hb8)
      have HQ3 : Hid (w8.heap[w.heap.size]? = some (.cells CA' 77 (0, 0))) := Lib.hid (la8.box3.trans (by rw [ECA.out]))
      have HLA := Lib.hid la8
      clear hb7 hT7 la8 hb8 d7 o7 D6 LA6 HSY HL6 HL6' hs
      by_cases okB : okS SB
      · have dB : decide (okS SB) = true := decide_eq_true okB
        rw [dB, ECB.out] at HRB
        unfold supC at HRB
        go_upto_region 13 with (first
          | (refine wpList_load_row rfl 77 (.tmp 3) rfl w.heap.size rfl 77 CA' (0, 0) _ HQ3.out Try.underlying77 rfl (infoRef.trans hA5.out) ?_)
          | (have hq := q0; clear hq; go_at_call 42; (refine (HRB.out _).mono ?_); rintro e w10 ⟨rfl, hb10⟩; clear q0 q1 q2 q3 q4; have la10 := HLA.out.below hb10; clear HLA; have HLA := Lib.hid la10; have D10 := Lib.hid (D9.out.below hb10); clear la10 hb10 D9)
          | (go_at_call 42; (refine (HRA.out _).mono ?_); rintro e w9 ⟨rfl, hb9⟩; have la9 := HLA.out.below hb9; obtain ⟨q0, q1, q2, q3, q4⟩ := cellsS la9.box4; clear HLA; have HLA := Lib.hid la9; have D9 := Lib.hid (D8.out.below hb9); clear la9 hb9 D8))
        have HB10 : Hid (∀ y : SubW w10.heap.size w10, y.at_.heap[w.heap.size + 1]? = some (.cells CB' 77 (0, 0))) := Lib.hid (fun y => (HLA.out.below y.ok_).box4.trans (by rw [ECB.out]))
        have HT10 : Hid (∀ y : SubW w10.heap.size w10, y.at_.heap[T]? = some (.cells tab 61 (0, 0))) := Lib.hid (fun y => (HLA.out.below y.ok_).tbl)
        refine region_below_tail 4 w10.heap.size w10 (Below.refl _ _) (by kernel_rfl) (by kernel_rfl) ?_
        simp only [List.take_succ_cons, List.take_zero, List.drop_succ_cons, List.drop_zero]
        repeat (first
          | (go_big_quiet_want; refine quiet_load_row 61 (.tmp 11) rfl T rfl 61 tab (0, 0) _ HT10.out Try.underlying61 rfl (by rw [size_tab]; exact info64) ?_; simp only [Act.put, List.setIfInBounds_toArray, List.set_cons_zero, List.set_cons_succ]; go_big_quiet_on)
          | (go_big_quiet_want; refine quiet_load_row 77 (.tmp 4) rfl (w.heap.size + 1) rfl 77 CB' (0, 0) _ HB10.out Try.underlying77 rfl (infoRef.trans hB5.out) ?_; simp only [Act.put, List.setIfInBounds_toArray, List.set_cons_zero, List.set_cons_succ]; go_big_quiet_on)
          | go_big_quiet_step ((go_at_call 40; exact calls_sub (Nat.le_refl _) (HTB.out _))))
        refine wpQuiet_nil ?_
        rintro w' ⟨y, rfl⟩
        have D11 := Lib.hid (D10.out.below y.ok_)
        have LA11 := Lib.hid (HLA.out.below y.ok_)
        obtain ⟨W11, eW11⟩ : ∃ W11, W11 = y.at_ := ⟨_, rfl⟩
        rw [← eW11] at D11 LA11 ⊢
        clear HB10 HT10 D10 HLA eW11 y
        go_upto_region 14 with (go_at_call 46; (refine (swrite_x D11.out (by decide) (by decide) (by decide) SB okB (by have := GB.out; omega) CB' ECB.out).mono ?_); rintro e w12 h12; have H12 := Lib.hid h12.full; clear h12; rw [H12.out.1])
        obtain ⟨rw12, d12, m12, o12⟩ := H12.out.2
        have hb12 := D11.out.outer_below o12
        have hT12 := o12.keep LA11.out.sizeT hgT.1.symm hgT.2.1.symm (by simp [Value.ownBlock])
        have LA12 := Lib.hid (LA11.out.keep hb12 hT12)
        have HM12 : Hid (rw12.ownBlock ≠ some T) := Lib.hid (m12.ne (by simp [Value.ownBlock]) LA11.out.sizeT)
        have hlp := length_PPt (SB.gen % 2) SB
        obtain ⟨PB, ePB⟩ : ∃ PB, PB = putP ⟨83, ((SB.gen % 2 : Nat) : Int), SB.gen, supB SB⟩ := ⟨_, rfl⟩
        rw [← ePB] at d12 hlp
        obtain ⟨NW2, eNW2⟩ : ∃ NW2, NW2 = rawN NW (256 * (SB.gen % 2)) PB 4 := ⟨_, rfl⟩
        rw [List.nil_append, ← eNW2] at d12
        have D12 := Lib.hid d12
        have HPB2 := Lib.hid ePB
        have HLP := Lib.hid hlp
        have ENW2 := Lib.hid eNW2
        clear d12 m12 o12 hb12 hT12 hlp ePB eNW2 D11 LA11 H12
        go_wp2_with fail
        have HG7 : Hid (g7 < w12.heap.size) := Lib.hid (by have := LA12.out.lt7; have := LA12.out.ltT; have := LA12.out.sizeT; omega)
        have HG8 : Hid (g8 < w12.heap.size) := Lib.hid (by have := LA12.out.lt8; have := LA12.out.ltT; have := LA12.out.sizeT; omega)
        obtain ⟨FS, eFS⟩ : ∃ FS, FS = fates4 u0 u1 u2 u3 y0 y1 y2 y3 := ⟨_, rfl⟩
        have EFS := Lib.hid eFS
        clear eFS
        go_loopw [15, 16, 17, 18] (fun fv av nv iv wr => ∃ (j : Nat) (A : Option Addr) (c : Nat) (ba bn : Bool), j ≤ 4 ∧ iv = .int .i64 (j : Int) ∧ fv = .slice A j c ∧ av = .bool ba ∧ nv = .bool bn ∧ Hid (ba = allK (FS.take j)) ∧ Hid (bn = noK (FS.take j)) ∧ Hid (wr.ownsRow w12.heap.size 95 2 (.slice A j c) j ((FS.take j).flatMap fateC)) ∧ Hid (Below w12.heap.size w12 wr)) (fun _ _ _ iv _ => 4 - (intOf iv).toNat)
        case atStart => exact ⟨0, none, 0, true, true, by omega, rfl, rfl, rfl, rfl, Lib.hid rfl, Lib.hid rfl, Lib.hid (World.ownsRow_nil _ _ _ _), Lib.hid (Below.refl _ _)⟩
        case round =>
          obtain ⟨j, A, c, ba, bn, hj, rfl, rfl, rfl, rfl, HBA, HBN, HOW, HBL⟩ := hrel
          by_cases hlt : j < 4
          · obtain ⟨uj, yj, hy256, hu, hy, hf⟩ := fates4_at u0 u1 u2 u3 y0 y1 y2 y3 j hlt
            rw [← EFS.out] at hf
            have HF := Lib.hid hf
            have hwl := HBL.out.size
            have ku : ∀ y : SubW w12.heap.size wr, y.at_.cell? ⟨g7, j, none⟩ = some (.bool uj) := fun y => blk_cell ((y.ok_.block _ HG7.out).trans ((HBL.out.block _ HG7.out).trans LA12.out.row7)) j _ hu
            have ky : ∀ y : SubW w12.heap.size wr, y.at_.cell? ⟨g8, j, none⟩ = some (.int .u8 (yj : Int)) := fun y => blk_cell ((y.ok_.block _ HG8.out).trans ((HBL.out.block _ HG8.out).trans LA12.out.row8)) j _ hy
            have HU := Lib.hid hu
            have HY := Lib.hid hy
            clear hu hy hf
            go_wp2_with fail
            go_cut [15] from 99 to 137 (fun s15 wx => ∃ (A' : Option Addr) (c' : Nat), s15 = .slice A' (j + 1 : Nat) c' ∧ Hid (wx.ownsRow w12.heap.size 95 2 (.slice A' (j + 1 : Nat) c') (j + 1) ((FS.take j).flatMap fateC ++ fateC (uj, yj))) ∧ Hid (Below w12.heap.size w12 wx))
            case first =>
              obtain ⟨iw, hiw, hiz, his, hib⟩ := info_parts infoFa
              have hfill : Hid (Instr.fill (fun i => some (i * iw.size, iw.size)) ((Array.range (1 * iw.size)).map ((Value.agg #[.bool false, .int .u8 0]).cells[· % (Value.agg #[.bool false, .int .u8 0]).cells.size]!)) [(0, .agg #[.bool uj, .int .u8 (yj : Int)])] = some #[.bool uj, .int .u8 (yj : Int)]) := Lib.hid (by rw [his]; exact fill_fa _ _ rfl (by simp))
              refine region_ways4 w12.heap.size hwl (.one [0, 1, 2, 3, 4, 5, 6, 7] 8 (.one [] 9 (.done [10]))) (by kernel_rfl) (by kernel_rfl) ?_
              rintro wd hbd
              have hbw : Below w12.heap.size wr wd := hbd.mono hwl
              rw [wpWays_one4]
              try simp only [List.map_cons, List.map_nil, opAt, List.getElem?_toArray, List.getElem?_cons_zero, List.getElem?_cons_succ, Option.getD_some]
              repeat (go_big_quiet_step (fail))
              refine wpQuiet_nil ?_
              go_wp2_with (refine wpList_buildSlice rfl 51 95 1 _ rfl #[.bool uj, .int .u8 (yj : Int)] iw _ Try.underlying51 hiw hiz (by rw [his]; decide) (by rw [his]; decide) (by rw [Array.toList_map]; exact hfill.out) ?_)
              have b1 : Below w12.heap.size wr (wd.alloc (.cells #[.bool uj, .int .u8 (yj : Int)] 95)) := hbw.alloc (by have := hbw.size; omega) _
              have hb1' : Below wr.heap.size wr (wd.alloc (.cells #[.bool uj, .int .u8 (yj : Int)] 95)) := hbd.alloc hbd.size _
              have s1 := own_below HOW.out hb1'
              have hnews : ∀ (k : Nat) (u : Value), (#[Value.bool uj, .int .u8 (yj : Int)] : Array Value).toList[k]? = some u → (wd.alloc (.cells #[.bool uj, .int .u8 (yj : Int)] 95)).cell? ((⟨wd.heap.size, 0, none⟩ : Addr).add k) = some u := by
                intro k u hk
                rw [Addr.add_mid, World.cell?_alloc_new]
                simpa using hk
              refine ⟨⟨⟨_, b1⟩, rfl⟩, ?_⟩
              try simp only [Act.put, List.setIfInBounds_toArray, List.set_cons_zero, List.set_cons_succ]
              rw [wpWays_one4]
              try simp only [List.map_cons, List.map_nil, opAt, List.getElem?_toArray, List.getElem?_cons_zero, List.getElem?_cons_succ, Option.getD_some]
              refine wpQuiet_nil ?_
              go_wp2_with (at_builtin; refine wpList_append_own_at _ rfl (.tmp 103) (.tmp 111) 51 rfl w12.heap.size 95 iw _ 2 2 Try.underlying51 hiw hiz his hib rfl (by omega) _ j ((FS.take j).flatMap fateC) rfl s1 ⟨wd.heap.size, 0, none⟩ 1 1 (fateC (uj, yj)) rfl rfl hnews (fateC_one _) (by unfold maxLen; omega) (by omega) (by have := b1.size; omega) ?_; intro rw2 w4 ho4 hg4 _ how4; obtain ⟨A2, c2, rfl⟩ := own_form ho4)
              have b4 : Below w12.heap.size wr w4 := b1.grown hg4 (by have := b1.size; omega) (fun k hk => (HOW.out.lt k hk).1)
              refine ⟨⟨⟨_, b4⟩, rfl⟩, ?_⟩
              try simp only [Act.put, List.setIfInBounds_toArray, List.set_cons_zero, List.set_cons_succ]
              rw [wpWays_done4]
              try simp only [List.map_cons, List.map_nil, opAt, List.getElem?_toArray, List.getElem?_cons_zero, List.getElem?_cons_succ, Option.getD_some]
              repeat (go_big_quiet_step (fail))
              refine wpQuiet_nil ?_
              go_wp2_with fail
              go_meet
              exact ⟨A2, c2, rfl, Lib.hid ho4, Lib.hid (HBL.out.trans b4)⟩
            case rest =>
              obtain ⟨A', c', rfl, HOW', HBL'⟩ := hcut
              have xu : wc.cell? ⟨g7, j, none⟩ = some (.bool uj) := blk_cell ((HBL'.out.block _ HG7.out).trans LA12.out.row7) j _ HU.out
              have xy : wc.cell? ⟨g8, j, none⟩ = some (.int .u8 (yj : Int)) := blk_cell ((HBL'.out.block _ HG8.out).trans LA12.out.row8) j _ HY.out
              clear ku ky HOW HBL
              have hk16 := allK_take FS j _ HF.out
              have hk17 := noK_take FS j _ HF.out
              rw [← HBA.out] at hk16
              rw [← HBN.out] at hk17
              have HK16 := Lib.hid hk16
              have HK17 := Lib.hid hk17
              have HOWn : Hid (wc.ownsRow w12.heap.size 95 2 (.slice A' (j + 1 : Nat) c') (j + 1) ((FS.take (j + 1)).flatMap fateC)) := Lib.hid (by rw [flat_take FS j _ HF.out]; exact HOW'.out)
              clear hk16 hk17 HBA HBN HF HU HY HOW'
              cases ba <;> cases bn <;> cases uj <;>
                (go_wp2_with fail
                 go_roundw
                 case rel => exact ⟨j + 1, A', c', _, _, by omega, by go_num, rfl, (by have e := HK16.out; simp [← beq255] at e; rw [e]), (by have e := HK17.out; simp [← beq0] at e; rw [e]), Lib.hid rfl, Lib.hid rfl, HOWn, HBL'⟩
                 case measure => simp [intOf]; omega)
          · obtain rfl : j = 4 := by omega
            have h4 : FS.take 4 = FS := by rw [EFS.out]; rfl
            rw [h4] at HBA HBN HOW
            have how := HOW.out
            rw [EFS.out] at how
            obtain ⟨bf, rfl, hbf, hc4, hcm, hcell⟩ := fates_cells _ _ _ _ _ _ _ _ how
            rw [← EFS.out] at hcell
            have HCELL := Lib.hid hcell
            have DR := Lib.hid (D12.out.below HBL.out)
            have LAR := Lib.hid (LA12.out.below HBL.out)
            have HFL : Hid (FS.length = 4) := Lib.hid (by rw [EFS.out]; rfl)
            have HBF : Hid (g < bf ∧ gs < bf ∧ gn < bf) := Lib.hid (by have := D12.out.gN; have := D12.out.sN; have := D12.out.nN; omega)
            clear how h4 hcell D12 LA12
            go_upto_region 23 with (go_at_call 11; (refine (crash_x DR.out (by rw [length_secs]; decide) (some ⟨bf, 0, none⟩) 4 c FS HFL.out (by decide) hc4 hcm (fun jj p hp => ⟨bf, 0, rfl, HCELL.out jj p hp⟩) (fun a ha => by injection ha with ha; subst ha; have := HBF.out; rintro (e | e | e) <;> (simp at e; omega))).mono ?_); rintro e w13 ⟨rfl, d13, o13⟩)
            have hb13 := crash_below DR.out o13
            have hT13 := o13.block T LAR.out.sizeT (by rintro (e | e | e) <;> omega)
            have LA13 := Lib.hid (LAR.out.keep hb13 hT13)
            rw [length_secs] at d13
            obtain ⟨S, eS⟩ : ∃ S, S = crashN NW (secs (SB.gen % 2) PB 4) FS 4 := ⟨_, rfl⟩
            rw [← eS] at d13
            have ES := Lib.hid eS
            have D13 := Lib.hid d13
            have HNL : Hid (NW.length = 4096) := Lib.hid DR.out.lst
            clear d13 o13 hb13 hT13 eS DR LAR HOW HCELL HBF hc4 hcm hbf
            obtain ⟨q0, q1, q2, q3, q4⟩ := cellsS LA13.out.box4
            have hsl := D13.out.lst
            have hg64 : SB.gen < 18446744073709551616 := by have := GB.out; omega
            obtain ⟨bg, hbg⟩ : ∃ bg, bg = SB.gen := ⟨_, rfl⟩
            rw [← hbg] at q0 hg64
            have HBG := Lib.hid hbg
            clear hbg
            go_upto_region 24 with fail
            obtain ⟨o, ho⟩ : ∃ o : Nat, o = bg % 2 * 256 := ⟨_, rfl⟩
            have ho2 : (bg : Int) % 2 * 256 = (o : Int) := by omega
            have ho3 : o ≤ 256 := by omega
            rw [ho2]
            have HO := Lib.hid ho
            have HO2 := Lib.hid ho2
            clear ho ho2
            have ho4 : (o : Int) ≤ 256 := by omega
            obtain ⟨YS, hYS⟩ : ∃ YS, YS = pageOf S (SB.gen % 2) := ⟨_, rfl⟩
            have hyl : YS.length = 256 := by rw [hYS]; unfold pageOf; rw [List.length_take, List.length_drop]; omega
            have hyd : YS = (S.drop o).take 256 := by
              rw [hYS]
              unfold pageOf
              have h1 := HO.out
              have h2 := HBG.out
              rw [show 256 * (SB.gen % 2) = o by omega]
            have HYS := Lib.hid hYS
            have HYL := Lib.hid hyl
            have HYD := Lib.hid hyd
            obtain ⟨PG, ePG⟩ : ∃ PG, PG = toldP YS := ⟨_, rfl⟩
            obtain ⟨nG, eNG⟩ : ∃ nG, nG = numOf YS := ⟨_, rfl⟩
            have EPG := Lib.hid ePG
            have ENG := Lib.hid eNG
            clear hYS hyl hyd ePG eNG
            go_upto_region 25 with (first
              | (go_at_call 19; (refine (image_any D13.out).mono ?_); rintro e w14 ⟨A14, c14, rfl, o14, hb14⟩; obtain ⟨q14, rfl, hob14, hl14⟩ := o14.ownB (by decide); have D14 := Lib.hid (D13.out.below hb14); have LA14 := Lib.hid (LA13.out.below hb14); have l0 : 4096 ≤ c14 := (by have := hob14.parts.2.1; omega); have l1 : (0 : Int) ≤ (o : Int) + 256 ∧ (o : Int) + 256 ≤ (c14 : Int) := (by omega); have l2 : ((o : Int) + 256).toNat = o + 256 := (by omega); have l3 : ¬ c14 = o := (by omega); have l4 : o ≤ o + 256 := (by omega); have l5 : (o + 256 : Nat) - o = 256 := (by omega); have hby : BytesAt w14 (some ⟨q14, o, none⟩) YS := (by rw [HYD.out]; exact (bytes_from hob14.bytes o).take 256); have rg := refGet_told (some ⟨q14, o, none⟩) (c14 - o) YS w14 hby (by have := HYL.out; omega); rw [HYL.out, ← EPG.out, ← ENG.out] at rg; have RG := Lib.hid rg; clear hob14 o14 hby rg)
              | (go_at_call 47; (refine RG.out.mono ?_); rintro e w15 ⟨A15, c15, rfl, h15, hb15⟩; have D15 := Lib.hid (D14.out.below hb15); have LA15 := Lib.hid (LA14.out.below hb15); have H15 := Lib.hid h15; clear h15)
              | (refine wpList_store_row rfl 58 (.tmp 20) (.tmp 154) rfl w15.heap.size (cellsC PG A15 c15) rfl rfl 58 #[.int .u8 0, .int .i64 0, .int .u64 0, .slice none 0 0] (heap_alloc_new _ _) size_refPage rfl (by simp [cellsC, Value.oneCell']) ?_; rw [World.setRow_alloc_new]))
            obtain ⟨k20, hk20⟩ : ∃ k, k = w15.heap.size := ⟨_, rfl⟩
            have hbn : Below w15.heap.size w15 (w15.alloc (.cells (cellsC PG A15 c15) 58)) := (Below.refl _ _).alloc (Nat.le_refl _) _
            have D16 := Lib.hid (D15.out.below hbn)
            have LA16 := Lib.hid (LA15.out.below hbn)
            have H16 := Lib.hid (H15.out.below hbn)
            have HQ20 : Hid ((w15.alloc (.cells (cellsC PG A15 c15) 58)).heap[k20]? = some (.cells (cellsC PG A15 c15) 58 (0, 0))) := Lib.hid (by rw [hk20]; exact heap_alloc_new _ _)
            rw [← hk20]
            obtain ⟨W16, eW16⟩ : ∃ W, W = w15.alloc (.cells (cellsC PG A15 c15) 58) := ⟨_, rfl⟩
            rw [← eW16] at D16 LA16 H16 HQ20 ⊢
            clear eW16 hk20 hbn D15 LA15 H15 D14 LA14 RG hb14 hb15 hl14 l0 l1 l2 l3 l4 l5
            obtain ⟨bb, hbb⟩ : ∃ bb : Bool, bb = decide (nG = 0 ∧ PG.body ≠ supB SB) := ⟨_, rfl⟩
            have HBB := Lib.hid hbb
            clear hbb
            obtain ⟨X, hX⟩ : ∃ X, X = supB SB := ⟨_, rfl⟩
            have HXL : Hid (X.length = 15) := Lib.hid (by rw [hX, length_supB])
            have HRP : Hid (∀ W, Calls Try.prog 44 #[.agg CB'] W fun e w' => ∃ A' c', e = .returned (.slice A' 15 c') ∧ OwnS w' (W.heap.size + 1) (.slice A' 15 c') 5 X ∧ Below W.heap.size W w') := Lib.hid (fun W => by rw [hX, ECB.out]; exact put_ref _ okB (by have := GB.out; omega) W)
            have HX := Lib.hid hX
            clear hX
            have HQ4 : Hid (∀ y : SubW W16.heap.size W16, y.at_.heap[w.heap.size + 1]? = some (.cells CB' 77 (0, 0))) := Lib.hid (fun y => (LA16.out.below y.ok_).box4.trans (by rw [ECB.out]))
            have hq3 : ∀ y : SubW W16.heap.size W16, y.at_.cell? ⟨k20, 3, none⟩ = some (.slice A15 PG.body.length c15) := fun y => blk_cell ((y.ok_.block _ (Array.getElem?_eq_some_iff.1 HQ20.out).1).trans HQ20.out) 3 _ rfl
            go_cut [166] (fun s wx => s = .bool bb ∧ Hid (Below W16.heap.size W16 wx))
            case first =>
              refine region_ways4 W16.heap.size (Nat.le_refl _) (.two [0, 1, 2, 3, 4, 6] 5 (.one [] 7 (.one [] 8 (.done [9, 10]))) 7 (.two [] 5 (.one [] 8 (.done [9, 10])) 8 (.one [] 5 (.done [9, 10])))) (by kernel_rfl) (by kernel_rfl) ?_
              rintro wd hbd
              have hxp := H16.out.below hbd
              have tp := text_n A15 PG.body.length c15 PG.body rfl hxp
              by_cases hn : nG = 0
              · have hz : ((nG : Int) == 0) = true := by rw [hn]; rfl
                have HN0 := Lib.hid hn
                clear hn
                have hend : (!(PG.body == X)) = bb := by
                  rw [HBB.out, HX.out]
                  have h0 := HN0.out
                  by_cases he : PG.body = supB SB
                  · simp [he]
                  · simp [he, h0]
                rw [wpWays_two4]
                try simp only [List.map_cons, List.map_nil, opAt, List.getElem?_toArray, List.getElem?_cons_zero, List.getElem?_cons_succ, Option.getD_some]
                repeat (first
                  | (go_big_quiet_want; refine quiet_load_row 77 (.tmp 4) rfl (w.heap.size + 1) rfl 77 CB' (0, 0) _ HQ4.out Try.underlying77 rfl (infoRef.trans hB5.out) ?_; simp only [Act.put, List.setIfInBounds_toArray, List.set_cons_zero, List.set_cons_succ]; go_big_quiet_on)
                  | (go_big_quiet_step (fail)))
                refine wpQuiet_nil ⟨?_, ?_⟩
                · go_wp2_with (fail)
                  refine ⟨⟨⟨_, hbd⟩, rfl⟩, ?_⟩
                  rw [wpWays_one4]
                  try simp only [List.map_cons, List.map_nil, opAt, List.getElem?_toArray, List.getElem?_cons_zero, List.getElem?_cons_succ, Option.getD_some]
                  repeat (first
                    | (go_big_quiet_want; refine quiet_load_row 77 (.tmp 4) rfl (w.heap.size + 1) rfl 77 CB' (0, 0) _ HQ4.out Try.underlying77 rfl (infoRef.trans hB5.out) ?_; simp only [Act.put, List.setIfInBounds_toArray, List.set_cons_zero, List.set_cons_succ]; go_big_quiet_on)
                    | (go_big_quiet_step (fail)))
                  refine wpQuiet_nil ?_
                  go_wp2_with (go_at_call 44; (refine (HRP.out _).mono ?_); rintro e v57 ⟨A57, c57, rfl, ho57, hv57⟩)
                  have b57 := hbd.trans (hv57.mono hbd.size)
                  have hxp57 := hxp.below hv57
                  have tp57 := text_n A15 PG.body.length c15 PG.body rfl hxp57
                  have tr57 := text_n A57 15 c57 X HXL.out ho57.bytes
                  refine ⟨⟨⟨_, b57⟩, rfl⟩, ?_⟩
                  rw [wpWays_one4]
                  try simp only [List.map_cons, List.map_nil, opAt, List.getElem?_toArray, List.getElem?_cons_zero, List.getElem?_cons_succ, Option.getD_some]
                  repeat (first
                    | (go_big_quiet_want; refine quiet_load_row 77 (.tmp 4) rfl (w.heap.size + 1) rfl 77 CB' (0, 0) _ HQ4.out Try.underlying77 rfl (infoRef.trans hB5.out) ?_; simp only [Act.put, List.setIfInBounds_toArray, List.set_cons_zero, List.set_cons_succ]; go_big_quiet_on)
                    | (go_big_quiet_step (fail)))
                  refine wpQuiet_nil ?_
                  go_wp2_with (fail)
                  refine ⟨⟨⟨_, b57⟩, rfl⟩, ?_⟩
                  rw [wpWays_done4]
                  try simp only [List.map_cons, List.map_nil, opAt, List.getElem?_toArray, List.getElem?_cons_zero, List.getElem?_cons_succ, Option.getD_some]
                  repeat (first
                    | (go_big_quiet_want; refine quiet_load_row 77 (.tmp 4) rfl (w.heap.size + 1) rfl 77 CB' (0, 0) _ HQ4.out Try.underlying77 rfl (infoRef.trans hB5.out) ?_; simp only [Act.put, List.setIfInBounds_toArray, List.set_cons_zero, List.set_cons_succ]; go_big_quiet_on)
                    | (go_big_quiet_step (fail)))
                  refine wpQuiet_nil ?_
                  go_wp2_with fail
                  go_meet
                  exact ⟨by first | rfl | rw [hend], Lib.hid b57⟩
                · go_wp2_with (go_at_call 44; (refine (HRP.out _).mono ?_); rintro e v7 ⟨A7, c7, rfl, ho7, hv7⟩)
                  have b7 := hbd.trans (hv7.mono hbd.size)
                  have hxp7 := hxp.below hv7
                  have tp7 := text_n A15 PG.body.length c15 PG.body rfl hxp7
                  have tr7 := text_n A7 15 c7 X HXL.out ho7.bytes
                  refine ⟨⟨⟨_, b7⟩, rfl⟩, ?_⟩
                  rw [wpWays_two4]
                  try simp only [List.map_cons, List.map_nil, opAt, List.getElem?_toArray, List.getElem?_cons_zero, List.getElem?_cons_succ, Option.getD_some]
                  repeat (first
                    | (go_big_quiet_want; refine quiet_load_row 77 (.tmp 4) rfl (w.heap.size + 1) rfl 77 CB' (0, 0) _ HQ4.out Try.underlying77 rfl (infoRef.trans hB5.out) ?_; simp only [Act.put, List.setIfInBounds_toArray, List.set_cons_zero, List.set_cons_succ]; go_big_quiet_on)
                    | (go_big_quiet_step (fail)))
                  refine wpQuiet_nil ⟨?_, ?_⟩
                  · go_wp2_with (fail)
                    refine ⟨⟨⟨_, b7⟩, rfl⟩, ?_⟩
                    rw [wpWays_one4]
                    try simp only [List.map_cons, List.map_nil, opAt, List.getElem?_toArray, List.getElem?_cons_zero, List.getElem?_cons_succ, Option.getD_some]
                    repeat (first
                      | (go_big_quiet_want; refine quiet_load_row 77 (.tmp 4) rfl (w.heap.size + 1) rfl 77 CB' (0, 0) _ HQ4.out Try.underlying77 rfl (infoRef.trans hB5.out) ?_; simp only [Act.put, List.setIfInBounds_toArray, List.set_cons_zero, List.set_cons_succ]; go_big_quiet_on)
                      | (go_big_quiet_step (fail)))
                    refine wpQuiet_nil ?_
                    go_wp2_with (fail)
                    refine ⟨⟨⟨_, b7⟩, rfl⟩, ?_⟩
                    rw [wpWays_done4]
                    try simp only [List.map_cons, List.map_nil, opAt, List.getElem?_toArray, List.getElem?_cons_zero, List.getElem?_cons_succ, Option.getD_some]
                    repeat (first
                      | (go_big_quiet_want; refine quiet_load_row 77 (.tmp 4) rfl (w.heap.size + 1) rfl 77 CB' (0, 0) _ HQ4.out Try.underlying77 rfl (infoRef.trans hB5.out) ?_; simp only [Act.put, List.setIfInBounds_toArray, List.set_cons_zero, List.set_cons_succ]; go_big_quiet_on)
                      | (go_big_quiet_step (fail)))
                    refine wpQuiet_nil ?_
                    go_wp2_with fail
                    go_meet
                    exact ⟨by first | rfl | rw [hend], Lib.hid b7⟩
                  · go_wp2_with (fail)
                    refine ⟨⟨⟨_, b7⟩, rfl⟩, ?_⟩
                    rw [wpWays_one4]
                    try simp only [List.map_cons, List.map_nil, opAt, List.getElem?_toArray, List.getElem?_cons_zero, List.getElem?_cons_succ, Option.getD_some]
                    repeat (first
                      | (go_big_quiet_want; refine quiet_load_row 77 (.tmp 4) rfl (w.heap.size + 1) rfl 77 CB' (0, 0) _ HQ4.out Try.underlying77 rfl (infoRef.trans hB5.out) ?_; simp only [Act.put, List.setIfInBounds_toArray, List.set_cons_zero, List.set_cons_succ]; go_big_quiet_on)
                      | (go_big_quiet_step (fail)))
                    refine wpQuiet_nil ?_
                    go_wp2_with (fail)
                    refine ⟨⟨⟨_, b7⟩, rfl⟩, ?_⟩
                    rw [wpWays_done4]
                    try simp only [List.map_cons, List.map_nil, opAt, List.getElem?_toArray, List.getElem?_cons_zero, List.getElem?_cons_succ, Option.getD_some]
                    repeat (first
                      | (go_big_quiet_want; refine quiet_load_row 77 (.tmp 4) rfl (w.heap.size + 1) rfl 77 CB' (0, 0) _ HQ4.out Try.underlying77 rfl (infoRef.trans hB5.out) ?_; simp only [Act.put, List.setIfInBounds_toArray, List.set_cons_zero, List.set_cons_succ]; go_big_quiet_on)
                      | (go_big_quiet_step (fail)))
                    refine wpQuiet_nil ?_
                    go_wp2_with fail
                    go_meet
                    exact ⟨by first | rfl | rw [hend], Lib.hid b7⟩
              · have hz : ((nG : Int) == 0) = false := by rw [beq_eq_false_iff_ne]; omega
                have hend : bb = false := by rw [HBB.out]; simp [hn]
                clear hn
                rw [wpWays_two4]
                try simp only [List.map_cons, List.map_nil, opAt, List.getElem?_toArray, List.getElem?_cons_zero, List.getElem?_cons_succ, Option.getD_some]
                repeat (go_big_quiet_step (fail))
                refine wpQuiet_nil ⟨?_, ?_⟩
                · go_wp2_with (fail)
                  refine ⟨⟨⟨_, hbd⟩, rfl⟩, ?_⟩
                  rw [wpWays_one4]
                  try simp only [List.map_cons, List.map_nil, opAt, List.getElem?_toArray, List.getElem?_cons_zero, List.getElem?_cons_succ, Option.getD_some]
                  repeat (go_big_quiet_step (fail))
                  refine wpQuiet_nil ?_
                  go_wp2_with (fail)
                  refine ⟨⟨⟨_, hbd⟩, rfl⟩, ?_⟩
                  rw [wpWays_one4]
                  try simp only [List.map_cons, List.map_nil, opAt, List.getElem?_toArray, List.getElem?_cons_zero, List.getElem?_cons_succ, Option.getD_some]
                  repeat (go_big_quiet_step (fail))
                  refine wpQuiet_nil ?_
                  go_wp2_with (fail)
                  refine ⟨⟨⟨_, hbd⟩, rfl⟩, ?_⟩
                  rw [wpWays_done4]
                  try simp only [List.map_cons, List.map_nil, opAt, List.getElem?_toArray, List.getElem?_cons_zero, List.getElem?_cons_succ, Option.getD_some]
                  repeat (go_big_quiet_step (fail))
                  refine wpQuiet_nil ?_
                  go_wp2_with fail
                  go_meet
                  exact ⟨by first | rfl | rw [hend], Lib.hid hbd⟩
                · go_wp2_with (fail)
                  refine ⟨⟨⟨_, hbd⟩, rfl⟩, ?_⟩
                  rw [wpWays_two4]
                  try simp only [List.map_cons, List.map_nil, opAt, List.getElem?_toArray, List.getElem?_cons_zero, List.getElem?_cons_succ, Option.getD_some]
                  repeat (go_big_quiet_step (fail))
                  refine wpQuiet_nil ⟨?_, ?_⟩
                  · go_wp2_with (fail)
                    refine ⟨⟨⟨_, hbd⟩, rfl⟩, ?_⟩
                    rw [wpWays_one4]
                    try simp only [List.map_cons, List.map_nil, opAt, List.getElem?_toArray, List.getElem?_cons_zero, List.getElem?_cons_succ, Option.getD_some]
                    repeat (go_big_quiet_step (fail))
                    refine wpQuiet_nil ?_
                    go_wp2_with (fail)
                    refine ⟨⟨⟨_, hbd⟩, rfl⟩, ?_⟩
                    rw [wpWays_done4]
                    try simp only [List.map_cons, List.map_nil, opAt, List.getElem?_toArray, List.getElem?_cons_zero, List.getElem?_cons_succ, Option.getD_some]
                    repeat (go_big_quiet_step (fail))
                    refine wpQuiet_nil ?_
                    go_wp2_with fail
                    go_meet
                    exact ⟨by first | rfl | rw [hend], Lib.hid hbd⟩
                  · go_wp2_with (fail)
                    refine ⟨⟨⟨_, hbd⟩, rfl⟩, ?_⟩
                    rw [wpWays_one4]
                    try simp only [List.map_cons, List.map_nil, opAt, List.getElem?_toArray, List.getElem?_cons_zero, List.getElem?_cons_succ, Option.getD_some]
                    repeat (go_big_quiet_step (fail))
                    refine wpQuiet_nil ?_
                    go_wp2_with (fail)
                    refine ⟨⟨⟨_, hbd⟩, rfl⟩, ?_⟩
                    rw [wpWays_done4]
                    try simp only [List.map_cons, List.map_nil, opAt, List.getElem?_toArray, List.getElem?_cons_zero, List.getElem?_cons_succ, Option.getD_some]
                    repeat (go_big_quiet_step (fail))
                    refine wpQuiet_nil ?_
                    go_wp2_with fail
                    go_meet
                    exact ⟨by first | rfl | rw [hend], Lib.hid hbd⟩
            case rest =>
              obtain ⟨rfl, HBW⟩ := hcut
              have D17 := Lib.hid (D16.out.below HBW.out)
              have LA17 := Lib.hid (LA16.out.below HBW.out)
              have HT17 : Hid (wc.heap[T]? = some (.cells tab 61 (0, 0))) := Lib.hid LA17.out.tbl
              have HOK := Lib.hid (show 1 ≤ SA.gen ∧ 1 ≤ SB.gen from ⟨okA.1, okB.1⟩)
              clear hq3 HQ4 HRP H16 HQ20 LA16 HBW
              cases bb
              · have hy : numOf (pageOf S (SB.gen % 2)) ≠ 0 ∨ (toldP (pageOf S (SB.gen % 2))).body = supB SB := by
                  have h1 := of_decide_eq_false HBB.out.symm
                  rw [← HYS.out, ← EPG.out, ← ENG.out]
                  by_cases h0 : nG = 0
                  · exact .inr (Classical.not_not.1 (fun h => h1 ⟨h0, h⟩))
                  · exact .inl h0
                have hd := tears_done NW S PB FS SA SB okA okB HNL.out hsl ES.out HFL.out HLP.out HPB2.out (by have := GA.out; omega) (by have h1 := GA.out; have h2 := GB.out; omega) PGA.out PGB.out HPA.out HPB.out hy
                rw [← HBA.out, ← HBN.out] at hd
                clear hy HBB EPG ENG HYS HYL HYD HO HO2
                rcases hd with ⟨he, hk⟩ | ⟨he, hk⟩
                · have HKA := Lib.hid hk
                  clear hk
                  have HZ : Hid (Array.size (supC zeroS) = CA'.size) := Lib.hid (by rw [ECA.out]; rfl)
                  have HZ2 : Hid (Array.size (supC zeroS) = CA'.size) := Lib.hid (by rw [ECA.out]; rfl)
                  have HOC : Hid (CA'.all (·.oneCell') = true) := Lib.hid (by rw [ECA.out]; simp [supC, Value.oneCell'])
                  have HF : Hid (∀ W, Calls Try.prog 45 #[.agg CA'] W fun e w' => e = .returned (.agg CA') ∧ Below W.heap.size W w') := Lib.hid (fun W => by rw [ECA.out]; exact from_su SA W)
                  have HN := Lib.hid (newest_yes D17.out SA he (by have := okA.1; omega) CA' ECA.out)
                  clear he D17 D16
                  go_upto_region 28 with (first
                    | (refine wpList_load_row rfl 61 (.tmp 11) rfl T rfl 61 tab (0, 0) _ HT17.out Try.underlying61 rfl (by rw [size_tab]; exact info64) ?_)
                    | (go_at_call 48; (refine HN.out.mono ?_); rintro e w18 ⟨rfl, hb18⟩; have LA18 := Lib.hid (LA17.out.below hb18))
                    | (refine wpList_store_row rfl 82 (.tmp 22) (.tmp 171) rfl w18.heap.size CA' rfl rfl 82 (supC zeroS) (heap_alloc_new _ _) (infoSup.trans hA5.out) HZ.out HOC.out ?_; rw [World.setRow_alloc_new]))
                  obtain ⟨k22, hk22⟩ : ∃ k, k = w18.heap.size := ⟨_, rfl⟩
                  have LA19 := Lib.hid (LA18.out.below ((Below.refl w18.heap.size w18).alloc (Nat.le_refl _) (.cells CA' 82)))
                  have HQ22 : Hid ((w18.alloc (.cells CA' 82)).heap[k22]? = some (.cells CA' 82 (0, 0))) := Lib.hid (by rw [hk22]; exact heap_alloc_new _ _)
                  rw [← hk22]
                  obtain ⟨W19, eW19⟩ : ∃ W, W = w18.alloc (.cells CA' 82) := ⟨_, rfl⟩
                  rw [← eW19] at LA19 HQ22 ⊢
                  clear eW19 hk22 LA18 LA17 hb18 HN HT17
                  go_upto_region 31 with (first
                    | (refine wpList_load_row rfl 82 (.tmp 22) rfl k22 rfl 82 CA' (0, 0) _ HQ22.out Try.underlying82 rfl (infoSup.trans hA5.out) ?_)
                    | (go_at_call 45; (refine (HF.out _).mono ?_); rintro e w20 ⟨rfl, hb20⟩; have LA20 := Lib.hid (LA19.out.below hb20))
                    | (refine wpList_store_row rfl 77 (.tmp 24) (.tmp 184) rfl w20.heap.size CA' rfl rfl 77 (supC zeroS) (heap_alloc_new _ _) (infoRef.trans hA5.out) HZ2.out HOC.out ?_; rw [World.setRow_alloc_new]))
                  obtain ⟨k24, hk24⟩ : ∃ k, k = w20.heap.size := ⟨_, rfl⟩
                  have LA21 := Lib.hid (LA20.out.below ((Below.refl w20.heap.size w20).alloc (Nat.le_refl _) (.cells CA' 77)))
                  have HQ24 : Hid ((w20.alloc (.cells CA' 77)).heap[k24]? = some (.cells CA' 77 (0, 0))) := Lib.hid (by rw [hk24]; exact heap_alloc_new _ _)
                  rw [← hk24]
                  obtain ⟨W21, eW21⟩ : ∃ W, W = w20.alloc (.cells CA' 77) := ⟨_, rfl⟩
                  rw [← eW21] at LA21 HQ24 ⊢
                  clear eW21 hk24 LA20 LA19 hb20 HF HQ22
                  have HQ3 : Hid (W21.heap[w.heap.size]? = some (.cells CA' 77 (0, 0))) := Lib.hid (LA21.out.box3.trans (by rw [ECA.out]))
                  have HQ4 : Hid (W21.heap[w.heap.size + 1]? = some (.cells CB' 77 (0, 0))) := Lib.hid (LA21.out.box4.trans (by rw [ECB.out]))
                  obtain ⟨q0, q1, q2, q3, q4⟩ := cellsS LA21.out.box3
                  obtain ⟨r0, r1, r2, r3, r4⟩ := cellsS LA21.out.box4
                  obtain ⟨t0, t1, t2, t3, t4⟩ := cellsS (HQ24.out.trans (by rw [ECA.out]))
                  obtain rfl := HKA.out
                  have HAA := Lib.hid (eql_ref SA)
                  have HBB2 := Lib.hid (eql_ref SB)
                  have HBA2 := Lib.hid (eql_ref_ne SB SA (by have h1 := GA.out; have h2 := GB.out; omega))
                  rw [← ECA.out] at HAA
                  rw [← ECB.out] at HBB2
                  rw [← ECA.out, ← ECB.out] at HBA2
                  go_wp2_with (first
                    | (refine wpList_load_row rfl 77 (.tmp 24) rfl k24 rfl 77 CA' (0, 0) _ HQ24.out Try.underlying77 rfl (infoRef.trans hA5.out) ?_)
                    | (refine wpList_load_row rfl 77 (.tmp 3) rfl w.heap.size rfl 77 CA' (0, 0) _ HQ3.out Try.underlying77 rfl (infoRef.trans hA5.out) ?_)
                    | (refine wpList_load_row rfl 77 (.tmp 4) rfl (w.heap.size + 1) rfl 77 CB' (0, 0) _ HQ4.out Try.underlying77 rfl (infoRef.trans hB5.out) ?_)
                    | (refine wpList_binOp rfl .eql 77 (.tmp 185) (.tmp 186) 77 rfl _ _ _ rfl rfl (guard_ref .eql _ _ _ _ _) (HAA.out _) ?_))
                  all_goals (go_ret; exact ⟨rfl, LA21.out.bel⟩)
                · have HKN := Lib.hid hk
                  clear hk
                  have HZ : Hid (Array.size (supC zeroS) = CB'.size) := Lib.hid (by rw [ECB.out]; rfl)
                  have HZ2 : Hid (Array.size (supC zeroS) = CB'.size) := Lib.hid (by rw [ECB.out]; rfl)
                  have HOC : Hid (CB'.all (·.oneCell') = true) := Lib.hid (by rw [ECB.out]; simp [supC, Value.oneCell'])
                  have HF : Hid (∀ W, Calls Try.prog 45 #[.agg CB'] W fun e w' => e = .returned (.agg CB') ∧ Below W.heap.size W w') := Lib.hid (fun W => by rw [ECB.out]; exact from_su SB W)
                  have HN := Lib.hid (newest_yes D17.out SB he (by have := okB.1; omega) CB' ECB.out)
                  clear he D17 D16
                  go_upto_region 28 with (first
                    | (refine wpList_load_row rfl 61 (.tmp 11) rfl T rfl 61 tab (0, 0) _ HT17.out Try.underlying61 rfl (by rw [size_tab]; exact info64) ?_)
                    | (go_at_call 48; (refine HN.out.mono ?_); rintro e w18 ⟨rfl, hb18⟩; have LA18 := Lib.hid (LA17.out.below hb18))
                    | (refine wpList_store_row rfl 82 (.tmp 22) (.tmp 171) rfl w18.heap.size CB' rfl rfl 82 (supC zeroS) (heap_alloc_new _ _) (infoSup.trans hB5.out) HZ.out HOC.out ?_; rw [World.setRow_alloc_new]))
                  obtain ⟨k22, hk22⟩ : ∃ k, k = w18.heap.size := ⟨_, rfl⟩
                  have LA19 := Lib.hid (LA18.out.below ((Below.refl w18.heap.size w18).alloc (Nat.le_refl _) (.cells CB' 82)))
                  have HQ22 : Hid ((w18.alloc (.cells CB' 82)).heap[k22]? = some (.cells CB' 82 (0, 0))) := Lib.hid (by rw [hk22]; exact heap_alloc_new _ _)
                  rw [← hk22]
                  obtain ⟨W19, eW19⟩ : ∃ W, W = w18.alloc (.cells CB' 82) := ⟨_, rfl⟩
                  rw [← eW19] at LA19 HQ22 ⊢
                  clear eW19 hk22 LA18 LA17 hb18 HN HT17
                  go_upto_region 31 with (first
                    | (refine wpList_load_row rfl 82 (.tmp 22) rfl k22 rfl 82 CB' (0, 0) _ HQ22.out Try.underlying82 rfl (infoSup.trans hB5.out) ?_)
                    | (go_at_call 45; (refine (HF.out _).mono ?_); rintro e w20 ⟨rfl, hb20⟩; have LA20 := Lib.hid (LA19.out.below hb20))
                    | (refine wpList_store_row rfl 77 (.tmp 24) (.tmp 184) rfl w20.heap.size CB' rfl rfl 77 (supC zeroS) (heap_alloc_new _ _) (infoRef.trans hB5.out) HZ2.out HOC.out ?_; rw [World.setRow_alloc_new]))
                  obtain ⟨k24, hk24⟩ : ∃ k, k = w20.heap.size := ⟨_, rfl⟩
                  have LA21 := Lib.hid (LA20.out.below ((Below.refl w20.heap.size w20).alloc (Nat.le_refl _) (.cells CB' 77)))
                  have HQ24 : Hid ((w20.alloc (.cells CB' 77)).heap[k24]? = some (.cells CB' 77 (0, 0))) := Lib.hid (by rw [hk24]; exact heap_alloc_new _ _)
                  rw [← hk24]
                  obtain ⟨W21, eW21⟩ : ∃ W, W = w20.alloc (.cells CB' 77) := ⟨_, rfl⟩
                  rw [← eW21] at LA21 HQ24 ⊢
                  clear eW21 hk24 LA20 LA19 hb20 HF HQ22
                  have HQ3 : Hid (W21.heap[w.heap.size]? = some (.cells CA' 77 (0, 0))) := Lib.hid (LA21.out.box3.trans (by rw [ECA.out]))
                  have HQ4 : Hid (W21.heap[w.heap.size + 1]? = some (.cells CB' 77 (0, 0))) := Lib.hid (LA21.out.box4.trans (by rw [ECB.out]))
                  obtain ⟨q0, q1, q2, q3, q4⟩ := cellsS LA21.out.box3
                  obtain ⟨r0, r1, r2, r3, r4⟩ := cellsS LA21.out.box4
                  obtain ⟨t0, t1, t2, t3, t4⟩ := cellsS (HQ24.out.trans (by rw [ECB.out]))
                  obtain rfl := HKN.out
                  have HAA := Lib.hid (eql_ref SA)
                  have HBB2 := Lib.hid (eql_ref SB)
                  have HBA2 := Lib.hid (eql_ref_ne SB SA (by have h1 := GA.out; have h2 := GB.out; omega))
                  rw [← ECA.out] at HAA
                  rw [← ECB.out] at HBB2
                  rw [← ECA.out, ← ECB.out] at HBA2
                  go_wp2_with (first
                    | (refine wpList_load_row rfl 77 (.tmp 24) rfl k24 rfl 77 CB' (0, 0) _ HQ24.out Try.underlying77 rfl (infoRef.trans hB5.out) ?_)
                    | (refine wpList_load_row rfl 77 (.tmp 3) rfl w.heap.size rfl 77 CA' (0, 0) _ HQ3.out Try.underlying77 rfl (infoRef.trans hA5.out) ?_)
                    | (refine wpList_load_row rfl 77 (.tmp 4) rfl (w.heap.size + 1) rfl 77 CB' (0, 0) _ HQ4.out Try.underlying77 rfl (infoRef.trans hB5.out) ?_)
                    | (refine wpList_binOp rfl .eql 77 (.tmp 185) (.tmp 186) 77 rfl _ _ _ rfl rfl (guard_ref .eql _ _ _ _ _) (HBA2.out _) ?_))
                  all_goals (go_ret; exact ⟨rfl, LA21.out.bel⟩)
              · go_wp2_with fail
                go_ret
                exact ⟨rfl, LA17.out.bel⟩
      · have dB : decide (okS SB) = false := decide_eq_false okB
        rw [dB, ECB.out] at HRB
        unfold supC at HRB
        go_wp2_with (first
          | (refine wpList_load_row rfl 77 (.tmp 3) rfl w.heap.size rfl 77 CA' (0, 0) _ HQ3.out Try.underlying77 rfl (infoRef.trans hA5.out) ?_)
          | (refine wpList_load_row rfl 77 (.tmp 3) rfl w.heap.size rfl 77 CA' (0, 0) _ HQ5.out Try.underlying77 rfl (infoRef.trans hA5.out) ?_)
          | (have hq := q0; clear hq; go_at_call 42; (refine (HRB.out _).mono ?_); rintro e w10 ⟨rfl, hb10⟩; clear q0 q1 q2 q3 q4; have la10 := HLA.out.below hb10; have HQ5 : Hid (w10.heap[w.heap.size]? = some (.cells CA' 77 (0, 0))) := Lib.hid (la10.box3.trans (by rw [ECA.out])); clear HLA; have HLA := Lib.hid la10; clear la10 hb10)
          | (go_at_call 42; (refine (HRA.out _).mono ?_); rintro e w9 ⟨rfl, hb9⟩; have la9 := HLA.out.below hb9; obtain ⟨q0, q1, q2, q3, q4⟩ := cellsS la9.box4; clear HLA; have HLA := Lib.hid la9; clear la9 hb9))
        go_ret
        exact ⟨rfl, HLA.out.bel⟩
    · have dA : decide (okS SA) = false := decide_eq_false okA
      rw [dA] at HRA
      go_upto_region 11 with (first
        | (go_at_call 46; (refine (swrite_err D5.out SA okA CA' ECA.out).mono ?_); rintro e w6 ⟨rfl, hb6⟩; have D6 := Lib.hid (D5.out.below hb6); have LA6 := Lib.hid (LA5.out.below hb6))
        | (go_at_call 15; (refine (flush_x D6.out (by decide) (by decide) (by decide) (-1) (by decide) (by decide)).mono ?_); rintro e w7 ⟨rfl, d7, o7⟩)
        | (go_at_call 41; (refine (counts_any _).mono ?_); rintro e w8 ⟨rfl, hb8⟩))
      have hb7 := flush_below D6.out o7
      have hT7 := o7.block T LA6.out.sizeT (by rintro (e | e) <;> omega)
      have la8 := (LA6.out.keep hb7 hT7).below hb8
      have HQ3 : Hid (w8.heap[w.heap.size]? = some (.cells CA' 77 (0, 0))) := Lib.hid (la8.box3.trans (by rw [ECA.out]))
      have HLA := Lib.hid la8
      clear hb7 hT7 la8 hb8 d7 o7 D6 LA6 hb6
      go_wp2_with (first
        | (refine wpList_load_row rfl 77 (.tmp 3) rfl w.heap.size rfl 77 CA' (0, 0) _ HQ3.out Try.underlying77 rfl (infoRef.trans hA5.out) ?_)
        | (refine wpList_load_row rfl 77 (.tmp 3) rfl w.heap.size rfl 77 CA' (0, 0) _ HQ4.out Try.underlying77 rfl (infoRef.trans hA5.out) ?_)
        | (go_at_call 42; (refine (HRA.out _).mono ?_); rintro e w9 ⟨rfl, hb9⟩; have la9 := HLA.out.below hb9; have HQ4 : Hid (w9.heap[w.heap.size]? = some (.cells CA' 77 (0, 0))) := Lib.hid (la9.box3.trans (by rw [ECA.out])); clear HLA; have HLA := Lib.hid la9; clear la9 hb9))
      go_ret
      exact ⟨rfl, HLA.out.bel⟩
end Go.Proofs.Ytehmkegbmbkkbaa
