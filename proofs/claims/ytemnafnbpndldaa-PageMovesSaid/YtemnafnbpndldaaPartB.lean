/- Several texts in one: PageMoves: its walk. PageMoves: its walk. PageMoves: its walk. -/
import Derived.Test.YtemnafnbpndldaaPartA
namespace Go.Proofs.Ytemnafnbpndldaa
open Go.ChangeShapes Go.WideShapes Go.ChangeAt Go.RowKit CrcM PageM
set_option linter.unusedVariables false

set_option maxHeartbeats 4000000 in
set_option maxRecDepth 100000 in
theorem pageMoves_yes (k : UInt8) (ad : Int) (gg : Nat) (b : List UInt8) (hk : isK k = true) (hb : b.length ≤ 238) (hgg : gg < 18446744073709551616) (A : Option Addr) (c : Nat) (t : Int) (w : World) (hx : BytesAt w A b) (hbc : b.length ≤ c)
    (m : Nat) (hm : m < 20) (hme : wrap64 ((IntKind.u64.wrap ad).tmod 20) = (m : Int)) (hke : wrap64 ((IntKind.u64.wrap t).tmod 20) = (m : Int)) :
    Calls Try.prog 5 #[.agg (cellsC ⟨k, ad, gg, b⟩ A c), .int .i64 t] w fun e w' => e = .returned (.bool true) ∧ Below w.heap.size w w' := by
  unfold cellsC
  dsimp only at *
  obtain ⟨PP, eP⟩ : ∃ PP, PP = putP ⟨k, (m : Int), gg, b⟩ := ⟨_, rfl⟩
  have HPL : Hid (PP.length = 256) := Lib.hid (by rw [eP]; exact length_putP _ hb)
  have EP := Lib.hid eP
  have HME := Lib.hid hme
  have HKE := Lib.hid hke
  have HK := Lib.hid hk
  have HX := Lib.hid hx
  clear hme hke hk hx eP
  go_enter Try.func5, Try.ntmps5
  go_upto_region 3 with (first
    | (go_at_call 29; refine (new_any _).mono ?_; rintro e w2 ⟨rfl, hb2⟩)
    | (refine wpList_store_row rfl 61 (.tmp 5) (.tmp 19) rfl w2.heap.size tab rfl rfl 61 Try.zeroCells61 (heap_alloc_new _ _) (by rw [size_tab]; exact info64) (by rw [size_tab, zero64, size_tabC]) (tab_one _) ?_; rw [World.setRow_alloc_new])
    | (go_at_call 20; (refine (new_ok 20 (by omega) (by omega) _).mono ?_); rintro e w3 ⟨g, gs, gn, cs, cn, rfl, d3, hb3⟩; have D3 := Lib.hid d3; clear d3))
  have hs2 : w.heap.size + 1 ≤ w2.heap.size := by have := hb2.size; simpa using this
  have hs3 : w2.heap.size + 1 ≤ w3.heap.size := by have := hb3.size; simpa using this
  have hp2 := (hb2.block w.heap.size (by simp)).trans (heap_alloc_new w _)
  have hp3 := (hb3.block w.heap.size (by simp; omega)).trans ((heap_alloc_old _ _ (by omega)).trans hp2)
  have ht3 := (hb3.block w2.heap.size (by simp)).trans (heap_alloc_new w2 _)
  have hb03 : Below w.heap.size w w3 := ((((Below.refl _ _).alloc (Nat.le_refl _) _).trans (hb2.mono (by simp))).alloc (by omega) _).trans (hb3.mono (by simp; omega))
  have HP3 := Lib.hid hp3
  have HT3 := Lib.hid ht3
  obtain ⟨B, hB⟩ : ∃ B, B = w2.heap.size + 1 := ⟨_, rfl⟩
  have D3 : Hid (Dk w3 B w3.heap.size g gs gn (.slice none 0 0) 5120 cs cn (List.replicate 5120 0) (List.replicate 5120 0) [] true (-1)) := Lib.hid (by have := D3.out; simpa [hB] using this)
  have HB := Lib.hid hB
  clear hb2 hb3 hp2 ht3 hB
  have k1 := blk_cell hp3 1 _ rfl
  have f1 : w3.frozen? ⟨w.heap.size, 1, none⟩ = false := by simp [World.frozen?, hp3]
  clear hp3
  go_cut [] (fun wx => Hid (Below w.heap.size w wx ∧ wx.heap[w.heap.size]? = some (.cells #[.int .u8 (k.toNat : Int), .int .i64 (m : Int), .int .u64 (gg : Int), .slice A b.length c] 58 (0, 0)) ∧ wx.heap[w2.heap.size]? = some (.cells tab 61 (0, 0)) ∧ Dk wx B w3.heap.size g gs gn (.slice none 0 0) 5120 cs cn (List.replicate 5120 0) (List.replicate 5120 0) [] true (-1)))
  case first =>
    go_wp2_with fail
    rw [HME.out]
    go_meet
    refine Lib.hid ⟨hb03.trans (below_setC' hb03.size (Nat.le_refl _)), heap_setCell_same w3 w.heap.size 1 _ _ _ HP3.out, ?_, ?_⟩
    · exact (heap_setCell_other w3 ⟨w.heap.size, 1, none⟩ w2.heap.size _ (by show w2.heap.size ≠ w.heap.size; omega)).trans HT3.out
    · exact D3.out.keep (by simp) (fun k hk _ => heap_setCell_other w3 ⟨w.heap.size, 1, none⟩ k _ (by show k ≠ w.heap.size; have := HB.out; omega))
  case rest =>
    have HPC := Lib.hid hcut.out.2.1
    have hbA := hcut.out.1
    have HTC := Lib.hid hcut.out.2.2.1
    have DC := Lib.hid hcut.out.2.2.2
    have hwc : B ≤ wc.heap.size := by have h1 := DC.out.gB; have h2 := DC.out.gN; have h3 := DC.out.NN; omega
    have hsB : w2.heap.size + 1 = B := HB.out.symm
    clear hcut k1 f1 hs3 D3 HT3 HP3 hb03
    go_upto_region 8 with (first
      | (refine wpList_load_row rfl 58 (.tmp 2) rfl w.heap.size rfl 58 _ (0, 0) _ HPC.out Try.underlying58 rfl size_refPage ?_)
      | (go_at_call 30; (refine (refPut_okB k m gg b PP EP.out HK.out (by omega) hgg hb A c _ (HX.out.below hbA) hbc _ rfl).mono ?_); rintro e w4 ⟨q, rfl, hq, hb4⟩; have HQ := Lib.hid hq; clear hq)
      | (go_at_call 33; (refine (puts_any _).mono ?_); rintro e w5 ⟨rfl, hb5⟩))
    rw [HKE.out]
    have hs4 := hb4.size
    have hs5 := hb5.size
    have hb45 : Below wc.heap.size wc w5 := hb4.trans (hb5.mono hs4)
    have D5 := Lib.hid (DC.out.below hb45)
    have HQ5 := Lib.hid (HQ.out.below hb5)
    have HHX : 256 * m + 256 ≤ 5120 := by omega
    go_upto_region 9 with (go_at_call 35; (refine (writeRaw_pg D5.out (by simp) _ m rfl HHX _ _ PP HQ5.out HPL.out).mono ?_); rintro e w6 ⟨rfl, ⟨rw6, ws6, nw6, d6, l6, hs6, ho6, m6⟩, o6, hb56⟩; have D6 := Lib.hid d6; have HXS := Lib.hid hs6; clear d6 hs6 ho6)
    have hbc6 : Below B wc w6 := (hb45.mono hwc).trans hb56
    have HP6 := Lib.hid ((hbc6.block w.heap.size (by omega)).trans HPC.out)
    have HT6 := Lib.hid ((hbc6.block w2.heap.size (by omega)).trans HTC.out)
    have hbA6 : Below w.heap.size w w6 := hbA.trans (hbc6.mono (by omega))
    have hs6 : B ≤ w6.heap.size := Nat.le_trans hwc hbc6.size
    clear hb4 hb5 hb45 D5 HQ5 HQ hb56 hbc6 o6 m6 hs4 hs5 DC HTC HPC hbA
    have k0 := blk_cell HP6.out 0 _ rfl
    go_wp2_with (first
      | (refine wpList_load_row rfl 61 (.tmp 5) rfl w2.heap.size rfl 61 tab (0, 0) _ HT6.out Try.underlying61 rfl (by rw [size_tab]; exact info64) ?_)
      | (go_at_call 34; (refine (pread_yes D6.out _ m rfl HHX k gg b HK.out hgg hb PP EP.out HXS.out _ rfl).mono ?_); rintro e w7 ⟨⟨A7, c7, rfl, hx7, hl7, hn7⟩, hb7⟩; have HX7 := Lib.hid hx7; clear hx7; have hp7 := (hb7.block w.heap.size (by omega)).trans HP6.out; have k7 := blk_cell ((Below.heap_alloc w7 (.cells (cellsC ⟨k, (m : Int), gg, b⟩ A7 c7) 66) w.heap.size (Array.getElem?_eq_some_iff.1 hp7).1).trans hp7) 1 _ rfl)
      | (refine wpList_store_row rfl 66 (.tmp 12) (.tmp 65) rfl w7.heap.size (cellsC ⟨k, (m : Int), gg, b⟩ A7 c7) rfl rfl 66 #[.int .u8 0, .int .i64 0, .int .u64 0, .slice none 0 0] (heap_alloc_new _ _) size_page rfl (by simp [cellsC, Value.oneCell']) ?_; rw [World.setRow_alloc_new]))
    have hs7 := hb7.size
    obtain ⟨W0, eW⟩ : ∃ W0, W0 = ((w7.alloc (.cells (cellsC ⟨k, (m : Int), gg, b⟩ A7 c7) 66)).alloc (.cells #[.int .u8 83, .int .u8 76, .int .u8 73, .int .u8 66] 5)) := ⟨_, rfl⟩
    have hb77 : Below w7.heap.size w7 W0 := by rw [eW]; exact ((Below.refl _ _).alloc (Nat.le_refl _) _).alloc (by simp) _
    have hb70 : Below w6.heap.size w6 W0 := hb7.trans (hb77.mono hs7)
    have HK0 : Hid (W0.heap[w7.heap.size + 1]? = some (.cells (fourK.map bv).toArray 5 (0, 0))) := Lib.hid (by rw [eW]; exact heap_alloc2_new _ _ _)
    have HR0 : Hid (W0.heap[w7.heap.size]? = some (.cells (cellsC ⟨k, (m : Int), gg, b⟩ A7 c7) 66 (0, 0))) := Lib.hid (by rw [eW]; exact heap_alloc2_old _ _ _)
    have HW0 : Hid (w7.heap.size + 2 = W0.heap.size) := Lib.hid (by rw [eW]; simp)
    rw [← eW]
    have D0 := Lib.hid (D6.out.below hb70)
    have HP0 := Lib.hid ((hb70.block w.heap.size (by omega)).trans HP6.out)
    have HT0 := Lib.hid ((hb70.block w2.heap.size (by omega)).trans HT6.out)
    have hbA0 : Below w.heap.size w W0 := hbA6.trans (hb70.mono hbA6.size)
    have HX0 := Lib.hid (HX.out.below hbA0)
    have HX70 := Lib.hid (HX7.out.below hb77)
    have hs0 : B ≤ W0.heap.size := Nat.le_trans hs6 hb70.size
    clear eW hb70 HP6 HT6 D6 hbA6 hb7 k0 k7 hs7 hp7 HX HX7 hb77
    go_loopw [15] (fun i wr => ∃ j : Nat, j ≤ 4 ∧ i = .int .i64 j ∧ Hid (Below W0.heap.size W0 wr)) (fun i _ => 4 - (intOf i).toNat)
    case atStart => exact ⟨0, by omega, rfl, Lib.hid (Below.refl _ _)⟩
    case round =>
      obtain ⟨j, hj, rfl, hB⟩ := hrel
      have Dr := Lib.hid (D0.out.below hB.out)
      have hpr := (hB.out.block w.heap.size (by omega)).trans HP0.out
      have HTr := Lib.hid ((hB.out.block w2.heap.size (by omega)).trans HT0.out)
      have hkr := (hB.out.block (w7.heap.size + 1) (by have := HW0.out; omega)).trans HK0.out
      have hsr : B ≤ wr.heap.size := Nat.le_trans hs0 hB.out.size
      by_cases hlt : j < 4
      · obtain ⟨kk, hkk⟩ : ∃ kk : UInt8, (fourK.map bv).toArray[j]? = some (.int .u8 (kk.toNat : Int)) := by
          refine ⟨fourK[j]'hlt, ?_⟩
          have : j < fourK.length := hlt
          simp [bv, this]
          rfl
        have ck := (cell_of_row _ _ j _ _ _ hkr).trans hkk
        have HPr := Lib.hid hpr
        clear hkr hkk hpr
        by_cases hkk : k = kk
        · subst hkk
          go_wp2_with (first
            | (refine wpList_load_row rfl 61 (.tmp 5) rfl w2.heap.size rfl 61 tab (0, 0) _ HTr.out Try.underlying61 rfl (by rw [size_tab]; exact info64) ?_)
            | (go_at_call 34; (refine (pread_yes Dr.out _ m rfl HHX k gg b HK.out hgg hb PP EP.out HXS.out _ rfl).mono ?_); rintro e w8 ⟨⟨A8, c8, rfl, hx8, hl8, hn8⟩, hb8⟩; have hp8 := (hb8.block w.heap.size (by omega)).trans HPr.out; have k8 := blk_cell ((Below.heap_alloc w8 (.cells (cellsC ⟨k, (m : Int), gg, b⟩ A8 c8) 66) w.heap.size (Array.getElem?_eq_some_iff.1 hp8).1).trans hp8) 1 _ rfl; have k9 := blk_cell ((Below.heap_alloc w8 (.cells (cellsC ⟨k, (m : Int), gg, b⟩ A8 c8) 66) w.heap.size (Array.getElem?_eq_some_iff.1 hp8).1).trans hp8) 0 _ rfl)
            | (refine wpList_store_row rfl 66 (.tmp 17) (.tmp 101) rfl w8.heap.size (cellsC ⟨k, (m : Int), gg, b⟩ A8 c8) rfl rfl 66 #[.int .u8 0, .int .i64 0, .int .u64 0, .slice none 0 0] (heap_alloc_new _ _) size_page rfl (by simp [cellsC, Value.oneCell']) ?_; rw [World.setRow_alloc_new]))
          go_roundw
          case rel => exact ⟨j + 1, by omega, by go_num, Lib.hid ((hB.out.trans (hb8.mono hB.out.size)).alloc (Nat.le_trans hB.out.size hb8.size) _)⟩
          case measure => simp [intOf]; omega
        · have dk : ((kk.toNat : Int) == (k.toNat : Int)) = false := by
            rw [beq_eq_false_iff_ne]
            intro e
            exact hkk (UInt8.toNat_inj.1 (by omega))
          have hno : ¬ readsP (pageOf nw6 m) m kk := fun h => by rw [HXS.out, EP.out] at h; exact hkk (reads_put HK.out (by omega) hgg hb h).2
          have HNO := Lib.hid hno
          clear hkk hno
          go_wp2_with (first
            | (refine wpList_load_row rfl 61 (.tmp 5) rfl w2.heap.size rfl 61 tab (0, 0) _ HTr.out Try.underlying61 rfl (by rw [size_tab]; exact info64) ?_)
            | (go_at_call 34; (refine (pread_not Dr.out _ m rfl HHX kk HNO.out _ rfl).mono ?_); rintro e w8 ⟨rfl, hb8⟩; have hp8 := (hb8.block w.heap.size (by omega)).trans HPr.out; have k8 := blk_cell ((Below.heap_alloc w8 (.cells #[.int .u8 0, .int .i64 0, .int .u64 0, .slice none 0 0] 66) w.heap.size (Array.getElem?_eq_some_iff.1 hp8).1).trans hp8) 1 _ rfl; have k9 := blk_cell ((Below.heap_alloc w8 (.cells #[.int .u8 0, .int .i64 0, .int .u64 0, .slice none 0 0] 66) w.heap.size (Array.getElem?_eq_some_iff.1 hp8).1).trans hp8) 0 _ rfl)
            | (refine wpList_store_row rfl 66 (.tmp 17) (.tmp 101) rfl w8.heap.size #[.int .u8 0, .int .i64 0, .int .u64 0, .slice none 0 0] rfl rfl 66 Try.zeroCells66 (heap_alloc_new _ _) (by kernel_rfl) (by kernel_rfl) (by kernel_rfl) ?_; rw [World.setRow_alloc_new]))
          go_roundw
          case rel => exact ⟨j + 1, by omega, by go_num, Lib.hid ((hB.out.trans (hb8.mono hB.out.size)).alloc (Nat.le_trans hB.out.size hb8.size) _)⟩
          case measure => simp [intOf]; omega
      · obtain rfl : j = 4 := by omega
        have hrr := (hB.out.block w7.heap.size (by have := HW0.out; omega)).trans HR0.out
        have f0 : Hid (∀ y : SubW wr.heap.size wr, y.at_.heap[w.heap.size]? = some (.cells (cellsC ⟨k, (m : Int), gg, b⟩ A c) 58 (0, 0))) := fun y => (y.ok_.block _ (by omega)).trans hpr
        have f1 : Hid (∀ y : SubW wr.heap.size wr, y.at_.heap[w7.heap.size]? = some (.cells (cellsC ⟨k, (m : Int), gg, b⟩ A7 c7) 66 (0, 0))) := fun y => (y.ok_.block _ (by have := HW0.out; have := hB.out.size; omega)).trans hrr
        have E3 := Lib.hid (HX70.out.below hB.out)
        have E4 := Lib.hid (HX0.out.below hB.out)
        clear hpr hkr hrr
        go_wp2_with fail
        refine region_below wr.heap.size wr (Below.refl _ _) (by kernel_rfl) (by kernel_rfl) ?_
        repeat (first
          | (go_big_quiet_want; refine quiet_load_row 66 (.tmp 12) rfl w7.heap.size rfl 66 (cellsC ⟨k, (m : Int), gg, b⟩ A7 c7) (0, 0) _ f1.out Try.underlying66 rfl size_page ?_; simp only [Act.put, List.setIfInBounds_toArray, List.set_cons_zero, List.set_cons_succ]; go_big_quiet_on)
          | (go_big_quiet_want; refine quiet_load_row 58 (.tmp 2) rfl w.heap.size rfl 58 (cellsC ⟨k, (m : Int), gg, b⟩ A c) (0, 0) _ f0.out Try.underlying58 rfl size_refPage ?_; simp only [Act.put, List.setIfInBounds_toArray, List.set_cons_zero, List.set_cons_succ]; go_big_quiet_on)
          | go_big_quiet_step ((first
              | (go_at_call 38; exact calls_sub (Nat.le_refl _) (from_V _ A7 c7 _))
              | (go_at_call 37; exact calls_sub (Nat.le_refl _) (same_V _ A7 A c7 c _ (E3.out.sub_ _) (E4.out.sub_ _))))))
        refine wpQuiet_nil ?_
        rintro w' ⟨y, rfl⟩
        go_wp2_with fail
        go_ret
        exact ⟨rfl, (hbA0.trans (hB.out.mono hbA0.size)).trans (y.ok_.mono (Nat.le_trans hbA0.size hB.out.size))⟩
end Go.Proofs.Ytemnafnbpndldaa

namespace Go.Proofs.Ytemnafnbpndldaa
open Go.ChangeShapes Go.WideShapes Go.ChangeAt Go.RowKit CrcM PageM
set_option linter.unusedVariables false

set_option maxHeartbeats 4000000 in
set_option maxRecDepth 100000 in
theorem pageMoves_no (k : UInt8) (ad : Int) (gg : Nat) (b : List UInt8) (hk : isK k = true) (hb : b.length ≤ 238) (hgg : gg < 18446744073709551616) (A : Option Addr) (c : Nat) (t : Int) (w : World) (hx : BytesAt w A b) (hbc : b.length ≤ c)
    (m K : Nat) (hm : m < 20) (hme : wrap64 ((IntKind.u64.wrap ad).tmod 20) = (m : Int)) (hK : K < 20) (hke : wrap64 ((IntKind.u64.wrap t).tmod 20) = (K : Int)) (hmK : m ≠ K) :
    Calls Try.prog 5 #[.agg (cellsC ⟨k, ad, gg, b⟩ A c), .int .i64 t] w fun e w' => e = .returned (.bool true) ∧ Below w.heap.size w w' := by
  unfold cellsC
  dsimp only at *
  obtain ⟨PP, eP⟩ : ∃ PP, PP = putP ⟨k, (m : Int), gg, b⟩ := ⟨_, rfl⟩
  have HPL : Hid (PP.length = 256) := Lib.hid (by rw [eP]; exact length_putP _ hb)
  have EP := Lib.hid eP
  have HME := Lib.hid hme
  have HKE := Lib.hid hke
  have HK := Lib.hid hk
  have HX := Lib.hid hx
  have HNE := Lib.hid hmK
  have dK : ((K : Int) == (m : Int)) = false := by simp; omega
  clear hmK
  clear hme hke hk hx eP
  go_enter Try.func5, Try.ntmps5
  go_upto_region 3 with (first
    | (go_at_call 29; refine (new_any _).mono ?_; rintro e w2 ⟨rfl, hb2⟩)
    | (refine wpList_store_row rfl 61 (.tmp 5) (.tmp 19) rfl w2.heap.size tab rfl rfl 61 Try.zeroCells61 (heap_alloc_new _ _) (by rw [size_tab]; exact info64) (by rw [size_tab, zero64, size_tabC]) (tab_one _) ?_; rw [World.setRow_alloc_new])
    | (go_at_call 20; (refine (new_ok 20 (by omega) (by omega) _).mono ?_); rintro e w3 ⟨g, gs, gn, cs, cn, rfl, d3, hb3⟩; have D3 := Lib.hid d3; clear d3))
  have hs2 : w.heap.size + 1 ≤ w2.heap.size := by have := hb2.size; simpa using this
  have hs3 : w2.heap.size + 1 ≤ w3.heap.size := by have := hb3.size; simpa using this
  have hp2 := (hb2.block w.heap.size (by simp)).trans (heap_alloc_new w _)
  have hp3 := (hb3.block w.heap.size (by simp; omega)).trans ((heap_alloc_old _ _ (by omega)).trans hp2)
  have ht3 := (hb3.block w2.heap.size (by simp)).trans (heap_alloc_new w2 _)
  have hb03 : Below w.heap.size w w3 := ((((Below.refl _ _).alloc (Nat.le_refl _) _).trans (hb2.mono (by simp))).alloc (by omega) _).trans (hb3.mono (by simp; omega))
  have HP3 := Lib.hid hp3
  have HT3 := Lib.hid ht3
  obtain ⟨B, hB⟩ : ∃ B, B = w2.heap.size + 1 := ⟨_, rfl⟩
  have D3 : Hid (Dk w3 B w3.heap.size g gs gn (.slice none 0 0) 5120 cs cn (List.replicate 5120 0) (List.replicate 5120 0) [] true (-1)) := Lib.hid (by have := D3.out; simpa [hB] using this)
  have HB := Lib.hid hB
  clear hb2 hb3 hp2 ht3 hB
  have k1 := blk_cell hp3 1 _ rfl
  have f1 : w3.frozen? ⟨w.heap.size, 1, none⟩ = false := by simp [World.frozen?, hp3]
  clear hp3
  go_cut [] (fun wx => Hid (Below w.heap.size w wx ∧ wx.heap[w.heap.size]? = some (.cells #[.int .u8 (k.toNat : Int), .int .i64 (m : Int), .int .u64 (gg : Int), .slice A b.length c] 58 (0, 0)) ∧ wx.heap[w2.heap.size]? = some (.cells tab 61 (0, 0)) ∧ Dk wx B w3.heap.size g gs gn (.slice none 0 0) 5120 cs cn (List.replicate 5120 0) (List.replicate 5120 0) [] true (-1)))
  case first =>
    go_wp2_with fail
    rw [HME.out]
    go_meet
    refine Lib.hid ⟨hb03.trans (below_setC' hb03.size (Nat.le_refl _)), heap_setCell_same w3 w.heap.size 1 _ _ _ HP3.out, ?_, ?_⟩
    · exact (heap_setCell_other w3 ⟨w.heap.size, 1, none⟩ w2.heap.size _ (by show w2.heap.size ≠ w.heap.size; omega)).trans HT3.out
    · exact D3.out.keep (by simp) (fun k hk _ => heap_setCell_other w3 ⟨w.heap.size, 1, none⟩ k _ (by show k ≠ w.heap.size; have := HB.out; omega))
  case rest =>
    have HPC := Lib.hid hcut.out.2.1
    have hbA := hcut.out.1
    have HTC := Lib.hid hcut.out.2.2.1
    have DC := Lib.hid hcut.out.2.2.2
    have hwc : B ≤ wc.heap.size := by have h1 := DC.out.gB; have h2 := DC.out.gN; have h3 := DC.out.NN; omega
    have hsB : w2.heap.size + 1 = B := HB.out.symm
    clear hcut k1 f1 hs3 D3 HT3 HP3 hb03
    go_upto_region 8 with (first
      | (refine wpList_load_row rfl 58 (.tmp 2) rfl w.heap.size rfl 58 _ (0, 0) _ HPC.out Try.underlying58 rfl size_refPage ?_)
      | (go_at_call 30; (refine (refPut_okB k m gg b PP EP.out HK.out (by omega) hgg hb A c _ (HX.out.below hbA) hbc _ rfl).mono ?_); rintro e w4 ⟨q, rfl, hq, hb4⟩; have HQ := Lib.hid hq; clear hq)
      | (go_at_call 33; (refine (puts_any _).mono ?_); rintro e w5 ⟨rfl, hb5⟩))
    rw [HKE.out]
    have hs4 := hb4.size
    have hs5 := hb5.size
    have hb45 : Below wc.heap.size wc w5 := hb4.trans (hb5.mono hs4)
    have D5 := Lib.hid (DC.out.below hb45)
    have HQ5 := Lib.hid (HQ.out.below hb5)
    have HHX : 256 * K + 256 ≤ 5120 := by omega
    go_upto_region 9 with (go_at_call 35; (refine (writeRaw_pg D5.out (by simp) _ K rfl HHX _ _ PP HQ5.out HPL.out).mono ?_); rintro e w6 ⟨rfl, ⟨rw6, ws6, nw6, d6, l6, hs6, ho6, m6⟩, o6, hb56⟩; have D6 := Lib.hid d6; have HXS := Lib.hid hs6; clear d6 hs6 ho6)
    have hbc6 : Below B wc w6 := (hb45.mono hwc).trans hb56
    have HP6 := Lib.hid ((hbc6.block w.heap.size (by omega)).trans HPC.out)
    have HT6 := Lib.hid ((hbc6.block w2.heap.size (by omega)).trans HTC.out)
    have hbA6 : Below w.heap.size w w6 := hbA.trans (hbc6.mono (by omega))
    have hs6 : B ≤ w6.heap.size := Nat.le_trans hwc hbc6.size
    clear hb4 hb5 hb45 D5 HQ5 HQ hb56 hbc6 o6 m6 hs4 hs5 DC HTC HPC hbA HX
    have k0 := blk_cell HP6.out 0 _ rfl
    have HNO : Hid (∀ k', ¬ readsP (pageOf nw6 K) K k') := Lib.hid (fun k' h => by rw [HXS.out, EP.out] at h; exact HNE.out (reads_put HK.out (by omega) hgg hb h).1)
    go_wp2_with (first
      | (refine wpList_load_row rfl 61 (.tmp 5) rfl w2.heap.size rfl 61 tab (0, 0) _ HT6.out Try.underlying61 rfl (by rw [size_tab]; exact info64) ?_)
      | (go_at_call 34; (refine (pread_not D6.out _ K rfl HHX k (HNO.out k) _ rfl).mono ?_); rintro e w7 ⟨rfl, hb7⟩; have hp7 := (hb7.block w.heap.size (by omega)).trans HP6.out; have k7 := blk_cell ((Below.heap_alloc w7 (.cells #[.int .u8 0, .int .i64 0, .int .u64 0, .slice none 0 0] 66) w.heap.size (Array.getElem?_eq_some_iff.1 hp7).1).trans hp7) 1 _ rfl)
      | (refine wpList_store_row rfl 66 (.tmp 12) (.tmp 65) rfl w7.heap.size #[.int .u8 0, .int .i64 0, .int .u64 0, .slice none 0 0] rfl rfl 66 Try.zeroCells66 (heap_alloc_new _ _) (by kernel_rfl) (by kernel_rfl) (by kernel_rfl) ?_; rw [World.setRow_alloc_new]))
    have hs7 := hb7.size
    obtain ⟨W0, eW⟩ : ∃ W0, W0 = ((w7.alloc (.cells #[.int .u8 0, .int .i64 0, .int .u64 0, .slice none 0 0] 66)).alloc (.cells #[.int .u8 83, .int .u8 76, .int .u8 73, .int .u8 66] 5)) := ⟨_, rfl⟩
    have hb70 : Below w6.heap.size w6 W0 := by rw [eW]; exact (hb7.alloc hs7 _).alloc (by simp; omega) _
    have HK0 : Hid (W0.heap[w7.heap.size + 1]? = some (.cells (fourK.map bv).toArray 5 (0, 0))) := Lib.hid (by rw [eW]; exact heap_alloc2_new _ _ _)
    have HW0 : Hid (w7.heap.size + 2 = W0.heap.size) := Lib.hid (by rw [eW]; simp)
    rw [← eW]
    have D0 := Lib.hid (D6.out.below hb70)
    have HP0 := Lib.hid ((hb70.block w.heap.size (by omega)).trans HP6.out)
    have HT0 := Lib.hid ((hb70.block w2.heap.size (by omega)).trans HT6.out)
    have hbA0 : Below w.heap.size w W0 := hbA6.trans (hb70.mono hbA6.size)
    have hs0 : B ≤ W0.heap.size := Nat.le_trans hs6 hb70.size
    clear eW hb70 HP6 HT6 D6 hbA6 hb7 k0 k7 hs7 hp7
    go_loopw [15] (fun i wr => ∃ j : Nat, j ≤ 4 ∧ i = .int .i64 j ∧ Hid (Below W0.heap.size W0 wr)) (fun i _ => 4 - (intOf i).toNat)
    case atStart => exact ⟨0, by omega, rfl, Lib.hid (Below.refl _ _)⟩
    case round =>
      obtain ⟨j, hj, rfl, hB⟩ := hrel
      have Dr := Lib.hid (D0.out.below hB.out)
      have hpr := (hB.out.block w.heap.size (by omega)).trans HP0.out
      have HTr := Lib.hid ((hB.out.block w2.heap.size (by omega)).trans HT0.out)
      have hkr := (hB.out.block (w7.heap.size + 1) (by have := HW0.out; omega)).trans HK0.out
      have hsr : B ≤ wr.heap.size := Nat.le_trans hs0 hB.out.size
      by_cases hlt : j < 4
      · obtain ⟨kk, hkk⟩ : ∃ kk : UInt8, (fourK.map bv).toArray[j]? = some (.int .u8 (kk.toNat : Int)) := by
          refine ⟨fourK[j]'hlt, ?_⟩
          have : j < fourK.length := hlt
          simp [bv, this]
          rfl
        have ck := (cell_of_row _ _ j _ _ _ hkr).trans hkk
        have HPr := Lib.hid hpr
        clear hkr hkk hpr
        go_wp2_with (first
          | (refine wpList_load_row rfl 61 (.tmp 5) rfl w2.heap.size rfl 61 tab (0, 0) _ HTr.out Try.underlying61 rfl (by rw [size_tab]; exact info64) ?_)
          | (go_at_call 34; (refine (pread_not Dr.out _ K rfl HHX kk (HNO.out kk) _ rfl).mono ?_); rintro e w8 ⟨rfl, hb8⟩; have hp8 := (hb8.block w.heap.size (by omega)).trans HPr.out; have k8 := blk_cell ((Below.heap_alloc w8 (.cells #[.int .u8 0, .int .i64 0, .int .u64 0, .slice none 0 0] 66) w.heap.size (Array.getElem?_eq_some_iff.1 hp8).1).trans hp8) 1 _ rfl)
          | (refine wpList_store_row rfl 66 (.tmp 17) (.tmp 101) rfl w8.heap.size #[.int .u8 0, .int .i64 0, .int .u64 0, .slice none 0 0] rfl rfl 66 Try.zeroCells66 (heap_alloc_new _ _) (by kernel_rfl) (by kernel_rfl) (by kernel_rfl) ?_; rw [World.setRow_alloc_new]))
        go_roundw
        case rel => exact ⟨j + 1, by omega, by go_num, Lib.hid ((hB.out.trans (hb8.mono hB.out.size)).alloc (Nat.le_trans hB.out.size hb8.size) _)⟩
        case measure => simp [intOf]; omega
      · obtain rfl : j = 4 := by omega
        clear hpr hkr
        go_wp2_with fail
        refine region_below wr.heap.size wr (Below.refl _ _) (by kernel_rfl) (by kernel_rfl) ?_
        repeat (go_big_quiet_step (fail))
        refine wpQuiet_nil ?_
        rintro w' ⟨y, rfl⟩
        go_wp2_with fail
        go_ret
        exact ⟨rfl, (hbA0.trans (hB.out.mono hbA0.size)).trans (y.ok_.mono (Nat.le_trans hbA0.size hB.out.size))⟩
end Go.Proofs.Ytemnafnbpndldaa

namespace Go.Proofs.Ytemnafnbpndldaa
open Go.ChangeShapes Go.WideShapes Go.ChangeAt Go.RowKit CrcM PageM
set_option linter.unusedVariables false

theorem pageMoves_walk (p : Pg) (hc : bodyC p) (A : Option Addr) (c : Nat) {w : World} (hx : BytesAt w A p.body) (hl : p.body.length ≤ c) (t : Int) (ht : (Lit.int .i64 t).wf = true) :
    Calls Try.prog 5 #[.agg (cellsC p A c), .int .i64 t] w fun e w' => e = .returned (.bool true) ∧ Below w.heap.size w w' := by
  by_cases hp : isK p.kind = true ∧ p.body.length ≤ 238
  · obtain ⟨k, ad, gg, b⟩ := p
    obtain ⟨m, hm, hme⟩ := modN ad 20 (by omega) (by omega)
    obtain ⟨K, hK, hke⟩ := modN t 20 (by omega) (by omega)
    by_cases hmK : m = K
    · subst hmK
      exact pageMoves_yes k ad gg b hp.1 hp.2 hc.1 A c t w hx hl m hm hme hke
    · exact pageMoves_no k ad gg b hp.1 hp.2 hc.1 A c t w hx hl m K hm hme hK hke hmK
  · exact pageMoves_err p hp hc A c t w
end Go.Proofs.Ytemnafnbpndldaa
