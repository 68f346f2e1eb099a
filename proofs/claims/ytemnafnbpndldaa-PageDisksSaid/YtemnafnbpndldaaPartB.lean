/- Several texts in one: PageDisks: its walk where the page can't be. PageDisks: its walk where the page can be. PageDisks: its walk. -/
import Derived.Test.YtemnafnbpndldaaPartA
import Derived.Test.YtemnafnbpndldaaDiskLoads
import Derived.Test.YtemnafnbpndldaaPageRow
namespace Go.Proofs.Ytemnafnbpndldaa
open Go.ChangeShapes Go.WideShapes Go.ChangeAt Go.RowKit CrcM PageM
set_option linter.unusedVariables false

set_option maxHeartbeats 2000000 in
set_option maxRecDepth 100000 in
theorem pageDisks_err (p : Pg) (hp : ¬ (isK p.kind = true ∧ p.body.length ≤ 238)) (hc : bodyC p) (A : Option Addr) (c : Nat) (zk : Int) (v : Value) (w : World) :
    Calls Try.prog 4 #[.agg (cellsC p A c), .int .u8 zk, v] w fun e w' => e = .returned (.bool true) ∧ Below w.heap.size w w' := by
  obtain ⟨m, hm, hme⟩ := modN p.addr 16 (by omega) (by omega)
  have HME : Hid (wrap64 ((IntKind.u64.wrap p.addr).tmod 16) = (m : Int)) := Lib.hid hme
  obtain ⟨k, ad, gg, b⟩ := p
  unfold cellsC
  dsimp only at *
  have hbad : ¬ okP ⟨k, (m : Int), gg, b⟩ := fun h => hp ⟨h.1, h.2.2.2⟩
  have hc2 : bodyC ⟨k, (m : Int), gg, b⟩ := ⟨hc.1, hc.2.1, by show (-9223372036854775808 : Int) ≤ (m : Int); omega, by show (m : Int) ≤ _; omega⟩
  have HBD := Lib.hid hbad
  have HC := Lib.hid hc2
  clear hme hp hc hbad hc2
  go_enter Try.func4, Try.ntmps4
  go_upto_region 3 with (first
    | (go_at_call 29; refine (new_any _).mono ?_; rintro e w2 ⟨rfl, hb2⟩)
    | (refine wpList_store_row rfl 61 (.tmp 7) (.tmp 28) rfl w2.heap.size tab rfl rfl 61 Try.zeroCells61 (heap_alloc_new _ _) (by rw [size_tab]; exact info64) (by rw [size_tab, zero64, size_tabC]) (tab_one _) ?_; rw [World.setRow_alloc_new])
    | (go_at_call 20; (refine (new_ok 16 (by omega) (by omega) _).mono ?_); rintro e w3 ⟨g, gs, gn, cs, cn, rfl, d3, hb3⟩; have D3 := Lib.hid d3; clear d3))
  have hs2 : w.heap.size + 1 ≤ w2.heap.size := by have := hb2.size; simpa using this
  have hs3 : w2.heap.size + 1 ≤ w3.heap.size := by have := hb3.size; simpa using this
  have hp2 := (hb2.block w.heap.size (by simp)).trans (heap_alloc_new w _)
  have hp3 := (hb3.block w.heap.size (by simp; omega)).trans ((heap_alloc_old _ _ (by omega)).trans hp2)
  have ht3 := (hb3.block w2.heap.size (by simp)).trans (heap_alloc_new w2 _)
  have hb03 : Below w.heap.size w w3 := ((((Below.refl _ _).alloc (Nat.le_refl _) _).trans (hb2.mono (by simp))).alloc (by omega) _).trans (hb3.mono (by simp; omega))
  have HP3 := Lib.hid hp3
  have HT3 := Lib.hid ht3
  obtain ⟨B, hB⟩ : ∃ B, B = w2.heap.size + 1 := ⟨_, rfl⟩
  have D3 : Hid (Dk w3 B w3.heap.size g gs gn (.slice none 0 0) 4096 cs cn (List.replicate 4096 0) (List.replicate 4096 0) [] true (-1)) := Lib.hid (by have := D3.out; simpa [hB] using this)
  have HB := Lib.hid hB
  clear hb2 hb3 hp2 ht3 hB
  have k1 := blk_cell hp3 1 _ rfl
  have f1 : w3.frozen? ⟨w.heap.size, 1, none⟩ = false := by simp [World.frozen?, hp3]
  clear hp3
  go_cut [] (fun wx => Hid (Below w.heap.size w wx ∧ wx.heap[w.heap.size]? = some (.cells (cellsC ⟨k, (m : Int), gg, b⟩ A c) 58 (0, 0)) ∧ wx.heap[w2.heap.size]? = some (.cells tab 61 (0, 0)) ∧ Dk wx B w3.heap.size g gs gn (.slice none 0 0) 4096 cs cn (List.replicate 4096 0) (List.replicate 4096 0) [] true (-1)))
  case first =>
    go_wp2_with fail
    rw [HME.out]
    go_meet
    refine Lib.hid ⟨hb03.trans (below_setC' hb03.size (Nat.le_refl _)), heap_setCell_same w3 w.heap.size 1 _ _ _ HP3.out, ?_, ?_⟩
    · exact (heap_setCell_other w3 ⟨w.heap.size, 1, none⟩ w2.heap.size _ (by show w2.heap.size ≠ w.heap.size; omega)).trans HT3.out
    · exact D3.out.keep (by simp) (fun k hk _ => heap_setCell_other w3 ⟨w.heap.size, 1, none⟩ k _ (by show k ≠ w.heap.size; have := HB.out; omega))
  case rest =>
    have HPC := Lib.hid hcut.out.2.1
    have hbA := hcut.out.1
    have HTC := Lib.hid hcut.out.2.2.1
    have DC := Lib.hid hcut.out.2.2.2
    have hwc : B ≤ wc.heap.size := by have h1 := DC.out.gB; have h2 := DC.out.gN; have h3 := DC.out.NN; omega
    have hsB : w2.heap.size + 1 = B := HB.out.symm
    clear hcut k1 f1 hs3 D3 HT3 HP3 hb03
    go_upto_region 5 with (first
      | (refine wpList_load_row rfl 58 (.tmp 3) rfl w.heap.size rfl 58 _ (0, 0) _ HPC.out Try.underlying58 rfl size_refPage ?_)
      | (go_at_call 30; (refine (refPut_errC ⟨k, (m : Int), gg, b⟩ HBD.out HC.out A c _ _ rfl).mono ?_); rintro e w4 ⟨rfl, hb4⟩))
    have hs4 := hb4.size
    have HP4 := (hb4.block w.heap.size (by omega)).trans HPC.out
    have HT4 := (hb4.block w2.heap.size (by omega)).trans HTC.out
    have D4 := Lib.hid (DC.out.below hb4)
    have f0 : Hid (∀ y : SubW w4.heap.size w4, y.at_.heap[w.heap.size]? = some (.cells (cellsC ⟨k, (m : Int), gg, b⟩ A c) 58 (0, 0))) := fun y => (y.ok_.block _ (by omega)).trans HP4
    have f1 : Hid (∀ y : SubW w4.heap.size w4, y.at_.heap[w2.heap.size]? = some (.cells tab 61 (0, 0))) := fun y => (y.ok_.block _ (by omega)).trans HT4
    have hbA4 := hbA.trans (hb4.mono hbA.size)
    clear HP4 HT4 HPC HTC DC hb4
    refine region_below_tail 4 w4.heap.size w4 (Below.refl _ _) (by kernel_rfl) (by kernel_rfl) ?_
    simp only [List.take_succ_cons, List.take_zero, List.drop_succ_cons, List.drop_zero]
    repeat (first
      | (go_big_quiet_want; refine quiet_load_row 61 (.tmp 7) rfl w2.heap.size rfl 61 tab (0, 0) _ f1.out Try.underlying61 rfl (by rw [size_tab]; exact info64) ?_; simp only [Act.put, List.setIfInBounds_toArray, List.set_cons_zero, List.set_cons_succ]; go_big_quiet_on)
      | (go_big_quiet_want; refine quiet_load_row 58 (.tmp 3) rfl w.heap.size rfl 58 (cellsC ⟨k, (m : Int), gg, b⟩ A c) (0, 0) _ f0.out Try.underlying58 rfl size_refPage ?_; simp only [Act.put, List.setIfInBounds_toArray, List.set_cons_zero, List.set_cons_succ]; go_big_quiet_on)
      | go_big_quiet_step ((go_at_call 32; exact calls_sub (Nat.le_refl _) (to_V _ A c _))))
    refine wpQuiet_nil ?_
    rintro w' ⟨y, rfl⟩
    go_wp2_with (first
      | (go_at_call 31; (refine (pwrite_err (D4.out.below y.ok_) ⟨k, (m : Int), gg, b⟩ HBD.out HC.out A c _ rfl).mono ?_); rintro e w5 ⟨rfl, hb5⟩)
      | (go_at_call 33; (refine (puts_any _).mono ?_); rintro e w6 ⟨rfl, hb6⟩))
    go_ret
    have h5 := hbA4.trans (y.ok_.mono hbA4.size)
    have h6 := h5.trans (hb5.mono h5.size)
    exact ⟨rfl, h6.trans (hb6.mono h6.size)⟩
end Go.Proofs.Ytemnafnbpndldaa

namespace Go.Proofs.Ytemnafnbpndldaa
open Go.ChangeShapes Go.WideShapes Go.ChangeAt Go.RowKit CrcM PageM
set_option linter.unusedVariables false

set_option maxHeartbeats 8000000 in
set_option maxRecDepth 100000 in
theorem pageDisks_ok (k : UInt8) (ad : Int) (gg : Nat) (b : List UInt8) (hk : isK k = true) (hb : b.length ≤ 238) (hgg : gg < 18446744073709551616) (A : Option Addr) (c : Nat) (kd : UInt8) (Ar : Option Addr) (cr : Nat) (xs : List UInt8) (w : World) (hx : BytesAt w A b) (hbc : b.length ≤ c) (hxr : BytesAt w Ar xs) (hlr : xs.length ≤ cr) (hcr : cr ≤ maxLen) :
    Calls Try.prog 4 #[.agg (cellsC ⟨k, ad, gg, b⟩ A c), .int .u8 (kd.toNat : Int), .slice Ar xs.length cr] w fun e w' => e = .returned (.bool true) ∧ Below w.heap.size w w' := by
  unfold maxLen at hcr
  obtain ⟨m, hm, hme⟩ := modN ad 16 (by omega) (by omega)
  have HME : Hid (wrap64 ((IntKind.u64.wrap ad).tmod 16) = (m : Int)) := Lib.hid hme
  unfold cellsC
  dsimp only at *
  obtain ⟨PP, eP⟩ : ∃ PP, PP = putP ⟨k, (m : Int), gg, b⟩ := ⟨_, rfl⟩
  have HPL : Hid (PP.length = 256) := Lib.hid (by rw [eP]; exact length_putP _ hb)
  have EP := Lib.hid eP
  have HK := Lib.hid hk
  have HX := Lib.hid hx
  obtain ⟨n, hn⟩ : ∃ n : Nat, n = min xs.length 700 := ⟨_, rfl⟩
  have hmin : min (xs.length : Int) 700 = (n : Int) := by omega
  have hncr : n ≤ cr := by omega
  have hn7 : n ≤ 700 := by omega
  have HXR := Lib.hid (hxr.take n)
  have HXRL : Hid ((xs.take n).length = n) := Lib.hid (by simp; omega)
  obtain ⟨a2, ha2⟩ : ∃ a2 : Nat, a2 = (m + 1) % 16 := ⟨_, rfl⟩
  have ha2lt : a2 < 16 := by omega
  have HA2 : Hid (a2 ≠ m) := Lib.hid (by omega)
  have ha2e : ((m : Int) + 1).tmod 16 = (a2 : Int) := by rw [Int.tmod_eq_emod_of_nonneg (by omega)]; omega
  obtain ⟨ar, harlt, har⟩ := modN (kd.toNat : Int) 10 (by omega) (by omega)
  have HAR : Hid (wrap64 ((IntKind.u64.wrap (kd.toNat : Int)).tmod 10) = (ar : Int)) := Lib.hid har
  obtain ⟨dk, hdk⟩ : ∃ dk : Bool, dk = decide (k = kd) := ⟨_, rfl⟩
  have HDK := Lib.hid hdk
  have hdk2 : ((kd.toNat : Int) == (k.toNat : Int)) = dk := by
    rw [hdk, Bool.eq_iff_iff]
    simp only [beq_iff_eq, decide_eq_true_eq]
    exact ⟨fun h => UInt8.toNat_inj.1 (by omega), fun h => by rw [h]⟩
  have HA2E := Lib.hid ha2e
  have HA2M := Lib.hid ha2
  clear hme hk hx eP hn hxr ha2 ha2e har hdk
  go_enter Try.func4, Try.ntmps4
  go_upto_region 3 with (first
    | (go_at_call 29; refine (new_any _).mono ?_; rintro e w2 ⟨rfl, hb2⟩)
    | (refine wpList_store_row rfl 61 (.tmp 7) (.tmp 28) rfl w2.heap.size tab rfl rfl 61 Try.zeroCells61 (heap_alloc_new _ _) (by rw [size_tab]; exact info64) (by rw [size_tab, zero64, size_tabC]) (tab_one _) ?_; rw [World.setRow_alloc_new])
    | (go_at_call 20; (refine (new_ok 16 (by omega) (by omega) _).mono ?_); rintro e w3 ⟨g, gs, gn, cs, cn, rfl, d3, hb3⟩; have D3 := Lib.hid d3; clear d3))
  have hs2 : w.heap.size + 1 ≤ w2.heap.size := by have := hb2.size; simpa using this
  have hs3 : w2.heap.size + 1 ≤ w3.heap.size := by have := hb3.size; simpa using this
  have hp2 := (hb2.block w.heap.size (by simp)).trans (heap_alloc_new w _)
  have hp3 := (hb3.block w.heap.size (by simp; omega)).trans ((heap_alloc_old _ _ (by omega)).trans hp2)
  have ht3 := (hb3.block w2.heap.size (by simp)).trans (heap_alloc_new w2 _)
  have hb03 : Below w.heap.size w w3 := ((((Below.refl _ _).alloc (Nat.le_refl _) _).trans (hb2.mono (by simp))).alloc (by omega) _).trans (hb3.mono (by simp; omega))
  have HP3 := Lib.hid hp3
  have HT3 := Lib.hid ht3
  obtain ⟨B, hB⟩ : ∃ B, B = w2.heap.size + 1 := ⟨_, rfl⟩
  have D3 : Hid (Dk w3 B w3.heap.size g gs gn (.slice none 0 0) 4096 cs cn (List.replicate 4096 0) (List.replicate 4096 0) [] true (-1)) := Lib.hid (by have := D3.out; simpa [hB] using this)
  have HB := Lib.hid hB
  clear hb2 hb3 hp2 ht3 hB
  have k1 := blk_cell hp3 1 _ rfl
  have f1 : w3.frozen? ⟨w.heap.size, 1, none⟩ = false := by simp [World.frozen?, hp3]
  clear hp3
  go_cut [] (fun wx => Hid (Below w.heap.size w wx ∧ wx.heap[w.heap.size]? = some (.cells (cellsC ⟨k, (m : Int), gg, b⟩ A c) 58 (0, 0)) ∧ wx.heap[w2.heap.size]? = some (.cells tab 61 (0, 0)) ∧ Dk wx B w3.heap.size g gs gn (.slice none 0 0) 4096 cs cn (List.replicate 4096 0) (List.replicate 4096 0) [] true (-1)))
  case first =>
    go_wp2_with fail
    rw [HME.out]
    go_meet
    refine Lib.hid ⟨hb03.trans (below_setC' hb03.size (Nat.le_refl _)), heap_setCell_same w3 w.heap.size 1 _ _ _ HP3.out, ?_, ?_⟩
    · exact (heap_setCell_other w3 ⟨w.heap.size, 1, none⟩ w2.heap.size _ (by show w2.heap.size ≠ w.heap.size; omega)).trans HT3.out
    · exact D3.out.keep (by simp) (fun k hk _ => heap_setCell_other w3 ⟨w.heap.size, 1, none⟩ k _ (by show k ≠ w.heap.size; have := HB.out; omega))
  case rest =>
    have HPC := Lib.hid hcut.out.2.1
    have hbA := hcut.out.1
    have HTC := Lib.hid hcut.out.2.2.1
    have DC := Lib.hid hcut.out.2.2.2
    have hwc : B ≤ wc.heap.size := by have h1 := DC.out.gB; have h2 := DC.out.gN; have h3 := DC.out.NN; omega
    have hsB : w2.heap.size + 1 = B := HB.out.symm
    clear hcut k1 f1 hs3 D3 HT3 HP3 hb03
    go_upto_region 5 with (first
      | (refine wpList_load_row rfl 58 (.tmp 3) rfl w.heap.size rfl 58 _ (0, 0) _ HPC.out Try.underlying58 rfl size_refPage ?_)
      | (go_at_call 30; (refine (refPut_okB k m gg b PP EP.out HK.out (by omega) hgg hb A c _ (HX.out.below hbA) hbc _ rfl).mono ?_); rintro e w4 ⟨q, rfl, hq, hb4⟩; clear hq))
    have hs4 := hb4.size
    have HP4 := (hb4.block w.heap.size (by omega)).trans HPC.out
    have HT4 := (hb4.block w2.heap.size (by omega)).trans HTC.out
    have D4 := Lib.hid (DC.out.below hb4)
    have f0 : Hid (∀ y : SubW w4.heap.size w4, y.at_.heap[w.heap.size]? = some (.cells (cellsC ⟨k, (m : Int), gg, b⟩ A c) 58 (0, 0))) := fun y => (y.ok_.block _ (by omega)).trans HP4
    have f1 : Hid (∀ y : SubW w4.heap.size w4, y.at_.heap[w2.heap.size]? = some (.cells tab 61 (0, 0))) := fun y => (y.ok_.block _ (by omega)).trans HT4
    have hbA4 := hbA.trans (hb4.mono hbA.size)
    clear HP4 HT4 HPC HTC DC hb4
    refine region_below_tail 4 w4.heap.size w4 (Below.refl _ _) (by kernel_rfl) (by kernel_rfl) ?_
    simp only [List.take_succ_cons, List.take_zero, List.drop_succ_cons, List.drop_zero]
    repeat (first
      | (go_big_quiet_want; refine quiet_load_row 61 (.tmp 7) rfl w2.heap.size rfl 61 tab (0, 0) _ f1.out Try.underlying61 rfl (by rw [size_tab]; exact info64) ?_; simp only [Act.put, List.setIfInBounds_toArray, List.set_cons_zero, List.set_cons_succ]; go_big_quiet_on)
      | (go_big_quiet_want; refine quiet_load_row 58 (.tmp 3) rfl w.heap.size rfl 58 (cellsC ⟨k, (m : Int), gg, b⟩ A c) (0, 0) _ f0.out Try.underlying58 rfl size_refPage ?_; simp only [Act.put, List.setIfInBounds_toArray, List.set_cons_zero, List.set_cons_succ]; go_big_quiet_on)
      | go_big_quiet_step ((go_at_call 32; exact calls_sub (Nat.le_refl _) (to_V _ A c _))))
    refine wpQuiet_nil ?_
    rintro w' ⟨y, rfl⟩
    have hby4 := hbA4.trans (y.ok_.mono hbA4.size)
    have D5 := Lib.hid (D4.out.below y.ok_)
    have HX5 := Lib.hid (HX.out.below hby4)
    have HP5 := f0.out y
    have HT5 := f1.out y
    have hs5 : B ≤ y.at_.heap.size := Nat.le_trans (Nat.le_trans hwc hs4) y.ok_.size
    generalize y.at_ = w5 at *
    have HHX : 256 * m + 256 ≤ 4096 := by omega
    clear f0 f1 hbA4 D4 y
    go_upto_region 10 with (first
      | (go_at_call 31; (refine (pwrite_pg D5.out (by simp) k m gg b PP EP.out HK.out (by omega) hgg hb HHX A c HX5.out hbc _ rfl).mono ?_); rintro e w6 ⟨rfl, ⟨rw6, ws6, nw6, d6, l6, hs6, ho6, m6⟩, o6, hb6⟩; have D6 := Lib.hid d6; have HXS := Lib.hid hs6; have HXO := Lib.hid (ho6 a2 HA2.out); clear d6 hs6 ho6)
      | (go_at_call 33; (refine (puts_any _).mono ?_); rintro e w7 ⟨rfl, hb7⟩))
    have l6' : ws6.length = 4 := by simpa using l6
    have hb57 : Below B w5 w7 := hb6.trans (hb7.mono (Nat.le_trans hs5 hb6.size))
    have hbA7 : Below w.heap.size w w7 := hby4.trans (hb57.mono (by omega))
    have HP7 := Lib.hid ((hb57.block w.heap.size (by omega)).trans HP5)
    have HT7 := Lib.hid ((hb57.block w2.heap.size (by omega)).trans HT5)
    have D7 := Lib.hid (D6.out.below hb7)
    have hs7 : B ≤ w7.heap.size := Nat.le_trans hs5 hb57.size
    have hs67 := hb7.size
    have HZ : Hid (pageOf nw6 a2 = List.replicate 256 0) := Lib.hid (HXO.out.trans (page_zeros (by omega)))
    have HH2 : 256 * a2 + 256 ≤ 4096 := by omega
    clear hb57 HP5 HT5 hby4 D5 D6 HX5 HXO o6 hb6 hb7 l6
    have k0 : w7.cell? ⟨w.heap.size, 0, none⟩ = some (.int .u8 (k.toNat : Int)) := blk_cell HP7.out 0 _ rfl
    have k1 : w7.cell? ⟨w.heap.size, 1, none⟩ = some (.int .i64 (m : Int)) := blk_cell HP7.out 1 _ rfl
    go_upto_region 11 with (first
      | (refine wpList_load_row rfl 61 (.tmp 7) rfl w2.heap.size rfl 61 tab (0, 0) _ HT7.out Try.underlying61 rfl (by rw [size_tab]; exact info64) ?_)
      | (go_at_call 34; (refine (pread_yes D7.out _ m rfl HHX k gg b HK.out hgg hb PP EP.out HXS.out _ rfl).mono ?_); rintro e w8 ⟨⟨A8, c8, rfl, hx8, hl8, hn8⟩, hb8⟩; have HX8 := Lib.hid hx8; clear hx8)
      | (refine wpList_store_row rfl 66 (.tmp 13) (.tmp 73) rfl w8.heap.size (cellsC ⟨k, (m : Int), gg, b⟩ A8 c8) rfl rfl 66 #[.int .u8 0, .int .i64 0, .int .u64 0, .slice none 0 0] (heap_alloc_new _ _) size_page rfl (by simp [cellsC, Value.oneCell']) ?_; rw [World.setRow_alloc_new]))
    obtain ⟨W8, eW⟩ : ∃ W8, W8 = w8.alloc (.cells (cellsC ⟨k, (m : Int), gg, b⟩ A8 c8) 66) := ⟨_, rfl⟩
    rw [← eW]
    have hb78 : Below w7.heap.size w7 W8 := by rw [eW]; exact hb8.alloc hb8.size _
    have HR8 : Hid (W8.heap[w8.heap.size]? = some (.cells (cellsC ⟨k, (m : Int), gg, b⟩ A8 c8) 66 (0, 0))) := Lib.hid (by rw [eW]; exact heap_alloc_new _ _)
    have HX8 : Hid (BytesAt W8 A8 b) := Lib.hid (by rw [eW]; exact HX8.out.below ((Below.refl _ _).alloc (Nat.le_refl _) _))
    have hW8 : w8.heap.size + 1 = W8.heap.size := by rw [eW]; simp
    have hs78 := hb8.size
    have HN8 : Hid (∀ a, A8 = some a → a.block < B ∨ w6.heap.size ≤ a.block) := Lib.hid (fun a ha => .inr (Nat.le_trans hs67 (hn8 a ha)))
    have hN8 : w6.heap.size ≤ w8.heap.size := by omega
    have HP := Lib.hid ((hb78.block w.heap.size (by omega)).trans HP7.out)
    have HT := Lib.hid ((hb78.block w2.heap.size (by omega)).trans HT7.out)
    have D8 := Lib.hid (D7.out.below hb78)
    have hbA8 : Below w.heap.size w W8 := hbA7.trans (hb78.mono hbA7.size)
    have hs8 : B ≤ W8.heap.size := by omega
    clear eW hb8 hb78 HT7 HP7 D7 hbA7 k0 k1 hn8
    have k1 : W8.cell? ⟨w.heap.size, 1, none⟩ = some (.int .i64 (m : Int)) := blk_cell HP.out 1 _ rfl
    have k0 : W8.cell? ⟨w.heap.size, 0, none⟩ = some (.int .u8 (k.toNat : Int)) := blk_cell HP.out 0 _ rfl
    go_upto_region 12 with (first
      | (refine wpList_load_row rfl 61 (.tmp 7) rfl w2.heap.size rfl 61 tab (0, 0) _ HT.out Try.underlying61 rfl (by rw [size_tab]; exact info64) ?_)
      | (go_at_call 34; (refine (pread_num D8.out _ m rfl HHX kd k gg b HK.out hgg hb PP EP.out HXS.out dk HDK.out).mono ?_); rintro e w9 ⟨⟨C9, z9, rfl, hz9, P9, A9, c9, rfl⟩, hb9⟩)
      | (refine wpList_store_row rfl 66 (.tmp 15) (.tmp 82) rfl w9.heap.size (cellsC P9 A9 c9) rfl rfl 66 #[.int .u8 0, .int .i64 0, .int .u64 0, .slice none 0 0] (heap_alloc_new _ _) size_page rfl (by simp [cellsC, Value.oneCell']) ?_; rw [World.setRow_alloc_new]))
    have hs9 := hb9.size
    have hbO9 : Below W8.heap.size W8 (w9.alloc (.cells (cellsC P9 A9 c9) 66)) := hb9.alloc hs9 _
    obtain ⟨W9, eW⟩ : ∃ W9, W9 = w9.alloc (.cells (cellsC P9 A9 c9) 66) := ⟨_, rfl⟩
    rw [← eW]
    rw [← eW] at hbO9
    have HP9 := Lib.hid ((hbO9.block w.heap.size (by omega)).trans HP.out)
    have HT9 := Lib.hid ((hbO9.block w2.heap.size (by omega)).trans HT.out)
    have D9 := Lib.hid (D8.out.below hbO9)
    have hs89 := hbO9.size
    clear eW k0 k1 hb9 hs9
    have k1 : W9.cell? ⟨w.heap.size, 1, none⟩ = some (.int .i64 (m : Int)) := blk_cell HP9.out 1 _ rfl
    have k0 : W9.cell? ⟨w.heap.size, 0, none⟩ = some (.int .u8 (k.toNat : Int)) := blk_cell HP9.out 0 _ rfl
    go_upto_region 13 with (first
      | (refine wpList_load_row rfl 61 (.tmp 7) rfl w2.heap.size rfl 61 tab (0, 0) _ HT9.out Try.underlying61 rfl (by rw [size_tab]; exact info64) ?_)
      | (go_at_call 34; (refine (pread_not D9.out _ a2 (by first | exact HA2E.out | (have := HA2M.out; omega)) HH2 k (by rw [HZ.out]; exact not_reads_zero a2 k) _ rfl).mono ?_); rintro e w10 ⟨rfl, hb10⟩)
      | (refine wpList_store_row rfl 66 (.tmp 17) (.tmp 94) rfl w10.heap.size #[.int .u8 0, .int .i64 0, .int .u64 0, .slice none 0 0] rfl rfl 66 Try.zeroCells66 (heap_alloc_new _ _) (by kernel_rfl) (by kernel_rfl) (by kernel_rfl) ?_; rw [World.setRow_alloc_new]))
    have hs10 := hb10.size
    have hbO10 : Below W8.heap.size W8 (w10.alloc (.cells #[.int .u8 0, .int .i64 0, .int .u64 0, .slice none 0 0] 66)) := hbO9.trans ((hb10.alloc hs10 _).mono hs89)
    obtain ⟨W10, eW⟩ : ∃ W10, W10 = w10.alloc (.cells #[.int .u8 0, .int .i64 0, .int .u64 0, .slice none 0 0] 66) := ⟨_, rfl⟩
    rw [← eW]
    rw [← eW] at hbO10
    have HP10 := Lib.hid ((hbO10.block w.heap.size (by omega)).trans HP.out)
    have HT10 := Lib.hid ((hbO10.block w2.heap.size (by omega)).trans HT.out)
    have D10 := Lib.hid (D8.out.below hbO10)
    have hs810 := hbO10.size
    clear eW k0 k1 hb10 hs10 hbO9 HP9 HT9 D9 hs89
    have k0 : W10.cell? ⟨w.heap.size, 0, none⟩ = some (.int .u8 (k.toNat : Int)) := blk_cell HP10.out 0 _ rfl
    go_upto_region 14 with (first
      | (refine wpList_load_row rfl 61 (.tmp 7) rfl w2.heap.size rfl 61 tab (0, 0) _ HT10.out Try.underlying61 rfl (by rw [size_tab]; exact info64) ?_)
      | (go_at_call 34; (refine (pread_far D10.out _ (by decide) _).mono ?_); rintro e w11 ⟨rfl, hb11⟩)
      | (refine wpList_store_row rfl 66 (.tmp 19) (.tmp 102) rfl w11.heap.size #[.int .u8 0, .int .i64 0, .int .u64 0, .slice none 0 0] rfl rfl 66 Try.zeroCells66 (heap_alloc_new _ _) (by kernel_rfl) (by kernel_rfl) (by kernel_rfl) ?_; rw [World.setRow_alloc_new]))
    have hs11 := hb11.size
    have hbO11 : Below W8.heap.size W8 (w11.alloc (.cells #[.int .u8 0, .int .i64 0, .int .u64 0, .slice none 0 0] 66)) := hbO10.trans ((hb11.alloc hs11 _).mono hs810)
    obtain ⟨W11, eW⟩ : ∃ W11, W11 = w11.alloc (.cells #[.int .u8 0, .int .i64 0, .int .u64 0, .slice none 0 0] 66) := ⟨_, rfl⟩
    rw [← eW]
    rw [← eW] at hbO11
    have hbA11 : Below w.heap.size w W11 := hbA8.trans (hbO11.mono hbA8.size)
    have D11 := Lib.hid (D8.out.below hbO11)
    have hs811 := hbO11.size
    have HXR11 := Lib.hid (HXR.out.below hbA11)
    clear eW k0 hb11 hs11 hbO10 HP10 HT10 D10 hs810 D8
    go_upto_region 17 with (go_at_call 35; (refine (writeRaw_back D11.out (by omega) _ ar n HAR.out (by omega) hn7 Ar cr (xs.take n) HXR11.out HXRL.out).mono ?_); rintro e w12 ⟨rfl, ⟨rw12, ws12, nw12, d12, hnw12⟩, ho12, hb12⟩; have D12 := Lib.hid d12; have HN12 := Lib.hid hnw12; clear d12 hnw12)
    have hO12 : Outer B w6.heap.size W8 w12 := (((Outer.refl B w6.heap.size W8).then hbO11 (Nat.le_refl _)).trans2 ho12)
    have hbA12 : Below w.heap.size w w12 := hbA11.trans (hb12.mono (by omega))
    have hs12 := hO12.size
    clear D11 ho12 hb12 hbO11 hs811 hbA11 HXR11 hbA8
    have hfit : n = 0 ∨ 256 * ar + n ≤ 4096 ∧ 256 * ar < 4096 := .inr ⟨by omega, by omega⟩
    have HFIT := Lib.hid hfit
    have han : ar ≤ 1000 := by omega
    have hnn : n ≤ 131072 := by omega
    clear hfit
    go_upto_region 18 with (go_at_call 36; (refine (readRaw_ok D12.out _ _ ar n HAR.out rfl HFIT.out han hnn).mono ?_); rintro e w13 ⟨A13, c13, rfl, hx13, hc13, hcm13, hb13⟩; rw [HN12.out] at hx13; have HX13 := Lib.hid hx13; have D13 := Lib.hid (D12.out.below hb13); clear hx13)
    go_upto_region 19 with (first
      | (go_at_call 36; (refine (readRaw_neg D13.out _ _ (by decide)).mono ?_); rintro e w14 ⟨rfl, rfl⟩))
    have hs13 := hb13.size
    have DD := Lib.hid (D13.out.below ((Below.refl _ _).alloc (Nat.le_refl _) (.cells #[.int .u8 1] 5)))
    go_wp2_with (go_at_call 35; (refine (writeRaw_far DD.out _ (by decide) _ 1 _ (by decide)).mono ?_); rintro e w15 ⟨rfl, rfl⟩)
    have hOF : Outer B w6.heap.size W8 (w13.alloc (.cells #[.int .u8 1] 5)) := (hO12.then hb13 (by omega)).alloc _
    have hbAF : Below w.heap.size w (w13.alloc (.cells #[.int .u8 1] 5)) := (hbA12.trans (hb13.mono hbA12.size)).alloc (by have := hbA12.size; omega) _
    have HX13F := Lib.hid (HX13.out.below ((Below.refl _ _).alloc (Nat.le_refl _) (.cells #[.int .u8 1] 5)))
    obtain ⟨WF, eW⟩ : ∃ WF, WF = w13.alloc (.cells #[.int .u8 1] 5) := ⟨_, rfl⟩
    rw [← eW] at hOF hbAF HX13F ⊢
    have hwF : W8.heap.size ≤ WF.heap.size := hOF.size
    have hrf := (hOF.block w8.heap.size (by omega) (.inr hN8)).trans HR8.out
    have hpf := (hOF.block w.heap.size (by omega) (.inl (by omega))).trans HP.out
    have E3 := Lib.hid (bytes_outer HX8.out hOF HN8.out)
    have E4 := Lib.hid (HX.out.below hbAF)
    have E5 := Lib.hid (HXR.out.below hbAF)
    have f0 : Hid (∀ y : SubW WF.heap.size WF, y.at_.heap[w.heap.size]? = some (.cells (cellsC ⟨k, (m : Int), gg, b⟩ A c) 58 (0, 0))) := fun y => (y.ok_.block _ (by omega)).trans hpf
    have f1 : Hid (∀ y : SubW WF.heap.size WF, y.at_.heap[w8.heap.size]? = some (.cells (cellsC ⟨k, (m : Int), gg, b⟩ A8 c8) 66 (0, 0))) := fun y => (y.ok_.block _ (by omega)).trans hrf
    have f2 : ∀ y : SubW WF.heap.size WF, y.at_.cell? ⟨w.heap.size, 0, none⟩ = some (.int .u8 (k.toNat : Int)) := fun y => blk_cell (f0.out y) 0 _ rfl
    have t1 : ∀ y : SubW WF.heap.size WF, (convert 27 9 (.slice A13 n c13)).run Try.prog y.at_ = .ok (.string ⟨(xs.take n).toArray⟩) y.at_ := fun y => text_dk _ n c13 _ HXRL.out (HX13F.out.below y.ok_)
    have t2 : ∀ y : SubW WF.heap.size WF, (convert 27 9 (.slice Ar n cr)).run Try.prog y.at_ = .ok (.string ⟨(xs.take n).toArray⟩) y.at_ := fun y => text_dk _ n cr _ HXRL.out (E5.out.below y.ok_)
    clear eW hOF hO12 hb13 hbA12 hrf hpf HX13F HX13 HN12 D12 D13 DD HP HT
    refine region_below WF.heap.size WF (Below.refl _ _) (by kernel_rfl) (by kernel_rfl) ?_
    repeat (first
      | (go_big_quiet_want; refine quiet_load_row 66 (.tmp 13) rfl w8.heap.size rfl 66 (cellsC ⟨k, (m : Int), gg, b⟩ A8 c8) (0, 0) _ f1.out Try.underlying66 rfl size_page ?_; simp only [Act.put, List.setIfInBounds_toArray, List.set_cons_zero, List.set_cons_succ]; go_big_quiet_on)
      | (go_big_quiet_want; refine quiet_load_row 58 (.tmp 3) rfl w.heap.size rfl 58 (cellsC ⟨k, (m : Int), gg, b⟩ A c) (0, 0) _ f0.out Try.underlying58 rfl size_refPage ?_; simp only [Act.put, List.setIfInBounds_toArray, List.set_cons_zero, List.set_cons_succ]; go_big_quiet_on)
      | go_big_quiet_step ((first
          | (go_at_call 38; exact calls_sub (Nat.le_refl _) (from_V _ A8 c8 _))
          | (go_at_call 37; exact calls_sub (Nat.le_refl _) (same_V _ A8 A c8 c _ (E3.out.sub_ _) (E4.out.sub_ _))))))
    refine wpQuiet_nil ?_
    rintro w' ⟨y, rfl⟩
    go_wp2_with fail
    go_ret
    exact ⟨rfl, hbAF.trans (y.ok_.mono hbAF.size)⟩
end Go.Proofs.Ytemnafnbpndldaa

namespace Go.Proofs.Ytemnafnbpndldaa
open Go.ChangeShapes Go.WideShapes Go.ChangeAt Go.RowKit CrcM PageM
set_option linter.unusedVariables false

theorem pageDisks_walk (p : Pg) (hc : bodyC p) (A : Option Addr) (c : Nat) {w : World} (hx : BytesAt w A p.body) (hl : p.body.length ≤ c) (z : Int) (hz : (Lit.int .u8 z).wf = true) (Ar : Option Addr) (cr : Nat) (xs : List UInt8) (hxr : BytesAt w Ar xs) (hlr : xs.length ≤ cr) (hcr : cr ≤ maxLen) :
    Calls Try.prog 4 #[.agg (cellsC p A c), .int .u8 z, .slice Ar xs.length cr] w fun e w' => e = .returned (.bool true) ∧ Below w.heap.size w w' := by
  by_cases hp : isK p.kind = true ∧ p.body.length ≤ 238
  · obtain ⟨k, ad, gg, b⟩ := p
    have hb := bounds_u8 hz
    obtain ⟨zk, rfl⟩ := Int.eq_ofNat_of_zero_le hb.1
    have hk : ((UInt8.ofNat zk).toNat : Int) = (zk : Int) := by
      rw [UInt8.toNat_ofNat']
      omega
    rw [← hk]
    exact pageDisks_ok k ad gg b hp.1 hp.2 hc.1 A c (UInt8.ofNat zk) Ar cr xs w hx hl hxr hlr hcr
  · exact pageDisks_err p hp hc A c z _ w
end Go.Proofs.Ytemnafnbpndldaa
