/- The walk of the statement PageGets. -/
import Derived.Test.YtnfbebfgllldgaaGets
import Derived.BigQuiet
import Derived.Test.YtnfbebfgllldgaaCrcBursts
namespace Go.Proofs.Ytnfbebfgllldgaa
open Go.RowKit CrcM PageM
set_option linter.unusedVariables false

theorem burst_page (a : Int) : ∃ k : Nat, wrap64 ((IntKind.u64.wrap a).tmod 2017) = (k : Int) ∧ k + 32 ≤ 2048 := by
  have h0 : 0 ≤ IntKind.u64.wrap a := by rw [IntKind.wrap_u64]; omega
  have h1 : (IntKind.u64.wrap a).tmod 2017 = IntKind.u64.wrap a % 2017 := Int.tmod_eq_emod_of_nonneg h0
  have h2 : 0 ≤ IntKind.u64.wrap a % 2017 := Int.emod_nonneg _ (by omega)
  have h3 : IntKind.u64.wrap a % 2017 < 2017 := Int.emod_lt_of_pos _ (by omega)
  refine ⟨(IntKind.u64.wrap a % 2017).toNat, ?_, by omega⟩
  rw [h1]
  unfold wrap64
  omega

theorem get_bad (A : Option Addr) (cap : Nat) (xs : List UInt8) (w : World) (hx : BytesAt w A xs) (h : xs.length = 256) (hn : ¬ good xs) (hc : 256 ≤ cap) :
    Calls Try.prog 45 #[.agg tab, .slice A 256 cap] w fun e w' => e = .returned (.tuple #[.agg #[.int .u8 0, .int .i64 0, .int .u64 0, .slice none 0 0], .int .i64 3]) ∧ Below w.heap.size w w' := by
  have := get_any2 A cap xs w hx (by omega)
  rw [h] at this
  refine this.mono fun e w' ⟨hb, hr⟩ => ?_
  rcases hr with ⟨h1, he⟩ | ⟨h1, h2, he⟩ | ⟨h1, _⟩
  · exact absurd rfl h1
  · exact ⟨he, hb⟩
  · exact absurd h1 hn

set_option maxHeartbeats 2000000 in
set_option maxRecDepth 100000 in
theorem pageGets_err (p : Pg) (hp : ¬ okP p) (hc : bodyC p) (A : Option Addr) (c : Nat) (a b : Int) (B : Option Addr) (cap : Nat) (xs : List UInt8) (w : World) (hy : BytesAt w B xs) (hl : xs.length ≤ cap) :
    Calls Try.prog 12 #[.agg (cellsC p A c), .agg #[.int .i64 a, .int .i64 b], .slice B xs.length cap] w fun e w' => e = .returned (.bool true) ∧ Below w.heap.size w w' := by
  obtain ⟨C, eC⟩ : ∃ C, C = cellsC p A c := ⟨_, rfl⟩
  obtain ⟨D, eD⟩ : ∃ D, D = toldP xs := ⟨_, rfl⟩
  obtain ⟨n, en⟩ : ∃ n, n = numOf xs := ⟨_, rfl⟩
  have HP := Lib.hid hp
  have HC := Lib.hid hc
  have EC := Lib.hid eC
  have ED := Lib.hid eD
  have EN := Lib.hid en
  have hC4 : C.size = 4 := by rw [eC]; rfl
  have h4 := Lib.hid hC4
  have HY := Lib.hid hy
  rw [← eC]
  clear hp hc eC hC4 eD en
  go_enter Try.func12, Try.ntmps12
  go_wp2_with fail
  go_quiet (fail)
  go_wp2_with (first
    | (go_at_call 36; refine (new_any _).mono ?_; rintro e w2 ⟨rfl, hb2⟩; have hb2' : Below ((w.alloc (.cells C 75)).alloc (.cells #[.int .i64 a, .int .i64 b] 86)).heap.size ((w.alloc (.cells C 75)).alloc (.cells #[.int .i64 a, .int .i64 b] 86)) w2 := ⟨hb2.os, hb2.tape, hb2.output, hb2.size, hb2.block⟩; have hb0 : Below w.heap.size w w2 := (((Below.refl _ _).alloc (Nat.le_refl _) _).alloc (by simp) _).trans (hb2'.mono (by simp; omega)); have hs2 : w.heap.size + 1 + 1 ≤ w2.heap.size := (by have := hb2'.size; simp at this; omega))
    | (refine wpList_store_row rfl 64 (.tmp 9) (.tmp 25) rfl w2.heap.size tab rfl rfl 64 Try.zeroCells64 (heap_alloc_new _ _) (by rw [size_tab]; exact info64) (by rw [size_tab, zero64, size_tabC]) (tab_one _) ?_; rw [World.setRow_alloc_new])
    | (refine wpList_load_row rfl 64 (.tmp 9) rfl w2.heap.size rfl 64 tab (0, 0) _ (heap_alloc_new _ _) Try.underlying64 rfl (by rw [size_tab]; exact info64) ?_)
    | (go_at_call 45; refine (get_told B cap xs _ (HY.out.below (hb0.alloc hb0.size _)) hl).mono ?_; rintro e w3 ⟨A1, c1, rfl, hq1, hb3⟩; have hb03 := (hb0.alloc hb0.size (.cells tab 64)).trans (hb3.mono (hb0.alloc hb0.size _).size))
    | (refine wpList_store_row rfl 77 (.tmp 10) (.tmp 30) rfl w3.heap.size (cellsC (toldP xs) A1 c1) rfl rfl 77 #[.int .u8 0, .int .i64 0, .int .u64 0, .slice none 0 0] (heap_alloc_new _ _) size_page rfl (by simp [cellsC, Value.oneCell']) ?_; rw [World.setRow_alloc_new])
    | (go_at_call 48; refine (refGet_told B cap xs _ (HY.out.below (hb03.alloc hb03.size _)) hl).mono ?_; rintro e w4 ⟨A2, c2, rfl, hq2, hb4⟩; have hb04 := (hb03.alloc hb03.size (.cells (cellsC (toldP xs) A1 c1) 77)).trans (hb4.mono (hb03.alloc hb03.size _).size))
    | (refine wpList_store_row rfl 75 (.tmp 12) (.tmp 35) rfl w4.heap.size (cellsC (toldP xs) A2 c2) rfl rfl 75 #[.int .u8 0, .int .i64 0, .int .u64 0, .slice none 0 0] (heap_alloc_new _ _) size_refPage rfl (by simp [cellsC, Value.oneCell']) ?_; rw [World.setRow_alloc_new]))
  have hb05 := hb04.alloc hb04.size (.cells (cellsC (toldP xs) A2 c2) 75)
  have hs3 : w2.heap.size + 1 ≤ w3.heap.size := by have := hb3.size; simp at this; omega
  have hs4 : w3.heap.size + 1 ≤ w4.heap.size := by have := hb4.size; simp at this; omega
  have E0 : Hid ((w4.alloc (.cells (cellsC (toldP xs) A2 c2) 75)).heap[w4.heap.size]? = some (.cells (cellsC (toldP xs) A2 c2) 75 (0, 0))) := Lib.hid (heap_alloc_new _ _)
  have E1 : Hid ((w4.alloc (.cells (cellsC (toldP xs) A2 c2) 75)).heap[w3.heap.size]? = some (.cells (cellsC (toldP xs) A1 c1) 77 (0, 0))) := Lib.hid ((heap_alloc_old _ _ (by omega)).trans ((hb4.block _ (by simp)).trans (heap_alloc_new _ _)))
  have E2 : Hid ((w4.alloc (.cells (cellsC (toldP xs) A2 c2) 75)).heap[w.heap.size]? = some (.cells C 75 (0, 0))) := Lib.hid ((heap_alloc_old _ _ (by omega)).trans ((hb4.block _ (by simp; omega)).trans ((heap_alloc_old _ _ (by omega)).trans ((hb3.block _ (by simp; omega)).trans ((heap_alloc_old _ _ (by omega)).trans ((hb2'.block _ (by simp; omega)).trans (heap_alloc2_old _ _ _)))))))
  have E3 : Hid (BytesAt (w4.alloc (.cells (cellsC (toldP xs) A2 c2) 75)) A1 (toldP xs).body) := Lib.hid ((hq1.below ((Below.refl _ _).alloc (Nat.le_refl _) (.cells (cellsC (toldP xs) A1 c1) 77))).below (hb4.trans ((Below.refl _ _).alloc hb4.size _)))
  have E4 : Hid (BytesAt (w4.alloc (.cells (cellsC (toldP xs) A2 c2) 75)) A2 (toldP xs).body) := Lib.hid (hq2.below ((Below.refl _ _).alloc (Nat.le_refl _) _))
  have E5 : Hid (w4.heap.size + 1 = (w4.alloc (.cells (cellsC (toldP xs) A2 c2) 75)).heap.size) := Lib.hid (by simp)
  generalize (w4.alloc (.cells (cellsC (toldP xs) A2 c2) 75)) = Y at E0 E1 E2 E3 E4 E5 hb05
  have f0 : Hid (∀ y : SubW Y.heap.size Y, y.at_.heap[w4.heap.size]? = some (.cells (cellsC (toldP xs) A2 c2) 75 (0, 0))) := fun y => (y.ok_.block _ (by have := E5.out; omega)).trans E0.out
  have f1 : Hid (∀ y : SubW Y.heap.size Y, y.at_.heap[w3.heap.size]? = some (.cells (cellsC (toldP xs) A1 c1) 77 (0, 0))) := fun y => (y.ok_.block _ (by have := E5.out; omega)).trans E1.out
  clear hb04 hb03 hb0 hb2 hb2' hb3 hb4 hq1 hq2
  refine region_below Y.heap.size Y (Below.refl _ _) (by kernel_rfl) (by kernel_rfl) ?_
  repeat (first
    | (go_big_quiet_want; refine quiet_load_row 77 (.tmp 10) rfl w3.heap.size rfl 77 (cellsC (toldP xs) A1 c1) (0, 0) _ f1.out Try.underlying77 rfl size_page ?_; simp only [Act.put, List.setIfInBounds_toArray, List.set_cons_zero, List.set_cons_succ]; go_big_quiet_on)
    | (go_big_quiet_want; refine quiet_load_row 75 (.tmp 12) rfl w4.heap.size rfl 75 (cellsC (toldP xs) A2 c2) (0, 0) _ f0.out Try.underlying75 rfl size_refPage ?_; simp only [Act.put, List.setIfInBounds_toArray, List.set_cons_zero, List.set_cons_succ]; go_big_quiet_on)
    | go_big_quiet_step ((first
        | (go_at_call 44; exact calls_sub (Nat.le_refl _) (puts_any _))
        | (go_at_call 47; exact calls_sub (Nat.le_refl _) (from_V _ A1 c1 _))
        | (go_at_call 46; exact calls_sub (Nat.le_refl _) (same_V _ A1 A2 c1 c2 _ (E3.out.sub_ _) (E4.out.sub_ _))))))
  refine wpQuiet_nil ?_
  rintro w' ⟨y, rfl⟩
  have G2 := Lib.hid ((y.ok_.block _ (by have := E5.out; omega)).trans E2.out)
  have hbY := hb05.trans (y.ok_.mono hb05.size)
  generalize y.at_ = Z at G2 hbY
  clear f0 f1 E0 E1 E2 E3 E4 E5 hb05 y
  go_wp2_with (first
    | (refine wpList_load_row rfl 75 (.tmp 3) rfl w.heap.size rfl 75 C (0, 0) _ G2.out Try.underlying75 rfl (by rw [size_refPage, h4.out]) ?_)
    | (go_at_call 43; rw [EC.out]; refine (refPut_errV p HP.out HC.out A c _).mono ?_; rw [← EC.out]; rintro e w5 ⟨rfl, hb5⟩))
  go_ret
  exact ⟨rfl, hbY.trans (hb5.mono hbY.size)⟩
set_option maxHeartbeats 2000000 in
set_option maxRecDepth 100000 in
theorem pageGets_ok (w : World) (k : UInt8) (m g : Nat) (bs : List UInt8) (hk : isK k = true) (hm : m < 512) (hg : g < 18446744073709551616) (hbl : bs.length ≤ 238) (A : Option Addr) (c : Nat) (hx : BytesAt w A bs) (hbc : bs.length ≤ c) (a b : Int) (B : Option Addr) (cap : Nat) (xs : List UInt8) (hy : BytesAt w B xs) (hl : xs.length ≤ cap) :
    Calls Try.prog 12 #[.agg (cellsC ⟨k, (m : Int), g, bs⟩ A c), .agg #[.int .i64 a, .int .i64 b], .slice B xs.length cap] w fun e w' => e = .returned (.bool true) ∧ Below w.heap.size w w' := by
  obtain ⟨C, eC⟩ : ∃ C, C = cellsC ⟨k, (m : Int), g, bs⟩ A c := ⟨_, rfl⟩
  obtain ⟨D, eD⟩ : ∃ D, D = toldP xs := ⟨_, rfl⟩
  obtain ⟨n, en⟩ : ∃ n, n = numOf xs := ⟨_, rfl⟩
  obtain ⟨PP, eP⟩ : ∃ PP, PP = putP ⟨k, (m : Int), g, bs⟩ := ⟨_, rfl⟩
  have HK := Lib.hid hk
  have HPL : Hid (PP.length = 256) := Lib.hid (by rw [eP]; exact length_putP _ hbl)
  have HGP : Hid (good PP) := Lib.hid (by rw [eP]; exact good_put k m g bs hk hm hg hbl)
  have EP := Lib.hid eP
  obtain ⟨t, et⟩ : ∃ t : Nat, b % 4294967296 = (t : Int) := ⟨(b % 4294967296).toNat, by omega⟩
  have ht : t < 4294967296 := by omega
  have ET := Lib.hid et
  have EC := Lib.hid eC
  have ED := Lib.hid eD
  have EN := Lib.hid en
  have hC4 : C.size = 4 := by rw [eC]; rfl
  have h4 := Lib.hid hC4
  have HY := Lib.hid hy
  rw [← eC]
  clear hk eC hC4 eD en eP et
  go_enter Try.func12, Try.ntmps12
  go_wp2_with fail
  go_quiet (fail)
  go_wp2_with (first
    | (go_at_call 36; refine (new_any _).mono ?_; rintro e w2 ⟨rfl, hb2⟩; have hb2' : Below ((w.alloc (.cells C 75)).alloc (.cells #[.int .i64 a, .int .i64 b] 86)).heap.size ((w.alloc (.cells C 75)).alloc (.cells #[.int .i64 a, .int .i64 b] 86)) w2 := ⟨hb2.os, hb2.tape, hb2.output, hb2.size, hb2.block⟩; have hb0 : Below w.heap.size w w2 := (((Below.refl _ _).alloc (Nat.le_refl _) _).alloc (by simp) _).trans (hb2'.mono (by simp; omega)); have hs2 : w.heap.size + 1 + 1 ≤ w2.heap.size := (by have := hb2'.size; simp at this; omega))
    | (refine wpList_store_row rfl 64 (.tmp 9) (.tmp 25) rfl w2.heap.size tab rfl rfl 64 Try.zeroCells64 (heap_alloc_new _ _) (by rw [size_tab]; exact info64) (by rw [size_tab, zero64, size_tabC]) (tab_one _) ?_; rw [World.setRow_alloc_new])
    | (refine wpList_load_row rfl 64 (.tmp 9) rfl w2.heap.size rfl 64 tab (0, 0) _ (heap_alloc_new _ _) Try.underlying64 rfl (by rw [size_tab]; exact info64) ?_)
    | (go_at_call 45; refine (get_told B cap xs _ (HY.out.below (hb0.alloc hb0.size _)) hl).mono ?_; rintro e w3 ⟨A1, c1, rfl, hq1, hb3⟩; have hb03 := (hb0.alloc hb0.size (.cells tab 64)).trans (hb3.mono (hb0.alloc hb0.size _).size))
    | (refine wpList_store_row rfl 77 (.tmp 10) (.tmp 30) rfl w3.heap.size (cellsC (toldP xs) A1 c1) rfl rfl 77 #[.int .u8 0, .int .i64 0, .int .u64 0, .slice none 0 0] (heap_alloc_new _ _) size_page rfl (by simp [cellsC, Value.oneCell']) ?_; rw [World.setRow_alloc_new])
    | (go_at_call 48; refine (refGet_told B cap xs _ (HY.out.below (hb03.alloc hb03.size _)) hl).mono ?_; rintro e w4 ⟨A2, c2, rfl, hq2, hb4⟩; have hb04 := (hb03.alloc hb03.size (.cells (cellsC (toldP xs) A1 c1) 77)).trans (hb4.mono (hb03.alloc hb03.size _).size))
    | (refine wpList_store_row rfl 75 (.tmp 12) (.tmp 35) rfl w4.heap.size (cellsC (toldP xs) A2 c2) rfl rfl 75 #[.int .u8 0, .int .i64 0, .int .u64 0, .slice none 0 0] (heap_alloc_new _ _) size_refPage rfl (by simp [cellsC, Value.oneCell']) ?_; rw [World.setRow_alloc_new]))
  have hb05 := hb04.alloc hb04.size (.cells (cellsC (toldP xs) A2 c2) 75)
  have hs3 : w2.heap.size + 1 ≤ w3.heap.size := by have := hb3.size; simp at this; omega
  have hs4 : w3.heap.size + 1 ≤ w4.heap.size := by have := hb4.size; simp at this; omega
  have E0 : Hid ((w4.alloc (.cells (cellsC (toldP xs) A2 c2) 75)).heap[w4.heap.size]? = some (.cells (cellsC (toldP xs) A2 c2) 75 (0, 0))) := Lib.hid (heap_alloc_new _ _)
  have E1 : Hid ((w4.alloc (.cells (cellsC (toldP xs) A2 c2) 75)).heap[w3.heap.size]? = some (.cells (cellsC (toldP xs) A1 c1) 77 (0, 0))) := Lib.hid ((heap_alloc_old _ _ (by omega)).trans ((hb4.block _ (by simp)).trans (heap_alloc_new _ _)))
  have E2 : Hid ((w4.alloc (.cells (cellsC (toldP xs) A2 c2) 75)).heap[w.heap.size]? = some (.cells C 75 (0, 0))) := Lib.hid ((heap_alloc_old _ _ (by omega)).trans ((hb4.block _ (by simp; omega)).trans ((heap_alloc_old _ _ (by omega)).trans ((hb3.block _ (by simp; omega)).trans ((heap_alloc_old _ _ (by omega)).trans ((hb2'.block _ (by simp; omega)).trans (heap_alloc2_old _ _ _)))))))
  have E3 : Hid (BytesAt (w4.alloc (.cells (cellsC (toldP xs) A2 c2) 75)) A1 (toldP xs).body) := Lib.hid ((hq1.below ((Below.refl _ _).alloc (Nat.le_refl _) (.cells (cellsC (toldP xs) A1 c1) 77))).below (hb4.trans ((Below.refl _ _).alloc hb4.size _)))
  have E4 : Hid (BytesAt (w4.alloc (.cells (cellsC (toldP xs) A2 c2) 75)) A2 (toldP xs).body) := Lib.hid (hq2.below ((Below.refl _ _).alloc (Nat.le_refl _) _))
  have E6 : Hid ((w4.alloc (.cells (cellsC (toldP xs) A2 c2) 75)).heap[w2.heap.size]? = some (.cells tab 64 (0, 0))) := Lib.hid ((heap_alloc_old _ _ (by omega)).trans ((hb4.block _ (by simp; omega)).trans ((heap_alloc_old _ _ (by omega)).trans ((hb3.block _ (by simp)).trans (heap_alloc_new _ _)))))
  have E5 : Hid (w4.heap.size + 1 = (w4.alloc (.cells (cellsC (toldP xs) A2 c2) 75)).heap.size) := Lib.hid (by simp)
  generalize (w4.alloc (.cells (cellsC (toldP xs) A2 c2) 75)) = Y at E0 E1 E2 E3 E4 E5 E6 hb05
  have f0 : Hid (∀ y : SubW Y.heap.size Y, y.at_.heap[w4.heap.size]? = some (.cells (cellsC (toldP xs) A2 c2) 75 (0, 0))) := fun y => (y.ok_.block _ (by have := E5.out; omega)).trans E0.out
  have f1 : Hid (∀ y : SubW Y.heap.size Y, y.at_.heap[w3.heap.size]? = some (.cells (cellsC (toldP xs) A1 c1) 77 (0, 0))) := fun y => (y.ok_.block _ (by have := E5.out; omega)).trans E1.out
  clear hb04 hb03 hb0 hb2 hb2' hb3 hb4 hq1 hq2
  refine region_below Y.heap.size Y (Below.refl _ _) (by kernel_rfl) (by kernel_rfl) ?_
  repeat (first
    | (go_big_quiet_want; refine quiet_load_row 77 (.tmp 10) rfl w3.heap.size rfl 77 (cellsC (toldP xs) A1 c1) (0, 0) _ f1.out Try.underlying77 rfl size_page ?_; simp only [Act.put, List.setIfInBounds_toArray, List.set_cons_zero, List.set_cons_succ]; go_big_quiet_on)
    | (go_big_quiet_want; refine quiet_load_row 75 (.tmp 12) rfl w4.heap.size rfl 75 (cellsC (toldP xs) A2 c2) (0, 0) _ f0.out Try.underlying75 rfl size_refPage ?_; simp only [Act.put, List.setIfInBounds_toArray, List.set_cons_zero, List.set_cons_succ]; go_big_quiet_on)
    | go_big_quiet_step ((first
        | (go_at_call 44; exact calls_sub (Nat.le_refl _) (puts_any _))
        | (go_at_call 47; exact calls_sub (Nat.le_refl _) (from_V _ A1 c1 _))
        | (go_at_call 46; exact calls_sub (Nat.le_refl _) (same_V _ A1 A2 c1 c2 _ (E3.out.sub_ _) (E4.out.sub_ _))))))
  refine wpQuiet_nil ?_
  rintro w' ⟨y, rfl⟩
  have G2 := Lib.hid ((y.ok_.block _ (by have := E5.out; omega)).trans E2.out)
  have G6 := Lib.hid ((y.ok_.block _ (by have := E5.out; omega)).trans E6.out)
  have hbY := hb05.trans (y.ok_.mono hb05.size)
  have hsZ : w2.heap.size < y.at_.heap.size := by have := y.ok_.size; have := E5.out; omega
  generalize y.at_ = Z at G2 G6 hbY hsZ
  clear f0 f1 E0 E1 E2 E3 E4 E5 E6 hb05 y
  rw [ET.out]
  go_wp2_with (first
    | (refine wpList_load_row rfl 75 (.tmp 3) rfl w.heap.size rfl 75 C (0, 0) _ G2.out Try.underlying75 rfl (by rw [size_refPage, h4.out]) ?_)
    | (go_at_call 43; rw [EC.out]; refine (refPut_okV k m g bs HK.out hm hg hbl A c _ (hx.below hbY) hbc).mono ?_; rw [← EC.out, ← EP.out]; rintro e w5 ⟨rfl, hown, hb5⟩))
  obtain ⟨K, hK, hKl⟩ := burst_page a
  rw [hK]
  have HKK := Lib.hid hK
  have hb0 : Below w.heap.size w w5 := hbY.trans (hb5.mono hbY.size)
  have hg5 : w5.heap[w2.heap.size]? = some (.cells tab 64 (0, 0)) := (hb5.block _ hsZ).trans G6.out
  have hwZ : w.heap.size ≤ Z.heap.size := hbY.size
  clear hK
  go_loopw [17] (fun i wr => ∃ j : Nat, j ≤ 32 ∧ i = .int .i64 j ∧ Below w.heap.size w wr ∧ Hid (OwnB wr Z.heap.size (Z.heap.size + 1) 256 5 (flips PP K t j)) ∧ Hid (wr.heap[w2.heap.size]? = some (.cells tab 64 (0, 0)))) (fun i _ => 32 - (intOf i).toNat)
  case atStart => exact ⟨0, by omega, rfl, hb0, hown, hg5⟩
  case round =>
    obtain ⟨j, hj, rfl, hbr, hor, hgr⟩ := hrel
    by_cases hlt : j < 32
    · have hfl : (flips PP K t j).length = 256 := (length_flips PP K t j).trans HPL.out
      have hq : (K + j) / 8 < (flips PP K t j).length := by omega
      have hcell := hor.out.cellAt ((K + j) / 8) hq
      have hfr := hor.out.frozenAt ((K + j) / 8)
      obtain ⟨v, hv⟩ : ∃ v : UInt8, v = (flips PP K t j).getD ((K + j) / 8) 0 := ⟨_, rfl⟩
      rw [← hv] at hcell
      have HV := Lib.hid hv
      have HF := Lib.hid hfl
      clear hv hfl
      have q0 : (0 : Int) ≤ ((K : Int) + (j : Int)) / 8 := by omega
      have q1 : ((K : Int) + (j : Int)) / 8 < 256 := by omega
      go_wp2_with fail
      · go_region
        go_wp2_with fail
        go_roundw
        case rel =>
          have hbit : t.testBit j = true := bit_test t j ht true (by assumption)
          have hst := hor.out.stored ((K + j) / 8) hq (v ^^^ UInt8.ofNat (2 ^ ((K + j) % 8)))
          rw [flip_val]
          refine ⟨j + 1, by omega, by go_num, (hbr.setCell (by show w.heap.size ≤ Z.heap.size + 1; omega) _).drew, ?_, ?_⟩
          · simp only [flips, hbit, if_true]
            unfold flipAt
            rw [← HV.out]
            exact hst.drew
          · exact (heap_setCell_other wr ⟨Z.heap.size + 1, (K + j) / 8, none⟩ w2.heap.size _ (by show w2.heap.size ≠ Z.heap.size + 1; omega)).trans hgr.out
        case measure => simp [intOf]; omega
      · have hbit : t.testBit j = false := bit_test t j ht false (by assumption)
        go_roundw
        case rel =>
          refine ⟨j + 1, by omega, by go_num, hbr, ?_, hgr⟩
          simp only [flips, hbit, if_false, Bool.false_eq_true]
          exact hor
        case measure => simp [intOf]; omega
    · obtain rfl : j = 32 := by omega
      have hgood := good_flips HGP.out K t ht (by omega)
      by_cases h0 : t = 0
      · subst h0
        have HFZ : Hid (flips PP K 0 32 = PP) := flips_zero PP K 32
        clear hgood
        go_wp2_with (first
        | (refine wpList_load_row rfl 64 (.tmp 9) rfl w2.heap.size rfl 64 tab (0, 0) _ hgr.out Try.underlying64 rfl (by rw [size_tab]; exact info64) ?_)
        | (go_at_call 45; refine (get_putV (Z.heap.size + 1) k m g bs PP EP.out HK.out hm hg hbl _ (by rw [← HFZ.out]; exact hor.out.bytes)).mono ?_; rintro e w6 ⟨A3, c3, rfl, hq3, hqc3, hb6⟩)
        | (refine wpList_store_row rfl 77 (.tmp 18) (.tmp 89) rfl w6.heap.size (cellsC ⟨k, (m : Int), g, bs⟩ A3 c3) rfl rfl 77 #[.int .u8 0, .int .i64 0, .int .u64 0, .slice none 0 0] (heap_alloc_new _ _) size_page rfl (by simp [cellsC, Value.oneCell']) ?_; rw [World.setRow_alloc_new]))
        go_ret
        exact ⟨rfl, (hbr.trans (hb6.mono hbr.size)).alloc ((hbr.trans (hb6.mono hbr.size)).size) _⟩
      · have HNG : Hid (¬ good (flips PP K t 32)) := fun h => h0 (hgood.1 h)
        have HFL : Hid ((flips PP K t 32).length = 256) := (length_flips PP K t 32).trans HPL.out
        have ht0 : ((t : Int) == 0) = false := by rw [beq_eq_false_iff_ne]; omega
        clear hgood h0
        go_wp2_with (first
        | (refine wpList_load_row rfl 64 (.tmp 9) rfl w2.heap.size rfl 64 tab (0, 0) _ hgr.out Try.underlying64 rfl (by rw [size_tab]; exact info64) ?_)
        | (go_at_call 45; refine (get_bad (some ⟨Z.heap.size + 1, 0, none⟩) 256 (flips PP K t 32) _ hor.out.bytes HFL.out HNG.out (Nat.le_refl _)).mono ?_; rintro e w6 ⟨rfl, hb6⟩))
        go_ret
        exact ⟨rfl, (hbr.trans (hb6.mono hbr.size)).alloc ((hbr.trans (hb6.mono hbr.size)).size) _⟩
end Go.Proofs.Ytnfbebfgllldgaa
