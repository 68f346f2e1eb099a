/- For every number of a byte the statement CrcTables answers true: the table's place is what eight steps make of the number, and a table is the same each time. No condition. -/
import Derived.Test.YtnfbebfgllldgaaSums
import Derived.Test.YtnfbebfgllldgaaArrEq
namespace Go.Proofs.Ytnfbebfgllldgaa
open Go.RowKit CrcM

theorem tab_eq (w : World) : (binOp .eql 64 (.agg tab) (.agg tab)).run Try.prog w = .ok (.bool true) w := by
  rw [run_eql_struct, equalIn_self (P := Try.prog) w 9998 (f := fun i => (tbN i : Int)) Try.underlying64 Try.underlying62 (by kernel_rfl) (fun i hi => tab_get i hi)]
  rfl

set_option maxRecDepth 100000 in
theorem crcTables_at (n : UInt8) (w : World) : Calls Try.prog 9 #[.int .u8 (n.toNat : Int)] w fun e w' => e = .returned (.bool true) ∧ Below w.heap.size w w' := by
  have hn := n.toNat_lt
  obtain ⟨m, em⟩ : ∃ m : Nat, m = n.toNat := ⟨_, rfl⟩
  rw [← em] at hn ⊢
  clear em
  have hm : m < 256 := by omega
  go_enter Try.func9, Try.ntmps9
  go_wp2_with (first
    | (go_at_call 36; refine (new_any _).mono ?_; rintro e w1 ⟨rfl, hb1⟩)
    | (refine wpList_store_row rfl 64 (.tmp 3) (.tmp 6) rfl w1.heap.size tab rfl rfl 64 Try.zeroCells64 (heap_alloc_new _ _) (by rw [size_tab]; exact info64) (by rw [size_tab, zero64, size_tabC]) (tab_one _) ?_; rw [World.setRow_alloc_new]))
  go_loop [4, 5] (fun x i => ∃ k : Nat, k ≤ 8 ∧ i = .int .i64 k ∧ x = .int .u32 (stpsN k m)) (fun _ i => 8 - (intOf i).toNat)
  case atStart => exact ⟨0, by omega, rfl, by rw [stpsN_zero (by omega)]⟩
  case round =>
    obtain ⟨k, hk, rfl, rfl⟩ := hrel
    have hr := stpsN_lt k m
    by_cases hlt : k < 8
    · go_wp2_with fail
      · have h : (bits BinOp.and IntKind.u32 (stpsN k m : Int) 1 == 1) = true := by assumption
        go_round
        case rel =>
          refine ⟨k + 1, by omega, by go_num, ?_⟩
          rw [and1_u32 _ hr] at h
          rw [← stpsN_succ, stp_odd_walk _ hr (by simp at h; omega)]
        case measure => simp [intOf]; omega
      · have h : (bits BinOp.and IntKind.u32 (stpsN k m : Int) 1 == 1) = false := by assumption
        go_round
        case rel =>
          refine ⟨k + 1, by omega, by go_num, ?_⟩
          rw [and1_u32 _ hr] at h
          rw [← stpsN_succ, stp_even_walk _ hr (by simp at h; omega)]
        case measure => simp [intOf]; omega
    · obtain rfl : k = 8 := by omega
      go_wp2_with fail
      rw [stpsN_tb]
      have hg : ∀ y : SubW (w1.heap.size + 1) (w1.alloc (.cells tab 64)), y.at_.heap[w1.heap.size]? = some (.cells tab 64 (0, 0)) := fun y => (y.ok_.block _ (by omega)).trans (heap_alloc_new _ _)
      have hc : ∀ y : SubW (w1.heap.size + 1) (w1.alloc (.cells tab 64)), y.at_.cell? ⟨w1.heap.size, m, none⟩ = some (.int .u32 (tbN m)) := fun y => by rw [cell_of_row _ _ _ _ _ _ (hg y), tab_get m hm]
      refine region_below (w1.heap.size + 1) (w1.alloc (.cells tab 64)) (Below.refl _ _) (by kernel_rfl) (by kernel_rfl) ?_
      have te := tab_eq
      have i0 : (0 : Int) ≤ (m : Int) := by omega
      have i1 : (m : Int) < 256 := by omega
      have TG := Lib.hid hg
      clear hg
      repeat (first
        | (go_big_quiet_want; refine quiet_load_row 64 (.tmp 3) rfl w1.heap.size rfl 64 tab (0, 0) _ TG.out Try.underlying64 rfl (by rw [size_tab]; exact info64) ?_; simp only [Act.put, List.setIfInBounds_toArray, List.set_cons_zero, List.set_cons_succ]; go_big_quiet_on)
        | go_big_quiet_step ((first
            | (go_at_call 37; exact calls_sub (by simp) (sums_any _))
            | (go_at_call 36; exact calls_sub (by simp) (new_any _)))))
      refine wpQuiet_nil ?_
      rintro w' ⟨y, rfl⟩
      go_wp2
      go_ret
      exact ⟨rfl, (hb1.alloc hb1.size _).trans (y.ok_.mono (by have := hb1.size; omega))⟩

theorem u8_of {a : Int} (h : (Lit.int .u8 a).wf = true) : ∃ n : UInt8, a = (n.toNat : Int) := by
  have hb := bounds_u8 h
  refine ⟨UInt8.ofNat a.toNat, ?_⟩
  rw [UInt8.toNat_ofNat']
  omega

theorem crcTables_walk (a : Int) (h : (Lit.int .u8 a).wf = true) {w : World} : Calls Try.prog 9 #[.int .u8 a] w fun e w' => e = .returned (.bool true) ∧ Below w.heap.size w w' := by
  obtain ⟨n, rfl⟩ := u8_of h
  exact crcTables_at n w
end Go.Proofs.Ytnfbebfgllldgaa
