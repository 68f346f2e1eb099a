/- The calls of package crc, and the reference's sum, as contracts: what each answers, and that nothing that was there is changed. -/
import Derived.Test.YtehmkegbmbkkbaaChecked
import Derived.Test.YtehmkegbmbkkbaaMath
import Derived.Test.YtehmkegbmbkkbaaCom
import Derived.WalkKit
import Derived.WalkLawsBesides
import Derived.WalkSpells
import Derived.Handy
import Derived.KernelRfl
namespace Go.Proofs.Ytehmkegbmbkkbaa
open Go.RowKit CrcM

theorem ret_eq {u v : Value} (h : u = v) : Ending.returned u = Ending.returned v := by rw [h]
theorem u32_eq {a b : Int} (h : a = b) : Value.int .u32 a = Value.int .u32 b := by rw [h]

theorem and1_u32 (n : Nat) (hn : n < 4294967296) : bits BinOp.and IntKind.u32 (n : Int) 1 = ((n % 2 : Nat) : Int) := by
  have e : bits BinOp.and IntKind.u32 (n : Int) ((1 : Nat) : Int) = ((n &&& 1 : Nat) : Int) := u32_and_nat _ _ hn (by omega)
  rw [Nat.and_one_is_mod] at e
  exact e

theorem stpN_cases (n : Nat) (hn : n < 4294967296) : stpN n = if n % 2 = 1 then (n / 2) ^^^ 2197175160 else n / 2 := by
  have e : (BitVec.ofNat 32 n).toNat = n := by rw [BitVec.toNat_ofNat]; exact Nat.mod_eq_of_lt hn
  have e0 : (BitVec.ofNat 32 n).getLsbD 0 = decide (n % 2 = 1) := by
    rw [← BitVec.testBit_toNat, e, Nat.testBit_zero]
  unfold stpN stp
  rw [e0]
  by_cases h : n % 2 = 1
  · simp only [h, decide_true, if_true]
    rw [BitVec.toNat_xor, BitVec.toNat_ushiftRight, e, Nat.shiftRight_eq_div_pow]
    rfl
  · simp only [h, decide_false, if_false, Bool.false_eq_true]
    rw [BitVec.toNat_ushiftRight, e, Nat.shiftRight_eq_div_pow]

theorem stp_odd_walk (n : Nat) (hn : n < 4294967296) (h : n % 2 = 1) : bits BinOp.xor IntKind.u32 ((n : Int) / 2) 2197175160 = (stpN n : Int) := by
  rw [stpN_cases n hn, if_pos h]
  exact u32_xor_nat (n / 2) 2197175160 (by omega) (by omega)

theorem stp_even_walk (n : Nat) (hn : n < 4294967296) (h : ¬ n % 2 = 1) : (n : Int) / 2 = (stpN n : Int) := by
  rw [stpN_cases n hn, if_neg h]
  rfl

theorem step_any (n : Nat) (hn : n < 4294967296) (w : World) : Calls Try.prog 57 #[.int .u32 n] w fun e w' => e = .returned (.int .u32 (stpN n)) ∧ w = w' := by
  go_enter Try.func57, Try.ntmps57
  go_wp2
  · have h : (bits BinOp.and IntKind.u32 (n : Int) 1 == 1) = true := by assumption
    go_ret
    refine ⟨ret_eq (u32_eq (stp_odd_walk n hn ?_)), rfl⟩
    rw [and1_u32 n hn] at h
    simp at h
    omega
  · have h : (bits BinOp.and IntKind.u32 (n : Int) 1 == 1) = false := by assumption
    go_ret
    refine ⟨ret_eq (u32_eq (stp_even_walk n hn ?_)), rfl⟩
    rw [and1_u32 n hn] at h
    simp at h
    omega

/-! ### New -/

/-- The table's cells, the first k of which stand. -/
def tabC (k : Nat) : Array Value := Array.ofFn (n := 256) fun i => .int .u32 (if i.val < k then (tbN i.val : Int) else 0)
/-- The table. -/
def tab : Array Value := tabC 256

theorem size_tabC (k : Nat) : (tabC k).size = 256 := by simp [tabC]
theorem tabC_get (k i : Nat) (hi : i < 256) : (tabC k)[i]? = some (.int .u32 (if i < k then (tbN i : Int) else 0)) := by
  simp [tabC, hi]
theorem tab_get (i : Nat) (hi : i < 256) : tab[i]? = some (.int .u32 (tbN i)) := by
  unfold tab
  rw [tabC_get 256 i hi, if_pos hi]
theorem tabC_set (k : Nat) (hk : k < 256) : (tabC k).setIfInBounds k (.int .u32 (tbN k)) = tabC (k + 1) := by
  apply Array.ext_getElem?
  intro i
  by_cases hi : i < 256
  · rw [tabC_get (k + 1) i hi]
    by_cases h : k = i
    · subst h
      simp [size_tabC, hk]
    · rw [Array.getElem?_setIfInBounds_ne h, tabC_get k i hi]
      by_cases h1 : i < k
      · simp [h1, show i < k + 1 by omega]
      · simp [h1, show ¬ i < k + 1 by omega]
  · have h1 : (tabC (k + 1))[i]? = none := by simp [size_tabC]; omega
    rw [h1]
    simp [size_tabC]; omega
theorem zero64 : Try.zeroCells61 = tabC 0 := by
  apply Array.ext_getElem?
  intro i
  have hz : Try.zeroCells61 = Array.replicate 256 (.int .u32 0) := by kernel_rfl
  rw [hz, Array.getElem?_replicate]
  by_cases hi : i < 256
  · rw [tabC_get 0 i hi, if_pos hi, if_neg (by omega)]
  · have h1 : (tabC 0)[i]? = none := by simp [size_tabC]; omega
    rw [h1, if_neg hi]

theorem info64 : (Try.prog.info? 61).map (·.size) = some 256 := by kernel_rfl
theorem tab_one (k : Nat) : (tabC k).all (·.oneCell') = true := by
  rw [Array.all_eq_true_iff_forall_mem]
  intro v hv
  simp only [tabC, Array.mem_ofFn] at hv
  obtain ⟨i, rfl⟩ := hv
  rfl
theorem below_setRow {B : Nat} {a w : World} (h : Below B a w) {g : Nat} (hg : B ≤ g) (c : Array Value) : Below B a (w.setRow g c) :=
  h.trans ⟨rfl, rfl, rfl, by simp, fun k hk => setRow_other _ _ _ _ (by omega)⟩

set_option maxRecDepth 100000 in
theorem new_any (w : World) : Calls Try.prog 29 #[] w fun e w' => e = .returned (.agg tab) ∧ Below w.heap.size w w' := by
  go_enter Try.func29, Try.ntmps29
  go_wp2_with fail
  rw [zero64]
  go_loopw [4] (fun i wr => ∃ k : Nat, k ≤ 256 ∧ i = .int .i64 k ∧ wr = (w.alloc (.cells (tabC 0) 61)).alloc (.cells (tabC k) 61)) (fun i _ => 256 - (intOf i).toNat)
  case atStart => exact ⟨0, by omega, rfl, rfl⟩
  case round =>
    obtain ⟨k, hk, rfl, rfl⟩ := hrel
    by_cases hlt : k < 256
    · have hd : decide ((k : Int) < 256) = true := by simp; omega
      go_wp2_with fail
      go_loop [3, 9] (fun n j => ∃ m : Nat, m ≤ 8 ∧ j = .int .i64 m ∧ n = .int .u32 (stpsN m k)) (fun _ j => 8 - (intOf j).toNat)
      case atStart => exact ⟨0, by omega, rfl, by rw [stpsN_zero (by omega)]⟩
      case round =>
        obtain ⟨m, hm, rfl, rfl⟩ := hrel
        have hb := stpsN_lt m k
        by_cases hm8 : m < 8
        · go_wp2_with (go_at_call 57; refine (step_any _ hb _).mono ?_; rintro e w' ⟨rfl, rfl⟩)
          go_round
          case rel => exact ⟨m + 1, by omega, by go_num, by rw [stpsN_succ]⟩
          case measure => simp [intOf]; omega
        · obtain rfl : m = 8 := by omega
          have hc : (tabC k)[k]? = some (.int .u32 0) := by rw [tabC_get k k hlt, if_neg (by omega)]
          have hset := tabC_set k hlt
          rw [← stpsN_tb] at hset
          have HS := Lib.hid hset
          clear hset
          go_wp2_with fail
          rw [HS.out]
          go_roundw
          case rel => exact ⟨k + 1, by omega, by go_num, rfl⟩
          case measure => simp [intOf]; omega
    · obtain rfl : k = 256 := by omega
      go_wp2_with (first
        | (refine wpList_load_row rfl 61 (.tmp 1) rfl (w.heap.size + 1) rfl 61 (tabC 256) (0, 0) _ (heap_alloc2_new _ _ _) Try.underlying61 rfl (by rw [size_tabC]; exact info64) ?_)
        | (refine wpList_store_row rfl 61 (.tmp 0) (.tmp 18) rfl w.heap.size (tabC 256) rfl rfl 61 (tabC 0) (heap_alloc2_old _ _ _) (by rw [size_tabC]; exact info64) (by rw [size_tabC, size_tabC]) (tab_one _) ?_))
      refine bodyPost_ret (v := .agg tab) (results_cell_row (p := 0) (ty := 61) rfl _ _ w.heap.size 61 (tabC 256) (0, 0) _ rfl (setRow_heap _ _ (tabC 0) _ _ _ (heap_alloc2_old _ _ _)) Try.underlying61 rfl (by rw [size_tabC]; exact info64)) rfl ⟨rfl, ?_⟩
      exact below_setRow (((Below.refl _ _).alloc (Nat.le_refl _) _).alloc (by simp) _) (Nat.le_refl _) _

end Go.Proofs.Ytehmkegbmbkkbaa
