/- Several texts in one: The calls of package crc, and the reference's sum, as contracts: what each answers, and that nothing that was there is changed. The calls Behind and Sum of package crc: their contracts. The reference's sum, bit by bit: its contract. The known text's sum, as the statements of layer 2 ask it: its contract. For all bytes and every place the statement CrcSums answers true: of the bytes the sum is told, in one go or in two. No condition. -/
import Derived.Test.YtmmkmpjhmbocfaaChecked
import Derived.Test.YtmmkmpjhmbocfaaMath
import Derived.Test.YtmmkmpjhmbocfaaCom
import Derived.WalkKit
import Derived.WalkLawsBesides
import Derived.WalkSpells
import Derived.Handy
import Derived.KernelRfl
import Derived.Lib.SlBytesConst
import Derived.Test.YtmmkmpjhmbocfaaApp
import Derived.Lib.MinMax
namespace Go.Proofs.Ytmmkmpjhmbocfaa
open Go.RowKit CrcM

theorem ret_eq {u v : Value} (h : u = v) : Ending.returned u = Ending.returned v := by rw [h]
theorem u32_eq {a b : Int} (h : a = b) : Value.int .u32 a = Value.int .u32 b := by rw [h]

theorem and1_u32 (n : Nat) (hn : n < 4294967296) : bits BinOp.and IntKind.u32 (n : Int) 1 = ((n % 2 : Nat) : Int) := by
  have e : bits BinOp.and IntKind.u32 (n : Int) ((1 : Nat) : Int) = ((n &&& 1 : Nat) : Int) := u32_and_nat _ _ hn (by omega)
  rw [Nat.and_one_is_mod] at e
  exact e

theorem stpN_cases (n : Nat) (hn : n < 4294967296) : stpN n = if n % 2 = 1 then (n / 2) ^^^ 2197175160 else n / 2 := by
  have e : (BitVec.ofNat 32 n).toNat = n := by rw [BitVec.toNat_ofNat]; exact Nat.mod_eq_of_lt hn
  have e0 : (BitVec.ofNat 32 n).getLsbD 0 = decide (n % 2 = 1) := by
    rw [← BitVec.testBit_toNat, e, Nat.testBit_zero]
  unfold stpN stp
  rw [e0]
  by_cases h : n % 2 = 1
  · simp only [h, decide_true, if_true]
    rw [BitVec.toNat_xor, BitVec.toNat_ushiftRight, e, Nat.shiftRight_eq_div_pow]
    rfl
  · simp only [h, decide_false, if_false, Bool.false_eq_true]
    rw [BitVec.toNat_ushiftRight, e, Nat.shiftRight_eq_div_pow]

theorem stp_odd_walk (n : Nat) (hn : n < 4294967296) (h : n % 2 = 1) : bits BinOp.xor IntKind.u32 ((n : Int) / 2) 2197175160 = (stpN n : Int) := by
  rw [stpN_cases n hn, if_pos h]
  exact u32_xor_nat (n / 2) 2197175160 (by omega) (by omega)

theorem stp_even_walk (n : Nat) (hn : n < 4294967296) (h : ¬ n % 2 = 1) : (n : Int) / 2 = (stpN n : Int) := by
  rw [stpN_cases n hn, if_neg h]
  rfl

theorem step_any (n : Nat) (hn : n < 4294967296) (w : World) : Calls Try.prog 57 #[.int .u32 n] w fun e w' => e = .returned (.int .u32 (stpN n)) ∧ w = w' := by
  go_enter Try.func57, Try.ntmps57
  go_wp2
  · have h : (bits BinOp.and IntKind.u32 (n : Int) 1 == 1) = true := by assumption
    go_ret
    refine ⟨ret_eq (u32_eq (stp_odd_walk n hn ?_)), rfl⟩
    rw [and1_u32 n hn] at h
    simp at h
    omega
  · have h : (bits BinOp.and IntKind.u32 (n : Int) 1 == 1) = false := by assumption
    go_ret
    refine ⟨ret_eq (u32_eq (stp_even_walk n hn ?_)), rfl⟩
    rw [and1_u32 n hn] at h
    simp at h
    omega

/-! ### New -/

/-- The table's cells, the first k of which stand. -/
def tabC (k : Nat) : Array Value := Array.ofFn (n := 256) fun i => .int .u32 (if i.val < k then (tbN i.val : Int) else 0)
/-- The table. -/
def tab : Array Value := tabC 256

theorem size_tabC (k : Nat) : (tabC k).size = 256 := by simp [tabC]
theorem tabC_get (k i : Nat) (hi : i < 256) : (tabC k)[i]? = some (.int .u32 (if i < k then (tbN i : Int) else 0)) := by
  simp [tabC, hi]
theorem tab_get (i : Nat) (hi : i < 256) : tab[i]? = some (.int .u32 (tbN i)) := by
  unfold tab
  rw [tabC_get 256 i hi, if_pos hi]
theorem tabC_set (k : Nat) (hk : k < 256) : (tabC k).setIfInBounds k (.int .u32 (tbN k)) = tabC (k + 1) := by
  apply Array.ext_getElem?
  intro i
  by_cases hi : i < 256
  · rw [tabC_get (k + 1) i hi]
    by_cases h : k = i
    · subst h
      simp [size_tabC, hk]
    · rw [Array.getElem?_setIfInBounds_ne h, tabC_get k i hi]
      by_cases h1 : i < k
      · simp [h1, show i < k + 1 by omega]
      · simp [h1, show ¬ i < k + 1 by omega]
  · have h1 : (tabC (k + 1))[i]? = none := by simp [size_tabC]; omega
    rw [h1]
    simp [size_tabC]; omega
theorem zero64 : Try.zeroCells61 = tabC 0 := by
  apply Array.ext_getElem?
  intro i
  have hz : Try.zeroCells61 = Array.replicate 256 (.int .u32 0) := by kernel_rfl
  rw [hz, Array.getElem?_replicate]
  by_cases hi : i < 256
  · rw [tabC_get 0 i hi, if_pos hi, if_neg (by omega)]
  · have h1 : (tabC 0)[i]? = none := by simp [size_tabC]; omega
    rw [h1, if_neg hi]

theorem info64 : (Try.prog.info? 61).map (·.size) = some 256 := by kernel_rfl
theorem tab_one (k : Nat) : (tabC k).all (·.oneCell') = true := by
  rw [Array.all_eq_true_iff_forall_mem]
  intro v hv
  simp only [tabC, Array.mem_ofFn] at hv
  obtain ⟨i, rfl⟩ := hv
  rfl
theorem below_setRow {B : Nat} {a w : World} (h : Below B a w) {g : Nat} (hg : B ≤ g) (c : Array Value) : Below B a (w.setRow g c) :=
  h.trans ⟨rfl, rfl, rfl, by simp, fun k hk => setRow_other _ _ _ _ (by omega)⟩

set_option maxRecDepth 100000 in
theorem new_any (w : World) : Calls Try.prog 29 #[] w fun e w' => e = .returned (.agg tab) ∧ Below w.heap.size w w' := by
  go_enter Try.func29, Try.ntmps29
  go_wp2_with fail
  rw [zero64]
  go_loopw [4] (fun i wr => ∃ k : Nat, k ≤ 256 ∧ i = .int .i64 k ∧ wr = (w.alloc (.cells (tabC 0) 61)).alloc (.cells (tabC k) 61)) (fun i _ => 256 - (intOf i).toNat)
  case atStart => exact ⟨0, by omega, rfl, rfl⟩
  case round =>
    obtain ⟨k, hk, rfl, rfl⟩ := hrel
    by_cases hlt : k < 256
    · have hd : decide ((k : Int) < 256) = true := by simp; omega
      go_wp2_with fail
      go_loop [3, 9] (fun n j => ∃ m : Nat, m ≤ 8 ∧ j = .int .i64 m ∧ n = .int .u32 (stpsN m k)) (fun _ j => 8 - (intOf j).toNat)
      case atStart => exact ⟨0, by omega, rfl, by rw [stpsN_zero (by omega)]⟩
      case round =>
        obtain ⟨m, hm, rfl, rfl⟩ := hrel
        have hb := stpsN_lt m k
        by_cases hm8 : m < 8
        · go_wp2_with (go_at_call 57; refine (step_any _ hb _).mono ?_; rintro e w' ⟨rfl, rfl⟩)
          go_round
          case rel => exact ⟨m + 1, by omega, by go_num, by rw [stpsN_succ]⟩
          case measure => simp [intOf]; omega
        · obtain rfl : m = 8 := by omega
          have hc : (tabC k)[k]? = some (.int .u32 0) := by rw [tabC_get k k hlt, if_neg (by omega)]
          have hset := tabC_set k hlt
          rw [← stpsN_tb] at hset
          have HS := Lib.hid hset
          clear hset
          go_wp2_with fail
          rw [HS.out]
          go_roundw
          case rel => exact ⟨k + 1, by omega, by go_num, rfl⟩
          case measure => simp [intOf]; omega
    · obtain rfl : k = 256 := by omega
      go_wp2_with (first
        | (refine wpList_load_row rfl 61 (.tmp 1) rfl (w.heap.size + 1) rfl 61 (tabC 256) (0, 0) _ (heap_alloc2_new _ _ _) Try.underlying61 rfl (by rw [size_tabC]; exact info64) ?_)
        | (refine wpList_store_row rfl 61 (.tmp 0) (.tmp 18) rfl w.heap.size (tabC 256) rfl rfl 61 (tabC 0) (heap_alloc2_old _ _ _) (by rw [size_tabC]; exact info64) (by rw [size_tabC, size_tabC]) (tab_one _) ?_))
      refine bodyPost_ret (v := .agg tab) (results_cell_row (p := 0) (ty := 61) rfl _ _ w.heap.size 61 (tabC 256) (0, 0) _ rfl (setRow_heap _ _ (tabC 0) _ _ _ (heap_alloc2_old _ _ _)) Try.underlying61 rfl (by rw [size_tabC]; exact info64)) rfl ⟨rfl, ?_⟩
      exact below_setRow (((Below.refl _ _).alloc (Nat.le_refl _) _).alloc (by simp) _) (Nat.le_refl _) _

end Go.Proofs.Ytmmkmpjhmbocfaa

namespace Go.Proofs.Ytmmkmpjhmbocfaa
open Go.RowKit CrcM

/-! ### Behind, Sum -/

theorem tab_cell (w : World) (i : Nat) (hi : i < 256) : (w.alloc (.cells tab 61)).cell? ⟨w.heap.size, i, none⟩ = some (.int .u32 (tbN i)) := by
  rw [World.cell?_alloc_new, tab_get i hi]

theorem not_u32 (n : Nat) (hn : n < 4294967296) : bits BinOp.xor IntKind.u32 IntKind.u32.max (n : Int) = ((4294967295 - n : Nat) : Int) := by
  have e : bits BinOp.xor IntKind.u32 ((4294967295 : Nat) : Int) (n : Int) = ((4294967295 ^^^ n : Nat) : Int) := u32_xor_nat _ _ (by omega) hn
  have e2 : 4294967295 ^^^ n = 4294967295 - n := by
    have h1 := notN hn
    rw [← h1]
    have : (~~~ BitVec.ofNat 32 n) = BitVec.ofNat 32 4294967295 ^^^ BitVec.ofNat 32 n := by
      rw [show BitVec.ofNat 32 4294967295 = BitVec.allOnes 32 from rfl, BitVec.allOnes_xor]
    rw [this, BitVec.toNat_xor, BitVec.toNat_ofNat, BitVec.toNat_ofNat, Nat.mod_eq_of_lt hn]
  rw [e2] at e
  exact e

theorem byteN_walk (m : Nat) (hm : m < 4294967296) (c : UInt8) : bits BinOp.xor IntKind.u32 ((m : Int) / 256) (tbN ((m % 256) ^^^ c.toNat)) = (byteN m c : Int) := by
  have e : bits BinOp.xor IntKind.u32 ((m / 256 : Nat) : Int) ((tbN ((m % 256) ^^^ c.toNat) : Nat) : Int) = _ := u32_xor_nat _ _ (by omega) (tbN_lt _)
  rw [show ((m : Int) / 256) = ((m / 256 : Nat) : Int) from rfl, e]
  unfold byteN byteStep tbN
  rw [BitVec.toNat_xor, BitVec.toNat_ushiftRight, BitVec.toNat_ofNat, Nat.mod_eq_of_lt hm, Nat.shiftRight_eq_div_pow]

theorem ix_walk (m : Nat) (c : UInt8) : bits BinOp.xor IntKind.u8 ((m : Int) % 256) (c.toNat : Int) = (((m % 256) ^^^ c.toNat : Nat) : Int) :=
  u8_xor_nat (m % 256) c.toNat (Nat.mod_lt _ (by omega)) (by have := c.toNat_lt; omega)
theorem ix_lt (m : Nat) (c : UInt8) : (m % 256) ^^^ c.toNat < 256 :=
  Nat.xor_lt_two_pow (n := 8) (by omega) (by have := c.toNat_lt; omega)

set_option maxRecDepth 100000 in
theorem behind_any (n : Nat) (hn : n < 4294967296) (A : Option Addr) (cap : Nat) (xs : List UInt8) (w : World) (hx : BytesAt w A xs) (hl : xs.length ≤ 140737488355328) :
    Calls Try.prog 77 #[.agg tab, .int .u32 n, .slice A xs.length cap] w fun e w' => e = .returned (.int .u32 (behindN n xs)) ∧ Below w.heap.size w w' := by
  obtain ⟨m, em⟩ : ∃ m : Nat, m = 4294967295 - n := ⟨_, rfl⟩
  have hm : m < 4294967296 := by omega
  have hnot : bits BinOp.xor IntKind.u32 IntKind.u32.max (n : Int) = (m : Int) := by
    subst em
    exact not_u32 n hn
  have EM := Lib.hid em
  clear em
  go_enter Try.func77, Try.ntmps77
  go_wp2_with fail
  go_loop [7, 14] (fun v i => ∃ k : Nat, k ≤ xs.length ∧ i = .int .i64 k ∧ v = .int .u32 (rowN m (xs.take k))) (fun _ i => xs.length - (intOf i).toNat)
  case atStart => exact ⟨0, by omega, rfl, by rw [List.take_zero, rowN_nil hm]⟩
  case round =>
    obtain ⟨k, hk, rfl, rfl⟩ := hrel
    have hr := rowN_lt m (xs.take k)
    by_cases hlt : k < xs.length
    · obtain ⟨b, off, rfl, hc⟩ := hx (by intro h; subst h; simp at hlt)
      have hck := hc k hlt
      clear hc
      have hblt := World.block_lt_of_cell? w _ hck
      obtain ⟨j, ej⟩ : ∃ j : Nat, j = (rowN m (xs.take k) % 256) ^^^ xs[k].toNat := ⟨_, rfl⟩
      have hj : j < 256 := by rw [ej]; exact ix_lt _ _
      have hix : bits BinOp.xor IntKind.u8 ((rowN m (xs.take k) : Int) % 256) (xs[k].toNat : Int) = (j : Int) := by rw [ej]; exact ix_walk _ _
      have htc := tab_cell w j hj
      have EJ := Lib.hid ej
      clear ej
      go_wp2_with fail
      go_round
      case rel =>
        refine ⟨k + 1, by omega, by go_num, ?_⟩
        rw [EJ.out, byteN_walk _ hr, rowN_snoc, List.take_append_getElem]
      case measure => simp [intOf]; omega
    · obtain rfl : k = xs.length := by omega
      go_wp2_with fail
      go_ret
      refine ⟨ret_eq (u32_eq ?_), (Below.refl _ _).alloc (Nat.le_refl _) _⟩
      rw [not_u32 _ (rowN_lt _ _), behindN_eq hn, ← EM.out]

theorem size_tab : tab.size = 256 := size_tabC 256

/-- The contract of Sum. -/
theorem sum_any (A : Option Addr) (cap : Nat) (xs : List UInt8) (w : World) (hx : BytesAt w A xs) (hl : xs.length ≤ 140737488355328) :
    Calls Try.prog 72 #[.agg tab, .slice A xs.length cap] w fun e w' => e = .returned (.int .u32 (sumN xs)) ∧ Below w.heap.size w w' := by
  have hx2 : BytesAt (w.alloc (.cells tab 61)) A xs := hx.below ((Below.refl _ _).alloc (Nat.le_refl _) _)
  go_enter Try.func72, Try.ntmps72
  go_wp2_with (first
    | (refine wpList_load_row rfl 61 (.tmp 2) rfl w.heap.size rfl 61 tab (0, 0) _ (heap_alloc_new _ _) Try.underlying61 rfl (by rw [size_tab]; exact info64) ?_)
    | (go_at_call 77; refine (behind_any 0 (by omega) _ _ _ _ hx2 hl).mono ?_; rintro e w' ⟨rfl, hb⟩))
  go_ret
  exact ⟨rfl, ((Below.refl _ _).alloc (Nat.le_refl _) _).trans (hb.mono (by simp))⟩

theorem sum_len (A : Option Addr) (cap n : Nat) (xs : List UInt8) (w : World) (hn : xs.length = n) (hx : BytesAt w A xs) (hl : n ≤ 140737488355328) :
    Calls Try.prog 72 #[.agg tab, .slice A n cap] w fun e w' => e = .returned (.int .u32 (sumN xs)) ∧ Below w.heap.size w w' := by
  subst hn
  exact sum_any A cap xs w hx hl
theorem behind_len (s : Nat) (hs : s < 4294967296) (A : Option Addr) (cap n : Nat) (xs : List UInt8) (w : World) (hn : xs.length = n) (hx : BytesAt w A xs) (hl : n ≤ 140737488355328) :
    Calls Try.prog 77 #[.agg tab, .int .u32 s, .slice A n cap] w fun e w' => e = .returned (.int .u32 (behindN s xs)) ∧ Below w.heap.size w w' := by
  subst hn
  exact behind_any s hs A cap xs w hx hl

end Go.Proofs.Ytmmkmpjhmbocfaa

namespace Go.Proofs.Ytmmkmpjhmbocfaa
open Go.RowKit CrcM

theorem bit_walk (c : UInt8) (j : Nat) : bits BinOp.and IntKind.u32 ((c.toNat : Int) % 4294967296 / 2 ^ j) 1 = ((c.toNat / 2 ^ j % 2 : Nat) : Int) := by
  have hc := c.toNat_lt
  have e : ((c.toNat : Int) % 4294967296 / 2 ^ j) = ((c.toNat / 2 ^ j : Nat) : Int) := by
    rw [Int.emod_eq_of_lt (by omega) (by omega)]
    simp
  have hl : c.toNat / 2 ^ j < 4294967296 := Nat.lt_of_le_of_lt (Nat.div_le_self _ _) (by omega)
  rw [e, and1_u32 _ hl]

theorem ref_step (xs : List UInt8) (k : Nat) (hq : k / 8 < xs.length) (b : Bool)
    (h : (bits BinOp.and IntKind.u32 (rbitsN xs k : Int) 1 != bits BinOp.and IntKind.u32 ((xs[k / 8].toNat : Int) % 4294967296 / 2 ^ (k % 8)) 1) = b) :
    rbitsN xs (k + 1) = if b then (rbitsN xs k / 2) ^^^ 2197175160 else rbitsN xs k / 2 := by
  rw [bit_walk, and1_u32 _ (rbitsN_lt xs k)] at h
  have e : bitAt xs k = decide (xs[k / 8].toNat / 2 ^ (k % 8) % 2 = 1) := by
    unfold bitAt
    rw [Nat.testBit_eq_decide_div_mod_eq]
    simp [List.getD, List.getElem?_eq_getElem hq]
  have e2 : rbitsN xs (k + 1) = (bitStep (rbits xs k) (bitAt xs k)).toNat := rfl
  rw [e2, bitStep_cases, e]
  have e3 : (rbits xs k).toNat = rbitsN xs k := rfl
  rw [e3]
  generalize rbitsN xs k = r at *
  generalize xs[k / 8].toNat / 2 ^ (k % 8) = t at *
  subst h
  have h1 : r % 2 = 0 ∨ r % 2 = 1 := by omega
  have h2 : t % 2 = 0 ∨ t % 2 = 1 := by omega
  rcases h1 with h1 | h1 <;> rcases h2 with h2 | h2 <;> simp [h1, h2]

theorem xor_ones (n : Nat) (hn : n < 4294967296) : bits BinOp.xor IntKind.u32 (n : Int) 4294967295 = ((4294967295 - n : Nat) : Int) := by
  have e : bits BinOp.xor IntKind.u32 (n : Int) ((4294967295 : Nat) : Int) = ((n ^^^ 4294967295 : Nat) : Int) := u32_xor_nat _ _ hn (by omega)
  rw [Nat.xor_comm] at e
  have e3 : bits BinOp.xor IntKind.u32 ((4294967295 : Nat) : Int) (n : Int) = ((4294967295 ^^^ n : Nat) : Int) := u32_xor_nat _ _ (by omega) hn
  have e2 := not_u32 n hn
  rw [← e2]
  exact e.trans e3.symm

theorem xor_half (r : Nat) (hr : r < 4294967296) : bits BinOp.xor IntKind.u32 ((r : Int) / 2) 2197175160 = (((r / 2) ^^^ 2197175160 : Nat) : Int) :=
  u32_xor_nat (r / 2) 2197175160 (by omega) (by omega)

set_option maxRecDepth 100000 in
theorem ref_any (A : Option Addr) (cap : Nat) (xs : List UInt8) (w : World) (hx : BytesAt w A xs) (hl : xs.length ≤ 140737488355328) :
    Calls Try.prog 59 #[.slice A xs.length cap] w fun e w' => e = .returned (.int .u32 (sumN xs)) ∧ w = w' := by
  go_enter Try.func59, Try.ntmps59
  go_wp2_with fail
  go_loop [3, 4] (fun v i => ∃ k : Nat, k ≤ 8 * xs.length ∧ i = .int .i64 k ∧ v = .int .u32 (rbitsN xs k)) (fun _ i => 8 * xs.length - (intOf i).toNat)
  case atStart => exact ⟨0, by omega, rfl, by rw [rbitsN_zero]; rfl⟩
  case round =>
    obtain ⟨k, hk, rfl, rfl⟩ := hrel
    have hr := rbitsN_lt xs k
    by_cases hlt : k < 8 * xs.length
    · obtain ⟨b, off, rfl, hc⟩ := hx (by intro h; subst h; simp at hlt)
      have hq : k / 8 < xs.length := by omega
      have hck := hc (k / 8) hq
      clear hc
      go_wp2_with fail
      · go_round
        case rel =>
          refine ⟨k + 1, by omega, by go_num, ?_⟩
          rw [ref_step xs k hq true (by assumption), xor_half _ hr]
          rfl
        case measure => simp [intOf]; omega
      · go_round
        case rel =>
          refine ⟨k + 1, by omega, by go_num, ?_⟩
          rw [ref_step xs k hq false (by assumption)]
          rfl
        case measure => simp [intOf]; omega
    · go_wp2_with fail
      obtain rfl : k = 8 * xs.length := by omega
      go_ret
      refine ⟨ret_eq (u32_eq ?_), rfl⟩
      rw [← rbitsN_all]
      exact xor_ones _ hr

theorem ref_len (A : Option Addr) (cap n : Nat) (xs : List UInt8) (w : World) (hn : xs.length = n) (hx : BytesAt w A xs) (hl : n ≤ 140737488355328) :
    Calls Try.prog 59 #[.slice A n cap] w fun e w' => e = .returned (.int .u32 (sumN xs)) ∧ Below w.heap.size w w' := by
  subst hn
  exact (ref_any A cap xs w hx hl).mono fun _ _ ⟨he, hw⟩ => ⟨he, by rw [← hw]; exact Below.refl _ _⟩

end Go.Proofs.Ytmmkmpjhmbocfaa

namespace Go.Proofs.Ytmmkmpjhmbocfaa
open Go.RowKit CrcM

def digits : List UInt8 := [49, 50, 51, 52, 53, 54, 55, 56, 57]
theorem digits_sum : sumN digits = 3808858755 := by decide +kernel

theorem bytesAt_block {w : World} {g : Nat} {t : TypeId} {fr : Nat × Nat} (xs : List UInt8) (h : w.heap[g]? = some (.cells (xs.map fun c => Value.int .u8 (c.toNat : Int)).toArray t fr)) : BytesAt w (some ⟨g, 0, none⟩) xs := fun _ =>
  ⟨g, 0, rfl, fun k hk => by rw [cell_of_row w g (0 + k) _ t fr h]; simp [hk]⟩

end Go.Proofs.Ytmmkmpjhmbocfaa

namespace Go.Proofs.Ytmmkmpjhmbocfaa
open Go.RowKit CrcM
set_option linter.unusedVariables false

theorem info5 : (Try.prog.info? 5).map (fun i => (i.zero, i.size, i.bytes)) = some (some (.int .u8 0), 1, 1) := by kernel_rfl

/-- A place in a list, as the statements choose it. -/
theorem mod_place (a : Int) (n : Nat) (hn : n ≤ 4611686018427387904) : ∃ k : Nat, wrap64 ((IntKind.u64.wrap a).tmod ((n : Int) + 1)) = (k : Int) ∧ k ≤ n := by
  have h0 : 0 ≤ IntKind.u64.wrap a := by rw [IntKind.wrap_u64]; omega
  have h1 : (IntKind.u64.wrap a).tmod ((n : Int) + 1) = IntKind.u64.wrap a % ((n : Int) + 1) := Int.tmod_eq_emod_of_nonneg h0
  have h2 : 0 ≤ IntKind.u64.wrap a % ((n : Int) + 1) := Int.emod_nonneg _ (by omega)
  have h3 : IntKind.u64.wrap a % ((n : Int) + 1) < (n : Int) + 1 := Int.emod_lt_of_pos _ (by omega)
  refine ⟨(IntKind.u64.wrap a % ((n : Int) + 1)).toNat, ?_, by omega⟩
  rw [h1, IntWalk.wrap64_in _ ⟨by omega, by omega⟩]
  omega

end Go.Proofs.Ytmmkmpjhmbocfaa
