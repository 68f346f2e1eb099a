/- Several texts in one: The calls of package crc, and the reference's sum, as contracts: what each answers, and that nothing that was there is changed. The calls Behind and Sum of package crc: their contracts. The calls of package varint and of its reference: their contracts. The built-in copy of bytes into a row that the call owns. No program is named here. A region that draws its order, where what touches memory comes in one forced order, and all else only reads what no one there writes: walked once, in an order of one's own. No program is named here. A region that draws its order, where now and then one of two may come next: both ways are walked. No program is named here. -/
import Derived.Test.YtgkddhncfaeidaaChecked
import Derived.Test.YtgkddhncfaeidaaPart02
import Derived.Test.YtgkddhncfaeidaaPart00
import Derived.WalkKit
import Derived.WalkLawsBesides
import Derived.WalkSpells
import Derived.Handy
import Derived.KernelRfl
import Derived.Lib.MinMax
import Derived.Lib.SlBytesConst
import Derived.Lib.BufferMore
import Derived.Laws.CopyOwn
import Derived.OrdersHeld
import Derived.Deep.RegionHeld3
set_option linter.unusedSimpArgs false
set_option linter.unusedVariables false
namespace Go.Proofs.Ytgkddhncfaeidaa
open Go.RowKit CrcM

theorem ret_eq {u v : Value} (h : u = v) : Ending.returned u = Ending.returned v := by rw [h]
theorem u32_eq {a b : Int} (h : a = b) : Value.int .u32 a = Value.int .u32 b := by rw [h]

theorem and1_u32 (n : Nat) (hn : n < 4294967296) : bits BinOp.and IntKind.u32 (n : Int) 1 = ((n % 2 : Nat) : Int) := by
  have e : bits BinOp.and IntKind.u32 (n : Int) ((1 : Nat) : Int) = ((n &&& 1 : Nat) : Int) := u32_and_nat _ _ hn (by omega)
  rw [Nat.and_one_is_mod] at e
  exact e

theorem stpN_cases (n : Nat) (hn : n < 4294967296) : stpN n = if n % 2 = 1 then (n / 2) ^^^ 2197175160 else n / 2 := by
  have e : (BitVec.ofNat 32 n).toNat = n := by rw [BitVec.toNat_ofNat]; exact Nat.mod_eq_of_lt hn
  have e0 : (BitVec.ofNat 32 n).getLsbD 0 = decide (n % 2 = 1) := by
    rw [← BitVec.testBit_toNat, e, Nat.testBit_zero]
  unfold stpN stp
  rw [e0]
  by_cases h : n % 2 = 1
  · simp only [h, decide_true, if_true]
    rw [BitVec.toNat_xor, BitVec.toNat_ushiftRight, e, Nat.shiftRight_eq_div_pow]
    rfl
  · simp only [h, decide_false, if_false, Bool.false_eq_true]
    rw [BitVec.toNat_ushiftRight, e, Nat.shiftRight_eq_div_pow]

theorem stp_odd_walk (n : Nat) (hn : n < 4294967296) (h : n % 2 = 1) : bits BinOp.xor IntKind.u32 ((n : Int) / 2) 2197175160 = (stpN n : Int) := by
  rw [stpN_cases n hn, if_pos h]
  exact u32_xor_nat (n / 2) 2197175160 (by omega) (by omega)

theorem stp_even_walk (n : Nat) (hn : n < 4294967296) (h : ¬ n % 2 = 1) : (n : Int) / 2 = (stpN n : Int) := by
  rw [stpN_cases n hn, if_neg h]
  rfl

theorem step_any (n : Nat) (hn : n < 4294967296) (w : World) : Calls Try.prog 74 #[.int .u32 n] w fun e w' => e = .returned (.int .u32 (stpN n)) ∧ w = w' := by
  go_enter Try.func74, Try.ntmps74
  go_wp2
  · have h : (bits BinOp.and IntKind.u32 (n : Int) 1 == 1) = true := by assumption
    go_ret
    refine ⟨ret_eq (u32_eq (stp_odd_walk n hn ?_)), rfl⟩
    rw [and1_u32 n hn] at h
    simp at h
    omega
  · have h : (bits BinOp.and IntKind.u32 (n : Int) 1 == 1) = false := by assumption
    go_ret
    refine ⟨ret_eq (u32_eq (stp_even_walk n hn ?_)), rfl⟩
    rw [and1_u32 n hn] at h
    simp at h
    omega

/-! ### New -/

/-- The table's cells, the first k of which stand. -/
def tabC (k : Nat) : Array Value := Array.ofFn (n := 256) fun i => .int .u32 (if i.val < k then (tbN i.val : Int) else 0)
/-- The table. -/
def tab : Array Value := tabC 256

theorem size_tabC (k : Nat) : (tabC k).size = 256 := by simp [tabC]
theorem tabC_get (k i : Nat) (hi : i < 256) : (tabC k)[i]? = some (.int .u32 (if i < k then (tbN i : Int) else 0)) := by
  simp [tabC, hi]
theorem tab_get (i : Nat) (hi : i < 256) : tab[i]? = some (.int .u32 (tbN i)) := by
  unfold tab
  rw [tabC_get 256 i hi, if_pos hi]
theorem tabC_set (k : Nat) (hk : k < 256) : (tabC k).setIfInBounds k (.int .u32 (tbN k)) = tabC (k + 1) := by
  apply Array.ext_getElem?
  intro i
  by_cases hi : i < 256
  · rw [tabC_get (k + 1) i hi]
    by_cases h : k = i
    · subst h
      simp [size_tabC, hk]
    · rw [Array.getElem?_setIfInBounds_ne h, tabC_get k i hi]
      by_cases h1 : i < k
      · simp [h1, show i < k + 1 by omega]
      · simp [h1, show ¬ i < k + 1 by omega]
  · have h1 : (tabC (k + 1))[i]? = none := by simp [size_tabC]; omega
    rw [h1]
    simp [size_tabC]; omega
theorem zero64 : Try.zeroCells111 = tabC 0 := by
  apply Array.ext_getElem?
  intro i
  have hz : Try.zeroCells111 = Array.replicate 256 (.int .u32 0) := by kernel_rfl
  rw [hz, Array.getElem?_replicate]
  by_cases hi : i < 256
  · rw [tabC_get 0 i hi, if_pos hi, if_neg (by omega)]
  · have h1 : (tabC 0)[i]? = none := by simp [size_tabC]; omega
    rw [h1, if_neg hi]

theorem info64 : (Try.prog.info? 111).map (·.size) = some 256 := by kernel_rfl
theorem tab_one (k : Nat) : (tabC k).all (·.oneCell') = true := by
  rw [Array.all_eq_true_iff_forall_mem]
  intro v hv
  simp only [tabC, Array.mem_ofFn] at hv
  obtain ⟨i, rfl⟩ := hv
  rfl
theorem below_setRow {B : Nat} {a w : World} (h : Below B a w) {g : Nat} (hg : B ≤ g) (c : Array Value) : Below B a (w.setRow g c) :=
  h.trans ⟨rfl, rfl, rfl, by simp, fun k hk => setRow_other _ _ _ _ (by omega)⟩

set_option maxRecDepth 100000 in
theorem new_any (w : World) : Calls Try.prog 54 #[] w fun e w' => e = .returned (.agg tab) ∧ Below w.heap.size w w' := by
  go_enter Try.func54, Try.ntmps54
  go_wp2_with fail
  rw [zero64]
  go_loopw [4] (fun i wr => ∃ k : Nat, k ≤ 256 ∧ i = .int .i64 k ∧ wr = (w.alloc (.cells (tabC 0) 111)).alloc (.cells (tabC k) 111)) (fun i _ => 256 - (intOf i).toNat)
  case atStart => exact ⟨0, by omega, rfl, rfl⟩
  case round =>
    obtain ⟨k, hk, rfl, rfl⟩ := hrel
    by_cases hlt : k < 256
    · have hd : decide ((k : Int) < 256) = true := by simp; omega
      go_wp2_with fail
      go_loop [3, 9] (fun n j => ∃ m : Nat, m ≤ 8 ∧ j = .int .i64 m ∧ n = .int .u32 (stpsN m k)) (fun _ j => 8 - (intOf j).toNat)
      case atStart => exact ⟨0, by omega, rfl, by rw [stpsN_zero (by omega)]⟩
      case round =>
        obtain ⟨m, hm, rfl, rfl⟩ := hrel
        have hb := stpsN_lt m k
        by_cases hm8 : m < 8
        · go_wp2_with (go_at_call 74; refine (step_any _ hb _).mono ?_; rintro e w' ⟨rfl, rfl⟩)
          go_round
          case rel => exact ⟨m + 1, by omega, by go_num, by rw [stpsN_succ]⟩
          case measure => simp [intOf]; omega
        · obtain rfl : m = 8 := by omega
          have hc : (tabC k)[k]? = some (.int .u32 0) := by rw [tabC_get k k hlt, if_neg (by omega)]
          have hset := tabC_set k hlt
          rw [← stpsN_tb] at hset
          have HS := Lib.hid hset
          clear hset
          go_wp2_with fail
          rw [HS.out]
          go_roundw
          case rel => exact ⟨k + 1, by omega, by go_num, rfl⟩
          case measure => simp [intOf]; omega
    · obtain rfl : k = 256 := by omega
      go_wp2_with (first
        | (refine wpList_load_row rfl 111 (.tmp 1) rfl (w.heap.size + 1) rfl 111 (tabC 256) (0, 0) _ (heap_alloc2_new _ _ _) Try.underlying111 rfl (by rw [size_tabC]; exact info64) ?_)
        | (refine wpList_store_row rfl 111 (.tmp 0) (.tmp 18) rfl w.heap.size (tabC 256) rfl rfl 111 (tabC 0) (heap_alloc2_old _ _ _) (by rw [size_tabC]; exact info64) (by rw [size_tabC, size_tabC]) (tab_one _) ?_))
      refine bodyPost_ret (v := .agg tab) (results_cell_row (p := 0) (ty := 111) rfl _ _ w.heap.size 111 (tabC 256) (0, 0) _ rfl (setRow_heap _ _ (tabC 0) _ _ _ (heap_alloc2_old _ _ _)) Try.underlying111 rfl (by rw [size_tabC]; exact info64)) rfl ⟨rfl, ?_⟩
      exact below_setRow (((Below.refl _ _).alloc (Nat.le_refl _) _).alloc (by simp) _) (Nat.le_refl _) _

end Go.Proofs.Ytgkddhncfaeidaa

namespace Go.Proofs.Ytgkddhncfaeidaa
open Go.RowKit CrcM

/-! ### Behind, Sum -/

theorem tab_cell (w : World) (i : Nat) (hi : i < 256) : (w.alloc (.cells tab 111)).cell? ⟨w.heap.size, i, none⟩ = some (.int .u32 (tbN i)) := by
  rw [World.cell?_alloc_new, tab_get i hi]

theorem not_u32 (n : Nat) (hn : n < 4294967296) : bits BinOp.xor IntKind.u32 IntKind.u32.max (n : Int) = ((4294967295 - n : Nat) : Int) := by
  have e : bits BinOp.xor IntKind.u32 ((4294967295 : Nat) : Int) (n : Int) = ((4294967295 ^^^ n : Nat) : Int) := u32_xor_nat _ _ (by omega) hn
  have e2 : 4294967295 ^^^ n = 4294967295 - n := by
    have h1 := notN hn
    rw [← h1]
    have : (~~~ BitVec.ofNat 32 n) = BitVec.ofNat 32 4294967295 ^^^ BitVec.ofNat 32 n := by
      rw [show BitVec.ofNat 32 4294967295 = BitVec.allOnes 32 from rfl, BitVec.allOnes_xor]
    rw [this, BitVec.toNat_xor, BitVec.toNat_ofNat, BitVec.toNat_ofNat, Nat.mod_eq_of_lt hn]
  rw [e2] at e
  exact e

theorem byteN_walk (m : Nat) (hm : m < 4294967296) (c : UInt8) : bits BinOp.xor IntKind.u32 ((m : Int) / 256) (tbN ((m % 256) ^^^ c.toNat)) = (byteN m c : Int) := by
  have e : bits BinOp.xor IntKind.u32 ((m / 256 : Nat) : Int) ((tbN ((m % 256) ^^^ c.toNat) : Nat) : Int) = _ := u32_xor_nat _ _ (by omega) (tbN_lt _)
  rw [show ((m : Int) / 256) = ((m / 256 : Nat) : Int) from rfl, e]
  unfold byteN byteStep tbN
  rw [BitVec.toNat_xor, BitVec.toNat_ushiftRight, BitVec.toNat_ofNat, Nat.mod_eq_of_lt hm, Nat.shiftRight_eq_div_pow]

theorem ix_walk (m : Nat) (c : UInt8) : bits BinOp.xor IntKind.u8 ((m : Int) % 256) (c.toNat : Int) = (((m % 256) ^^^ c.toNat : Nat) : Int) :=
  u8_xor_nat (m % 256) c.toNat (Nat.mod_lt _ (by omega)) (by have := c.toNat_lt; omega)
theorem ix_lt (m : Nat) (c : UInt8) : (m % 256) ^^^ c.toNat < 256 :=
  Nat.xor_lt_two_pow (n := 8) (by omega) (by have := c.toNat_lt; omega)

set_option maxRecDepth 100000 in
theorem behind_any (n : Nat) (hn : n < 4294967296) (A : Option Addr) (cap : Nat) (xs : List UInt8) (w : World) (hx : BytesAt w A xs) (hl : xs.length ≤ 140737488355328) :
    Calls Try.prog 123 #[.agg tab, .int .u32 n, .slice A xs.length cap] w fun e w' => e = .returned (.int .u32 (behindN n xs)) ∧ Below w.heap.size w w' := by
  obtain ⟨m, em⟩ : ∃ m : Nat, m = 4294967295 - n := ⟨_, rfl⟩
  have hm : m < 4294967296 := by omega
  have hnot : bits BinOp.xor IntKind.u32 IntKind.u32.max (n : Int) = (m : Int) := by
    subst em
    exact not_u32 n hn
  have EM := Lib.hid em
  clear em
  go_enter Try.func123, Try.ntmps123
  go_wp2_with fail
  go_loop [7, 14] (fun v i => ∃ k : Nat, k ≤ xs.length ∧ i = .int .i64 k ∧ v = .int .u32 (rowN m (xs.take k))) (fun _ i => xs.length - (intOf i).toNat)
  case atStart => exact ⟨0, by omega, rfl, by rw [List.take_zero, rowN_nil hm]⟩
  case round =>
    obtain ⟨k, hk, rfl, rfl⟩ := hrel
    have hr := rowN_lt m (xs.take k)
    by_cases hlt : k < xs.length
    · obtain ⟨b, off, rfl, hc⟩ := hx (by intro h; subst h; simp at hlt)
      have hck := hc k hlt
      clear hc
      have hblt := World.block_lt_of_cell? w _ hck
      obtain ⟨j, ej⟩ : ∃ j : Nat, j = (rowN m (xs.take k) % 256) ^^^ xs[k].toNat := ⟨_, rfl⟩
      have hj : j < 256 := by rw [ej]; exact ix_lt _ _
      have hix : bits BinOp.xor IntKind.u8 ((rowN m (xs.take k) : Int) % 256) (xs[k].toNat : Int) = (j : Int) := by rw [ej]; exact ix_walk _ _
      have htc := tab_cell w j hj
      have EJ := Lib.hid ej
      clear ej
      go_wp2_with fail
      go_round
      case rel =>
        refine ⟨k + 1, by omega, by go_num, ?_⟩
        rw [EJ.out, byteN_walk _ hr, rowN_snoc, List.take_append_getElem]
      case measure => simp [intOf]; omega
    · obtain rfl : k = xs.length := by omega
      go_wp2_with fail
      go_ret
      refine ⟨ret_eq (u32_eq ?_), (Below.refl _ _).alloc (Nat.le_refl _) _⟩
      rw [not_u32 _ (rowN_lt _ _), behindN_eq hn, ← EM.out]

theorem size_tab : tab.size = 256 := size_tabC 256

/-- The contract of Sum. -/
theorem sum_any (A : Option Addr) (cap : Nat) (xs : List UInt8) (w : World) (hx : BytesAt w A xs) (hl : xs.length ≤ 140737488355328) :
    Calls Try.prog 116 #[.agg tab, .slice A xs.length cap] w fun e w' => e = .returned (.int .u32 (sumN xs)) ∧ Below w.heap.size w w' := by
  have hx2 : BytesAt (w.alloc (.cells tab 111)) A xs := hx.below ((Below.refl _ _).alloc (Nat.le_refl _) _)
  go_enter Try.func116, Try.ntmps116
  go_wp2_with (first
    | (refine wpList_load_row rfl 111 (.tmp 2) rfl w.heap.size rfl 111 tab (0, 0) _ (heap_alloc_new _ _) Try.underlying111 rfl (by rw [size_tab]; exact info64) ?_)
    | (go_at_call 123; refine (behind_any 0 (by omega) _ _ _ _ hx2 hl).mono ?_; rintro e w' ⟨rfl, hb⟩))
  go_ret
  exact ⟨rfl, ((Below.refl _ _).alloc (Nat.le_refl _) _).trans (hb.mono (by simp))⟩

theorem sum_len (A : Option Addr) (cap n : Nat) (xs : List UInt8) (w : World) (hn : xs.length = n) (hx : BytesAt w A xs) (hl : n ≤ 140737488355328) :
    Calls Try.prog 116 #[.agg tab, .slice A n cap] w fun e w' => e = .returned (.int .u32 (sumN xs)) ∧ Below w.heap.size w w' := by
  subst hn
  exact sum_any A cap xs w hx hl
end Go.Proofs.Ytgkddhncfaeidaa

namespace Go.Proofs.Ytgkddhncfaeidaa
open Go.RowKit
set_option linter.unusedVariables false

theorem infoU8 : (Try.prog.info? 5).map (fun i => (i.zero, i.size, i.bytes)) = some (some (.int .u8 0), 1, 1) := by kernel_rfl
theorem ret_eq_d0 {u v : Value} (h : u = v) : Ending.returned u = Ending.returned v := by rw [h]
/-! ### bytes.Clone -/

theorem clone_nil (w : World) : Calls Try.prog 86 #[.slice none 0 0] w fun e w' => e = .returned (.slice none 0 0) ∧ w = w' := by
  have hnil : ∀ W, (binOp .eql 27 (.slice none 0 0) (.slice none 0 0)).run Try.prog W = .ok (.bool true) W := fun W => Lib.run_eql_slice_nil_nil W _ _ Try.underlying27
  go_enter Try.func86, Try.ntmps86
  go_wp2
  go_ret
  exact ⟨rfl, rfl⟩

theorem clone_some (A : Addr) (n c : Nat) (xs : List UInt8) (w : World) (hn : xs.length = n) (hx : BytesAt w (some A) xs) (hl : n ≤ 140737488355328) :
    Calls Try.prog 86 #[.slice (some A) n c] w fun e w' => ∃ A' c', e = .returned (.slice A' n c') ∧ OwnS w' w.heap.size (.slice A' n c') 5 xs ∧ Below w.heap.size w w' := by
  have hb : Below w.heap.size w (w.alloc (.cells #[] 5)) := (Below.refl _ _).alloc (Nat.le_refl _) _
  have hown := OwnS.new w 5 [] w.heap.size (Nat.le_refl _) (by simp)
  have hnil : ∀ W, (binOp .eql 27 (.slice (some A) n c) (.slice none 0 0)).run Try.prog W = .ok (.bool false) W := fun W => Lib.run_eql_slice_some_nil W _ _ _ Try.underlying27
  go_enter Try.func86, Try.ntmps86
  go_wp2_with (at_builtin; refine wpList_append_s rfl (.tmp 5) (.tmp 6) 27 rfl Try.underlying27 infoU8 rfl hown _ _ _ xs rfl hn (hx.below hb) (by simpa using hl) (by simp) ?_; intro A' c' w1 ho1 hg1)
  go_ret
  rw [List.nil_append, hn] at *
  exact ⟨A', c', rfl, ho1, hown.belowGrown (Nat.le_refl _) (by simp) hb hg1⟩

theorem clone_any (A : Option Addr) (n c : Nat) (xs : List UInt8) (w : World) (hn : xs.length = n) (hx : BytesAt w A xs) (hl : n ≤ 140737488355328) (h0 : A = none → n = 0 ∧ c = 0) :
    Calls Try.prog 86 #[.slice A n c] w fun e w' => ∃ A' c', e = .returned (.slice A' n c') ∧ OwnS w' w.heap.size (.slice A' n c') 5 xs ∧ Below w.heap.size w w' := by
  cases A with
  | none =>
    obtain ⟨rfl, rfl⟩ := h0 rfl
    obtain rfl := List.eq_nil_of_length_eq_zero hn
    refine (clone_nil w).mono ?_
    rintro e w' ⟨rfl, rfl⟩
    exact ⟨none, 0, rfl, OwnS.nil _ _ _, Below.refl _ _⟩
  | some a => exact clone_some a n c xs w hn hx hl
end Go.Proofs.Ytgkddhncfaeidaa

namespace Go.Proofs.Ytgkddhncfaeidaa
open Go.RowKit

theorem take_map_take {cur : List Value} {xs : List UInt8} (h : cur.take xs.length = xs.map bv) (k : Nat) (hk : k ≤ xs.length) : cur.take k = (xs.take k).map bv := by
  have := congrArg (List.take k) h
  rw [List.take_take, Nat.min_eq_left hk] at this
  rw [this, List.map_take]

theorem own_splice {w w' : World} {base g cap : Nat} {E : TypeId} {pre ys rest : List UInt8} {cur : Array Value} (hown : OwnB w base g cap E (pre ++ rest)) (hcur : w.heap[g]? = some (.cells cur E (0, 0)))
    (hw' : w'.heap[g]? = some (.cells (cur.toList.take pre.length ++ (ys.map bv ++ cur.toList.drop (pre.length + ys.length))).toArray E (0, 0))) (hfit : ys.length ≤ rest.length) :
    OwnB w' base g cap E (pre ++ ys ++ rest.drop ys.length) := by
  obtain ⟨hb, hn, hm, cur', hh, hs, ht⟩ := hown.parts
  rw [hcur] at hh
  injection hh with hh
  injection hh with hh _
  subst hh
  have hsz : cur.toList.length = cap := by simpa using hs
  have hlen : (pre ++ ys ++ rest.drop ys.length).length = (pre ++ rest).length := by simp; omega
  simp only [List.length_append] at hn
  refine ⟨by simp, .inr ⟨g, cap, _, rfl, hb, hw', by rw [hlen]; simpa using hn, hm, ?_, ?_⟩⟩
  · simp; omega
  · rw [hlen, Nat.mul_one, List.length_append]
    have h1 := take_map_take ht pre.length (by simp)
    rw [List.take_left'  rfl] at h1
    have h2 : (cur.toList.drop (pre.length + ys.length)).take (rest.length - ys.length) = (rest.drop ys.length).map bv := by
      have := congrArg (List.drop (pre.length + ys.length)) ht
      rw [List.drop_take, List.length_append, show pre.length + rest.length - (pre.length + ys.length) = rest.length - ys.length by omega] at this
      rw [this, ← List.map_drop, List.drop_append, List.drop_eq_nil_of_le (by omega), List.nil_append, show pre.length + ys.length - pre.length = ys.length by omega]
    rw [h1, List.take_append, List.take_of_length_le (by simp), List.take_append, List.take_of_length_le (by simp; omega)]
    simp only [List.length_map]
    rw [show pre.length + rest.length - pre.length - ys.length = rest.length - ys.length by omega, h2]
    simp only [List.map_append, List.append_assoc]

theorem wpList_copy_bytes {P : Program} {w : World} {ops : Array Oper} {rest : List Oper} {o : Oper} {a : Act} {Q : Exit → Act → World → Prop} (hgd : o.guard = none) (d s : Operand) (dT sT : TypeId)
    (ho : o.op = .call { callee := .builtin .copy, args := #[d, s], argTypes := #[dT, sT] }) (E : TypeId) (hu : P.underlying dT = some (.slice E)) (hsz : (P.info? E).map (·.size) = some 1)
    (base g cap off L c : Nat) (A : Option Addr) (m sc : Nat) (pre tl ys : List UInt8) (hd : a.eval d = .slice (some ⟨g, off, none⟩) L c) (hs : a.eval s = .slice A m sc)
    (hoff : off = pre.length) (hown : OwnB w base g cap E (pre ++ tl)) (hy : BytesAt w A ys) (hm : ys.length = m) (hL : m ≤ L) (hfit : m ≤ tl.length)
    (h : ∀ w', OwnB w' base g cap E (pre ++ ys ++ tl.drop m) → w.grownBy w' (some g) → wpList P ops Q rest (a.put o.dst (goInt (m : Int))) w') : wpList P ops Q (o :: rest) a w := by
  subst hoff
  subst hm
  by_cases h0 : ys = []
  · subst h0
    refine wpList_copy_nothing hgd d s dT sT ho E hu hsz _ _ L c _ sc hd hs (Nat.zero_min _) ?_
    exact h w (by simpa using hown) (World.grownBy.refl w _)
  · obtain ⟨ad, rfl, hc⟩ := byteV_cells hy h0
    obtain ⟨hb, hn, hmx, cur, hh, hs2, ht⟩ := hown.parts
    simp only [List.length_append] at hn
    refine wpList_copy_own hgd d s dT sT ho E hu hsz g pre.length L c ad _ sc hd hs cur E hh (ys.map bv) (by rw [List.length_map]; exact (Nat.min_eq_left hL).symm) hc (by simp; omega) (bv_one ys) ?_
    have hgr : w.grownBy (w.setRow g (cur.toList.take pre.length ++ (ys.map bv ++ cur.toList.drop (pre.length + (ys.map bv).length))).toArray) (some g) :=
      ⟨rfl, rfl, rfl, by simp, fun k hk hne => setRow_other _ _ _ _ (fun e => hne (by rw [e]))⟩
    have := h _ (own_splice hown hh (by have := setRow_heap w g cur (cur.toList.take pre.length ++ (ys.map bv ++ cur.toList.drop (pre.length + (ys.map bv).length))).toArray E (0, 0) hh; rw [List.length_map] at this; rw [List.length_map]; exact this) hfit) hgr
    rw [List.length_map]
    rw [List.length_map] at this
    exact this
end Go.Proofs.Ytgkddhncfaeidaa

namespace Go.Proofs.Ytgkddhncfaeidaa
open Go.RowKit

theorem andThen_value {m : Result Value} {n : Next} {w' : World} (h : (m.andThen fun a w => Result.ok (Next.value a) w) = .ok n w') : ∃ u, n = .value u := by
  cases m with
  | ok v w => simp [Result.andThen] at h; exact ⟨v, h.1.symm⟩
  | halt x w => simp [Result.andThen] at h

section
variable {P : Program} {ops : Array Oper} {md : Region.Mode} {S : World → Prop}

def opAt (ops : Array Oper) (i : Nat) : Oper := (ops[i]?).getD ⟨none, .move (.const undef), 0, "", #[], none⟩

theorem opAt_some {i : Nat} (h : i < ops.size) : ops[i]? = some (opAt ops i) := by
  unfold opAt
  rw [Array.getElem?_eq_getElem h]
  rfl

end
end Go.Proofs.Ytgkddhncfaeidaa

namespace Go.Proofs.Ytgkddhncfaeidaa
open Go.RowKit

section
variable {P : Program} {ops : Array Oper} {md : Region.Mode} {S : World → Prop}

theorem wpOp_of_one {Q : Exit → Act → World → Prop} {K K' : Act → World → Prop} {j : Nat} {a : Act} {w : World} (hj : j < ops.size) (hK : ∀ a2 w2, K a2 w2 → K' a2 w2)
    (ha : wpList P ops (Exit.then K (NoPanic Q)) [opAt ops j] a w) : wpOp P ops (NoPanic Q) j K' a w := by
  unfold wpOp
  rw [opAt_some hj]
  simp only [wpList] at ha
  have key : ∀ a2 w2, Exit.then K (NoPanic Q) .normal a2 w2 → K' a2 w2 := fun a2 w2 h2 => hK _ _ h2
  simp only
  split at ha
  · rename_i hw
    rw [if_pos hw]
    rcases ha with ha | ⟨h1, h2⟩
    · left
      unfold Oper.wp at *
      generalize (execOp a.eval (opAt ops j)).run P w = x at *
      cases x with
      | ok n w3 =>
        cases n <;> simp only [Oper.upon] at ha ⊢
        case value u => exact key _ _ ha
        case skip => exact key _ _ ha
        case defer d => exact key _ _ ha
        case enter f args =>
          refine Calls.mono ha fun e w'' he => ?_
          cases e with
          | returned u => exact key _ _ he
          | panicked c => exact he
          | outgrown => exact he
        case row row args => exact Rows.mono ha fun u w'' he => key _ _ he
      | halt x w3 => cases x <;> simp only [Oper.upon] at ha ⊢ <;> exact ha
    · right
      exact ⟨h1, h2⟩
  · rename_i hw
    rw [if_neg hw]
    exact key _ _ ha

theorem ready_lt {l : Array Bool} {i : Nat} (h : i ∈ Region.ready md ops l) : i < ops.size := by
  obtain ⟨_, o, ho, _⟩ := mem_ready.1 h
  exact (Array.getElem?_eq_some_iff.1 ho).1

end
end Go.Proofs.Ytgkddhncfaeidaa
