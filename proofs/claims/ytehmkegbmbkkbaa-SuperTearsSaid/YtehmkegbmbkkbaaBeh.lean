/- The calls Behind and Sum of package crc: their contracts. -/
import Derived.Test.YtehmkegbmbkkbaaCrc
namespace Go.Proofs.Ytehmkegbmbkkbaa
open Go.RowKit CrcM

/-! ### Behind, Sum -/

theorem tab_cell (w : World) (i : Nat) (hi : i < 256) : (w.alloc (.cells tab 61)).cell? ⟨w.heap.size, i, none⟩ = some (.int .u32 (tbN i)) := by
  rw [World.cell?_alloc_new, tab_get i hi]

theorem not_u32 (n : Nat) (hn : n < 4294967296) : bits BinOp.xor IntKind.u32 IntKind.u32.max (n : Int) = ((4294967295 - n : Nat) : Int) := by
  have e : bits BinOp.xor IntKind.u32 ((4294967295 : Nat) : Int) (n : Int) = ((4294967295 ^^^ n : Nat) : Int) := u32_xor_nat _ _ (by omega) hn
  have e2 : 4294967295 ^^^ n = 4294967295 - n := by
    have h1 := notN hn
    rw [← h1]
    have : (~~~ BitVec.ofNat 32 n) = BitVec.ofNat 32 4294967295 ^^^ BitVec.ofNat 32 n := by
      rw [show BitVec.ofNat 32 4294967295 = BitVec.allOnes 32 from rfl, BitVec.allOnes_xor]
    rw [this, BitVec.toNat_xor, BitVec.toNat_ofNat, BitVec.toNat_ofNat, Nat.mod_eq_of_lt hn]
  rw [e2] at e
  exact e

theorem byteN_walk (m : Nat) (hm : m < 4294967296) (c : UInt8) : bits BinOp.xor IntKind.u32 ((m : Int) / 256) (tbN ((m % 256) ^^^ c.toNat)) = (byteN m c : Int) := by
  have e : bits BinOp.xor IntKind.u32 ((m / 256 : Nat) : Int) ((tbN ((m % 256) ^^^ c.toNat) : Nat) : Int) = _ := u32_xor_nat _ _ (by omega) (tbN_lt _)
  rw [show ((m : Int) / 256) = ((m / 256 : Nat) : Int) from rfl, e]
  unfold byteN byteStep tbN
  rw [BitVec.toNat_xor, BitVec.toNat_ushiftRight, BitVec.toNat_ofNat, Nat.mod_eq_of_lt hm, Nat.shiftRight_eq_div_pow]

theorem ix_walk (m : Nat) (c : UInt8) : bits BinOp.xor IntKind.u8 ((m : Int) % 256) (c.toNat : Int) = (((m % 256) ^^^ c.toNat : Nat) : Int) :=
  u8_xor_nat (m % 256) c.toNat (Nat.mod_lt _ (by omega)) (by have := c.toNat_lt; omega)
theorem ix_lt (m : Nat) (c : UInt8) : (m % 256) ^^^ c.toNat < 256 :=
  Nat.xor_lt_two_pow (n := 8) (by omega) (by have := c.toNat_lt; omega)

set_option maxRecDepth 100000 in
theorem behind_any (n : Nat) (hn : n < 4294967296) (A : Option Addr) (cap : Nat) (xs : List UInt8) (w : World) (hx : BytesAt w A xs) (hl : xs.length ≤ 140737488355328) :
    Calls Try.prog 77 #[.agg tab, .int .u32 n, .slice A xs.length cap] w fun e w' => e = .returned (.int .u32 (behindN n xs)) ∧ Below w.heap.size w w' := by
  obtain ⟨m, em⟩ : ∃ m : Nat, m = 4294967295 - n := ⟨_, rfl⟩
  have hm : m < 4294967296 := by omega
  have hnot : bits BinOp.xor IntKind.u32 IntKind.u32.max (n : Int) = (m : Int) := by
    subst em
    exact not_u32 n hn
  have EM := Lib.hid em
  clear em
  go_enter Try.func77, Try.ntmps77
  go_wp2_with fail
  go_loop [7, 14] (fun v i => ∃ k : Nat, k ≤ xs.length ∧ i = .int .i64 k ∧ v = .int .u32 (rowN m (xs.take k))) (fun _ i => xs.length - (intOf i).toNat)
  case atStart => exact ⟨0, by omega, rfl, by rw [List.take_zero, rowN_nil hm]⟩
  case round =>
    obtain ⟨k, hk, rfl, rfl⟩ := hrel
    have hr := rowN_lt m (xs.take k)
    by_cases hlt : k < xs.length
    · obtain ⟨b, off, rfl, hc⟩ := hx (by intro h; subst h; simp at hlt)
      have hck := hc k hlt
      clear hc
      have hblt := World.block_lt_of_cell? w _ hck
      obtain ⟨j, ej⟩ : ∃ j : Nat, j = (rowN m (xs.take k) % 256) ^^^ xs[k].toNat := ⟨_, rfl⟩
      have hj : j < 256 := by rw [ej]; exact ix_lt _ _
      have hix : bits BinOp.xor IntKind.u8 ((rowN m (xs.take k) : Int) % 256) (xs[k].toNat : Int) = (j : Int) := by rw [ej]; exact ix_walk _ _
      have htc := tab_cell w j hj
      have EJ := Lib.hid ej
      clear ej
      go_wp2_with fail
      go_round
      case rel =>
        refine ⟨k + 1, by omega, by go_num, ?_⟩
        rw [EJ.out, byteN_walk _ hr, rowN_snoc, List.take_append_getElem]
      case measure => simp [intOf]; omega
    · obtain rfl : k = xs.length := by omega
      go_wp2_with fail
      go_ret
      refine ⟨ret_eq (u32_eq ?_), (Below.refl _ _).alloc (Nat.le_refl _) _⟩
      rw [not_u32 _ (rowN_lt _ _), behindN_eq hn, ← EM.out]

theorem size_tab : tab.size = 256 := size_tabC 256

/-- The contract of Sum. -/
theorem sum_any (A : Option Addr) (cap : Nat) (xs : List UInt8) (w : World) (hx : BytesAt w A xs) (hl : xs.length ≤ 140737488355328) :
    Calls Try.prog 72 #[.agg tab, .slice A xs.length cap] w fun e w' => e = .returned (.int .u32 (sumN xs)) ∧ Below w.heap.size w w' := by
  have hx2 : BytesAt (w.alloc (.cells tab 61)) A xs := hx.below ((Below.refl _ _).alloc (Nat.le_refl _) _)
  go_enter Try.func72, Try.ntmps72
  go_wp2_with (first
    | (refine wpList_load_row rfl 61 (.tmp 2) rfl w.heap.size rfl 61 tab (0, 0) _ (heap_alloc_new _ _) Try.underlying61 rfl (by rw [size_tab]; exact info64) ?_)
    | (go_at_call 77; refine (behind_any 0 (by omega) _ _ _ _ hx2 hl).mono ?_; rintro e w' ⟨rfl, hb⟩))
  go_ret
  exact ⟨rfl, ((Below.refl _ _).alloc (Nat.le_refl _) _).trans (hb.mono (by simp))⟩

theorem sum_len (A : Option Addr) (cap n : Nat) (xs : List UInt8) (w : World) (hn : xs.length = n) (hx : BytesAt w A xs) (hl : n ≤ 140737488355328) :
    Calls Try.prog 72 #[.agg tab, .slice A n cap] w fun e w' => e = .returned (.int .u32 (sumN xs)) ∧ Below w.heap.size w w' := by
  subst hn
  exact sum_any A cap xs w hx hl
theorem behind_len (s : Nat) (hs : s < 4294967296) (A : Option Addr) (cap n : Nat) (xs : List UInt8) (w : World) (hn : xs.length = n) (hx : BytesAt w A xs) (hl : n ≤ 140737488355328) :
    Calls Try.prog 77 #[.agg tab, .int .u32 s, .slice A n cap] w fun e w' => e = .returned (.int .u32 (behindN s xs)) ∧ Below w.heap.size w w' := by
  subst hn
  exact behind_any s hs A cap xs w hx hl

end Go.Proofs.Ytehmkegbmbkkbaa
