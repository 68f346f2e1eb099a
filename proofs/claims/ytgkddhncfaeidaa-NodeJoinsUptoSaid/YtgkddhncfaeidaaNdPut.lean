/- Package node's calls that lay numbers as bytes: their contracts. -/
import Derived.Test.YtgkddhncfaeidaaChecked
import Derived.Test.YtgkddhncfaeidaaGrow
import Derived.Lib.MinMax
import Derived.Lib.SlBytesConst
import Derived.Lib.BufferMore
import Derived.KernelRfl
import Derived.Handy
import Derived.WalkSpells
import Derived.WalkLawsBesides
import Derived.Test.YtgkddhncfaeidaaPageM
namespace Go.Proofs.Ytgkddhncfaeidaa
open Go.RowKit CrcM PageM
set_option linter.unusedVariables false

theorem infoB : (Try.prog.info? 5).map (fun i => (i.zero, i.size, i.bytes)) = some (some (.int .u8 0), 1, 1) := by kernel_rfl

theorem nd_byte (n t : Nat) : ((n : Int) / 2 ^ (8 * t)) % 256 = ((UInt8.ofNat (n / 256 ^ t)).toNat : Int) := by
  rw [UInt8.toNat_ofNat', show (256 : Nat) ^ t = 2 ^ (8 * t) by rw [show (256 : Nat) = 2 ^ 8 from rfl, ← Nat.pow_mul]]
  simp

set_option maxRecDepth 100000 in
theorem putHigh_nd (B len : Nat) (A : Option Addr) (c : Nat) (xs : List UInt8) (w : World) (hlen : xs.length = len) (ho : OwnS w B (.slice A len c) 5 xs) (hB : B ≤ w.heap.size) (z : Int) (s : Nat) (hz : z = (s : Int)) (hs : s ≤ 8) (n : Nat) (hn : n < 18446744073709551616) (hl : len ≤ 1000000) :
    Calls Try.prog 35 #[.slice A len c, .int .i64 z, .int .u64 n] w fun e w' => ∃ A' c', e = .returned (.slice A' (len + s) c') ∧ OwnS w' B (.slice A' (len + s) c') 5 (xs ++ be n s) ∧ w.grownBy w' (Value.slice A len c).ownBlock ∧ Moved w (Value.slice A len c).ownBlock (Value.slice A' (len + s) c').ownBlock := by
  subst hz hlen
  obtain ⟨r0, hr0⟩ : ∃ r0, r0 = (Value.slice A xs.length c).ownBlock := ⟨_, rfl⟩
  rw [← hr0]
  have HR := Lib.hid hr0
  clear hr0
  go_enter Try.func35, Try.ntmps35
  go_wp2_with fail
  go_loopw [0, 7] (fun v i wr => ∃ (t : Nat) (done : List UInt8) (A1 : Option Addr) (c1 : Nat), t ≤ s ∧ done ++ be n t = be n s ∧ i = .int .i64 ((t : Int) - 1) ∧ v = .slice A1 (xs ++ done).length c1 ∧ OwnS wr B (.slice A1 (xs ++ done).length c1) 5 (xs ++ done) ∧ w.grownBy wr r0 ∧ Moved w r0 (Value.slice A1 (xs ++ done).length c1).ownBlock) (fun _ i _ => (intOf i + 1).toNat)
  case atStart => exact ⟨s, [], A, c, Nat.le_refl _, rfl, rfl, by rw [List.append_nil], by rw [List.append_nil]; exact ho, World.grownBy.refl w _, .inl (by rw [List.append_nil]; exact HR.out.symm)⟩
  case round =>
    obtain ⟨t, done, A1, c1, ht, hd, rfl, rfl, hor, hg, hm⟩ := hrel
    cases t with
    | succ t =>
      have e1 : ((t + 1 : Nat) : Int) - 1 = (t : Int) := by omega
      rw [e1]
      have hdl : (xs ++ done).length + 1 ≤ 140737488355328 := by
        have h1 := congrArg List.length hd
        simp [length_be] at h1 ⊢
        omega
      have hy := Lib.hid (nd_byte n t)
      have HD := Lib.hid hd
      clear hd e1
      go_wp2_with (at_builtin; refine wpList_append_s2' rfl (.tmp 14) (.tmp 20) 27 rfl Try.underlying27 infoB rfl (hor.alloc _) _ _ 1 [UInt8.ofNat (n / 256 ^ t)] rfl rfl (bytesAt_one _ _ _ _ hy.out) hdl (by have := hg.size; simp; omega) ?_; intro A3 c3 w3 ho3 hg3 how3)
      go_roundw
      case rel =>
        refine ⟨t, done ++ [UInt8.ofNat (n / 256 ^ t)], A3, c3, by omega, ?_, rfl, ?_, ?_, grown_chain' hg _ hm hg3, ?_⟩
        · rw [← HD.out, be_cons, List.append_assoc]; rfl
        · rw [← List.append_assoc]; simp
        · rw [← List.append_assoc]; exact ho3
        · rw [← List.append_assoc]; exact own_chain' hg.size _ hm how3
      case measure => simp [intOf]
    | zero =>
      go_wp2_with fail
      go_ret
      have hd2 : done = be n s := by rw [← hd]; simp [be]
      have e3 : (xs ++ be n s).length = xs.length + s := by simp [length_be]
      refine ⟨A1, c1, by rw [hd2, e3]; rfl, by rw [← e3, ← hd2]; exact hor, hg, by rw [← e3, ← hd2]; exact hm⟩

set_option maxRecDepth 100000 in
theorem putKey_nd (B len : Nat) (A : Option Addr) (c : Nat) (xs : List UInt8) (w : World) (hlen : xs.length = len) (ho : OwnS w B (.slice A len c) 5 xs) (hB : B ≤ w.heap.size) (s t : Int) (n m : Nat) (hn : IntKind.u64.wrap s = (n : Int)) (hm : IntKind.u64.wrap t = (m : Int)) (hn2 : n < 18446744073709551616) (hm2 : m < 18446744073709551616) (hl : len ≤ 100000) :
    Calls Try.prog 34 #[.slice A len c, .agg #[.int .i64 s, .int .i64 t]] w fun e w' => ∃ A' c', e = .returned (.slice A' (len + 12) c') ∧ OwnS w' B (.slice A' (len + 12) c') 5 (xs ++ be n 4 ++ be m 8) ∧ w.grownBy w' (Value.slice A len c).ownBlock ∧ Moved w (Value.slice A len c).ownBlock (Value.slice A' (len + 12) c').ownBlock := by
  have HN := Lib.hid hn
  have HM := Lib.hid hm
  have HL := Lib.hid hlen
  clear hn hm hlen
  go_enter Try.func34, Try.ntmps34
  have hne : (Value.slice A len c).ownBlock ≠ some w.heap.size := fun h => by have := (ho.block _ h).2; omega
  go_wp2_with (first
    | (go_at_call 35; rw [HN.out]; refine (putHigh_nd B len A c xs _ HL.out (ho.alloc _) (by simp; omega) 4 4 rfl (by omega) n hn2 (by omega)).mono ?_; rintro e w1 ⟨A1, c1, rfl, ho1, hg1, hm1⟩; have hblk := (hg1.block w.heap.size (by simp) (fun h => hne h.symm)).trans (heap_alloc_new w _); have k1 : w1.cell? ⟨w.heap.size, 1, none⟩ = some (.int .i64 t) := (cell_of_row w1 w.heap.size 1 _ _ _ hblk).trans rfl; have hs1 := hg1.size)
    | (go_at_call 35; rw [HM.out]; refine (putHigh_nd B (len + 4) A1 c1 (xs ++ be n 4) _ (by rw [List.length_append, HL.out, length_be]) ho1 (by simp at hs1; omega) 8 8 rfl (by omega) m hm2 (by omega)).mono ?_; rintro e w2 ⟨A2, c2, rfl, ho2, hg2, hm2'⟩))
  go_ret
  refine ⟨A2, c2, rfl, ho2, grown_trans ((grown_alloc w _ _).trans' hg1) hm1.of_alloc hg2, ?_⟩
  exact hm1.of_alloc.trans (by simp at hs1; omega) hm2'
end Go.Proofs.Ytgkddhncfaeidaa
