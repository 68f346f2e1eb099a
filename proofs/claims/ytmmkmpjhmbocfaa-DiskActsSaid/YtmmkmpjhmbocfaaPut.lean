/- The calls of package page that lay numbers as bytes: their contracts. -/
import Derived.Test.YtmmkmpjhmbocfaaTail
import Derived.Test.YtmmkmpjhmbocfaaApp
import Derived.Test.YtmmkmpjhmbocfaaPartI
import Derived.Test.YtmmkmpjhmbocfaaPageM
namespace Go.Proofs.Ytmmkmpjhmbocfaa
open Go.RowKit CrcM PageM
set_option linter.unusedVariables false

theorem set_mid (pre mid post : List UInt8) (s : Nat) (hs : s < mid.length) (tl : List UInt8) (c : UInt8) : (pre ++ mid.take (s + 1) ++ tl ++ post).set (pre.length + s) c = pre ++ mid.take s ++ (c :: tl) ++ post := by
  have h1 : (mid.take (s + 1)) = mid.take s ++ [mid[s]] := by rw [List.take_succ_eq_append_getElem hs]
  rw [h1]
  have h2 : pre ++ (mid.take s ++ [mid[s]]) ++ tl ++ post = (pre ++ mid.take s) ++ ([mid[s]] ++ tl ++ post) := by simp only [List.append_assoc]
  rw [h2, List.set_append_right _ _ (by simp; omega)]
  have h3 : pre.length + s - (pre ++ mid.take s).length = 0 := by simp; omega
  rw [h3]
  simp

theorem _root_.Go.World.grownBy.setCell_row {w w' : World} {g : Nat} (h : w.grownBy w' (some g)) (i : Nat) (v : Value) : w.grownBy (w'.setCell ⟨g, i, none⟩ v) (some g) :=
  ⟨h.os, h.tape, h.output, by simpa using h.size, fun k hk hne => (Below.heap_setCell w' ⟨g, i, none⟩ v k (fun e => hne (by rw [e]))).trans (h.block k hk hne)⟩

theorem putHigh_any (g o base cap : Nat) (pre mid post : List UInt8) (c n : Nat) (hn : n < 18446744073709551616) (w : World) (ho : o = pre.length) (hown : OwnB w base g cap 5 (pre ++ mid ++ post)) (hl : mid.length ≤ 8) (hp : pre.length ≤ 100000) :
    Calls Try.prog 70 #[.slice (some ⟨g, o, none⟩) mid.length c, .int .u64 n] w fun e w' => e = .returned (.tuple #[]) ∧ OwnB w' base g cap 5 (pre ++ be n mid.length ++ post) ∧ w.grownBy w' (some g) := by
  subst ho
  go_enter Try.func70, Try.ntmps70
  go_wp2_with fail
  go_loopw [1, 4] (fun v i wr => ∃ t : Nat, t ≤ mid.length ∧ i = .int .i64 ((t : Int) - 1) ∧ v = .int .u64 ((n / 256 ^ (mid.length - t) : Nat) : Int) ∧ Hid (OwnB wr base g cap 5 (pre ++ mid.take t ++ be n (mid.length - t) ++ post)) ∧ Hid (w.grownBy wr (some g))) (fun _ i _ => (intOf i + 1).toNat)
  case atStart => exact ⟨mid.length, Nat.le_refl _, rfl, by simp, by simpa [be, Hid] using hown, World.grownBy.refl w _⟩
  case round =>
    obtain ⟨t, ht, rfl, rfl, hor, hgr⟩ := hrel
    cases t with
    | succ s =>
      have e1 : ((s + 1 : Nat) : Int) - 1 = (s : Int) := by omega
      rw [e1]
      have hq : pre.length + s < (pre ++ mid.take (s + 1) ++ be n (mid.length - (s + 1)) ++ post).length := by simp [length_be]; omega
      have hcell := hor.out.cellAt (pre.length + s) hq
      have hfr := hor.out.frozenAt (pre.length + s)
      obtain ⟨m, hm⟩ : ∃ m : Nat, m = n / 256 ^ (mid.length - (s + 1)) := ⟨_, rfl⟩
      rw [← hm]
      have hm64 : m < 18446744073709551616 := by rw [hm]; exact Nat.lt_of_le_of_lt (Nat.div_le_self _ _) hn
      have HM := Lib.hid hm
      clear hm e1
      go_wp2_with fail
      go_roundw
      case rel =>
        have hst := hor.out.stored (pre.length + s) hq (UInt8.ofNat m)
        rw [set_mid pre mid post s (by omega)] at hst
        have e2 : mid.length - s = (mid.length - (s + 1)) + 1 := by omega
        have e3 : UInt8.ofNat m :: be n (mid.length - (s + 1)) = be n (mid.length - s) := by rw [e2, be_cons, ← HM.out]
        rw [e3, UInt8.toNat_ofNat'] at hst
        refine ⟨s, by omega, rfl, ?_, ?_, ?_⟩
        · rw [e2, Nat.pow_succ, ← Nat.div_div_eq_div_mul, ← HM.out]
          rfl
        · exact hst
        · exact hgr.out.setCell_row _ _
      case measure => simp [intOf]
    | zero =>
      go_wp2_with fail
      refine bodyPost_end (results_none rfl _ _ _) rfl ⟨rfl, ?_, hgr.out⟩
      simpa using hor.out

theorem set_low (pre done mid post : List UInt8) (k : Nat) (hk : k < mid.length) (hd : done.length = k) (c : UInt8) : (pre ++ done ++ mid.drop k ++ post).set (pre.length + k) c = pre ++ (done ++ [c]) ++ mid.drop (k + 1) ++ post := by
  subst hd
  have h1 : mid.drop done.length = mid[done.length] :: mid.drop (done.length + 1) := List.drop_eq_getElem_cons hk
  rw [h1]
  have h2 : pre ++ done ++ (mid[done.length] :: mid.drop (done.length + 1)) ++ post = (pre ++ done) ++ (mid[done.length] :: (mid.drop (done.length + 1) ++ post)) := by simp only [List.append_assoc, List.cons_append]
  rw [h2, List.set_append_right _ _ (by simp)]
  have h3 : pre.length + done.length - (pre ++ done).length = 0 := by simp
  rw [h3, List.set_cons_zero]
  simp only [List.append_assoc, List.cons_append, List.nil_append]

theorem low_val (n k : Nat) (hn : n < 4294967296) : ((n : Int) / 2 ^ (8 * k)) % 256 = ((UInt8.ofNat (n / 2 ^ (8 * k))).toNat : Int) := by
  rw [UInt8.toNat_ofNat']
  simp

theorem putLow_any (g o base cap : Nat) (pre mid post : List UInt8) (c n : Nat) (hn : n < 4294967296) (w : World) (ho : o = pre.length) (hown : OwnB w base g cap 5 (pre ++ mid ++ post)) (hl : mid.length ≤ 4) (hp : pre.length ≤ 100000) :
    Calls Try.prog 71 #[.slice (some ⟨g, o, none⟩) mid.length c, .int .u32 n] w fun e w' => e = .returned (.tuple #[]) ∧ OwnB w' base g cap 5 (pre ++ le n mid.length ++ post) ∧ w.grownBy w' (some g) := by
  subst ho
  go_enter Try.func71, Try.ntmps71
  go_wp2_with fail
  go_loopw [7] (fun i wr => ∃ k : Nat, k ≤ mid.length ∧ i = .int .i64 k ∧ Hid (OwnB wr base g cap 5 (pre ++ le n k ++ mid.drop k ++ post)) ∧ Hid (w.grownBy wr (some g))) (fun i _ => mid.length - (intOf i).toNat)
  case atStart => exact ⟨0, by omega, rfl, by simpa [le, Hid] using hown, World.grownBy.refl w _⟩
  case round =>
    obtain ⟨k, hk, rfl, hor, hgr⟩ := hrel
    by_cases hlt : k < mid.length
    · have hq : pre.length + k < (pre ++ le n k ++ mid.drop k ++ post).length := by simp [length_le]; omega
      have hcell := hor.out.cellAt (pre.length + k) hq
      have hfr := hor.out.frozenAt (pre.length + k)
      go_wp2_with fail
      go_roundw
      case rel =>
        have hst := hor.out.stored (pre.length + k) hq (UInt8.ofNat (n / 2 ^ (8 * k)))
        rw [set_low pre (le n k) mid post k hlt (length_le n k), ← low_val n k hn] at hst
        exact ⟨k + 1, by omega, by go_num, hst, hgr.out.setCell_row _ _⟩
      case measure => simp [intOf]; omega
    · obtain rfl : k = mid.length := by omega
      go_wp2_with fail
      refine bodyPost_end (results_none rfl _ _ _) rfl ⟨rfl, ?_, hgr.out⟩
      simpa using hor.out

theorem or_u64 (a : Nat) (c : UInt8) (ha : a < 72057594037927936) : bits BinOp.or IntKind.u64 ((a : Int) * 256) (c.toNat : Int) = ((a * 256 + c.toNat : Nat) : Int) := by
  have hc := c.toNat_lt
  have e : bits BinOp.or IntKind.u64 ((a * 256 : Nat) : Int) ((c.toNat : Nat) : Int) = ((a * 256 ||| c.toNat : Nat) : Int) := u64_or_nat _ _ (by omega) (by omega)
  rw [nat_join 8 (a * 256) c.toNat (by omega) (by omega)] at e
  exact e

theorem takeHigh_any (A : Option Addr) (cap : Nat) (xs : List UInt8) (w : World) (hx : BytesAt w A xs) (hl : xs.length ≤ 8) :
    Calls Try.prog 73 #[.slice A xs.length cap] w fun e w' => e = .returned (.int .u64 (val xs)) ∧ w = w' := by
  go_enter Try.func73, Try.ntmps73
  go_wp2_with fail
  go_loop [3, 8] (fun v i => ∃ k : Nat, k ≤ xs.length ∧ i = .int .i64 k ∧ v = .int .u64 (val (xs.take k))) (fun _ i => xs.length - (intOf i).toNat)
  case atStart => exact ⟨0, by omega, rfl, by simp [val]⟩
  case round =>
    obtain ⟨k, hk, rfl, rfl⟩ := hrel
    by_cases hlt : k < xs.length
    · obtain ⟨b, off, rfl, hc⟩ := hx (by intro h; subst h; simp at hlt)
      have hck := hc k hlt
      clear hc
      have hv : val (xs.take k) < 72057594037927936 := by
        have := val_lt (xs.take k)
        have h2 : 256 ^ (xs.take k).length ≤ 256 ^ 7 := Nat.pow_le_pow_right (by omega) (by simp; omega)
        omega
      go_wp2_with fail
      go_round
      case rel =>
        refine ⟨k + 1, by omega, by go_num, ?_⟩
        have hw : IntKind.u64.wrap (xs[k].toNat : Int) = (xs[k].toNat : Int) := by have := xs[k].toNat_lt; rw [IntKind.wrap_u64]; omega
        rw [hw, or_u64 _ _ hv, List.take_succ_eq_append_getElem hlt, val_snoc]
      case measure => simp [intOf]; omega
    · obtain rfl : k = xs.length := by omega
      go_wp2_with fail
      go_ret
      exact ⟨by simp, rfl⟩
end Go.Proofs.Ytmmkmpjhmbocfaa
