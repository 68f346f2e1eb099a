/- Which parts of a sector are kept: package disk's keep. -/
import Derived.Test.YtemnafnbpndldaaDkWr
import Derived.Test.YtemnafnbpndldaaTail
namespace Go.Proofs.Ytemnafnbpndldaa
open Go.RowKit
set_option linter.unusedVariables false

/-- Behind k parts. -/
def keepN (a : Nat) (old new : List UInt8) : Nat → List UInt8
  | 0 => old
  | k + 1 => if a / 2 ^ k % 2 = 1 then (keepN a old new k).take (8 * k) ++ (new.drop (8 * k)).take 8 ++ ((keepN a old new k).drop (8 * k)).drop 8 else keepN a old new k
theorem length_keepN (a : Nat) (old new : List UInt8) (ho : old.length = 64) (hn : new.length = 64) : ∀ k, k ≤ 8 → (keepN a old new k).length = 64
  | 0, _ => ho
  | k + 1, hk => by
    have ih := length_keepN a old new ho hn k (by omega)
    unfold keepN
    split
    · simp only [List.length_append, List.length_take, List.length_drop, ih, hn]
      omega
    · exact ih

theorem wpList_copy_min {P : Program} {w : World} {ops : Array Oper} {rest : List Oper} {o : Oper} {a : Act} {Q : Exit → Act → World → Prop} (hgd : o.guard = none) (d s : Operand) (dT sT : TypeId)
    (ho : o.op = .call { callee := .builtin .copy, args := #[d, s], argTypes := #[dT, sT] }) (E : TypeId) (hu : P.underlying dT = some (.slice E)) (hsz : (P.info? E).map (·.size) = some 1)
    (base g cap off L c : Nat) (A : Option Addr) (m sc : Nat) (pre tl ys : List UInt8) (hd : a.eval d = .slice (some ⟨g, off, none⟩) L c) (hs : a.eval s = .slice A m sc)
    (hoff : off = pre.length) (hown : OwnB w base g cap E (pre ++ tl)) (hy : BytesAt w A ys) (hm : ys.length = Nat.min m L) (hy0 : ys ≠ []) (hfit : ys.length ≤ tl.length)
    (h : ∀ w', OwnB w' base g cap E (pre ++ ys ++ tl.drop ys.length) → w.grownBy w' (some g) → wpList P ops Q rest (a.put o.dst (goInt (ys.length : Int))) w') : wpList P ops Q (o :: rest) a w := by
  subst hoff
  obtain ⟨ad, rfl, hc⟩ := byteV_cells hy hy0
  obtain ⟨hb, hn, hmx, cur, hh, hs2, ht⟩ := hown.parts
  simp only [List.length_append] at hn
  refine wpList_copy_own hgd d s dT sT ho E hu hsz g pre.length L c ad m sc hd hs cur E hh (ys.map bv) (by rw [List.length_map]; exact hm) hc (by simp; omega) (bv_one ys) ?_
  have hgr : w.grownBy (w.setRow g (cur.toList.take pre.length ++ (ys.map bv ++ cur.toList.drop (pre.length + (ys.map bv).length))).toArray) (some g) :=
    ⟨rfl, rfl, rfl, by simp, fun k hk hne => setRow_other _ _ _ _ (fun e => hne (by rw [e]))⟩
  have := h _ (own_splice hown hh (by have := setRow_heap w g cur (cur.toList.take pre.length ++ (ys.map bv ++ cur.toList.drop (pre.length + (ys.map bv).length))).toArray E (0, 0) hh; rw [List.length_map] at this; rw [List.length_map]; exact this) hfit) hgr
  rw [List.length_map]
  rw [List.length_map] at this
  exact this

theorem bit_and (a k : Nat) (ha : a < 256) : (bits BinOp.and IntKind.u8 ((a : Int) / 2 ^ k) 1 == 1) = decide (a / 2 ^ k % 2 = 1) := by
  have hlt : a / 2 ^ k < 256 := Nat.lt_of_le_of_lt (Nat.div_le_self _ _) ha
  have e : bits BinOp.and IntKind.u8 ((a / 2 ^ k : Nat) : Int) ((1 : Nat) : Int) = ((a / 2 ^ k &&& 1 : Nat) : Int) := u8_and_nat _ _ hlt (by omega)
  rw [Nat.and_one_is_mod] at e
  rw [show ((a : Int) / 2 ^ k) = ((a / 2 ^ k : Nat) : Int) by simp, show (1 : Int) = ((1 : Nat) : Int) from rfl, e]
  rw [Bool.eq_iff_iff, beq_iff_eq, decide_eq_true_eq]
  exact ⟨fun h => Int.ofNat_inj.1 h, fun h => by rw [h]⟩

set_option maxHeartbeats 1000000 in
set_option maxRecDepth 100000 in
theorem keep_any (B g cap c : Nat) (off : Nat) (pre mid post new : List UInt8) (b cb : Nat) (a : Nat) (ha : a < 256) (w : World) (hoff : off = pre.length) (hown : OwnB w B g cap 5 (pre ++ mid ++ post)) (hm : mid.length = 64) (hn : new.length = 64)
    (hx : BytesAt w (some ⟨b, 1, none⟩) new) (hbg : b ≠ g) (hc : 64 ≤ c) (hcm : c ≤ maxLen) :
    Calls Try.prog 50 #[.slice (some ⟨g, off, none⟩) 64 c, .slice (some ⟨b, 1, none⟩) 64 64, .int .u8 (a : Int)] w fun e w' => e = .returned (.tuple #[]) ∧ OwnB w' B g cap 5 (pre ++ keepN a mid new 8 ++ post) ∧ w.grownBy w' (some g) := by
  unfold maxLen at hcm
  have HX := Lib.hid hx
  have HOFF := Lib.hid hoff
  clear hx hoff
  go_enter Try.func50, Try.ntmps50
  go_wp2_with fail
  go_loopw [7] (fun i wr => ∃ k : Nat, k ≤ 8 ∧ i = .int .i64 k ∧ Hid (OwnB wr B g cap 5 (pre ++ keepN a mid new k ++ post)) ∧ Hid (w.grownBy wr (some g))) (fun i _ => 8 - (intOf i).toNat)
  case atStart => exact ⟨0, by omega, rfl, Lib.hid hown, World.grownBy.refl w _⟩
  case round =>
    obtain ⟨k, hk, rfl, ho, hg⟩ := hrel
    by_cases hlt : k < 8
    · have hbit := bit_and a k ha
      have HB := Lib.hid hbit
      clear hbit
      by_cases hb : a / 2 ^ k % 2 = 1
      · have hd : (bits BinOp.and IntKind.u8 ((a : Int) / 2 ^ k) 1 == 1) = true := by rw [HB.out]; simp [hb]
        have HBB := Lib.hid hb
        clear hb
        have hne1 : ¬ c = k * 8 := by omega
        have hne2 : ¬ 64 = k * 8 := by omega
        go_wp2_with fail
        refine region_below_tail 11 wr.heap.size wr (Below.refl _ _) (by kernel_rfl) (by kernel_rfl) ?_
        simp only [List.take_succ_cons, List.take_zero, List.drop_succ_cons, List.drop_zero]
        repeat (go_big_quiet_step (fail))
        refine wpQuiet_nil ?_
        rintro w' ⟨y, rfl⟩
        have hly := length_keepN a mid new hm hn k (by omega)
        have hsp : pre ++ keepN a mid new k ++ post = (pre ++ (keepN a mid new k).take (8 * k)) ++ ((keepN a mid new k).drop (8 * k) ++ post) := by
          conv => lhs; rw [← List.take_append_drop (8 * k) (keepN a mid new k)]
          simp only [List.append_assoc]
        have hoy : OwnB y.at_ B g cap 5 ((pre ++ (keepN a mid new k).take (8 * k)) ++ ((keepN a mid new k).drop (8 * k) ++ post)) := by rw [← hsp]; exact ho.out.keep (y.ok_.block g ho.out.lt)
        have hxy : BytesAt y.at_ (some ⟨b, 1 + k * 8, none⟩) ((new.drop (8 * k)).take 8) := by
          have h1 : BytesAt w (some ⟨b, 1 + k * 8, none⟩) (new.drop (8 * k)) := HX.out.cut (8 * k) _ (fun _ => by rw [Option.map_some]; congr 1; unfold Addr.add; split <;> simp_all [Nat.mul_comm])
          have h2 := bytes_grownA h1 hg.out (fun a ha => by injection ha with ha; subst ha; exact hbg)
          exact (h2.below y.ok_).take 8
        have hlys : ((new.drop (8 * k)).take 8).length = 8 := by simp [hn]; omega
        have hm1 : ((new.drop (8 * k)).take 8).length = Nat.min (64 - k * 8) ((k + 1) * 8 - k * 8) := by rw [hlys, show (k + 1) * 8 - k * 8 = 8 by omega]; exact (Nat.min_eq_right (by omega)).symm
        have hne0 : (new.drop (8 * k)).take 8 ≠ [] := by intro e; rw [e] at hlys; simp at hlys
        have hft : ((new.drop (8 * k)).take 8).length ≤ ((keepN a mid new k).drop (8 * k) ++ post).length := by rw [hlys, List.length_append, List.length_drop, hly]; omega
        have hof : off + k * 8 = (pre ++ (keepN a mid new k).take (8 * k)).length := by rw [List.length_append, List.length_take, hly, HOFF.out]; omega
        have hsz : (Try.prog.info? 5).map (·.size) = some 1 := by kernel_rfl
        have K1 := Lib.hid hoy
        have K2 := Lib.hid hxy
        have K3 := Lib.hid hm1
        have K4 := Lib.hid hne0
        have K5 := Lib.hid hft
        have K6 := Lib.hid hof
        have K7 := Lib.hid hsz
        have K8 := Lib.hid hlys
        have K9 := Lib.hid hly
        clear hoy hxy hm1 hne0 hft hof hsz hsp hlys hly
        go_wp2_with ((with_reducible refine wpList_copy_min rfl (.tmp 21) (.tmp 25) 27 27 rfl 5 Try.underlying27 K7.out B g cap (off + k * 8) ((k + 1) * 8 - k * 8) (c - k * 8) (some ⟨b, 1 + k * 8, none⟩) (64 - k * 8) (64 - k * 8) (pre ++ (keepN a mid new k).take (8 * k)) ((keepN a mid new k).drop (8 * k) ++ post) ((new.drop (8 * k)).take 8) rfl rfl K6.out K1.out K2.out K3.out K4.out K5.out ?_); intro w6 ho6 hg6)
        go_roundw
        case rel =>
          have hgy : wr.grownBy y.at_ (some g) := ⟨y.ok_.os, y.ok_.tape, y.ok_.output, y.ok_.size, fun k hk _ => y.ok_.block k hk⟩
          refine ⟨k + 1, by omega, by go_num, Lib.hid ?_, Lib.hid ((hg.out.trans' hgy).trans' hg6)⟩
          have e : keepN a mid new (k + 1) = (keepN a mid new k).take (8 * k) ++ (new.drop (8 * k)).take 8 ++ ((keepN a mid new k).drop (8 * k)).drop 8 := by conv => lhs; unfold keepN; rw [if_pos HBB.out]
          rw [e]
          rw [K8.out, List.drop_append_of_le_length (by rw [List.length_drop, K9.out]; omega)] at ho6
          simpa only [List.append_assoc] using ho6
        case measure => simp [intOf]; omega
      · have hd : (bits BinOp.and IntKind.u8 ((a : Int) / 2 ^ k) 1 == 1) = false := by rw [HB.out]; simp [hb]
        have HBB := Lib.hid hb
        clear hb
        go_wp2_with fail
        go_roundw
        case rel =>
          refine ⟨k + 1, by omega, by go_num, Lib.hid ?_, hg⟩
          have e : keepN a mid new (k + 1) = keepN a mid new k := by conv => lhs; unfold keepN; rw [if_neg HBB.out]
          rw [e]
          exact ho.out
        case measure => simp [intOf]; omega
    · obtain rfl : k = 8 := by omega
      go_wp2_with fail
      exact bodyPost_end (results_none rfl _ _ _) rfl ⟨rfl, ho.out, hg.out⟩
end Go.Proofs.Ytemnafnbpndldaa
