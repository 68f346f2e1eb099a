/- DiskWaits: its walk. -/
import Derived.Test.YtcjdmlhkomgkcaaDkF
import Derived.Test.YtcjdmlhkomgkcaaDiskLoads
namespace Go.Proofs.Ytcjdmlhkomgkcaa
open Go.ChangeShapes Go.WideShapes Go.ChangeAt Go.RowKit
set_option linter.unusedVariables false

theorem putAt_mid {nw : List UInt8} {i : Nat} {bs : List UInt8} (hi : 64 * i + 64 ≤ nw.length) (hb : bs.length = 64) : ((putAt nw i bs).drop (64 * i)).take 64 = bs := by
  unfold putAt
  rw [List.append_assoc, List.drop_append_of_le_length (by rw [List.length_take]; omega)]
  rw [List.drop_eq_nil_of_le (by rw [List.length_take]; omega), List.nil_append, List.take_append_of_le_length (by omega)]
  exact List.take_of_length_le (by omega)
theorem crashN_nil (S : List UInt8) (ws : List (Nat × List UInt8)) : ∀ k, crashN S ws [] k = S
  | 0 => rfl
  | k + 1 => by
    show (match ws[k]? with | some p => crash1 (crashN S ws [] k) p ([] : List (Bool × Nat))[k]? | none => crashN S ws [] k) = S
    rw [crashN_nil S ws k]
    cases ws[k]? <;> rfl

section
variable {w : World} {B N g gs gn L cs cn : Nat} {rw : Value} {st nw : List UInt8} {ws : List (Nat × List UInt8)} {on : Bool} {left : Int}
theorem writeF (h : Dk w B N g gs gn rw L cs cn st nw ws true (-1)) (z : Int) (i : Nat) (hz : z = (i : Int)) (hi : 64 * i + 64 ≤ L) (q B' cap : Nat) (bs : List UInt8) (ho : OwnB w B' q cap 5 bs) (hl : bs.length = 64) (hq : N ≤ q) (hws : ws.length ≤ 1000) :
    Calls Try.prog 19 #[.pointer (some ⟨g, 0, none⟩), .int .i64 z, .slice (some ⟨q, 0, none⟩) 64 64] w fun e w' => e = .returned (.int .i64 0) ∧
      (∃ rw', Dk w' B w'.heap.size g gs gn rw' L cs cn st (putAt nw i bs) (ws ++ [(i, bs)]) true (-1)) ∧ Below B w w' := by
  subst hz
  exact (write_ok h (by decide) (by decide) (by decide) i hi (some ⟨q, 0, none⟩) 64 bs ho.bytes hl (fun a ha => by injection ha with ha; subst ha; exact .inr hq) (-1) (by decide) hws).mono fun e w' ⟨h1, h2, h3, _⟩ => ⟨h1, h2, h3⟩
theorem fullF (z : Int) (b : Nat) (hz : z = (b : Int)) (hb : b < 256) (w : World) :
    Calls Try.prog 34 #[.int .u8 z] w fun e w' => ∃ q, e = .returned (.slice (some ⟨q, 0, none⟩) 64 64) ∧ OwnB w' w.heap.size q 64 5 (List.replicate 64 (UInt8.ofNat b)) ∧ Below w.heap.size w w' := by
  subst hz
  exact full_any b hb w
theorem flushF (h : Dk w B N g gs gn rw L cs cn st nw ws true (-1)) (hws : ws.length ≤ 1000) :
    Calls Try.prog 20 #[.pointer (some ⟨g, 0, none⟩)] w fun e w' => e = .returned (.int .i64 0) ∧
      Dk w' B w'.heap.size g gs gn (.slice none 0 0) L cs cn (flushN st ws ws.length) nw [] true (-1) ∧ Below B w w' :=
  (flush_ok h (by decide) (by decide) (by decide) (-1) (by decide) hws).mono fun e w' ⟨h1, h2, h3⟩ => ⟨h1, h2, h3.below (by have := h.NN; have := h.gB; have := h.gN; omega)⟩
theorem crashF (h : Dk w B N g gs gn rw L cs cn st nw ws on left) (hws : ws.length ≤ 1000) :
    Calls Try.prog 16 #[.pointer (some ⟨g, 0, none⟩), .slice none 0 0] w fun e w' => e = .returned (.tuple #[]) ∧
      Dk w' B w'.heap.size g gs gn (.slice none 0 0) L cs cn st st [] true (-1) ∧ Below B w w' := by
  have := crash_any h hws none 0 0 [] rfl (by omega) (by omega) (by unfold maxLen; omega) (fun j p hj => by simp at hj) (fun a ha => by cases ha)
  rw [crashN_nil] at this
  exact this.mono fun e w' ⟨h1, h2, h3⟩ => ⟨h1, h2, h3.below (by have := h.NN; have := h.gB; have := h.gN; omega)⟩
end

set_option maxHeartbeats 2000000 in
set_option maxRecDepth 100000 in
theorem diskWaits_walk (A : Option Addr) (cap : Nat) (zs : List Int) {w : World} (hz : NumRow .i64 w A zs) (lc : zs.length ≤ cap) (cm : cap ≤ maxLen) (b : Int) (hb : (Lit.int .u8 b).wf = true) :
    Calls Try.prog 5 #[.slice A zs.length cap, .int .u8 b] w fun e w' => e = .returned (.bool true) ∧ Below w.heap.size w w' := by
  obtain ⟨m1, m2⟩ : 0 ≤ b ∧ b < 256 := by have := bounds_u8 hb; omega
  obtain ⟨c, rfl⟩ := Int.eq_ofNat_of_zero_le m1
  have hc256 : c < 256 := by omega
  unfold maxLen at cm
  obtain ⟨hz1, hz2⟩ := hz
  have HZ := Lib.hid hz2
  clear hb m1 m2 hz1 hz2
  go_enter Try.func5, Try.ntmps5
  go_wp2_with (go_at_call 25; (refine (new8 _).mono ?_); rintro e w1 ⟨g, gs, gn, cs, cn, rfl, d1, hb1⟩; have D1 := Lib.hid d1; clear d1)
  go_loopw [7] (fun i wr => ∃ k : Nat, k ≤ 32 ∧ i = .int .i64 k ∧ Hid (∃ N rw nw ws, Dk wr w.heap.size N g gs gn rw 2048 cs cn (List.replicate 2048 0) nw ws true (-1) ∧ ws.length = k) ∧ Hid (Below w.heap.size w wr)) (fun i _ => 32 - (intOf i).toNat)
  case atStart => exact ⟨0, by omega, rfl, Lib.hid ⟨_, _, _, [], D1.out, rfl⟩, Lib.hid hb1⟩
  case round =>
    obtain ⟨k, hk, rfl, hd, hB⟩ := hrel
    obtain ⟨N, rw, nw, ws, hd, hwl⟩ := hd.out
    have D2 := Lib.hid hd
    have hws : ws.length ≤ 1000 := by omega
    have HWL := Lib.hid hwl
    clear hd hwl
    by_cases hlt : k < 32
    · go_wp2_with (first
        | (go_at_call 34; (refine (fullF _ (k % 256) (by omega) (by omega) _).mono ?_); rintro e w2 ⟨q, rfl, ho2, hb2⟩; have D3 := Lib.hid (D2.out.below hb2))
        | (go_at_call 19; (refine (writeF D3.out _ k rfl (by omega) q _ _ _ ho2 (by simp) (by have := ho2.parts.1; have := D2.out.NN; omega) hws).mono ?_); rintro e w3 ⟨rfl, ⟨rw3, d3⟩, hb3⟩; have D4 := Lib.hid d3; clear d3))
      go_roundw
      case rel => exact ⟨k + 1, by omega, by go_num, Lib.hid ⟨_, _, _, _, D4.out, by have := HWL.out; simp; omega⟩, Lib.hid ((hB.out.trans (hb2.mono hB.out.size)).trans hb3)⟩
      case measure => simp [intOf]; omega
    · obtain rfl : k = 32 := by omega
      go_wp2_with (first
        | (go_at_call 20; (refine (flushF D2.out hws).mono ?_); rintro e w2 ⟨rfl, d3, hb2⟩; generalize flushN (List.replicate 2048 0) ws ws.length = S at d3; have D3 := Lib.hid d3; clear d3)
        | (go_at_call 24; (refine (image_any D3.out).mono ?_); rintro e w3 ⟨A3, c3, rfl, ho3, hb3⟩; have t3 := text_dk A3 2048 c3 S D3.out.lst ho3.bytes; have D4 := Lib.hid (D3.out.below hb3)))
      have hSl := Lib.hid D3.out.lst
      have hB3 : Hid (Below w.heap.size w w3) := Lib.hid ((hB.out.trans hb2).trans (hb3.mono (hB.out.trans hb2).size))
      clear t3 ho3 hb3 hb2 D3 D2 HWL hws hb1 D1 hB
      go_loopw [10, 11] (fun m i wr => ∃ k : Nat, k ≤ 40 ∧ k ≤ zs.length ∧ i = .int .i64 k ∧ m = .int .i64 k ∧ Hid (∃ N rw nw ws, Dk wr w.heap.size N g gs gn rw 2048 cs cn S nw ws true (-1) ∧ ws.length = k) ∧ Hid (Below w.heap.size w wr)) (fun _ i _ => 40 - (intOf i).toNat)
      case atStart => exact ⟨0, by omega, by omega, rfl, rfl, Lib.hid ⟨_, _, _, [], D4.out, rfl⟩, hB3⟩
      case round =>
        obtain ⟨k, hk, hkz, rfl, rfl, hd, hB⟩ := hrel
        obtain ⟨N, rw, nw, ws, hd, hwl⟩ := hd.out
        have D5 := Lib.hid hd
        have hws : ws.length ≤ 1000 := by omega
        have HWL := Lib.hid hwl
        clear hd hwl D4
        by_cases hlt : k < zs.length ∧ k < 40
        · obtain ⟨hlt1, hlt2⟩ := hlt
          obtain ⟨bz, off, rfl, hcell⟩ := HZ.out (by intro e; subst e; simp at hlt1)
          have hck := hcell k hlt1
          have hckr := (hB.out.cell (p := ⟨bz, off + k, none⟩) (World.block_lt_of_cell? _ _ hck)).trans hck
          obtain ⟨z, hzz⟩ : ∃ z, z = zs[k] := ⟨_, rfl⟩
          rw [← hzz] at hckr
          obtain ⟨kk, hkk, hke⟩ := modN z 32 (by omega) (by omega)
          have HKE : Hid (wrap64 ((IntKind.u64.wrap z).tmod 32) = (kk : Int)) := Lib.hid hke
          clear hcell hck hzz hke
          go_upto_region 14 with fail
          rw [HKE.out]
          go_upto_region 18 with (first
            | (go_at_call 34; (refine (fullF _ c rfl hc256 _).mono ?_); rintro e w2 ⟨q, rfl, ho2, hb2⟩; have D6 := Lib.hid (D5.out.below hb2))
            | (go_at_call 19; (refine (writeF D6.out _ kk rfl (by omega) q _ _ _ ho2 (by simp) (by have := ho2.parts.1; have := D5.out.NN; omega) hws).mono ?_); rintro e w3 ⟨rfl, ⟨rw3, d7⟩, hb3⟩; have D7 := Lib.hid d7; clear d7)
            | (go_at_call 17; (refine (read_ok D7.out _ kk rfl (by omega)).mono ?_); rintro e w4 ⟨A4, c4, rfl, ho4, hb4⟩; have D8 := Lib.hid (D7.out.below hb4)))
          have hbs : (List.replicate 64 (UInt8.ofNat c)).length = 64 := by simp
          have hmid := putAt_mid (nw := nw) (i := kk) (by rw [D5.out.lnw]; omega) hbs
          rw [hmid] at ho4
          have HO4 := Lib.hid ho4.bytes
          have HB4 : Hid (Below w.heap.size w w4) := Lib.hid (((hB.out.trans (hb2.mono hB.out.size)).trans hb3).trans (hb4.mono ((hB.out.trans (hb2.mono hB.out.size)).trans hb3).size))
          have HW4 : Hid ((ws ++ [(kk, List.replicate 64 (UInt8.ofNat c))]).length = k + 1) := Lib.hid (by have := HWL.out; simp; omega)
          generalize hrep : List.replicate 64 (UInt8.ofNat c) = bs at *
          have HREP := Lib.hid hrep
          clear hrep
          have hk1 : (((k + 1 : Nat) : Int) != (k : Int) + 1) = false := by simp
          have HBS := Lib.hid hbs
          clear hbs hmid ho4 ho2 hb2 hb3 hb4 HWL hckr D5 D6 D7
          have hts : ∀ y : SubW w4.heap.size w4, (convert 27 9 (.slice A4 64 c4)).run Try.prog y.at_ = .ok (.string ⟨bs.toArray⟩) y.at_ := fun y => text_dk A4 64 c4 bs HBS.out (HO4.out.below y.ok_)
          refine region_ways4 w4.heap.size (Nat.le_refl _) (.one [0, 1, 2, 3, 4, 5] 6 (.one [] 7 (.one [8, 9, 10, 11, 13] 12 (.one [14, 15, 16, 17, 20] 18 (.one [] 19 (.done [21, 22])))))) (by kernel_rfl) (by kernel_rfl) ?_
          rintro w0 hbd
          rw [wpWays_one4]
          simp only [List.map_cons, List.map_nil, opAt, List.getElem?_toArray, List.getElem?_cons_zero, List.getElem?_cons_succ, Option.getD_some]
          try simp only [Act.put, List.setIfInBounds_toArray, List.set_cons_zero, List.set_cons_succ]
          repeat (go_big_quiet_step (fail))
          refine wpQuiet_nil ?_
          go_wp2_with (go_at_call 34; (refine (fullF _ c rfl hc256 _).mono ?_); rintro e w5 ⟨q5, rfl, ho5, hb5⟩)
          have b5 : Below w4.heap.size w4 w5 := hbd.trans (hb5.mono hbd.size)
          rw [HREP.out] at ho5
          have t5 := text_dk (some ⟨q5, 0, none⟩) 64 64 bs HBS.out ho5.bytes
          refine ⟨⟨⟨_, b5⟩, rfl⟩, ?_⟩
          try simp only [Act.put, List.setIfInBounds_toArray, List.set_cons_zero, List.set_cons_succ]
          rw [wpWays_one4]
          simp only [List.map_nil, opAt, List.getElem?_toArray, List.getElem?_cons_zero, List.getElem?_cons_succ, Option.getD_some]
          refine wpQuiet_nil ?_
          go_wp2_with fail
          refine ⟨⟨⟨_, b5⟩, rfl⟩, ?_⟩
          try simp only [Act.put, List.setIfInBounds_toArray, List.set_cons_zero, List.set_cons_succ]
          have D9 := Lib.hid (D8.out.below b5)
          clear t5 ho5
          rw [wpWays_one4]
          simp only [List.map_cons, List.map_nil, opAt, List.getElem?_toArray, List.getElem?_cons_zero, List.getElem?_cons_succ, Option.getD_some]
          repeat (go_big_quiet_step (fail))
          refine wpQuiet_nil ?_
          go_wp2_with (go_at_call 23; (refine (waiting_any D9.out (k + 1) HW4.out).mono ?_); rintro e w6 ⟨rfl, rfl⟩)
          refine ⟨⟨⟨_, b5⟩, rfl⟩, ?_⟩
          try simp only [Act.put, List.setIfInBounds_toArray, List.set_cons_zero, List.set_cons_succ]
          rw [wpWays_one4]
          simp only [List.map_cons, List.map_nil, opAt, List.getElem?_toArray, List.getElem?_cons_zero, List.getElem?_cons_succ, Option.getD_some]
          repeat (go_big_quiet_step (fail))
          refine wpQuiet_nil ?_
          go_wp2_with (go_at_call 24; (refine (image_any D9.out).mono ?_); rintro e w7 ⟨A7, c7, rfl, ho7, hb7⟩)
          have b7 : Below w4.heap.size w4 w7 := b5.trans (hb7.mono b5.size)
          have t7 := text_dk A7 2048 c7 S hSl.out ho7.bytes
          refine ⟨⟨⟨_, b7⟩, rfl⟩, ?_⟩
          try simp only [Act.put, List.setIfInBounds_toArray, List.set_cons_zero, List.set_cons_succ]
          rw [wpWays_one4]
          simp only [List.map_nil, opAt, List.getElem?_toArray, List.getElem?_cons_zero, List.getElem?_cons_succ, Option.getD_some]
          refine wpQuiet_nil ?_
          go_wp2_with fail
          refine ⟨⟨⟨_, b7⟩, rfl⟩, ?_⟩
          try simp only [Act.put, List.setIfInBounds_toArray, List.set_cons_zero, List.set_cons_succ]
          rw [wpWays_done4]
          simp only [List.map_cons, List.map_nil, opAt, List.getElem?_toArray, List.getElem?_cons_zero, List.getElem?_cons_succ, Option.getD_some]
          repeat (go_big_quiet_step (fail))
          refine wpQuiet_nil ?_
          go_wp2_with fail
          go_roundw
          case rel => exact ⟨k + 1, by omega, by omega, by go_num, by go_num, Lib.hid ⟨_, _, _, _, D8.out.below b7, HW4.out⟩, Lib.hid (HB4.out.trans (b7.mono HB4.out.size))⟩
          case measure => simp [intOf]; omega
        · have hge : ¬ (k < zs.length ∧ k < 40) := hlt
          have hend : k = zs.length ∨ k = 40 := by omega
          rcases hend with hend | hend
          · have hlt1 : decide ((k : Int) < (zs.length : Int)) = false := by simp; omega
            go_wp2_with (first
              | (go_at_call 16; (refine (crashF D5.out hws).mono ?_); rintro e w2 ⟨rfl, d6, hb2⟩; have D6 := Lib.hid d6; clear d6)
              | (go_at_call 18; (refine (tears_any _).mono ?_); rintro e w3 ⟨rfl, hb3⟩; have D7 := Lib.hid (D6.out.below hb3))
              | (go_at_call 24; (refine (image_any D7.out).mono ?_); rintro e w4 ⟨A4, c4, rfl, ho4, hb4⟩; have t4 := text_dk A4 2048 c4 S D7.out.lst ho4.bytes; have D8 := Lib.hid (D7.out.below hb4))
              | (go_at_call 23; (refine (waiting_any D8.out 0 rfl).mono ?_); rintro e w5 ⟨rfl, rfl⟩))
            all_goals go_ret
            all_goals exact ⟨rfl, ((hB.out.trans hb2).trans (hb3.mono (hB.out.trans hb2).size)).trans (hb4.mono ((hB.out.trans hb2).trans (hb3.mono (hB.out.trans hb2).size)).size)⟩
          · have hlt2 : decide ((k : Int) < 40) = false := by simp; omega
            go_wp2_with (first
              | (go_at_call 16; (refine (crashF D5.out hws).mono ?_); rintro e w2 ⟨rfl, d6, hb2⟩; have D6 := Lib.hid d6; clear d6)
              | (go_at_call 18; (refine (tears_any _).mono ?_); rintro e w3 ⟨rfl, hb3⟩; have D7 := Lib.hid (D6.out.below hb3))
              | (go_at_call 24; (refine (image_any D7.out).mono ?_); rintro e w4 ⟨A4, c4, rfl, ho4, hb4⟩; have t4 := text_dk A4 2048 c4 S D7.out.lst ho4.bytes; have D8 := Lib.hid (D7.out.below hb4))
              | (go_at_call 23; (refine (waiting_any D8.out 0 rfl).mono ?_); rintro e w5 ⟨rfl, rfl⟩))
            all_goals go_ret
            all_goals exact ⟨rfl, ((hB.out.trans hb2).trans (hb3.mono (hB.out.trans hb2).size)).trans (hb4.mono ((hB.out.trans hb2).trans (hb3.mono (hB.out.trans hb2).size)).size)⟩
end Go.Proofs.Ytcjdmlhkomgkcaa
