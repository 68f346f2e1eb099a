/- DiskLoads: its walk. -/
import Derived.Test.YtcjdmlhkomgkcaaDkTe
import Derived.Test.YtcjdmlhkomgkcaaRowKit
namespace Go.Proofs.Ytcjdmlhkomgkcaa
open Go.ChangeShapes Go.WideShapes Go.ChangeAt Go.RowKit
set_option linter.unusedVariables false

theorem modN (a : Int) (m : Nat) (h0 : 0 < m) (hm : m ≤ 1000000) : ∃ k : Nat, k < m ∧ wrap64 ((IntKind.u64.wrap a).tmod (m : Int)) = (k : Int) := by
  have h1 : 0 ≤ IntKind.u64.wrap a := by rw [IntKind.wrap_u64]; omega
  rw [Int.tmod_eq_emod_of_nonneg h1]
  have h2 : 0 ≤ IntKind.u64.wrap a % (m : Int) := Int.emod_nonneg _ (by omega)
  have h3 : IntKind.u64.wrap a % (m : Int) < (m : Int) := Int.emod_lt_of_pos _ (by omega)
  rw [IntWalk.wrap64_in (IntKind.u64.wrap a % (m : Int)) ⟨by omega, by omega⟩]
  exact ⟨(IntKind.u64.wrap a % (m : Int)).toNat, by omega, by omega⟩
theorem text_dk {w : World} (A : Option Addr) (n c : Nat) (xs : List UInt8) (hn : xs.length = n) (hA : BytesAt w A xs) :
    (convert 27 9 (.slice A n c)).run Try.prog w = .ok (.string ⟨xs.toArray⟩) w := by
  subst hn
  exact run_text (P := Try.prog) 27 9 Try.underlying27 Try.underlying5 Try.underlying9 A c hA

theorem bytes_from {w : World} {b : Nat} {xs : List UInt8} (h : BytesAt w (some ⟨b, 0, none⟩) xs) (o : Nat) : BytesAt w (some ⟨b, o, none⟩) (xs.drop o) :=
  h.cut o (some ⟨b, o, none⟩) (fun _ => by rw [Option.map_some]; congr 1; unfold Addr.add; split <;> simp_all)

set_option maxHeartbeats 1000000 in
set_option maxRecDepth 100000 in
theorem diskLoads_walk (n : Int) (hn : (Lit.int .i64 n).wf = true) (b : Int) (hb : (Lit.int .u8 b).wf = true) {w : World} :
    Calls Try.prog 4 #[.int .i64 n, .int .u8 b] w fun e w' => e = .returned (.bool true) ∧ Below w.heap.size w w' := by
  obtain ⟨m1, m2⟩ : 0 ≤ b ∧ b < 256 := by have := bounds_u8 hb; omega
  obtain ⟨c, rfl⟩ := Int.eq_ofNat_of_zero_le m1
  obtain ⟨iu, hiu, hz0, hz1, hz2⟩ := info_parts infoU8
  obtain ⟨k, hk6, hk⟩ := modN n 6000 (by omega) (by omega)
  have hz3 : iu.bytes * k ≤ 281474976710656 := by rw [hz2]; omega
  have HK := Lib.hid hk
  clear hk hb hn m1
  go_enter Try.func4, Try.ntmps4
  go_upto_region 2 with fail
  have hk : wrap64 ((IntKind.u64.wrap n).tmod 6000) = (k : Int) := HK.out
  rw [hk]
  clear hk
  go_wp2_with (at_make; refine wpList_make_full _ rfl (.tmp 16) (.tmp 16) 27 rfl w.heap.size 5 iu (.int .u8 0) 1 Try.underlying27 hiu hz0 hz1 .i64 .i64 (k : Int) (k : Int) k rfl rfl rfl rfl hz3 (by unfold maxLen; omega) (Nat.le_refl _) ?_; intro w1 ho1 hg1; have ho2 := made8 ho1; have hb1 : Below w.heap.size w w1 := (Below.refl _ _).grown hg1 (Nat.le_refl _) (fun k hk => by cases hk))
  go_loopw [7] (fun i wr => ∃ (j : Nat) (xs : List UInt8), j ≤ k ∧ i = .int .i64 j ∧ xs.length = k ∧ Hid (OwnS wr w.heap.size (.slice (some ⟨w.heap.size, 0, none⟩) k k) 5 xs) ∧ Hid (Below w.heap.size w wr)) (fun i _ => k - (intOf i).toNat)
  case atStart => exact ⟨0, List.replicate k 0, by omega, rfl, by simp, Lib.hid ho2, Lib.hid hb1⟩
  case round =>
    obtain ⟨j, xs, hj, rfl, hxl, ho, hB⟩ := hrel
    by_cases hlt : j < k
    · obtain ⟨q, hq, hob, _⟩ := ho.out.ownB (by omega)
      injection hq with hq
      injection hq with hq
      subst hq
      have hcell := hob.cellAt j (by omega)
      have hfr := hob.frozenAt j
      go_wp2_with fail
      go_roundw
      case rel =>
        have hst := hob.stored j (by omega) (UInt8.ofNat (c + j))
        rw [show ((UInt8.ofNat (c + j)).toNat : Int) = ((c : Int) + (j : Int)) % 256 by rw [UInt8.toNat_ofNat']; omega] at hst
        refine ⟨j + 1, xs.set j (UInt8.ofNat (c + j)), by omega, by go_num, by simp [hxl], Lib.hid ?_, Lib.hid (below_setC'' hB.out)⟩
        have := hst.ownS
        rw [List.length_set, hxl] at this
        exact this
      case measure => simp [intOf]; omega
    · obtain rfl : j = k := by omega
      by_cases hbad : j % 256 = 0 ∧ 2048 ≤ j
      · obtain ⟨hp1, hp2⟩ := hbad
        have HX := Lib.hid hxl
        have hxs := Lib.hid ho.out.bytes
        clear hxl
        obtain ⟨i, hi⟩ : ∃ i, i = j / 64 - 1 := ⟨_, rfl⟩
        have hi2 : 64 * i + 64 = j := by omega
        have hie : ((j : Int) / 64 - 1) = (i : Int) := by omega
        have HIE := Lib.hid hie
        have HI2 := Lib.hid hi2
        clear hi hie hi2
        go_upto_region 11 with (first
          | (go_at_call 33; (refine (load_ok _ j j xs _ hxs.out HX.out hp1 hp2 (by omega) (fun h => by cases h)).mono ?_); rintro e w2 ⟨g, gs, gn, cs, cn, rfl, hD, hb2⟩; have D2 := Lib.hid hD; clear hD)
          | (go_at_call 17; rw [HIE.out]; (refine (read_ok D2.out _ i rfl (by have := HI2.out; omega)).mono ?_); rintro e w3 ⟨A3, c3, rfl, ho3, hb3⟩; have D3 := Lib.hid (D2.out.below hb3)))
        have hcut : Hid (OwnS w3 w2.heap.size (.slice A3 64 c3) 5 ((xs.drop (64 * i)).take 64)) := Lib.hid ho3
        have hs3 := (hb2.trans (hb3.mono hb2.size)).size
        have hbw : Below w.heap.size w w3 := (hB.out.trans (hb2.mono hB.out.size)).trans (hb3.mono (by have := hB.out.size; have := hb2.size; omega))
        have hxs3 := Lib.hid ((hxs.out.below hb2).below hb3)
        have hl64 : Hid (((xs.drop (64 * i)).take 64).length = 64) := Lib.hid (by have := HX.out; have := HI2.out; simp; omega)
        have htail : Hid ((xs.drop (64 * i)).take 64 = xs.drop (64 * i)) := Lib.hid (List.take_of_length_le (by have := HX.out; have := HI2.out; simp; omega))
        have hdl : Hid ((xs.drop (64 * i)).length = 64) := Lib.hid (by have := HX.out; have := HI2.out; simp; omega)
        have hcw : ¬ j = 64 * i := by have := HI2.out; omega
        clear ho3 hs3
        refine region_ways4 w3.heap.size (Nat.le_refl _) (.one [] 0 (.one [1, 2, 3, 4, 5, 6, 7, 8, 9, 10, 12, 13] 11 (.one [14, 15, 16, 17, 20, 21] 18 (.one [] 19 (.done [22, 23, 24, 25, 26, 27, 28, 29, 30, 31, 32, 33, 34]))))) (by kernel_rfl) (by kernel_rfl) ?_
        rintro w0 hbd
        rw [wpWays_one4]
        simp only [List.map_nil, opAt, List.getElem?_toArray, List.getElem?_cons_zero, Option.getD_some]
        try simp only [Act.put, List.setIfInBounds_toArray, List.set_cons_zero, List.set_cons_succ]
        refine wpQuiet_nil ?_
        go_wp2_with (go_at_call 18; (refine (tears_any _).mono ?_); rintro e w4 ⟨rfl, hb4⟩)
        have b4 : Below w3.heap.size w3 w4 := hbd.trans (hb4.mono hbd.size)
        refine ⟨⟨⟨_, b4⟩, rfl⟩, ?_⟩
        try simp only [Act.put, List.setIfInBounds_toArray, List.set_cons_zero, List.set_cons_succ]
        have D4 := Lib.hid (D3.out.below b4)
        rw [wpWays_one4]
        simp only [List.map_cons, List.map_nil, opAt, List.getElem?_toArray, List.getElem?_cons_zero, List.getElem?_cons_succ, Option.getD_some]
        repeat (go_big_quiet_step (fail))
        refine wpQuiet_nil ?_
        go_wp2_with (go_at_call 22; (refine (pages_any D4.out).mono ?_); rintro e w5 ⟨rfl, rfl⟩)
        refine ⟨⟨⟨_, b4⟩, rfl⟩, ?_⟩
        try simp only [Act.put, List.setIfInBounds_toArray, List.set_cons_zero, List.set_cons_succ]
        have himg : ∀ y : SubW w3.heap.size w3, (convert 27 9 (.slice (some ⟨w.heap.size, 0, none⟩) j j)).run Try.prog y.at_ = .ok (.string ⟨xs.toArray⟩) y.at_ := fun y => text_dk _ j j xs HX.out (hxs3.out.below y.ok_)
        rw [wpWays_one4]
        simp only [List.map_cons, List.map_nil, opAt, List.getElem?_toArray, List.getElem?_cons_zero, List.getElem?_cons_succ, Option.getD_some]
        repeat (go_big_quiet_step (fail))
        refine wpQuiet_nil ?_
        go_wp2_with (go_at_call 24; (refine (image_any D4.out).mono ?_); rintro e w6 ⟨A6, c6, rfl, ho6, hb6⟩)
        have b6 : Below w3.heap.size w3 w6 := b4.trans (hb6.mono b4.size)
        refine ⟨⟨⟨_, b6⟩, rfl⟩, ?_⟩
        try simp only [Act.put, List.setIfInBounds_toArray, List.set_cons_zero, List.set_cons_succ]
        have t6 := text_dk A6 j c6 xs HX.out ho6.bytes
        rw [wpWays_one4]
        simp only [List.map_nil, opAt, List.getElem?_toArray, List.getElem?_cons_zero, List.getElem?_cons_succ, Option.getD_some]
        refine wpQuiet_nil ?_
        go_wp2_with fail
        refine ⟨⟨⟨_, b6⟩, rfl⟩, ?_⟩
        try simp only [Act.put, List.setIfInBounds_toArray, List.set_cons_zero, List.set_cons_succ]
        rw [wpWays_done4]
        simp only [List.map_cons, List.map_nil, opAt, List.getElem?_toArray, List.getElem?_cons_zero, List.getElem?_cons_succ, Option.getD_some]
        have hcutt : ∀ y : SubW w3.heap.size w3, (convert 27 9 (.slice A3 64 c3)).run Try.prog y.at_ = .ok (.string ⟨(xs.drop (64 * i)).toArray⟩) y.at_ := fun y => by have := text_dk A3 64 c3 _ hl64.out (hcut.out.bytes.below y.ok_); rw [htail.out] at this; exact this
        have hjs : j - 64 = 64 * i := by have := HI2.out; omega
        have htl : ∀ y : SubW w3.heap.size w3, (convert 27 9 (.slice (some ⟨w.heap.size, j - 64, none⟩) (j - (j - 64)) (j - (j - 64)))).run Try.prog y.at_ = .ok (.string ⟨(xs.drop (64 * i)).toArray⟩) y.at_ := fun y => by
          rw [hjs]
          refine text_dk _ _ _ _ (by rw [List.length_drop, HX.out]) ?_
          exact (bytes_from hxs3.out (64 * i)).below y.ok_
        clear hjs
        repeat (go_big_quiet_step (fail))
        refine wpQuiet_nil ?_
        go_wp2_with fail
        go_ret
        exact ⟨rfl, hbw.trans (b6.mono hbw.size)⟩
      · by_cases h1 : j % 256 = 0
        · have h2 : j < 2048 := by omega
          go_wp2_with (first
            | (go_at_call 33; (refine (load_bad _ j j _ (.inr (.inl h2)) (by omega)).mono ?_); rintro e w2 ⟨rfl, rfl⟩)
            | (go_at_call 18; (refine (tears_any _).mono ?_); rintro e w3 ⟨rfl, hb3⟩))
          all_goals go_ret
          all_goals exact ⟨rfl, hB.out.trans (hb3.mono hB.out.size)⟩
        · go_wp2_with (first
            | (go_at_call 33; (refine (load_bad _ j j _ (.inl h1) (by omega)).mono ?_); rintro e w2 ⟨rfl, rfl⟩)
            | (go_at_call 18; (refine (tears_any _).mono ?_); rintro e w3 ⟨rfl, hb3⟩))
          all_goals go_ret
          all_goals exact ⟨rfl, hB.out.trans (hb3.mono hB.out.size)⟩
end Go.Proofs.Ytcjdmlhkomgkcaa
