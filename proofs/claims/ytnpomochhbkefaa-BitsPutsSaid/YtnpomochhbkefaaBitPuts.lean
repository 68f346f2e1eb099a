/- The walk of BitsPuts. -/
import Derived.Test.YtnpomochhbkefaaBitRow
import Derived.Test.YtnpomochhbkefaaBitPl
import Derived.Test.YtnpomochhbkefaaPiTree
import Derived.Deep.DeepCutAuto
namespace Go.Proofs.Ytnpomochhbkefaa
open Go.RowKit BitM
set_option linter.unusedVariables false

theorem none_any (w : World) : Calls Try.prog 15 #[] w fun e w' => e = .returned (.tuple #[.pointer none, .pointer none]) ∧ w = w' := by
  go_enter Try.func15, Try.ntmps15
  go_wp2_with fail
  go_ret2
  exact ⟨rfl, rfl⟩

theorem want_low (v m : Nat) (hv : v < 18446744073709551616) (hm : m < 64) : bits BinOp.and IntKind.u64 (v : Int) (IntKind.u64.wrap (IntKind.u64.wrap (2 ^ m) - 1)) = ((v % 2 ^ m : Nat) : Int) := by
  rw [← and_low v m hv (by omega)]
  congr 1
  have h1 : (2 : Nat) ^ m ≤ 2 ^ 63 := Nat.pow_le_pow_right (by omega) (by omega)
  have h2 : 0 < (2 : Nat) ^ m := Nat.pow_pos (by omega)
  have e : (2 : Int) ^ m = ((2 ^ m : Nat) : Int) := by push_cast; rfl
  rw [e, IntKind.wrap_u64, IntKind.wrap_u64]
  omega

set_option maxHeartbeats 1000000 in
set_option maxRecDepth 100000 in
theorem bitsPuts_walk (A0 : Option Addr) (cap0 : Nat) (ps : List (Nat × Int)) {w : World} (hp : PutsAt w A0 ps) (hlc : ps.length ≤ cap0) (hcm : cap0 ≤ maxLen) :
    Calls Try.prog 3 #[.slice A0 ps.length cap0] w fun e w' => e = .returned (.bool true) ∧ Below w.heap.size w w' := by
  have HP := Lib.hid hp
  unfold maxLen at hcm
  clear hp
  go_enter Try.func3, Try.ntmps3
  go_wp2_with (first
    | (go_at_call 15; with_reducible refine (none_any _).mono ?_; rintro e w1 ⟨rfl, rfl⟩)
    | (go_at_call 16; with_reducible refine (wput_nil 1 1 _).mono ?_; rintro e w1 ⟨rfl, rfl⟩)
    | (go_at_call 17; refine (bputs_any _).mono ?_; rintro e w2 ⟨rfl, hb2⟩; have hw2 := WSt.new w2 w.heap.size hb2.size; have hb2' := hb2.alloc hb2.size (.cells #[.pointer none, .int .u64 0, .int .i64 0] 36))
    | (go_at_call 18; with_reducible refine (wbytes_nil _).mono ?_; rintro e w3 ⟨rfl, rfl⟩)
    | (go_at_call 19; with_reducible refine (take_nil 1 _).mono ?_; rintro e w3 ⟨rfl, rfl⟩)
    | (go_at_call 20; with_reducible refine (bad_nil _).mono ?_; rintro e w3 ⟨rfl, rfl⟩)
    | (go_at_call 21; with_reducible refine (left_nil _).mono ?_; rintro e w3 ⟨rfl, rfl⟩))
  have hg2 : w.heap.size ≤ w2.heap.size := hb2.size
  go_loopw [6, 7] (fun l i wr => ∃ (k L V : Nat) (A' : Option Addr) (c' : Nat), k ≤ ps.length ∧ k ≤ 60 ∧ Hid (tot (ps.take k) = (L, V)) ∧ i = .int .i64 k ∧ l = .slice A' L c' ∧ WSt wr w.heap.size w2.heap.size L V ∧ OwnS wr w.heap.size (.slice A' L c') 5 (bl L V) ∧ Below w.heap.size w wr) (fun _ i _ => 60 - (intOf i).toNat)
  case atStart => exact ⟨0, 0, 0, none, 0, by omega, by omega, Lib.hid rfl, rfl, rfl, hw2, OwnS.nil _ _ _, hb2'⟩
  case round =>
    obtain ⟨k, L, V, A', c', hk, hk6, HT, rfl, rfl, hw, ho, hb⟩ := hrel
    have hL : L ≤ 4000 := by
      have := tot_le ps k hk
      rw [HT.out] at this
      simp only at this
      omega
    by_cases hlt : k < ps.length ∧ k < 60
    · obtain ⟨hlt, hlt6⟩ := hlt
      obtain ⟨b, off, rfl, hc⟩ := HP.out.2 (by intro h; subst h; simp at hlt)
      obtain ⟨hc0, hc1⟩ := hc k hlt
      have hblt := World.block_lt_of_cell? w _ hc0
      have hv64 := HP.out.1 _ (List.getElem_mem hlt)
      have hsucc := tot_succ ps k hlt
      rw [HT.out] at hsucc
      obtain ⟨v, hv⟩ : ∃ v, v = ps[k].1 := ⟨_, rfl⟩
      obtain ⟨n, hn⟩ : ∃ n, n = ps[k].2 := ⟨_, rfl⟩
      rw [← hv] at hc0 hv64 hsucc
      rw [← hn] at hc1 hsucc
      have HS := Lib.hid hsucc
      clear hc hsucc hv hn
      have hcr : ∀ y : SubW w.heap.size w, y.at_.cell? ⟨b, off + k * 2, none⟩ = some (.int .u64 (v : Int)) ∧ y.at_.cell? ⟨b, off + k * 2 + 1, none⟩ = some (.int .i64 n) := fun y =>
        ⟨(World.cell?_of_block (a := ⟨b, off + k * 2, none⟩) (y.ok_.block _ hblt)).trans hc0, (World.cell?_of_block (a := ⟨b, off + k * 2 + 1, none⟩) (y.ok_.block _ hblt)).trans hc1⟩
      have HC := Lib.hid hcr
      clear hcr hc0 hc1
      go_wp2_with fail
      have k0 : ∀ y : SubW w.heap.size wr, y.at_.cell? ⟨b, off + k * 2, none⟩ = some (.int .u64 (v : Int)) := fun y => (HC.out ⟨y.at_, hb.trans y.ok_⟩).1
      have k1 : ∀ y : SubW w.heap.size wr, y.at_.cell? ⟨b, off + k * 2 + 1, none⟩ = some (.int .i64 n) := fun y => (HC.out ⟨y.at_, hb.trans y.ok_⟩).2
      refine region_overB w.heap.size hb.size [([0, 1, 2, 3, 4, 5, 6, 7, 8, 9], 10)] [] (by kernel_rfl) (by kernel_rfl) ?_
      rintro wd hbd
      rw [wpBl_cons]
      simp only [List.map_cons, List.map_nil, opAt, List.getElem?_toArray, List.getElem?_cons_zero, List.getElem?_cons_succ, Option.getD_some]
      repeat (go_big_quiet_step (fail))
      refine wpQuiet_nil ?_
      have hwd := hw.below hbd
      have hod := ho.below hbd
      have hbwd := hb.trans (hbd.mono hb.size)
      go_wp2_with (go_at_call 16; with_reducible refine (wput_st w.heap.size w2.heap.size L V v n _ hwd hv64 (wi n) rfl).mono ?_; rintro e w3 ⟨rfl, hw3, hg3⟩)
      have ho3 := hod.past hwd hg3
      have hb3 := below_some hbwd.size hg2 hbwd hg3
      refine ⟨⟨⟨_, below_some hbwd.size hg2 (hbd.mono hb.size) hg3⟩, rfl⟩, ?_⟩
      rw [wpBl_nil]
      simp only [List.map_nil]
      refine wpQuiet_nil ?_
      clear k0 k1 hwd hod hbwd hbd hg3
      go_wp2_with fail
      have k0 : ∀ y : SubW w.heap.size w3, y.at_.cell? ⟨b, off + k * 2, none⟩ = some (.int .u64 (v : Int)) := fun y => (HC.out ⟨y.at_, hb3.trans y.ok_⟩).1
      have k1 : ∀ y : SubW w.heap.size w3, y.at_.cell? ⟨b, off + k * 2 + 1, none⟩ = some (.int .i64 n) := fun y => (HC.out ⟨y.at_, hb3.trans y.ok_⟩).2
      refine region_overB w.heap.size hb3.size [([0, 1, 2, 3, 4, 5, 6, 7, 8, 9, 10], 11)] [12] (by kernel_rfl) (by kernel_rfl) ?_
      rintro wd hbd
      rw [wpBl_cons]
      simp only [List.map_cons, List.map_nil, opAt, List.getElem?_toArray, List.getElem?_cons_zero, List.getElem?_cons_succ, Option.getD_some]
      repeat (go_big_quiet_step (fail))
      refine wpQuiet_nil ?_
      have hwd := hw3.below hbd
      have hod := ho3.below hbd
      have hbwd := hb3.trans (hbd.mono hb3.size)
      go_wp2_with (go_at_call 22; with_reducible refine (refBitPut_w A' L c' L V v n _ w.heap.size hod hbwd.size (by omega) hv64).mono ?_; rintro e w4 ⟨A4, c4, rfl, ho4, hb4, hg4⟩)
      have hw4 := hwd.past hod hg4
      have hbw4 := hbwd.trans hb4
      refine ⟨⟨⟨_, (hbd.mono hb3.size).trans hb4⟩, rfl⟩, ?_⟩
      rw [wpBl_nil]
      simp only [List.map_cons, List.map_nil, opAt, List.getElem?_toArray, List.getElem?_cons_zero, List.getElem?_cons_succ, Option.getD_some]
      repeat (go_big_quiet_step (fail))
      refine wpQuiet_nil ?_
      clear k0 k1 hwd hod hbwd hbd hg4 hb4 hw ho hw3 ho3 hb3 hb
      obtain ⟨L2, hL2⟩ : ∃ L2, L2 = L + wi n := ⟨_, rfl⟩
      obtain ⟨V2, hV2⟩ : ∃ V2, V2 = V * 2 ^ wi n + v % 2 ^ wi n := ⟨_, rfl⟩
      have hsucc := HS.out
      rw [← hL2, ← hV2] at hw4 ho4 hsucc
      rw [← hL2]
      have HS2 := Lib.hid hsucc
      have hL2le : L2 ≤ 5000 := by have := wi_le n; omega
      clear hL2 hV2 hsucc HS
      have hV2lt := hw4.lt
      have hx4 := ho4.bytes
      obtain ⟨nb, hnb⟩ : ∃ nb, nb = (L2 + 7) / 8 := ⟨_, rfl⟩
      obtain ⟨xs, hxs⟩ : ∃ xs, xs = bytesW L2 V2 := ⟨_, rfl⟩
      have HNB := Lib.hid hnb
      have HX : Hid (xs.length = nb) := Lib.hid (by rw [hxs, length_bytesW, hnb])
      have HXS := Lib.hid hxs
      clear hnb hxs
      go_wp2_with fail
      refine region_ways w.heap.size hbw4.size (.one [2] 0 (.two [] 1 (.one [] 3 (.one [] 4 (.done [5]))) 3 (.two [] 1 (.one [] 4 (.done [5])) 4 (.one [] 1 (.done [5]))))) (by kernel_rfl) (by kernel_rfl) ?_
      rintro wd hbd
      rw [wpWays_one]
      try simp only [List.map_cons, List.map_nil, opAt, List.getElem?_toArray, List.getElem?_cons_zero, List.getElem?_cons_succ, Option.getD_some]
      repeat (go_big_quiet_step (fail))
      refine wpQuiet_nil ?_
      go_wp2_with (go_at_call 18; with_reducible refine (wbytes_st w.heap.size w2.heap.size L2 V2 nb _ (hw4.below hbd) (by omega) HNB.out).mono ?_; rw [← HXS.out]; rintro e w5 ⟨A5, c5, rfl, hx5, _, _, _, hb5'⟩)
      have hb5 := hbd.trans (hb5'.mono hbd.size)
      have hx45 := hx4.below hb5
      have t5 := text_n A5 nb c5 xs HX.out hx5
      refine ⟨⟨⟨_, hb5.mono hbw4.size⟩, rfl⟩, ?_⟩
      rw [wpWays_two]
      try simp only [List.map_cons, List.map_nil, opAt, List.getElem?_toArray, List.getElem?_cons_zero, List.getElem?_cons_succ, Option.getD_some]
      repeat (go_big_quiet_step (fail))
      refine wpQuiet_nil ⟨?_, ?_⟩
      · go_wp2_with fail
        refine ⟨⟨⟨_, hb5.mono hbw4.size⟩, rfl⟩, ?_⟩
        rw [wpWays_one]
        try simp only [List.map_cons, List.map_nil, opAt, List.getElem?_toArray, List.getElem?_cons_zero, List.getElem?_cons_succ, Option.getD_some]
        repeat (go_big_quiet_step (fail))
        refine wpQuiet_nil ?_
        go_wp2_with (go_at_call 23; with_reducible refine (refBytes_any A4 L2 c4 V2 _ hx45 (by omega) hV2lt).mono ?_; rw [← HNB.out, ← HXS.out]; rintro e w6 ⟨A6, c6, rfl, ho6, hb6⟩)
        have hb56 := hb5.trans (hb6.mono hb5.size)
        have t6 := text_n A6 nb c6 xs HX.out ho6.bytes
        have t56 := text_n A5 nb c5 xs HX.out (hx5.below hb6)
        refine ⟨⟨⟨_, hb56.mono hbw4.size⟩, rfl⟩, ?_⟩
        rw [wpWays_one]
        try simp only [List.map_cons, List.map_nil, opAt, List.getElem?_toArray, List.getElem?_cons_zero, List.getElem?_cons_succ, Option.getD_some]
        repeat (go_big_quiet_step (fail))
        refine wpQuiet_nil ?_
        go_wp2_with fail
        refine ⟨⟨⟨_, hb56.mono hbw4.size⟩, rfl⟩, ?_⟩
        rw [wpWays_done]
        try simp only [List.map_cons, List.map_nil, opAt, List.getElem?_toArray, List.getElem?_cons_zero, List.getElem?_cons_succ, Option.getD_some]
        repeat (go_big_quiet_step (fail))
        refine wpQuiet_nil ?_
        go_wp2_with fail
        go_roundw
        case rel => exact ⟨k + 1, L2, V2, A4, c4, by omega, by omega, HS2, by go_num, rfl, hw4.below hb56, ho4.below hb56, hbw4.trans (hb56.mono hbw4.size)⟩
        case measure => simp [intOf]; omega
      · go_wp2_with (go_at_call 23; with_reducible refine (refBytes_any A4 L2 c4 V2 _ hx45 (by omega) hV2lt).mono ?_; rw [← HNB.out, ← HXS.out]; rintro e w6 ⟨A6, c6, rfl, ho6, hb6⟩)
        have hb56 := hb5.trans (hb6.mono hb5.size)
        have t6 := text_n A6 nb c6 xs HX.out ho6.bytes
        have t56 := text_n A5 nb c5 xs HX.out (hx5.below hb6)
        refine ⟨⟨⟨_, hb56.mono hbw4.size⟩, rfl⟩, ?_⟩
        rw [wpWays_two]
        try simp only [List.map_cons, List.map_nil, opAt, List.getElem?_toArray, List.getElem?_cons_zero, List.getElem?_cons_succ, Option.getD_some]
        repeat (go_big_quiet_step (fail))
        refine wpQuiet_nil ⟨?_, ?_⟩
        · go_wp2_with fail
          refine ⟨⟨⟨_, hb56.mono hbw4.size⟩, rfl⟩, ?_⟩
          rw [wpWays_one]
          try simp only [List.map_cons, List.map_nil, opAt, List.getElem?_toArray, List.getElem?_cons_zero, List.getElem?_cons_succ, Option.getD_some]
          repeat (go_big_quiet_step (fail))
          refine wpQuiet_nil ?_
          go_wp2_with fail
          refine ⟨⟨⟨_, hb56.mono hbw4.size⟩, rfl⟩, ?_⟩
          rw [wpWays_done]
          try simp only [List.map_cons, List.map_nil, opAt, List.getElem?_toArray, List.getElem?_cons_zero, List.getElem?_cons_succ, Option.getD_some]
          repeat (go_big_quiet_step (fail))
          refine wpQuiet_nil ?_
          go_wp2_with fail
          go_roundw
          case rel => exact ⟨k + 1, L2, V2, A4, c4, by omega, by omega, HS2, by go_num, rfl, hw4.below hb56, ho4.below hb56, hbw4.trans (hb56.mono hbw4.size)⟩
          case measure => simp [intOf]; omega
        · go_wp2_with fail
          refine ⟨⟨⟨_, hb56.mono hbw4.size⟩, rfl⟩, ?_⟩
          rw [wpWays_one]
          try simp only [List.map_cons, List.map_nil, opAt, List.getElem?_toArray, List.getElem?_cons_zero, List.getElem?_cons_succ, Option.getD_some]
          repeat (go_big_quiet_step (fail))
          refine wpQuiet_nil ?_
          go_wp2_with fail
          refine ⟨⟨⟨_, hb56.mono hbw4.size⟩, rfl⟩, ?_⟩
          rw [wpWays_done]
          try simp only [List.map_cons, List.map_nil, opAt, List.getElem?_toArray, List.getElem?_cons_zero, List.getElem?_cons_succ, Option.getD_some]
          repeat (go_big_quiet_step (fail))
          refine wpQuiet_nil ?_
          go_wp2_with fail
          go_roundw
          case rel => exact ⟨k + 1, L2, V2, A4, c4, by omega, by omega, HS2, by go_num, rfl, hw4.below hb56, ho4.below hb56, hbw4.trans (hb56.mono hbw4.size)⟩
          case measure => simp [intOf]; omega
    · have hend : k = ps.length ∨ k < ps.length ∧ k = 60 := by omega
      rcases hend with rfl | ⟨hlt, rfl⟩
      · -- all of the row
        have hKp : ps.length ≤ ps.length := by omega
        have hK6 : ps.length ≤ 60 := by omega
        have hV2lt := hw.lt
        obtain ⟨nb, hnb⟩ : ∃ nb, nb = (L + 7) / 8 := ⟨_, rfl⟩
        obtain ⟨xs, hxs⟩ : ∃ xs, xs = bytesW L V := ⟨_, rfl⟩
        have hT : ∀ p q, q ≤ L → mid (valB xs) (8 * nb) p q = mid V L p q := fun p q hq => by
          rw [hxs, hnb]
          exact mid_bytesW _ _ _ _ hV2lt hq
        have HTT := Lib.hid hT
        have HNB := Lib.hid hnb
        have HX : Hid (xs.length = nb) := Lib.hid (by rw [hxs, length_bytesW, hnb])
        have HXS := Lib.hid hxs
        have hnb1 : nb ≤ 1000 := by omega
        have hnbL : L ≤ 8 * nb := by omega
        clear hnb hxs hT
        go_wp2_with (first
          | (go_at_call 18; with_reducible refine (wbytes_st w.heap.size w2.heap.size L V nb _ hw (by omega) HNB.out).mono ?_; rw [← HXS.out]; rintro e w5 ⟨A5, c5, rfl, hx5, _, _, _, hb5⟩)
          | (go_at_call 24; with_reducible refine (new_any A5 nb c5 _).mono ?_; rintro e w6 ⟨rfl, hr6, hl6, hb6⟩))
        have hbw5 := hb.trans (hb5.mono hb.size)
        have hbw6 := hbw5.trans (hb6.mono hbw5.size)
        have hx6 := hx5.below hb6
        have hg5 := hbw5.size
        clear hb5 hb6 hl6 hx5 hw ho hb
        go_loopw [9] (fun i wr => ∃ (j p : Nat), j ≤ ps.length ∧ Hid ((tot (ps.take j)).1 = p) ∧ i = .int .i64 j ∧ RdAt wr w5.heap.size A5 nb c5 p false ∧ BytesAt wr A5 xs ∧ Below w.heap.size w wr) (fun i _ => 60 - (intOf i).toNat)
        case atStart => exact ⟨0, 0, by omega, Lib.hid rfl, rfl, hr6, hx6, hbw6⟩
        case round =>
          obtain ⟨j, p, hj, HJ, rfl, hr, hx, hb⟩ := hrel
          by_cases hlt2 : j < ps.length
          · have hjl : j < ps.length := by omega
            have hj6 : j < 60 := by omega
            obtain ⟨b, off, rfl, hc⟩ := HP.out.2 (by intro h; subst h; simp at hjl)
            obtain ⟨hc0, hc1⟩ := hc j hjl
            have hblt := World.block_lt_of_cell? w _ hc0
            have hv64 := HP.out.1 _ (List.getElem_mem hjl)
            have hmm := tot_mid ps j ps.length hlt2 hKp
            have hle := (tot_mono ps (j + 1) (ps.length - (j + 1)) (by omega)).1
            rw [show j + 1 + (ps.length - (j + 1)) = ps.length by omega] at hle
            have hsucc := tot_succ ps j hjl
            have hKt := HT.out
            skip
            rw [hKt] at hmm hle
            rw [hsucc] at hle
            rw [HJ.out] at hmm hle
            have hp1 : (tot (ps.take (j + 1))).1 = p + wi ps[j].2 := by rw [hsucc, HJ.out]
            simp only at hmm hle
            rw [← HTT.out _ _ hle] at hmm
            obtain ⟨v, hv⟩ : ∃ v, v = ps[j].1 := ⟨_, rfl⟩
            obtain ⟨n, hn⟩ : ∃ n, n = ps[j].2 := ⟨_, rfl⟩
            rw [← hv] at hc0 hv64 hmm
            rw [← hn] at hc1 hmm hle hp1
            have HP1 := Lib.hid hp1
            have hck0 := (World.cell?_of_block (a := ⟨b, off + j * 2, none⟩) (hb.block _ hblt)).trans hc0
            have hck1 := (World.cell?_of_block (a := ⟨b, off + j * 2 + 1, none⟩) (hb.block _ hblt)).trans hc1
            have hwv := wi_val n
            have hwl := wi_le n
            obtain ⟨m, hm⟩ : ∃ m, m = wi n := ⟨_, rfl⟩
            rw [← hm] at hwv hwl hmm hle
            have HMM := Lib.hid hmm
            have HM := Lib.hid hm
            have hpq : p + wi n ≤ 8 * nb := by rw [← hm]; omega
            have HPQ := Lib.hid hpq
            clear hc hsucc hKt hp1 hv hn hmm hm hpq hle hc0 hc1 HTT
            by_cases hm64 : m < 64
            · have hand := want_low v m hv64 hm64
              obtain ⟨M, hM⟩ : ∃ M, M = v % 2 ^ m := ⟨_, rfl⟩
              rw [← hM] at hand
              have HMM2 : Hid (mid (valB xs) (8 * nb) p (p + m) = M) := Lib.hid (HMM.out.trans hM.symm)
              clear HMM hM
              go_wp2_with (first
                | (go_at_call 19; with_reducible refine (take_okA w5.heap.size A5 nb c5 p n xs M _ hr hx HX.out (by omega) HPQ.out (by rw [← HM.out]; exact HMM2.out)).mono ?_; rintro e w7 ⟨rfl, hr7, hg7⟩)
                | (go_at_call 20; with_reducible refine (bad_any w5.heap.size A5 nb c5 (p + wi n) false _ hr7).mono ?_; rintro e w8 ⟨rfl, rfl⟩))
              go_roundw
              case rel =>
                have hb7 := below_some hb.size hg5 hb hg7
                exact ⟨j + 1, p + wi n, by omega, Lib.hid HP1.out, by go_num, hr7, bytes_past hr hx hg7, hb7⟩
              case measure => simp [intOf]; omega
            · have hm0 : m = 64 := by omega
              have HMM2 : Hid (mid (valB xs) (8 * nb) p (p + m) = v) := Lib.hid (HMM.out.trans (by rw [hm0]; omega))
              clear HMM
              go_wp2_with (first
                | (go_at_call 19; with_reducible refine (take_okA w5.heap.size A5 nb c5 p n xs v _ hr hx HX.out (by omega) HPQ.out (by rw [← HM.out]; exact HMM2.out)).mono ?_; rintro e w7 ⟨rfl, hr7, hg7⟩)
                | (go_at_call 20; with_reducible refine (bad_any w5.heap.size A5 nb c5 (p + wi n) false _ hr7).mono ?_; rintro e w8 ⟨rfl, rfl⟩))
              go_roundw
              case rel =>
                have hb7 := below_some hb.size hg5 hb hg7
                exact ⟨j + 1, p + wi n, by omega, Lib.hid HP1.out, by go_num, hr7, bytes_past hr hx hg7, hb7⟩
              case measure => simp [intOf]; omega
          · obtain rfl : j = ps.length := by omega
            have hpL : p = L := by
              have h1 := HJ.out
              rw [HT.out] at h1
              exact h1.symm
            have hpn : p ≤ 8 * nb := by omega
            obtain ⟨d, hd⟩ : ∃ d, d = 8 * nb - p := ⟨_, rfl⟩
            have hd8 : decide ((d : Int) < 8) = true := by have := HNB.out; rw [decide_eq_true_iff]; omega
            have HD : Hid ((d : Int) = ((8 * nb - p : Nat) : Int)) := Lib.hid (by rw [hd])
            clear hd
            go_wp2_with (go_at_call 21; with_reducible refine (left_lit w5.heap.size A5 nb c5 p false d _ HD.out hr (by omega) hpn).mono ?_; rintro e w8 ⟨rfl, hb8⟩)
            go_ret
            exact ⟨by first | rfl | rw [hd8], hb.trans (hb8.mono hb.size)⟩
      · -- sixty of them
        have hKp : 60 ≤ ps.length := by omega
        have hK6 : 60 ≤ 60 := by omega
        have hV2lt := hw.lt
        obtain ⟨nb, hnb⟩ : ∃ nb, nb = (L + 7) / 8 := ⟨_, rfl⟩
        obtain ⟨xs, hxs⟩ : ∃ xs, xs = bytesW L V := ⟨_, rfl⟩
        have hT : ∀ p q, q ≤ L → mid (valB xs) (8 * nb) p q = mid V L p q := fun p q hq => by
          rw [hxs, hnb]
          exact mid_bytesW _ _ _ _ hV2lt hq
        have HTT := Lib.hid hT
        have HNB := Lib.hid hnb
        have HX : Hid (xs.length = nb) := Lib.hid (by rw [hxs, length_bytesW, hnb])
        have HXS := Lib.hid hxs
        have hnb1 : nb ≤ 1000 := by omega
        have hnbL : L ≤ 8 * nb := by omega
        clear hnb hxs hT
        go_wp2_with (first
          | (go_at_call 18; with_reducible refine (wbytes_st w.heap.size w2.heap.size L V nb _ hw (by omega) HNB.out).mono ?_; rw [← HXS.out]; rintro e w5 ⟨A5, c5, rfl, hx5, _, _, _, hb5⟩)
          | (go_at_call 24; with_reducible refine (new_any A5 nb c5 _).mono ?_; rintro e w6 ⟨rfl, hr6, hl6, hb6⟩))
        have hbw5 := hb.trans (hb5.mono hb.size)
        have hbw6 := hbw5.trans (hb6.mono hbw5.size)
        have hx6 := hx5.below hb6
        have hg5 := hbw5.size
        clear hb5 hb6 hl6 hx5 hw ho hb
        go_loopw [9] (fun i wr => ∃ (j p : Nat), j ≤ 60 ∧ Hid ((tot (ps.take j)).1 = p) ∧ i = .int .i64 j ∧ RdAt wr w5.heap.size A5 nb c5 p false ∧ BytesAt wr A5 xs ∧ Below w.heap.size w wr) (fun i _ => 60 - (intOf i).toNat)
        case atStart => exact ⟨0, 0, by omega, Lib.hid rfl, rfl, hr6, hx6, hbw6⟩
        case round =>
          obtain ⟨j, p, hj, HJ, rfl, hr, hx, hb⟩ := hrel
          by_cases hlt2 : j < 60
          · have hjl : j < ps.length := by omega
            have hj6 : j < 60 := by omega
            obtain ⟨b, off, rfl, hc⟩ := HP.out.2 (by intro h; subst h; simp at hjl)
            obtain ⟨hc0, hc1⟩ := hc j hjl
            have hblt := World.block_lt_of_cell? w _ hc0
            have hv64 := HP.out.1 _ (List.getElem_mem hjl)
            have hmm := tot_mid ps j 60 hlt2 hKp
            have hle := (tot_mono ps (j + 1) (60 - (j + 1)) (by omega)).1
            rw [show j + 1 + (60 - (j + 1)) = 60 by omega] at hle
            have hsucc := tot_succ ps j hjl
            have hKt := HT.out
            skip
            rw [hKt] at hmm hle
            rw [hsucc] at hle
            rw [HJ.out] at hmm hle
            have hp1 : (tot (ps.take (j + 1))).1 = p + wi ps[j].2 := by rw [hsucc, HJ.out]
            simp only at hmm hle
            rw [← HTT.out _ _ hle] at hmm
            obtain ⟨v, hv⟩ : ∃ v, v = ps[j].1 := ⟨_, rfl⟩
            obtain ⟨n, hn⟩ : ∃ n, n = ps[j].2 := ⟨_, rfl⟩
            rw [← hv] at hc0 hv64 hmm
            rw [← hn] at hc1 hmm hle hp1
            have HP1 := Lib.hid hp1
            have hck0 := (World.cell?_of_block (a := ⟨b, off + j * 2, none⟩) (hb.block _ hblt)).trans hc0
            have hck1 := (World.cell?_of_block (a := ⟨b, off + j * 2 + 1, none⟩) (hb.block _ hblt)).trans hc1
            have hwv := wi_val n
            have hwl := wi_le n
            obtain ⟨m, hm⟩ : ∃ m, m = wi n := ⟨_, rfl⟩
            rw [← hm] at hwv hwl hmm hle
            have HMM := Lib.hid hmm
            have HM := Lib.hid hm
            have hpq : p + wi n ≤ 8 * nb := by rw [← hm]; omega
            have HPQ := Lib.hid hpq
            clear hc hsucc hKt hp1 hv hn hmm hm hpq hle hc0 hc1 HTT
            by_cases hm64 : m < 64
            · have hand := want_low v m hv64 hm64
              obtain ⟨M, hM⟩ : ∃ M, M = v % 2 ^ m := ⟨_, rfl⟩
              rw [← hM] at hand
              have HMM2 : Hid (mid (valB xs) (8 * nb) p (p + m) = M) := Lib.hid (HMM.out.trans hM.symm)
              clear HMM hM
              go_wp2_with (first
                | (go_at_call 19; with_reducible refine (take_okA w5.heap.size A5 nb c5 p n xs M _ hr hx HX.out (by omega) HPQ.out (by rw [← HM.out]; exact HMM2.out)).mono ?_; rintro e w7 ⟨rfl, hr7, hg7⟩)
                | (go_at_call 20; with_reducible refine (bad_any w5.heap.size A5 nb c5 (p + wi n) false _ hr7).mono ?_; rintro e w8 ⟨rfl, rfl⟩))
              go_roundw
              case rel =>
                have hb7 := below_some hb.size hg5 hb hg7
                exact ⟨j + 1, p + wi n, by omega, Lib.hid HP1.out, by go_num, hr7, bytes_past hr hx hg7, hb7⟩
              case measure => simp [intOf]; omega
            · have hm0 : m = 64 := by omega
              have HMM2 : Hid (mid (valB xs) (8 * nb) p (p + m) = v) := Lib.hid (HMM.out.trans (by rw [hm0]; omega))
              clear HMM
              go_wp2_with (first
                | (go_at_call 19; with_reducible refine (take_okA w5.heap.size A5 nb c5 p n xs v _ hr hx HX.out (by omega) HPQ.out (by rw [← HM.out]; exact HMM2.out)).mono ?_; rintro e w7 ⟨rfl, hr7, hg7⟩)
                | (go_at_call 20; with_reducible refine (bad_any w5.heap.size A5 nb c5 (p + wi n) false _ hr7).mono ?_; rintro e w8 ⟨rfl, rfl⟩))
              go_roundw
              case rel =>
                have hb7 := below_some hb.size hg5 hb hg7
                exact ⟨j + 1, p + wi n, by omega, Lib.hid HP1.out, by go_num, hr7, bytes_past hr hx hg7, hb7⟩
              case measure => simp [intOf]; omega
          · obtain rfl : j = 60 := by omega
            have hpL : p = L := by
              have h1 := HJ.out
              rw [HT.out] at h1
              exact h1.symm
            have hpn : p ≤ 8 * nb := by omega
            obtain ⟨d, hd⟩ : ∃ d, d = 8 * nb - p := ⟨_, rfl⟩
            have hd8 : decide ((d : Int) < 8) = true := by have := HNB.out; rw [decide_eq_true_iff]; omega
            have HD : Hid ((d : Int) = ((8 * nb - p : Nat) : Int)) := Lib.hid (by rw [hd])
            clear hd
            go_wp2_with (go_at_call 21; with_reducible refine (left_lit w5.heap.size A5 nb c5 p false d _ HD.out hr (by omega) hpn).mono ?_; rintro e w8 ⟨rfl, hb8⟩)
            go_ret
            exact ⟨by first | rfl | rw [hd8], hb.trans (hb8.mono hb.size)⟩
end Go.Proofs.Ytnpomochhbkefaa
