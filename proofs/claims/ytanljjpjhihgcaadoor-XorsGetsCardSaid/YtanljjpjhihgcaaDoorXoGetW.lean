/- xors.Get of whatever bytes. -/
import Derived.Test.YtanljjpjhihgcaaDoorXoGet
namespace Go.Proofs.YtanljjpjhihgcaaDoor
open Go.RowKit BitM RunM
set_option linter.unusedVariables false

set_option maxHeartbeats 1000000 in
set_option maxRecDepth 100000 in
theorem xorsGet_weak (A : Option Addr) (len c n : Nat) (X : List UInt8) (w : World) (hX : BytesAt w A X) (hlen : X.length = len) (hl : len ≤ 1000000) (hc : len ≤ c) (hcm : c ≤ maxLen) (hpos : 0 < n) (hn2 : n ≤ 200) (ht : TabAt w) :
    Calls Tryd.prog 18 #[.slice A len c, .int .i64 (n : Int)] w fun e w' => Below w.heap.size w w' ∧ (e = .returned (.tuple #[.slice none 0 0, .int .i64 0, .int .i64 3]) ∨ e = .returned (.tuple #[.slice none 0 0, .int .i64 0, .int .i64 4]) ∨
      ∃ A' c' ns sz, e = .returned (.tuple #[.slice A' n c', .int .i64 ((sz : Nat) : Int), .int .i64 0]) ∧ NatsAt w' A' ns ∧ n ≤ c' ∧ c' ≤ maxLen ∧ ns.length = n ∧ (∀ v ∈ ns, v < 18446744073709551616) ∧ (xb ns).length = sz ∧ sz ≤ len ∧ xb ns = X.take sz) := by
  have hn0 : ((n : Int) == 0) = false := by rw [beq_eq_false_iff_ne]; omega
  obtain ⟨n1, hn1⟩ : ∃ n1, n1 = n - 1 := ⟨_, rfl⟩
  have hsub : (n : Int) - 1 = (n1 : Int) := by omega
  have HXB := Lib.hid hX
  have HXL := Lib.hid hlen
  have HT := Lib.hid ht
  have HN1 := Lib.hid hn1
  unfold maxLen at hcm
  clear hX hlen ht hn1
  go_enter Tryd.func18, Tryd.ntmps18
  go_wp2_with (first
    | (go_at_call 40; with_reducible refine (new_any A len c _).mono ?_; rintro e w1 ⟨rfl, hr1, hl1, hb1⟩; have hx1 := HXB.out.below hb1)
    | (go_at_call 41; with_reducible refine (take_weak w.heap.size A len c 0 false 64 X 18446744073709551616 _ hr1 hx1 HXL.out hl (by omega) (by decide)).mono ?_; rintro e w2 ⟨v0, p0, bad0, rfl, hv0lt, hp0, hr2, hg2⟩; have hb2 := below_some hb1.size (Nat.le_refl _) hb1 hg2; have hs2 := hg2.size))
  have hle2 : w.heap.size + 1 ≤ w2.heap.size := by omega
  have ho2 : OwnN (w2.alloc (.cells #[.int .u64 (v0 : Int)] 22)) (w.heap.size + 1) (.slice (some ⟨w2.heap.size, 0, none⟩) 1 1) [v0] := OwnV.new w2 22 [uv v0] (w.heap.size + 1) hle2 (by unfold maxLen; simp)
  have hr2' := RdAt.allocd hr2 (.cells #[.int .u64 (v0 : Int)] 22)
  have hb2' : Below w.heap.size w (w2.alloc (.cells #[.int .u64 (v0 : Int)] 22)) := hb2.alloc hb2.size _
  clear hr1 hx1 hb1 hg2 hr2 hb2
  go_loopw [8, 28] (fun l i wr => ∃ (k P cl : Nat) (Al : Option Addr) (bad : Bool) (ds : List Nat), k ≤ n1 ∧ i = .int .i64 k ∧ l = .slice Al (k + 1) cl ∧ Hid (P ≤ 8 * len) ∧ Hid (∀ v ∈ ds, v < 18446744073709551616) ∧ RdAt wr w.heap.size A len c P bad ∧ OwnN wr (w.heap.size + 1) (.slice Al (k + 1) cl) ds ∧ Below w.heap.size w wr) (fun _ i _ => n1 - (intOf i).toNat)
  case atStart => exact ⟨0, p0, 1, _, bad0, [v0], by omega, rfl, rfl, Lib.hid hp0, Lib.hid (by simpa using hv0lt), hr2', ho2, hb2'⟩
  case round =>
    obtain ⟨k, P, cl, Al, bad, ds, hk, rfl, rfl, HP, HM, hr, ho, hb⟩ := hrel
    obtain ⟨gl, rfl⟩ := OwnN.addr ho (by omega)
    obtain ⟨hdl, hcle, hclm, _⟩ := OwnN.caps ho
    by_cases hlt : k < n1
    · obtain ⟨lv, hlv⟩ : ∃ lv, lv = ds.getD k 0 := ⟨_, rfl⟩
      have HLV : Hid (ds.getD k 0 = lv) := Lib.hid hlv.symm
      have g1 : lv < 18446744073709551616 := by rw [hlv]; exact getD_lt ds HM.out k
      have hn1200 : n1 ≤ 200 := by have := HN1.out; omega
      have HDL := Lib.hid hdl
      clear hlv hdl hcle hclm
      go_wp2_with fail
      refine region_ways w.heap.size hb.size (.two [0, 1, 2, 3, 5] 4 (.one [] 6 (.one [7] 8 (.one [] 9 (.done [10])))) 6 (.one [] 4 (.one [7] 8 (.one [] 9 (.done [10]))))) (by kernel_rfl) (by kernel_rfl) ?_
      rintro wd hbd
      have hrd := hr.below hbd
      have hod : OwnN wd (w.heap.size + 1) (.slice (some ⟨gl, 0, none⟩) (k + 1) cl) ds := OwnV.below ho hbd
      have hxd := (HXB.out.below hb).below hbd
      have hcd := OwnN.cellk hod k lv (by omega) HLV.out
      have hbw := hb.trans (hbd.mono hb.size)
      have hfd := (OwnV.row hod).2.2.2.2.1
      rw [wpWays_two]
      try simp only [List.map_cons, List.map_nil, opAt, List.getElem?_toArray, List.getElem?_cons_zero, List.getElem?_cons_succ, Option.getD_some]
      repeat (go_big_quiet_step (fail))
      refine wpQuiet_nil ⟨?_, ?_⟩
      · go_wp2_with fail
        refine ⟨⟨⟨_, hbd.mono hb.size⟩, rfl⟩, ?_⟩
        try simp only [Act.put, List.setIfInBounds_toArray, List.set_cons_zero, List.set_cons_succ]
        rw [wpWays_one]
        try simp only [List.map_cons, List.map_nil, opAt, List.getElem?_toArray, List.getElem?_cons_zero, List.getElem?_cons_succ, Option.getD_some]
        repeat (go_big_quiet_step (fail))
        refine wpQuiet_nil ?_
        go_wp2_with (go_at_call 42; with_reducible refine (takeChange_weak' w.heap.size A len c P bad X _ hrd hxd HXL.out hl HP.out).mono ?_; rintro e w2 ⟨x, p2, bad2, rfl, hx64, hp2, hr2, hg2⟩)
        have hbw2 := below_some hbw.size (Nat.le_refl _) hbw hg2
        have hb2 : Below w.heap.size wr w2 := below_some (by have := hb.size; have := hbd.size; omega) (Nat.le_refl _) (hbd.mono hb.size) hg2
        have ho2 := OwnN.besideR hod hg2 (by omega)
        have hcd2 := OwnN.cellk ho2 k lv (by omega) HLV.out
        obtain ⟨nv, hnv⟩ : ∃ nv, nv = lv ^^^ x := ⟨_, rfl⟩
        have hxo : bits BinOp.xor IntKind.u64 (lv : Int) (x : Int) = (nv : Int) := by rw [u64_xor_nat _ _ g1 hx64, hnv]
        have g2 : nv < 18446744073709551616 := by rw [hnv]; exact Nat.xor_lt_two_pow (n := 64) g1 hx64
        obtain ⟨ds2, hds2⟩ : ∃ ds2, ds2 = ds ++ [nv] := ⟨_, rfl⟩
        have HDS2 : Hid (ds.map uv ++ [uv nv] = ds2.map uv) := Lib.hid (by rw [hds2]; simp)
        have HL3 : Hid ((ds2.map uv).length = k + 1 + 1) := Lib.hid (by rw [hds2]; simp [HDL.out])
        have hl1 : ((ds.map uv).length + 1) * 8 ≤ 140737488355328 := by rw [List.length_map, HDL.out]; omega
        have hl2 : (ds.map uv).length + 1 ≤ maxLen := by rw [List.length_map, HDL.out]; unfold maxLen; omega
        have HM2 : Hid (∀ v ∈ ds2, v < 18446744073709551616) := Lib.hid (by rw [hds2]; intro v hv; simp only [List.mem_append, List.mem_singleton] at hv; rcases hv with hv | rfl; exact HM.out v hv; exact g2)
        have HP2 := Lib.hid hp2
        clear hnv hds2 hp2
        refine ⟨⟨⟨_, hb2⟩, rfl⟩, ?_⟩
        try simp only [Act.put, List.setIfInBounds_toArray, List.set_cons_zero, List.set_cons_succ]
        rw [wpWays_one]
        try simp only [List.map_cons, List.map_nil, opAt, List.getElem?_toArray, List.getElem?_cons_zero, List.getElem?_cons_succ, Option.getD_some]
        repeat (go_big_quiet_step (fail))
        refine wpQuiet_nil ?_
        go_wp2_with fail
        have hb3 : Below w.heap.size wr (w2.alloc (.cells #[.int .u64 (nv : Int)] 22)) := hb2.alloc (by have := hbw2.size; exact this) _
        refine ⟨⟨⟨_, hb3⟩, rfl⟩, ?_⟩
        try simp only [Act.put, List.setIfInBounds_toArray, List.set_cons_zero, List.set_cons_succ]
        rw [wpWays_one]
        try simp only [List.map_cons, List.map_nil, opAt, List.getElem?_toArray, List.getElem?_cons_zero, List.getElem?_cons_succ, Option.getD_some]
        repeat (go_big_quiet_step (fail))
        refine wpQuiet_nil ?_
        have hbw3 : Below w.heap.size w (w2.alloc (.cells #[.int .u64 (nv : Int)] 22)) := hbw2.alloc hbw2.size _
        have hbase3 : w.heap.size + 1 ≤ (w2.alloc (.cells #[.int .u64 (nv : Int)] 22)).heap.size := by have := hbw2.size; simp; omega
        go_wp2_with (at_builtin; refine wpList_append_vz rfl (.tmp 31) (.tmp 39) 34 rfl Tryd.underlying34 _ 8 infoU64 rfl rfl (OwnV.alloc ho2 _) _ _ 1 [uv nv] (ds2.map uv) rfl rfl (cellsAt_one _ _ _ _ rfl) (uv_one [nv]) HDS2.out hl1 hl2 hbase3 ?_; rw [HL3.out]; intro A3 c3 w4 ho4 hg4)
        have hbw4 := (OwnV.alloc ho2 _).belowGrown (B := w.heap.size) (by omega) (by have := hbw3.size; exact this) hbw3 hg4
        have hb4 := (OwnV.alloc ho2 _).belowGrown (B := w.heap.size) (by omega) (by have := hbw3.size; exact this) hb3 hg4
        have hr4 := RdAt.beside (RdAt.allocd hr2 _) (OwnV.alloc ho2 _) hg4 (by omega)
        refine ⟨⟨⟨_, hb4⟩, rfl⟩, ?_⟩
        try simp only [Act.put, List.setIfInBounds_toArray, List.set_cons_zero, List.set_cons_succ]
        rw [wpWays_done]
        try simp only [List.map_cons, List.map_nil, opAt, List.getElem?_toArray, List.getElem?_cons_zero, List.getElem?_cons_succ, Option.getD_some]
        repeat (go_big_quiet_step (fail))
        refine wpQuiet_nil ?_
        go_wp2_with fail
        go_roundw
        case rel => exact ⟨k + 1, p2, c3, A3, bad2, ds2, by omega, by go_num, rfl, HP2, HM2, hr4, ho4, hbw4⟩
        case measure => simp [intOf]; omega
      · go_wp2_with (go_at_call 42; with_reducible refine (takeChange_weak' w.heap.size A len c P bad X _ hrd hxd HXL.out hl HP.out).mono ?_; rintro e w2 ⟨x, p2, bad2, rfl, hx64, hp2, hr2, hg2⟩)
        have hbw2 := below_some hbw.size (Nat.le_refl _) hbw hg2
        have hb2 : Below w.heap.size wr w2 := below_some (by have := hb.size; have := hbd.size; omega) (Nat.le_refl _) (hbd.mono hb.size) hg2
        have ho2 := OwnN.besideR hod hg2 (by omega)
        have hcd2 := OwnN.cellk ho2 k lv (by omega) HLV.out
        obtain ⟨nv, hnv⟩ : ∃ nv, nv = lv ^^^ x := ⟨_, rfl⟩
        have hxo : bits BinOp.xor IntKind.u64 (lv : Int) (x : Int) = (nv : Int) := by rw [u64_xor_nat _ _ g1 hx64, hnv]
        have g2 : nv < 18446744073709551616 := by rw [hnv]; exact Nat.xor_lt_two_pow (n := 64) g1 hx64
        obtain ⟨ds2, hds2⟩ : ∃ ds2, ds2 = ds ++ [nv] := ⟨_, rfl⟩
        have HDS2 : Hid (ds.map uv ++ [uv nv] = ds2.map uv) := Lib.hid (by rw [hds2]; simp)
        have HL3 : Hid ((ds2.map uv).length = k + 1 + 1) := Lib.hid (by rw [hds2]; simp [HDL.out])
        have hl1 : ((ds.map uv).length + 1) * 8 ≤ 140737488355328 := by rw [List.length_map, HDL.out]; omega
        have hl2 : (ds.map uv).length + 1 ≤ maxLen := by rw [List.length_map, HDL.out]; unfold maxLen; omega
        have HM2 : Hid (∀ v ∈ ds2, v < 18446744073709551616) := Lib.hid (by rw [hds2]; intro v hv; simp only [List.mem_append, List.mem_singleton] at hv; rcases hv with hv | rfl; exact HM.out v hv; exact g2)
        have HP2 := Lib.hid hp2
        clear hnv hds2 hp2
        refine ⟨⟨⟨_, hb2⟩, rfl⟩, ?_⟩
        try simp only [Act.put, List.setIfInBounds_toArray, List.set_cons_zero, List.set_cons_succ]
        rw [wpWays_one]
        try simp only [List.map_cons, List.map_nil, opAt, List.getElem?_toArray, List.getElem?_cons_zero, List.getElem?_cons_succ, Option.getD_some]
        repeat (go_big_quiet_step (fail))
        refine wpQuiet_nil ?_
        go_wp2_with fail
        refine ⟨⟨⟨_, hb2⟩, rfl⟩, ?_⟩
        try simp only [Act.put, List.setIfInBounds_toArray, List.set_cons_zero, List.set_cons_succ]
        rw [wpWays_one]
        try simp only [List.map_cons, List.map_nil, opAt, List.getElem?_toArray, List.getElem?_cons_zero, List.getElem?_cons_succ, Option.getD_some]
        repeat (go_big_quiet_step (fail))
        refine wpQuiet_nil ?_
        go_wp2_with fail
        have hb3 : Below w.heap.size wr (w2.alloc (.cells #[.int .u64 (nv : Int)] 22)) := hb2.alloc (by have := hbw2.size; exact this) _
        refine ⟨⟨⟨_, hb3⟩, rfl⟩, ?_⟩
        try simp only [Act.put, List.setIfInBounds_toArray, List.set_cons_zero, List.set_cons_succ]
        rw [wpWays_one]
        try simp only [List.map_cons, List.map_nil, opAt, List.getElem?_toArray, List.getElem?_cons_zero, List.getElem?_cons_succ, Option.getD_some]
        repeat (go_big_quiet_step (fail))
        refine wpQuiet_nil ?_
        have hbw3 : Below w.heap.size w (w2.alloc (.cells #[.int .u64 (nv : Int)] 22)) := hbw2.alloc hbw2.size _
        have hbase3 : w.heap.size + 1 ≤ (w2.alloc (.cells #[.int .u64 (nv : Int)] 22)).heap.size := by have := hbw2.size; simp; omega
        go_wp2_with (at_builtin; refine wpList_append_vz rfl (.tmp 31) (.tmp 39) 34 rfl Tryd.underlying34 _ 8 infoU64 rfl rfl (OwnV.alloc ho2 _) _ _ 1 [uv nv] (ds2.map uv) rfl rfl (cellsAt_one _ _ _ _ rfl) (uv_one [nv]) HDS2.out hl1 hl2 hbase3 ?_; rw [HL3.out]; intro A3 c3 w4 ho4 hg4)
        have hbw4 := (OwnV.alloc ho2 _).belowGrown (B := w.heap.size) (by omega) (by have := hbw3.size; exact this) hbw3 hg4
        have hb4 := (OwnV.alloc ho2 _).belowGrown (B := w.heap.size) (by omega) (by have := hbw3.size; exact this) hb3 hg4
        have hr4 := RdAt.beside (RdAt.allocd hr2 _) (OwnV.alloc ho2 _) hg4 (by omega)
        refine ⟨⟨⟨_, hb4⟩, rfl⟩, ?_⟩
        try simp only [Act.put, List.setIfInBounds_toArray, List.set_cons_zero, List.set_cons_succ]
        rw [wpWays_done]
        try simp only [List.map_cons, List.map_nil, opAt, List.getElem?_toArray, List.getElem?_cons_zero, List.getElem?_cons_succ, Option.getD_some]
        repeat (go_big_quiet_step (fail))
        refine wpQuiet_nil ?_
        go_wp2_with fail
        go_roundw
        case rel => exact ⟨k + 1, p2, c3, A3, bad2, ds2, by omega, by go_num, rfl, HP2, HM2, hr4, ho4, hbw4⟩
        case measure => simp [intOf]; omega
    · obtain rfl : k = n1 := by omega
      have hkn : k + 1 = n := by have := HN1.out; omega
      have hnats := ho.nats
      obtain ⟨q, hq⟩ : ∃ q, q = 8 * len - P := ⟨_, rfl⟩
      have hqi : ((8 * len - P : Nat) : Int) = (q : Int) := by rw [hq]
      have hPl : P ≤ 8 * len := HP.out
      obtain ⟨sz, hsz⟩ : ∃ sz, sz = len - q / 8 := ⟨_, rfl⟩
      have hszi : (len : Int) - (q : Int) / 8 = (sz : Int) := by omega
      have hszl : sz ≤ len := by omega
      have HQ := Lib.hid hqi
      have HCLM := Lib.hid hclm
      have HNK := Lib.hid hdl
      have HKN := Lib.hid hkn
      have hxt : BytesAt w A (X.take sz) := HXB.out.take sz
      have hxtl : (X.take sz).length = sz := by rw [List.length_take, HXL.out]; omega
      have HXT := Lib.hid hxt
      have HXTL := Lib.hid hxtl
      clear hq hqi hkn hclm hsz hdl hxt hxtl
      cases bad with
      | true =>
        go_wp2_with (go_at_call 43; with_reducible refine (bad_any w.heap.size A len c P true _ hr).mono ?_; rintro e w7 ⟨rfl, rfl⟩)
        go_ret3
        exact ⟨hb, .inr (.inl rfl)⟩
      | false =>
        by_cases he : xb ds = X.take sz
        · have hn' : (xb ds).length = sz := by rw [he]; exact HXTL.out
          have HSZ' := Lib.hid hn'
          have HEQ := Lib.hid he
          clear hn' he
          go_wp2_with (first
            | (go_at_call 43; with_reducible refine (bad_any w.heap.size A len c P false _ hr).mono ?_; rintro e w7 ⟨rfl, rfl⟩)
            | (go_at_call 44; with_reducible refine (left_lit w.heap.size A len c P false (q : Int) _ HQ.out.symm hr (by omega) hPl).mono ?_; rintro e w8 ⟨rfl, hb8⟩; have hbw8 := hb.trans (hb8.mono hb.size))
            | (go_at_call 16; with_reducible refine (xorsPut_any (some ⟨gl, 0, none⟩) (k + 1) cl ds _ HNK.out (hnats.below hb8) (by have := HKN.out; omega) hcle HCLM.out HM.out (HT.out.below hbw8)).mono ?_; rw [HSZ'.out]; rintro e w9 ⟨A9, c9, rfl, hx9, hb9, _, _⟩; have hbw9 := hbw8.trans (hb9.mono hbw8.size); have hxt9 := HXT.out.below hbw9)
            | (go_at_call 34; with_reducible refine (equal_b A9 A c9 c sz sz (xb ds) (X.take sz) _ HSZ'.out HXTL.out hx9 hxt9 HEQ.out).mono ?_; rintro e wa ⟨rfl, rfl⟩))
          go_ret3
          exact ⟨hbw9, .inr (.inr ⟨_, _, ds, sz, by rw [← HKN.out]; rfl, (hnats.below hb8).below hb9, by rw [← HKN.out]; exact hcle, HCLM.out, by rw [← HKN.out]; exact HNK.out, HM.out, HSZ'.out, hszl, HEQ.out⟩)⟩
        · obtain ⟨zl, hzl⟩ : ∃ zl, (xb ds).length = zl := ⟨_, rfl⟩
          have HZL := Lib.hid hzl
          have HNE := Lib.hid he
          clear hzl he
          go_wp2_with (first
            | (go_at_call 43; with_reducible refine (bad_any w.heap.size A len c P false _ hr).mono ?_; rintro e w7 ⟨rfl, rfl⟩)
            | (go_at_call 44; with_reducible refine (left_lit w.heap.size A len c P false (q : Int) _ HQ.out.symm hr (by omega) hPl).mono ?_; rintro e w8 ⟨rfl, hb8⟩; have hbw8 := hb.trans (hb8.mono hb.size))
            | (go_at_call 16; with_reducible refine (xorsPut_any (some ⟨gl, 0, none⟩) (k + 1) cl ds _ HNK.out (hnats.below hb8) (by have := HKN.out; omega) hcle HCLM.out HM.out (HT.out.below hbw8)).mono ?_; rw [HZL.out]; rintro e w9 ⟨A9, c9, rfl, hx9, hb9, _, _⟩; have hbw9 := hbw8.trans (hb9.mono hbw8.size); have hxt9 := HXT.out.below hbw9)
            | (go_at_call 34; with_reducible refine (equal_ne A9 A c9 c zl sz (xb ds) (X.take sz) _ HZL.out HXTL.out hx9 hxt9 HNE.out).mono ?_; rintro e wa ⟨rfl, rfl⟩))
          go_ret3
          exact ⟨hbw9, .inl rfl⟩
end Go.Proofs.YtanljjpjhihgcaaDoor
