/- The walk of RunsPuts. -/
import Derived.Test.YtnpomochhbkefaaRunLaws
namespace Go.Proofs.Ytnpomochhbkefaa
open Go.RowKit VarM RunM
set_option linter.unusedVariables false

theorem nats_of_row {w : World} {A : Option Addr} {zs : List Int} (h : NumRow .u64 w A zs) : NatsAt w A (zs.map Int.toNat) ∧ ∀ v ∈ zs.map Int.toNat, v < 18446744073709551616 := by
  have hz : ∀ n ∈ zs, 0 ≤ n ∧ n < 18446744073709551616 := fun n hn => by have := bounds_u64 (h.1 n hn); omega
  refine ⟨fun hne => ?_, fun v hv => ?_⟩
  · obtain ⟨b, off, ha, hc⟩ := h.2 (by intro h0; subst h0; exact hne rfl)
    refine ⟨b, off, ha, fun k hk => ?_⟩
    have hk' : k < zs.length := by simpa using hk
    rw [hc k hk']
    have := hz _ (List.getElem_mem hk')
    simp only [List.getElem_map, uv]
    congr 2
    omega
  · obtain ⟨z, hz1, rfl⟩ := List.mem_map.1 hv
    have := hz z hz1
    omega

theorem runPut_z (A : Option Addr) (n c : Nat) (ns : List Nat) (Z : List UInt8) (w : World) (hZ : rput ns = Z) (hn : ns.length = n) (hx : NatsAt w A ns) (hl : n ≤ 200) (hc : n ≤ c) (hcm : c ≤ maxLen) (hm : ∀ v ∈ ns, v < 18446744073709551616) :
    Calls Try.prog 40 #[.slice A n c] w fun e w' => ∃ A' c', e = .returned (.tuple #[.slice A' Z.length c', .int .i64 0]) ∧ BytesAt w' A' Z ∧ Z.length ≤ c' ∧ c' ≤ maxLen ∧ Below w.heap.size w w' := by
  subst hZ
  refine (runPut_any A n c ns w hn hx hl hc hcm hm).mono ?_
  rintro e w' ⟨A', c', rfl, h1, h2, h3, _, h4⟩
  exact ⟨A', c', rfl, h1, h2, h3, h4⟩
theorem refRunPut_z (A : Option Addr) (n c : Nat) (ns : List Nat) (Z : List UInt8) (w : World) (hZ : rput ns = Z) (hn : ns.length = n) (hx : NatsAt w A ns) (hl : n ≤ 200) (hm : ∀ v ∈ ns, v < 18446744073709551616) :
    Calls Try.prog 41 #[.slice A n c] w fun e w' => ∃ A' c', e = .returned (.slice A' Z.length c') ∧ BytesAt w' A' Z ∧ Below w.heap.size w w' := by
  subst hZ
  exact refRunPut_any A n c ns w hn hx hl hm
theorem runGet_z (A : Option Addr) (len c n : Nat) (X rest Z : List UInt8) (ns : List Nat) (w : World) (hZ : rput ns = Z) (hX : X = Z ++ rest) (hlen : X.length = len) (hx : BytesAt w A X) (hc : len ≤ c) (hcm : c ≤ maxLen) (hn : ns.length = n) (hl : n ≤ 200) (hm : ∀ v ∈ ns, v < 18446744073709551616) :
    Calls Try.prog 42 #[.slice A len c, .int .i64 (n : Int)] w fun e w' => ∃ A' c', e = .returned (.tuple #[.slice A' n c', .int .i64 (Z.length : Int), .int .i64 0]) ∧ NatsAt w' A' ns ∧ Below w.heap.size w w' := by
  subst hZ
  exact runGet_any A len c n X rest ns w hX hlen hx hc hcm hn hl hm

set_option maxHeartbeats 1000000 in
set_option maxRecDepth 100000 in
theorem runsPuts_walk (A0 : Option Addr) (cap0 : Nat) (zs0 : List Int) {w : World} (nr0 : NumRow .u64 w A0 zs0) (hlc0 : zs0.length ≤ cap0) (hcm0 : cap0 ≤ maxLen)
    (A1 : Option Addr) (cap1 : Nat) (xs1 : List UInt8) (hx1 : BytesAt w A1 xs1) (hlc1 : xs1.length ≤ cap1) (hcm1 : cap1 ≤ maxLen) :
    Calls Try.prog 13 #[.slice A0 zs0.length cap0, .slice A1 xs1.length cap1] w fun e w' => e = .returned (.bool true) ∧ Below w.heap.size w w' := by
  obtain ⟨hx0, hm0⟩ := nats_of_row nr0
  obtain ⟨ns, hns⟩ : ∃ ns, ns = (zs0.map Int.toNat).take 200 := ⟨_, rfl⟩
  obtain ⟨n, hn⟩ : ∃ n, n = ns.length := ⟨_, rfl⟩
  have hyl : n = min zs0.length 200 := by rw [hn, hns, List.length_take, List.length_map, Nat.min_comm]
  have hmin : min (zs0.length : Int) 200 = (n : Int) := by omega
  have hn2 : n ≤ 200 := by omega
  have hnx : n ≤ zs0.length := by omega
  have hxn : NatsAt w A0 ns := by rw [hns]; exact hx0.take 200
  have hmn : ∀ v ∈ ns, v < 18446744073709551616 := fun v hv => hm0 v (by rw [hns] at hv; exact List.mem_of_mem_take hv)
  obtain ⟨us, hus⟩ : ∃ us, us = xs1.take 20 := ⟨_, rfl⟩
  obtain ⟨s, hs⟩ : ∃ s, s = us.length := ⟨_, rfl⟩
  have hul : s = min xs1.length 20 := by rw [hs, hus, List.length_take, Nat.min_comm]
  have hmin2 : min (xs1.length : Int) 20 = (s : Int) := by omega
  have hs20 : s ≤ 20 := by omega
  have hsx : s ≤ xs1.length := by omega
  have hbu : BytesAt w A1 us := by rw [hus]; exact hx1.take 20
  obtain ⟨Z, hZ⟩ : ∃ Z, rput ns = Z := ⟨_, rfl⟩
  have hZl : Z.length ≤ 4000 := by
    have := rput_len n ns (by omega) hmn (by omega)
    rw [hZ] at this
    omega
  obtain ⟨X, hX⟩ : ∃ X, Z ++ us = X := ⟨_, rfl⟩
  have hXl : X.length = Z.length + s := by rw [← hX, List.length_append, hs]
  unfold maxLen at hcm0 hcm1
  have HN := Lib.hid hn.symm
  have HS := Lib.hid hs.symm
  have HM := Lib.hid hmn
  have HZ := Lib.hid hZ
  have HX := Lib.hid hX
  have HXL := Lib.hid hXl
  have hl1 : (([] : List Value).length + n) * 8 ≤ 140737488355328 := by simp; omega
  have hl2 : ([] : List Value).length + n ≤ maxLen := by unfold maxLen; simp; omega
  have HV : Hid ((ns.map uv).length = n) := Lib.hid (by rw [List.length_map, hn])
  clear hns hn hyl hmn hus hs hul hZ hX hXl hx0 hm0 nr0 hx1
  have hb0 : Below w.heap.size w (w.alloc (.cells #[] 28)) := (Below.refl _ _).alloc (Nat.le_refl _) _
  have ho0 := OwnV.new w 28 [] w.heap.size (Nat.le_refl _) (by simp)
  go_enter Try.func13, Try.ntmps13
  go_wp2_with (first
    | (at_builtin; refine wpList_append_vz rfl (.tmp 13) (.tmp 18) 57 rfl Try.underlying57 _ 8 infoU64 rfl rfl ho0 _ _ n (ns.map uv) (ns.map uv) rfl HV.out (hxn.below hb0) (uv_one ns) (List.nil_append _) hl1 hl2 (by simp) ?_; rw [HV.out]; intro A2 c2 w2 ho2 hg2; have hb2 := ho0.belowGrown (Nat.le_refl _) (by simp) hb0 hg2; have hcaps := OwnV.caps ho2; have hx2 : NatsAt w2 A2 ns := OwnV.bytes ho2)
    | (go_at_call 40; with_reducible refine (runPut_z A2 n c2 ns Z _ HZ.out HN.out hx2 hn2 hcaps.2.1 hcaps.2.2.1 HM.out).mono ?_; rintro e w3 ⟨A3, c3, rfl, hx3, _, _, hb3⟩)
    | (go_at_call 41; with_reducible refine (refRunPut_z A2 n c2 ns Z _ HZ.out HN.out (hx2.below hb3) hn2 HM.out).mono ?_; rintro e w4 ⟨A4, c4, rfl, hx4, hb4⟩))
  clear hg2 ho2 hb0 ho0 hl1 hl2
  have hbw4 : Below w.heap.size w w4 := (hb2.trans (hb3.mono hb2.size)).trans (hb4.mono (by have := hb2.size; have := hb3.size; omega))
  have hbu4 := hbu.below hbw4
  have hcap2 := hcaps.2.2.1
  have hle2 := hcaps.2.1
  clear hcaps
  refine region_over [([1, 3, 4, 5, 6, 7, 9, 10], 0), ([], 2), ([], 8), ([], 11)] [12, 13, 14, 15, 16, 17, 18] (by kernel_rfl) (by kernel_rfl) ?_
  rintro wd hbd
  have ho5 := OwnS.new wd 5 [] wd.heap.size (Nat.le_refl _) (by simp)
  have hb5 : Below wd.heap.size wd (wd.alloc (.cells #[] 5)) := (Below.refl _ _).alloc (Nat.le_refl _) _
  have hbd5 := hbd.trans (hb5.mono hbd.size)
  rw [wpBl_cons]
  simp only [List.map_cons, List.map_nil, opAt, List.getElem?_toArray, List.getElem?_cons_zero, List.getElem?_cons_succ, Option.getD_some]
  repeat (go_big_quiet_step (fail))
  refine wpQuiet_nil ?_
  go_wp2_with fail
  refine ⟨⟨⟨_, hbd5⟩, rfl⟩, ?_⟩
  rw [wpBl_cons]
  simp only [List.map_cons, List.map_nil, opAt, List.getElem?_toArray, List.getElem?_cons_zero, List.getElem?_cons_succ, Option.getD_some]
  refine wpQuiet_nil ?_
  go_wp2_with (at_builtin; refine wpList_append_z rfl (.tmp 28) (.tmp 29) 30 rfl Try.underlying30 infoU8 rfl ho5 _ _ _ Z Z rfl rfl (hx4.below hbd5) (List.nil_append _) (by simp; omega) (by simp) ?_; intro A6 c6 w6 ho6 hg6)
  have hb6 := ho5.belowGrown (Nat.le_refl _) (by simp) hb5 hg6
  have hbd6 := hbd.trans (hb6.mono hbd.size)
  refine ⟨⟨⟨_, hbd6⟩, rfl⟩, ?_⟩
  simp only [Act.put, List.setIfInBounds_toArray, List.set_cons_zero, List.set_cons_succ]
  rw [wpBl_cons]
  simp only [List.map_cons, List.map_nil, opAt, List.getElem?_toArray, List.getElem?_cons_zero, List.getElem?_cons_succ, Option.getD_some]
  refine wpQuiet_nil ?_
  go_wp2_with (at_builtin; refine wpList_append_z rfl (.tmp 30) (.tmp 35) 30 rfl Try.underlying30 infoU8 rfl ho6 _ _ s us X rfl HS.out (hbu4.below hbd6) HX.out (by omega) hb6.size ?_; intro A7 c7 w7 ho7 hg7)
  have hb7 := ho6.belowGrown (Nat.le_refl _) hb6.size hb6 hg7
  have hbd7 := hbd.trans (hb7.mono hbd.size)
  refine ⟨⟨⟨_, hbd7⟩, rfl⟩, ?_⟩
  simp only [Act.put, List.setIfInBounds_toArray, List.set_cons_zero, List.set_cons_succ]
  have hby7 := ho7.bytes
  have hcp7 := ho7.caps
  rw [wpBl_cons]
  simp only [List.map_cons, List.map_nil, opAt, List.getElem?_toArray, List.getElem?_cons_zero, List.getElem?_cons_succ, Option.getD_some]
  refine wpQuiet_nil ?_
  go_wp2_with (go_at_call 42; with_reducible refine (runGet_z A7 X.length c7 n X us Z ns _ HZ.out HX.out.symm rfl hby7 hcp7.2.1 hcp7.2.2.1 HN.out hn2 HM.out).mono ?_; rintro e w8 ⟨A8, c8, rfl, hx8, hb8⟩)
  have hbd8 := hbd7.trans (hb8.mono hbd7.size)
  refine ⟨⟨⟨_, hbd8⟩, rfl⟩, ?_⟩
  rw [wpBl_nil]
  simp only [List.map_cons, List.map_nil, opAt, List.getElem?_toArray, List.getElem?_cons_zero, List.getElem?_cons_succ, Option.getD_some]
  repeat (go_big_quiet_step (fail))
  refine wpQuiet_nil ?_
  have hbw8 : Below w.heap.size w w8 := hbw4.trans (hbd8.mono hbw4.size)
  have hx28 : NatsAt w8 A2 ns := ((hx2.below hb3).below hb4).below hbd8
  have hx38 : BytesAt w8 A3 Z := (hx3.below hb4).below hbd8
  have hx48 : BytesAt w8 A4 Z := hx4.below hbd8
  clear hby7 hcp7 ho7 hg7 ho6 hg6 ho5 hb5 hbd5
  obtain ⟨iu, hiu, hz0, hz1, hz2⟩ := info_parts infoU64
  have hz3 : iu.bytes * 201 ≤ 281474976710656 := by rw [hz2]; omega
  go_wp2_with (first
    | (at_make; refine wpList_make_full _ rfl _ _ 57 rfl w8.heap.size 28 iu (.int .u64 0) 1 Try.underlying57 hiu hz0 hz1 .i64 .i64 201 201 201 rfl rfl rfl rfl hz3 (by unfold maxLen; omega) (Nat.le_refl _) ?_; intro w9 ho9 hg9; have hb9 := grown_below hg9)
    | (go_at_call 40; with_reducible refine (runPut_large _ 201 201 _ (by omega) (by omega)).mono ?_; rintro e w9x ⟨rfl, rfl⟩)
    | (go_at_call 43; refine (rputs_any _).mono ?_; rintro e w10 ⟨rfl, hb10⟩; have hb810 := hb9.trans (hb10.mono hb9.size); have t1 := text_n A3 Z.length c3 Z rfl (hx38.below hb810); have t2 := text_n A4 Z.length c4 Z rfl (hx48.below hb810); have s1 := hx8.below hb810; have s2 := hx28.below hb810)
    | (go_at_call 38; refine (same_nats _ _ _ _ _ ns _ HN.out s1 s2 (by omega)).mono ?_; rintro e w11 ⟨rfl, hb11⟩))
  go_ret
  exact ⟨rfl, (hbw8.trans (hb810.mono hbw8.size)).trans (hb11.mono (by have := hbw8.size; have := hb810.size; omega))⟩
end Go.Proofs.Ytnpomochhbkefaa
