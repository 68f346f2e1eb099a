/- The reference's Put of layer 9: its contract. -/
import Derived.Test.YtnpomochhbkefaaRunPut
import Derived.IntWalk
namespace Go.Proofs.Ytnpomochhbkefaa
open Go.RowKit VarM RunM
set_option linter.unusedVariables false

theorem refPut9 (W : List UInt8) (w : World) (v : Nat) (hX : vput v = W) (hv : v < 18446744073709551616) :
    Calls Try.prog 28 #[.int .u64 v] w fun e w' => ∃ A' c', e = .returned (.slice A' W.length c') ∧ BytesAt w' A' W ∧ Below w.heap.size w w' := by
  subst hX
  refine (refVarPut_any w v hv).mono ?_
  rintro e w' ⟨A', c', rfl, h1, h2⟩
  exact ⟨A', c', rfl, h1.bytes, h2⟩


set_option maxHeartbeats 400000 in
set_option maxRecDepth 100000 in
theorem refRunPut_any (A : Option Addr) (n c : Nat) (ns : List Nat) (w : World) (hn : ns.length = n) (hx : NatsAt w A ns) (hl : n ≤ 200) (hm : ∀ v ∈ ns, v < 18446744073709551616) :
    Calls Try.prog 41 #[.slice A n c] w fun e w' => ∃ A' c', e = .returned (.slice A' (rput ns).length c') ∧ BytesAt w' A' (rput ns) ∧ Below w.heap.size w w' := by
  have hlen := rput_len n ns (by omega) hm (by omega)
  obtain ⟨Z, hZ⟩ : ∃ Z, rput ns = Z := ⟨_, rfl⟩
  rw [hZ] at hlen ⊢
  have HZ := Lib.hid hZ
  clear hZ
  go_enter Try.func41, Try.ntmps41
  go_wp2_with fail
  go_loopw [3, 4] (fun b i wr => ∃ (pre : List UInt8) (k nb cb : Nat) (Ab : Option Addr), k ≤ n ∧ i = .int .i64 k ∧ b = .slice Ab nb cb ∧ pre.length = nb ∧ OwnS wr w.heap.size (.slice Ab nb cb) 5 pre ∧ pre ++ rput (ns.drop k) = Z ∧ Below w.heap.size w wr) (fun _ i _ => n - (intOf i).toNat)
  case atStart => exact ⟨[], 0, 0, 0, none, by omega, rfl, rfl, rfl, OwnS.nil _ _ _, HZ.out, Below.refl _ _⟩
  case round =>
    obtain ⟨pre, k, nb, cb, Ab, hk, rfl, rfl, hnb, ho, hpre, hb⟩ := hrel
    have hpl : nb ≤ 4000 := by
      have := congrArg List.length hpre
      rw [List.length_append] at this
      omega
    by_cases hlt : k < n
    · obtain ⟨x, l, hxl⟩ : ∃ x l, ns.drop k = x :: l := ⟨ns[k], ns.drop (k + 1), List.drop_eq_getElem_cons (by omega)⟩
      have hxk := (hx.cut k (A.map (·.add k)) (fun _ => rfl)).below hb
      rw [hxl] at hxk
      obtain ⟨b, off, rfl⟩ := hx.addr (by intro h; subst h; simp at hn; omega)
      rw [Option.map_some, Addr.add_lit] at hxk
      have hblt := World.block_lt_of_cell? w _ (hx.cell k (by omega))
      have hlk : (x :: l).length = n - k := by rw [← hxl, List.length_drop, hn]
      have hmx : ∀ v ∈ x :: l, v < 18446744073709551616 := fun v hv => hm v (by rw [← hxl] at hv; exact List.mem_of_mem_drop hv)
      have hx0 : x < 18446744073709551616 := hmx x (by simp)
      obtain ⟨r, hr⟩ : ∃ r, r = runLen (x :: l) := ⟨_, rfl⟩
      have hr1 : 1 ≤ r := hr ▸ runLen_pos x l
      have hrl : r ≤ n - k := by rw [← hlk]; exact hr ▸ runLen_le (x :: l)
      have hc0 := hxk.cell 0 (by simp)
      rw [Nat.add_zero] at hc0
      have h00 : (x :: l)[0] = x := rfl
      rw [h00] at hc0
      have HXL := Lib.hid hxl
      have HPRE := Lib.hid hpre
      have HR := Lib.hid hr
      have HLK := Lib.hid hlk
      have HMX := Lib.hid hmx
      have HNB := Lib.hid hnb
      clear hxl hpre hr hlk hmx hnb h00
      go_wp2_with fail
      go_loopw [5] (fun j wr2 => ∃ m : Nat, m ≤ r ∧ j = .int .i64 m ∧ ∃ q, wr2 = wr.drewN q) (fun j _ => r - (intOf j).toNat)
      case atStart => exact ⟨0, by omega, rfl, 0, rfl⟩
      case round =>
        obtain ⟨m, hmr, rfl, q, rfl⟩ := hrel
        have hkm : (k : Int) + (m : Int) = ((k + m : Nat) : Int) := by omega
        by_cases hm2 : m < r
        · have hmn : k + m < n := by omega
          have hcm := hxk.cell m (by rw [HLK.out]; omega)
          rw [runLen_same x l m (by rw [HLK.out]; omega) (by rw [← HR.out]; exact hm2), Nat.add_assoc] at hcm
          obtain ⟨s, hs⟩ : ∃ s, s = k + m := ⟨_, rfl⟩
          have hsum : IntKind.i64.wrap ((k : Int) + (m : Int)) = (s : Int) := by rw [IntWalk.i64_in _ (by omega)]; omega
          rw [← hs] at hcm hmn
          have hkn : k < n := hlt
          have HS := Lib.hid hs
          clear hs hkm
          go_wp2_with fail
          go_quiet (fail)
          go_wp2_with fail
          go_roundw
          case rel => exact ⟨m + 1, by omega, by go_num, q + nq, rfl⟩
          case measure => simp [intOf]; omega
        · obtain rfl : m = r := by omega
          have hend : k + m = n ∨ ∃ y, k + m < n ∧ y ≠ x ∧ wr.cell? ⟨b, off + (k + m), none⟩ = some (.int .u64 (y : Nat)) := by
            by_cases h : k + m = n
            · exact .inl h
            · right
              have hlk := HLK.out
              have h2 : runLen (x :: l) < (x :: l).length := by rw [← HR.out, hlk]; omega
              refine ⟨(x :: l)[runLen (x :: l)], by omega, runLen_next x l h2, ?_⟩
              have := hxk.cell (runLen (x :: l)) h2
              have e : off + (k + m) = off + k + runLen (x :: l) := by have := HR.out; omega
              rw [e]
              exact this
          obtain ⟨s, hs⟩ : ∃ s, s = k + m := ⟨_, rfl⟩
          have hsum : IntKind.i64.wrap ((k : Int) + (m : Int)) = (s : Int) := by rw [IntWalk.i64_in _ (by omega)]; omega
          rw [← hs] at hend
          have hkn : k < n := hlt
          have hsn : s ≤ n := by omega
          have HS := Lib.hid hs
          have hm64 : m < 18446744073709551616 := by omega
          have hwm := wrap_small m hm64
          have hv1 := vput_len10 hm64
          have hv2 := vput_len10 hx0
          obtain ⟨V1, hV1⟩ : ∃ V, vput m = V := ⟨_, rfl⟩
          obtain ⟨V2, hV2⟩ : ∃ V, vput x = V := ⟨_, rfl⟩
          rw [hV1] at hv1
          rw [hV2] at hv2
          have HV1 := Lib.hid hV1
          have HV2 := Lib.hid hV2
          obtain ⟨X1, hX1⟩ : ∃ X, pre ++ V1 = X := ⟨_, rfl⟩
          obtain ⟨X2, hX2⟩ : ∃ X, X1 ++ V2 = X := ⟨_, rfl⟩
          have hX1l : X1.length = pre.length + V1.length := by rw [← hX1, List.length_append]
          have HX1 := Lib.hid hX1
          have HX2 := Lib.hid hX2
          have HX1L := Lib.hid hX1l
          clear hs hkm hm2 hV1 hV2 hX1 hX2 hX1l
          rcases hend with hend | ⟨y, hend, hyx, hcy⟩
          case' inl =>
            have hns : ¬ s < n := by omega
            have hd1 : decide (s < n) = false := by simpa using hns
            clear hend
            go_wp2_with fail
            go_quiet (fail)
            go_wp2_with fail
          case' inr =>
            have hne : ((y : Int) == (x : Int)) = false := by simp; omega
            clear hyx
            go_wp2_with fail
            go_quiet (fail)
            go_wp2_with fail
          all_goals
            have hbq : Below w.heap.size w ((wr.drewN q).drewN nq) := below_drewN (below_drewN hb _) _
            have hoq : OwnS ((wr.drewN q).drewN nq) w.heap.size (.slice Ab nb cb) 5 pre := ho
            have hcq : ((wr.drewN q).drewN nq).cell? ⟨b, off + k, none⟩ = some (.int .u64 (x : Int)) := hc0
            clear ho hb hc0 hxk
            generalize ((wr.drewN q).drewN nq) = wq at *
            have hcell : ∀ y : SubW w.heap.size wq, y.at_.cell? ⟨b, off + k, none⟩ = some (.int .u64 (x : Int)) := fun y => (World.cell?_of_block (a := ⟨b, off + k, none⟩) (y.ok_.block _ hblt)).trans hcq
            refine region_overB w.heap.size hbq.size [([0, 1, 2, 5, 6, 7, 8], 3), ([], 4), ([], 9), ([], 10)] [11] (by kernel_rfl) (by kernel_rfl) ?_
            rintro wd hbd
            rw [wpBl_cons]
            simp only [List.map_cons, List.map_nil, opAt, List.getElem?_toArray, List.getElem?_cons_zero, List.getElem?_cons_succ, Option.getD_some]
            repeat (go_big_quiet_step (fail))
            refine wpQuiet_nil ?_
            go_wp2_with (go_at_call 28; with_reducible refine (refPut9 V1 _ m HV1.out hm64).mono ?_; rintro e w1 ⟨A1, c1, rfl, hx1, hb1⟩)
            have hbd1 := hbd.trans (hb1.mono hbd.size)
            refine ⟨⟨⟨_, hbd1.mono hbq.size⟩, rfl⟩, ?_⟩
            have ho1 := hoq.below hbd1
            have hbw1 : Below w.heap.size w w1 := hbq.trans (hbd1.mono hbq.size)
            rw [wpBl_cons]
            simp only [List.map_cons, List.map_nil, opAt, List.getElem?_toArray, List.getElem?_cons_zero, List.getElem?_cons_succ, Option.getD_some]
            refine wpQuiet_nil ?_
            go_wp2_with (at_builtin; refine wpList_append_z rfl (.tmp 31) (.tmp 34) 30 rfl Try.underlying30 infoU8 rfl ho1 _ _ _ V1 X1 rfl rfl hx1 HX1.out (by have := HNB.out; omega) hbw1.size ?_; intro A2 c2 w2 ho2 hg2)
            have hbw2 := ho1.belowGrown (Nat.le_refl _) hbw1.size hbw1 hg2
            have hbq2 := ho1.belowGrown (B := w.heap.size) (Nat.le_refl _) hbw1.size (hbd1.mono hbq.size) hg2
            refine ⟨⟨⟨_, hbq2⟩, rfl⟩, ?_⟩
            simp only [Act.put, List.setIfInBounds_toArray, List.set_cons_zero, List.set_cons_succ]
            rw [wpBl_cons]
            simp only [List.map_cons, List.map_nil, opAt, List.getElem?_toArray, List.getElem?_cons_zero, List.getElem?_cons_succ, Option.getD_some]
            refine wpQuiet_nil ?_
            go_wp2_with (go_at_call 28; with_reducible refine (refPut9 V2 _ x HV2.out hx0).mono ?_; rintro e w3 ⟨A3, c3, rfl, hx3, hb3⟩)
            have hbw3 := hbw2.trans (hb3.mono hbw2.size)
            refine ⟨⟨⟨_, hbq2.trans (hb3.mono hbw2.size)⟩, rfl⟩, ?_⟩
            have ho3 := ho2.below hb3
            rw [wpBl_cons]
            simp only [List.map_cons, List.map_nil, opAt, List.getElem?_toArray, List.getElem?_cons_zero, List.getElem?_cons_succ, Option.getD_some]
            refine wpQuiet_nil ?_
            go_wp2_with (at_builtin; refine wpList_append_z rfl (.tmp 35) (.tmp 40) 30 rfl Try.underlying30 infoU8 rfl ho3 _ _ _ V2 X2 rfl rfl hx3 HX2.out (by have := HNB.out; rw [HX1L.out]; omega) hbw3.size ?_; intro A4 c4 w4 ho4 hg4)
            have hbw4 := ho3.belowGrown (Nat.le_refl _) hbw3.size hbw3 hg4
            refine ⟨⟨⟨_, ho3.belowGrown (B := w.heap.size) (Nat.le_refl _) hbw3.size (hbq2.trans (hb3.mono hbw2.size)) hg4⟩, rfl⟩, ?_⟩
            simp only [Act.put, List.setIfInBounds_toArray, List.set_cons_zero, List.set_cons_succ]
            rw [wpBl_nil]
            simp only [List.map_cons, List.map_nil, opAt, List.getElem?_toArray, List.getElem?_cons_zero, List.getElem?_cons_succ, Option.getD_some]
            repeat (go_big_quiet_step (fail))
            refine wpQuiet_nil ?_
            go_wp2_with fail
            go_roundw
            case rel =>
              refine ⟨X2, s, X2.length, c4, A4, hsn, rfl, rfl, rfl, ho4, ?_, hbw4⟩
              have e : ns.drop s = (x :: l).drop m := by rw [← HXL.out, List.drop_drop, HS.out]
              have hp := HPRE.out
              rw [HXL.out, rput_cons, ← HR.out, HV1.out, HV2.out] at hp
              rw [e, ← HX2.out, ← HX1.out, ← hp]
              simp only [List.append_assoc]
            case measure =>
              have := HS.out
              simp [intOf]
              omega
    · obtain rfl : k = n := by omega
      rw [List.drop_of_length_le (by omega), rput_nil, List.append_nil] at hpre
      subst hpre
      have HNB := Lib.hid hnb
      clear hnb hpl
      go_wp2_with fail
      go_ret
      have := HNB.out
      subst this
      exact ⟨Ab, cb, rfl, ho.bytes, hb⟩
end Go.Proofs.Ytnpomochhbkefaa
