/- The walk of RunsMany. -/
import Derived.Test.YtnpomochhbkefaaRunsPuts
import Derived.Test.YtnpomochhbkefaaPiTree
import Derived.Deep.DeepCutAuto
namespace Go.Proofs.Ytnpomochhbkefaa
open Go.RowKit VarM RunM
set_option linter.unusedVariables false

theorem count200 (a : Int) : ∃ k : Nat, 1 ≤ k ∧ k ≤ 200 ∧ wrap64 (1 + wrap64 ((IntKind.u64.wrap a).tmod 200)) = (k : Int) := by
  have h0 : 0 ≤ IntKind.u64.wrap a := by rw [IntKind.wrap_u64]; omega
  rw [Int.tmod_eq_emod_of_nonneg h0]
  have h2 : 0 ≤ IntKind.u64.wrap a % 200 := Int.emod_nonneg _ (by omega)
  have h3 : IntKind.u64.wrap a % 200 < 200 := Int.emod_lt_of_pos _ (by omega)
  rw [IntWalk.wrap64_in (IntKind.u64.wrap a % 200) ⟨by omega, by omega⟩, IntWalk.wrap64_in _ ⟨by omega, by omega⟩]
  exact ⟨(1 + IntKind.u64.wrap a % 200).toNat, by omega, by omega, by omega⟩

theorem zeros_nats (k : Nat) : (madeCells (Value.int .u64 0).cells (k * 1)).toList = (List.replicate k 0).map uv := by
  have e : madeCells (Value.int .u64 0).cells (k * 1) = Array.replicate k (.int .u64 0) := by
    apply Array.ext
    · simp [madeCells]
    · intro i h1 h2
      simp [madeCells, Value.cells, Nat.mod_one]
  rw [e]
  simp [uv]

theorem own_made {w : World} {base k : Nat} {v : Value} (h : w.ownsRow base 28 1 v k (madeCells (Value.int .u64 0).cells (k * 1)).toList) : OwnN w base v (List.replicate k 0) := by
  rw [zeros_nats] at h
  unfold OwnN OwnV
  rw [List.length_map, List.length_replicate]
  exact h

/-- The first i of k places hold what f tells, the others 0. -/
def part (f : Nat → Nat) (k i : Nat) : List Nat := (List.range k).map fun j => if j < i then f j else 0
theorem part_len (f : Nat → Nat) (k i : Nat) : (part f k i).length = k := by simp [part]
theorem part_zero (f : Nat → Nat) (k : Nat) : part f k 0 = List.replicate k 0 := by
  apply List.ext_getElem <;> simp [part]
theorem part_set (f : Nat → Nat) (k i : Nat) (hi : i < k) : ((part f k i).map uv).set i (uv (f i)) = (part f k (i + 1)).map uv := by
  apply List.ext_getElem
  · simp [part]
  · intro j h1 h2
    have hj : j < k := by simpa [part] using h2
    rw [List.getElem_set]
    simp only [part, List.getElem_map, List.getElem_range]
    by_cases h : i = j
    · subst h; simp
    · rw [if_neg h]
      by_cases h3 : j < i
      · rw [if_pos h3, if_pos (by omega)]
      · rw [if_neg h3, if_neg (by omega)]
theorem part_all (f : Nat → Nat) (k : Nat) : part f k k = (List.range k).map f := by
  apply List.ext_getElem
  · simp [part]
  · intro j h1 h2
    have hj : j < k := by simpa [part] using h1
    simp [part, hj]

theorem xor_turn (v m : Nat) (hv : v < 18446744073709551616) : bits BinOp.xor IntKind.u64 (v : Int) ((m : Int) % 2) = ((v ^^^ (m % 2) : Nat) : Int) := by
  have : ((m : Int) % 2) = ((m % 2 : Nat) : Int) := by omega
  rw [this]
  exact u64_xor_nat _ _ hv (by omega)
theorem xor_turn_lt (v m : Nat) (hv : v < 18446744073709551616) : v ^^^ (m % 2) < 18446744073709551616 := Nat.xor_lt_two_pow (n := 64) (by omega) (by omega)
theorem xor_turn_ne (v i : Nat) : v ^^^ ((i + 1) % 2) ≠ v ^^^ (i % 2) := by
  intro h
  have h2 := congrArg (fun x => v ^^^ x) h
  simp only [← Nat.xor_assoc, Nat.xor_self, Nat.zero_xor] at h2
  omega

set_option maxHeartbeats 1000000 in
set_option maxRecDepth 100000 in
theorem runsMany_walk (v0 : Int) (hv0 : (Lit.int .u64 v0).wf = true) (a : Int) (ha : (Lit.int .i64 a).wf = true) {w : World} :
    Calls Try.prog 14 #[.int .u64 v0, .int .i64 a] w fun e w' => e = .returned (.bool true) ∧ Below w.heap.size w w' := by
  obtain ⟨m1, m2⟩ : 0 ≤ v0 ∧ v0 < 18446744073709551616 := by have := bounds_u64 hv0; omega
  obtain ⟨v, rfl⟩ := Int.eq_ofNat_of_zero_le m1
  have hv : v < 18446744073709551616 := by omega
  clear hv0 m1 m2
  obtain ⟨k, hk1, hk2, hk⟩ := count200 a
  obtain ⟨iu, hiu, hz0, hz1, hz2⟩ := info_parts infoU64
  have hz3 : iu.bytes * k ≤ 281474976710656 := by rw [hz2]; omega
  clear hz2 ha
  go_enter Try.func14, Try.ntmps14
  go_wp2_with fail
  rw [hk]
  clear hk
  go_cut [6, 7] (fun s6 s7 wx => ∃ ga gb, s6 = .slice (some ⟨ga, 0, none⟩) k k ∧ s7 = .slice (some ⟨gb, 0, none⟩) k k ∧ ga ≠ gb ∧ OwnN wx w.heap.size (.slice (some ⟨ga, 0, none⟩) k k) (List.replicate k 0) ∧ OwnN wx w.heap.size (.slice (some ⟨gb, 0, none⟩) k k) (List.replicate k 0) ∧ Below w.heap.size w wx)
  case first =>
    refine region_ways w.heap.size (Nat.le_refl _) (.two [0, 2] 1 (.one [4] 3 (.done [5])) 3 (.one [] 1 (.done [4, 5]))) (by kernel_rfl) (by kernel_rfl) ?_
    rintro wd hbd
    rw [wpWays_two]
    simp only [List.map_cons, List.map_nil, opAt, List.getElem?_toArray, List.getElem?_cons_zero, List.getElem?_cons_succ, Option.getD_some]
    repeat (go_big_quiet_step (fail))
    refine wpQuiet_nil ⟨?_, ?_⟩
    · go_wp2_with (at_make; refine wpList_make_full _ rfl (.tmp 24) (.tmp 24) 57 rfl w.heap.size 28 iu (.int .u64 0) 1 Try.underlying57 hiu hz0 hz1 .i64 .i64 k k k rfl rfl rfl rfl hz3 (by unfold maxLen; omega) (by exact hbd.size) ?_; intro w1 ho1 hg1)
      have hb1 := below_grown (Nat.le_refl _) hbd hg1
      refine ⟨⟨⟨_, hb1⟩, rfl⟩, ?_⟩
      simp only [Act.put, List.setIfInBounds_toArray, List.set_cons_zero, List.set_cons_succ]
      rw [wpWays_one]
      simp only [List.map_cons, List.map_nil, opAt, List.getElem?_toArray, List.getElem?_cons_zero, List.getElem?_cons_succ, Option.getD_some]
      repeat (go_big_quiet_step (fail))
      refine wpQuiet_nil ?_
      go_wp2_with (at_make; refine wpList_make_full _ rfl (.tmp 26) (.tmp 26) 57 rfl w.heap.size 28 iu (.int .u64 0) 1 Try.underlying57 hiu hz0 hz1 .i64 .i64 k k k rfl rfl rfl rfl hz3 (by unfold maxLen; omega) (by exact hb1.size) ?_; intro w2 ho2 hg2)
      have hb2 := below_grown (Nat.le_refl _) hb1 hg2
      refine ⟨⟨⟨_, hb2⟩, rfl⟩, ?_⟩
      simp only [Act.put, List.setIfInBounds_toArray, List.set_cons_zero, List.set_cons_succ]
      rw [wpWays_done]
      simp only [List.map_cons, List.map_nil, opAt, List.getElem?_toArray, List.getElem?_cons_zero, List.getElem?_cons_succ, Option.getD_some]
      repeat (go_big_quiet_step (fail))
      refine wpQuiet_nil ?_
      go_wp2_with fail
      go_meet
      have ho1' := own_made ho1
      have hlt : w.heap.size ≤ wd.heap.size ∧ wd.heap.size < w1.heap.size := ho1'.block _ rfl
      exact ⟨_, _, rfl, rfl, by omega, ho1'.below (grown_below hg2), own_made ho2, hb2⟩
    · go_wp2_with (at_make; refine wpList_make_full _ rfl (.tmp 26) (.tmp 26) 57 rfl w.heap.size 28 iu (.int .u64 0) 1 Try.underlying57 hiu hz0 hz1 .i64 .i64 k k k rfl rfl rfl rfl hz3 (by unfold maxLen; omega) (by exact hbd.size) ?_; intro w1 ho1 hg1)
      have hb1 := below_grown (Nat.le_refl _) hbd hg1
      refine ⟨⟨⟨_, hb1⟩, rfl⟩, ?_⟩
      simp only [Act.put, List.setIfInBounds_toArray, List.set_cons_zero, List.set_cons_succ]
      rw [wpWays_one]
      simp only [List.map_cons, List.map_nil, opAt, List.getElem?_toArray, List.getElem?_cons_zero, List.getElem?_cons_succ, Option.getD_some]
      repeat (go_big_quiet_step (fail))
      refine wpQuiet_nil ?_
      go_wp2_with (at_make; refine wpList_make_full _ rfl (.tmp 24) (.tmp 24) 57 rfl w.heap.size 28 iu (.int .u64 0) 1 Try.underlying57 hiu hz0 hz1 .i64 .i64 k k k rfl rfl rfl rfl hz3 (by unfold maxLen; omega) (by exact hb1.size) ?_; intro w2 ho2 hg2)
      have hb2 := below_grown (Nat.le_refl _) hb1 hg2
      refine ⟨⟨⟨_, hb2⟩, rfl⟩, ?_⟩
      simp only [Act.put, List.setIfInBounds_toArray, List.set_cons_zero, List.set_cons_succ]
      rw [wpWays_done]
      simp only [List.map_cons, List.map_nil, opAt, List.getElem?_toArray, List.getElem?_cons_zero, List.getElem?_cons_succ, Option.getD_some]
      repeat (go_big_quiet_step (fail))
      refine wpQuiet_nil ?_
      go_wp2_with fail
      go_meet
      have ho1' := own_made ho1
      have hlt : w.heap.size ≤ wd.heap.size ∧ wd.heap.size < w1.heap.size := ho1'.block _ rfl
      exact ⟨_, _, rfl, rfl, by omega, own_made ho2, ho1'.below (grown_below hg2), hb2⟩
  case rest =>
    obtain ⟨ga, gb, rfl, rfl, hab, hoa, hob, hb⟩ := hcut
    rw [← part_zero (fun _ => v)] at hoa
    rw [← part_zero (fun j => v ^^^ (j % 2))] at hob
    have hba : gb ≠ ga := fun h => hab h.symm
    go_wp2_with fail
    go_loopw [8] (fun i wr => ∃ m : Nat, m ≤ k ∧ i = .int .i64 m ∧ OwnN wr w.heap.size (.slice (some ⟨ga, 0, none⟩) k k) (part (fun _ => v) k m) ∧ OwnN wr w.heap.size (.slice (some ⟨gb, 0, none⟩) k k) (part (fun j => v ^^^ (j % 2)) k m) ∧ Below w.heap.size w wr) (fun i _ => k - (intOf i).toNat)
    case atStart => exact ⟨0, by omega, rfl, hoa, hob, hb⟩
    case round =>
      obtain ⟨m, hm, rfl, hoa, hob, hb⟩ := hrel
      by_cases hlt : m < k
      · obtain ⟨ra1, ra2, ra3, ra4, ra5, ra6, ra7⟩ := OwnV.row hoa
        obtain ⟨rb1, rb2, rb3, rb4, rb5, rb6, rb7⟩ := OwnV.row hob
        have ca := ra6 m (by rw [ra2]; exact hlt)
        have cb := rb6 m (by rw [rb2]; exact hlt)
        have fa := ra7 m
        have fb := rb7 m
        clear ra6 rb6 ra7 rb7
        go_wp2_with fail
        go_roundw
        case rel =>
          have ea : OwnN (wr.setCell ⟨ga, m, none⟩ (uv v)) w.heap.size (.slice (some ⟨ga, 0, none⟩) k k) (part (fun _ => v) k (m + 1)) := by
            have := OwnV.stored hoa m (uv v)
            rw [part_set (fun _ => v) k m hlt] at this
            exact this
          have eb : OwnN (wr.setCell ⟨ga, m, none⟩ (uv v)) w.heap.size (.slice (some ⟨gb, 0, none⟩) k k) (part (fun j => v ^^^ (j % 2)) k m) :=
            OwnV.keep hob (fun g hg => by simp [Value.ownBlock] at hg; subst hg; exact heap_setCell_other _ _ _ _ hba)
          have ea2 : OwnN ((wr.setCell ⟨ga, m, none⟩ (uv v)).setCell ⟨gb, m, none⟩ (uv (v ^^^ (m % 2)))) w.heap.size (.slice (some ⟨ga, 0, none⟩) k k) (part (fun _ => v) k (m + 1)) :=
            OwnV.keep ea (fun g hg => by simp [Value.ownBlock] at hg; subst hg; exact heap_setCell_other _ _ _ _ hab)
          have eb2 : OwnN ((wr.setCell ⟨ga, m, none⟩ (uv v)).setCell ⟨gb, m, none⟩ (uv (v ^^^ (m % 2)))) w.heap.size (.slice (some ⟨gb, 0, none⟩) k k) (part (fun j => v ^^^ (j % 2)) k (m + 1)) := by
            have := OwnV.stored eb m (uv (v ^^^ (m % 2)))
            rw [part_set (fun j => v ^^^ (j % 2)) k m hlt] at this
            exact this
          rw [xor_turn v m hv]
          exact ⟨m + 1, by omega, by go_num, ea2, eb2, (hb.setCell ra1 _).setCell rb1 _⟩
        case measure => simp [intOf]; omega
      · obtain rfl : m = k := by omega
        obtain ⟨la, hla⟩ : ∃ l, l = part (fun _ => v) m m := ⟨_, rfl⟩
        obtain ⟨lb, hlb⟩ : ∃ l, l = part (fun j => v ^^^ (j % 2)) m m := ⟨_, rfl⟩
        have hma : ∀ x ∈ la, x < 18446744073709551616 := fun x hx => by
          rw [hla, part_all] at hx
          obtain ⟨j, _, rfl⟩ := List.mem_map.1 hx
          exact hv
        have hmb : ∀ x ∈ lb, x < 18446744073709551616 := fun x hx => by
          rw [hlb, part_all] at hx
          obtain ⟨j, _, rfl⟩ := List.mem_map.1 hx
          exact xor_turn_lt v j hv
        have hna : la.length = m := by rw [hla, part_len]
        have hnb : lb.length = m := by rw [hlb, part_len]
        obtain ⟨ZA, hZA⟩ : ∃ Z, rput la = Z := ⟨_, rfl⟩
        obtain ⟨ZB, hZB⟩ : ∃ Z, rput lb = Z := ⟨_, rfl⟩
        have hla12 : ZA.length ≤ 12 := by
          have e : la = List.replicate m v := by
            rw [hla, part_all]
            apply List.ext_getElem <;> simp
          rw [← hZA, e, rput_replicate m v hk1, List.length_append]
          have h1 := vput_len_le 1 m (by omega)
          have h2 := vput_len10 hv
          omega
        have hlb2 : 2 * m ≤ ZB.length := by
          rw [← hZB]
          have := rput_turns m lb hnb (fun i hi => by
            have e : lb = (List.range m).map fun j => v ^^^ (j % 2) := by rw [hlb, part_all]
            subst e
            simpa using xor_turn_ne v i)
          omega
        have hlb4 : ZB.length ≤ 4000 := by
          have := rput_len m lb (by omega) hmb (by omega)
          rw [hZB] at this
          omega
        rw [← hla] at hoa
        rw [← hlb] at hob
        have hxa : NatsAt wr (some ⟨ga, 0, none⟩) la := OwnV.bytes hoa
        have hxb : NatsAt wr (some ⟨gb, 0, none⟩) lb := OwnV.bytes hob
        have HMA := Lib.hid hma
        have HMB := Lib.hid hmb
        have HNA := Lib.hid hna
        have HNB := Lib.hid hnb
        have HZA := Lib.hid hZA
        have HZB := Lib.hid hZB
        have hcm : m ≤ maxLen := by unfold maxLen; omega
        clear hma hmb hna hnb hZA hZB hla hlb hoa hob hiu hz0 hz1 hz3 hlt hm
        go_wp2_with (first
          | (go_at_call 40; with_reducible refine (runPut_z (some ⟨ga, 0, none⟩) m m la ZA _ HZA.out HNA.out hxa hk2 (Nat.le_refl _) hcm HMA.out).mono ?_; rintro e w1 ⟨A1, c1, rfl, hx1, hc1, hm1, hb1⟩)
          | (go_at_call 40; with_reducible refine (runPut_z (some ⟨gb, 0, none⟩) m m lb ZB _ HZB.out HNB.out (hxb.below hb1) hk2 (Nat.le_refl _) hcm HMB.out).mono ?_; rintro e w2 ⟨A2, c2, rfl, hx2, hc2, hm2, hb2⟩)
          | (go_at_call 42; with_reducible refine (runGet_z A1 ZA.length c1 m ZA [] ZA la _ HZA.out (List.append_nil _).symm rfl (hx1.below hb2) hc1 hm1 HNA.out hk2 HMA.out).mono ?_; rintro e w3 ⟨A3, c3, rfl, hx3, hb3⟩)
          | (go_at_call 42; with_reducible refine (runGet_z A2 ZB.length c2 m ZB [] ZB lb _ HZB.out (List.append_nil _).symm rfl (hx2.below hb3) hc2 hm2 HNB.out hk2 HMB.out).mono ?_; rintro e w4 ⟨A4, c4, rfl, hx4, hb4⟩)
          )
        simp only [List.append]
        have ha4 : NatsAt w4 (some ⟨ga, 0, none⟩) la := (((hxa.below hb1).below hb2).below hb3).below hb4
        have hb4n : NatsAt w4 (some ⟨gb, 0, none⟩) lb := (((hxb.below hb1).below hb2).below hb3).below hb4
        have hx14 : BytesAt w4 A1 ZA := ((hx1.below hb2).below hb3).below hb4
        have hx24 : BytesAt w4 A2 ZB := (hx2.below hb3).below hb4
        have hx34 : NatsAt w4 A3 la := hx3.below hb4
        have hbw4 : Below w.heap.size w w4 := by
          have z1 := hb.size
          have z2 := hb1.size
          have z3 := hb2.size
          have z4 := hb3.size
          exact (((hb.trans (hb1.mono (by omega))).trans (hb2.mono (by omega))).trans (hb3.mono (by omega))).trans (hb4.mono (by omega))
        have hcA : ∀ y : SubW w4.heap.size w4, (convert 30 9 (.slice A1 ZA.length c1)).run Try.prog y.at_ = .ok (.string ⟨ZA.toArray⟩) y.at_ := fun y => text_n A1 ZA.length c1 ZA rfl (hx14.below y.ok_)
        have hcB : ∀ y : SubW w4.heap.size w4, (convert 30 9 (.slice A2 ZB.length c2)).run Try.prog y.at_ = .ok (.string ⟨ZB.toArray⟩) y.at_ := fun y => text_n A2 ZB.length c2 ZB rfl (hx24.below y.ok_)
        have hdl : decide (ZA.length ≤ 12) = true := by simpa using hla12
        have hdl2 : decide ((ZA.length : Int) ≤ 12) = true := by simp; omega
        have hml : IntKind.i64.wrap (2 * (m : Int)) = 2 * (m : Int) := IntWalk.i64_in _ (by omega)
        have hdb : decide (2 * m ≤ ZB.length) = true := by simpa using hlb2
        have hdb2 : decide (2 * (m : Int) ≤ (ZB.length : Int)) = true := by simp; omega
        refine region_over [([], 0), ([1, 2, 3, 4, 5, 6, 7, 8, 9, 10, 11, 12, 13, 14, 15, 16, 17, 18, 19, 20], 21), ([], 22), ([23, 24, 25, 26, 27, 28], 29), ([], 30), ([31, 32, 33, 34, 35, 36, 37, 38, 39, 40, 41, 42, 43, 44, 45, 46, 47], 48), ([49, 50, 51, 52], 53)] [54, 55, 56, 57, 58, 59, 60, 61, 62, 63, 64, 65, 66, 67] (by kernel_rfl) (by kernel_rfl) ?_
        rintro wd hbd
        rw [wpBl_cons]
        simp only [List.map_cons, List.map_nil, opAt, List.getElem?_toArray, List.getElem?_cons_zero, List.getElem?_cons_succ, Option.getD_some]
        refine wpQuiet_nil ?_
        go_wp2_with (go_at_call 43; refine (rputs_any _).mono ?_; rintro e w5 ⟨rfl, hb5⟩)
        have hbd5 := hbd.trans (hb5.mono hbd.size)
        refine ⟨⟨⟨_, hbd5⟩, rfl⟩, ?_⟩
        rw [wpBl_cons]
        simp only [List.map_cons, List.map_nil, opAt, List.getElem?_toArray, List.getElem?_cons_zero, List.getElem?_cons_succ, Option.getD_some]
        repeat (go_big_quiet_step (fail))
        refine wpQuiet_nil ?_
        go_wp2_with (go_at_call 41; with_reducible refine (refRunPut_z (some ⟨ga, 0, none⟩) m m la ZA _ HZA.out HNA.out (ha4.below hbd5) hk2 HMA.out).mono ?_; rintro e w6 ⟨A6, c6, rfl, hx6, hb6⟩)
        have hbd6 := hbd5.trans (hb6.mono hbd5.size)
        have t2 := text_n A6 ZA.length c6 ZA rfl hx6
        refine ⟨⟨⟨_, hbd6⟩, rfl⟩, ?_⟩
        rw [wpBl_cons]
        simp only [List.map_cons, List.map_nil, opAt, List.getElem?_toArray, List.getElem?_cons_zero, List.getElem?_cons_succ, Option.getD_some]
        repeat (go_big_quiet_step (fail))
        refine wpQuiet_nil ?_
        go_wp2_with fail
        refine ⟨⟨⟨_, hbd6⟩, rfl⟩, ?_⟩
        rw [wpBl_cons]
        simp only [List.map_cons, List.map_nil, opAt, List.getElem?_toArray, List.getElem?_cons_zero, List.getElem?_cons_succ, Option.getD_some]
        repeat (go_big_quiet_step (fail))
        refine wpQuiet_nil ?_
        go_wp2_with (go_at_call 41; with_reducible refine (refRunPut_z (some ⟨gb, 0, none⟩) m m lb ZB _ HZB.out HNB.out (hb4n.below hbd6) hk2 HMB.out).mono ?_; rintro e w7 ⟨A7, c7, rfl, hx7, hb7⟩)
        have hbd7 := hbd6.trans (hb7.mono hbd6.size)
        have t4 := text_n A7 ZB.length c7 ZB rfl hx7
        refine ⟨⟨⟨_, hbd7⟩, rfl⟩, ?_⟩
        rw [wpBl_cons]
        simp only [List.map_cons, List.map_nil, opAt, List.getElem?_toArray, List.getElem?_cons_zero, List.getElem?_cons_succ, Option.getD_some]
        repeat (go_big_quiet_step (fail))
        refine wpQuiet_nil ?_
        go_wp2_with fail
        refine ⟨⟨⟨_, hbd7⟩, rfl⟩, ?_⟩
        rw [wpBl_cons]
        simp only [List.map_cons, List.map_nil, opAt, List.getElem?_toArray, List.getElem?_cons_zero, List.getElem?_cons_succ, Option.getD_some]
        repeat (go_big_quiet_step (fail))
        refine wpQuiet_nil ?_
        go_wp2_with (go_at_call 38; with_reducible refine (same_nats A3 (some ⟨ga, 0, none⟩) m c3 m la _ HNA.out (hx34.below hbd7) (ha4.below hbd7) (by omega)).mono ?_; rintro e w8 ⟨rfl, hb8⟩)
        have hbd8 := hbd7.trans (hb8.mono hbd7.size)
        refine ⟨⟨⟨_, hbd8⟩, rfl⟩, ?_⟩
        rw [wpBl_cons]
        simp only [List.map_cons, List.map_nil, opAt, List.getElem?_toArray, List.getElem?_cons_zero, List.getElem?_cons_succ, Option.getD_some]
        repeat (go_big_quiet_step (fail))
        refine wpQuiet_nil ?_
        go_wp2_with (go_at_call 38; with_reducible refine (same_nats A4 (some ⟨gb, 0, none⟩) m c4 m lb _ HNB.out (hx4.below hbd8) (hb4n.below hbd8) (by omega)).mono ?_; rintro e w9 ⟨rfl, hb9⟩)
        have hbd9 := hbd8.trans (hb9.mono hbd8.size)
        refine ⟨⟨⟨_, hbd9⟩, rfl⟩, ?_⟩
        rw [wpBl_nil]
        simp only [List.map_cons, List.map_nil, opAt, List.getElem?_toArray, List.getElem?_cons_zero, List.getElem?_cons_succ, Option.getD_some]
        repeat (go_big_quiet_step (fail))
        refine wpQuiet_nil ?_
        go_wp2_with fail
        go_ret
        exact ⟨rfl, hbw4.trans (hbd9.mono hbw4.size)⟩
end Go.Proofs.Ytnpomochhbkefaa
