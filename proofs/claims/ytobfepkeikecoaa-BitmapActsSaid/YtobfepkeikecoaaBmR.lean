/- The reference's Right and Put of a map; Put of what can't be a map. -/
import Derived.Test.YtobfepkeikecoaaBmP
namespace Go.Proofs.Ytobfepkeikecoaa
open Go.RowKit PageM
set_option linter.unusedVariables false

theorem infoMapR : (Try.prog.info? 27).map (·.size) = some 513 := by kernel_rfl

set_option maxHeartbeats 1000000 in
set_option maxRecDepth 100000 in
theorem put_no (p : Int) (U : List Bool) (hU : U.length = 512) (hok : ¬ okM p U) (w : World) (C : Array Value) (eC : C = mapC p U) :
    Calls Try.prog 16 #[.agg C] w fun e w' => e = .returned (.slice none 0 0) ∧ Below w.heap.size w w' := by
  have hS : Hid (some 513 = some C.size) := Lib.hid (by rw [eC, size_mapC hU])
  have HR : Hid (∀ W, Calls Try.prog 21 #[.agg C] W fun e w' => e = .returned (.bool false) ∧ Below W.heap.size W w') := Lib.hid (fun W => right_bmC _ U hU W C eC false (decide_eq_false hok).symm)
  have HB1 : Hid (Below w.heap.size w (w.alloc (.cells C 25))) := Lib.hid ((Below.refl _ _).alloc (Nat.le_refl _) _)
  have hg : Hid ((w.alloc (.cells C 25)).heap[w.heap.size]? = some (.cells C 25 (0, 0))) := Lib.hid (heap_alloc_new _ _)
  clear eC hok hU
  go_enter Try.func16, Try.ntmps16
  go_wp2_with (first
    | (refine wpList_load_row rfl 25 (.tmp 1) rfl w.heap.size rfl 25 C (0, 0) _ hg.out Try.underlying25 rfl (infoMap.trans hS.out) ?_)
    | (go_at_call 21; (refine (HR.out _).mono ?_); rintro e w1 ⟨rfl, hb2⟩))
  go_ret
  exact ⟨rfl, HB1.out.trans (hb2.mono (by simp))⟩

set_option maxHeartbeats 1000000 in
set_option maxRecDepth 100000 in
theorem right_rf (p : Int) (U : List Bool) (hU : U.length = 512) (w : World) (C : Array Value) (eC : C = mapC p U) (r : Bool) (hr : r = decide (okM p U)) :
    Calls Try.prog 24 #[.agg C] w fun e w' => e = .returned (.bool r) ∧ Below w.heap.size w w' := by
  have hm0 : MapAt (w.alloc (.cells C 27)) w.heap.size 27 p U := by rw [eC]; exact MapAt.new w _ p U
  have c0 := hm0.c0
  have c1 := hm0.cs 0 (by omega)
  have c2 := hm0.cs 1 (by omega)
  have HM0 := Lib.hid hm0
  have hbl : Hid (Below w.heap.size w (w.alloc (.cells C 27))) := Lib.hid ((Below.refl _ _).alloc (Nat.le_refl _) _)
  have HU := Lib.hid hU
  obtain ⟨u0, hu0⟩ : ∃ u, u = U.getD 0 false := ⟨_, rfl⟩
  obtain ⟨u1, hu1⟩ : ∃ u, u = U.getD 1 false := ⟨_, rfl⟩
  rw [← hu0] at c1
  rw [← hu1] at c2
  have hok : okM p U ↔ 8 ≤ p ∧ p ≤ 512 ∧ u0 = true ∧ u1 = true ∧ ∀ j : Nat, p ≤ (j : Int) → j < 512 → U.getD j false = false := by
    rw [hu0, hu1]
    unfold okM okAt
    constructor
    · rintro ⟨h1, h2, h3⟩
      have e0 := h3 0 (by omega)
      have e1 := h3 1 (by omega)
      refine ⟨h1, h2, ?_, ?_, fun j hj hlt => ?_⟩
      · simp at e0; exact e0.1
      · simp at e1; exact e1.1
      · have := h3 j hlt
        simp at this
        have h6 := this.2.resolve_left (by omega)
        simpa using h6
    · rintro ⟨h1, h2, h3, h4, h5⟩
      refine ⟨h1, h2, fun j hj => ?_⟩
      simp
      refine ⟨?_, ?_⟩
      · rcases Nat.lt_or_ge j 2 with h | h
        · right
          rcases Nat.lt_or_ge j 1 with h' | h'
          · obtain rfl : j = 0 := by omega
            simpa using h3
          · obtain rfl : j = 1 := by omega
            simpa using h4
        · exact .inl h
      · rcases Int.lt_or_le (j : Int) p with h | h
        · exact .inl h
        · right
          simpa using h5 j h hj
  have HOK := Lib.hid hok
  have HR := Lib.hid hr
  clear eC hm0 hU hu0 hu1 hok hr
  have no : Hid (¬ okM p U → r = false) := Lib.hid (fun h => by rw [HR.out]; exact decide_eq_false h)
  by_cases h8 : p < 8
  · have d1 : decide (p < 8) = true := by simpa using h8
    go_enter Try.func24, Try.ntmps24
    go_wp2_with fail
    go_ret
    exact ⟨by rw [no.out (fun h => by have := (HOK.out.1 h).1; omega)]; rfl, hbl.out⟩
  have d1 : decide (p < 8) = false := by simpa using h8
  by_cases h5 : 512 < p
  · have d2 : decide (512 < p) = true := by simpa using h5
    go_enter Try.func24, Try.ntmps24
    go_wp2_with fail
    go_ret
    exact ⟨by rw [no.out (fun h => by have := (HOK.out.1 h).2.1; omega)]; rfl, hbl.out⟩
  have d2 : decide (512 < p) = false := by simpa using h5
  cases u0 with
  | false =>
    go_enter Try.func24, Try.ntmps24
    go_wp2_with fail
    go_ret
    exact ⟨by rw [no.out (fun h => by have := (HOK.out.1 h).2.2.1; cases this)]; rfl, hbl.out⟩
  | true =>
    cases u1 with
    | false =>
      go_enter Try.func24, Try.ntmps24
      go_wp2_with fail
      go_ret
      exact ⟨by rw [no.out (fun h => by have := (HOK.out.1 h).2.2.2.1; cases this)]; rfl, hbl.out⟩
    | true =>
      obtain ⟨q, rfl⟩ := Int.eq_ofNat_of_zero_le (show 0 ≤ p by omega)
      have yes : Hid ((∀ j : Nat, q ≤ j → j < 512 → U.getD j false = false) → r = true) := Lib.hid (fun h => by
        rw [HR.out]
        exact decide_eq_true (HOK.out.2 ⟨by omega, by omega, rfl, rfl, fun j h1 h2 => h j (by omega) h2⟩))
      go_enter Try.func24, Try.ntmps24
      go_wp2_with fail
      go_loop [3] (fun i => ∃ k : Nat, q ≤ k ∧ k ≤ 512 ∧ i = .int .i64 k ∧ Hid (∀ j : Nat, q ≤ j → j < k → U.getD j false = false)) (fun i => 512 - (intOf i).toNat)
      case atStart => exact ⟨q, by omega, by omega, rfl, Lib.hid (fun j h1 h2 => by omega)⟩
      case round =>
        obtain ⟨k, hq, hk, rfl, hall⟩ := hrel
        by_cases hlt : k < 512
        · have hc := HM0.out.cs k (by rw [HU.out]; omega)
          obtain ⟨u, hu⟩ : ∃ u, u = U.getD k false := ⟨_, rfl⟩
          rw [← hu] at hc
          have HUU := Lib.hid hu
          clear hu
          cases u with
          | false =>
            go_wp2_with fail
            go_round
            case rel =>
              refine ⟨k + 1, by omega, by omega, by go_num, Lib.hid (fun j h1 h2 => ?_)⟩
              rcases Nat.lt_or_ge j k with h | h
              · exact hall.out j h1 h
              · obtain rfl : j = k := by omega
                exact HUU.out.symm
            case measure => simp [intOf]; omega
          | true =>
            go_wp2_with fail
            go_ret
            exact ⟨by rw [no.out (fun h => by have := (HOK.out.1 h).2.2.2.2 k (by omega) hlt; rw [← HUU.out] at this; cases this)]; rfl, hbl.out⟩
        · obtain rfl : k = 512 := by omega
          go_wp2_with fail
          go_ret
          exact ⟨by rw [yes.out hall.out]; rfl, hbl.out⟩
set_option maxHeartbeats 2000000 in
set_option maxRecDepth 100000 in
theorem put_rf (p : Nat) (U : List Bool) (hU : U.length = 512) (hok : okM (p : Int) U) (w : World) (C : Array Value) (eC : C = mapC (p : Int) U) (n : Nat) (hn : n = 2 + (p + 7) / 8) :
    Calls Try.prog 18 #[.agg C] w fun e w' => ∃ q, e = .returned (.slice (some ⟨q, 0, none⟩) n n) ∧ OwnB w' (w.heap.size + 1) q n 5 (bmN p U p) ∧ Below w.heap.size w w' := by
  have hp := hok.2.1
  obtain ⟨iu, hiu, hz0, hz1, hz2⟩ := info_parts infoU8
  have hz3 : iu.bytes * n ≤ 281474976710656 := by rw [hz2]; omega
  have hS : Hid (some 513 = some C.size) := Lib.hid (by rw [eC, size_mapC hU])
  have HR : Hid (∀ W, Calls Try.prog 24 #[.agg C] W fun e w' => e = .returned (.bool true) ∧ Below W.heap.size W w') := Lib.hid (fun W => right_rf _ U hU W C eC true (decide_eq_true hok).symm)
  have hb1 : Below w.heap.size w (w.alloc (.cells C 27)) := (Below.refl _ _).alloc (Nat.le_refl _) _
  have hg : Hid ((w.alloc (.cells C 27)).heap[w.heap.size]? = some (.cells C 27 (0, 0))) := Lib.hid (heap_alloc_new _ _)
  have HB1 := Lib.hid hb1
  have EC := Lib.hid eC
  have HU := Lib.hid hU
  have hni : (2 : Int) + ((p : Int) + 7) / 8 = (n : Int) := by omega
  have HNI := Lib.hid hni
  have hn70 : n ≤ 70 := by omega
  have hn2 : 2 ≤ n := by omega
  have HN := Lib.hid hn
  clear eC hok hb1 hU hni hn
  go_enter Try.func18, Try.ntmps18
  go_upto_region 4 with (first
    | (refine wpList_load_row rfl 27 (.tmp 1) rfl w.heap.size rfl 27 C (0, 0) _ hg.out Try.underlying27 rfl (infoMapR.trans hS.out) ?_)
    | (go_at_call 24; (refine (HR.out _).mono ?_); rintro e w1 ⟨rfl, hb2⟩; have hg1 := (hb2.block w.heap.size (by simp)).trans hg.out; have c0 : w1.cell? ⟨w.heap.size, 0, none⟩ = some (.int .i64 (p : Int)) := (cell_of_row _ _ 0 _ _ _ hg1).trans (by rw [EC.out]; rfl))
    | (at_make; refine wpList_make_full _ rfl (.tmp 12) (.tmp 12) 42 rfl (w.heap.size + 1) 5 iu (.int .u8 0) 1 Try.underlying42 hiu hz0 hz1 .i64 .i64 _ _ n rfl rfl HNI.out HNI.out hz3 (by unfold maxLen; omega) (by have := hb2.size; simp at this; omega) ?_; intro w2 ho2 hg2))
  have ho3 := made8b ho2
  obtain ⟨q, hq, hob, _⟩ := ho3.ownB2b
  injection hq with hq
  injection hq with hq
  have hs2 := hb2.size
  rw [hq]
  have hgq : w1.heap.size = q := hq
  have inv0 : BmInv 27 w p U q n w2 (List.replicate n 0) := ⟨by
      unfold MapAt
      rw [← EC.out]
      exact (hg2.block _ (by simp at hs2; omega) (by simp)).trans hg1, hob, (HB1.out.trans (hb2.mono (by simp))).trans ⟨hg2.os, hg2.tape, hg2.output, hg2.size, fun k hk => hg2.block k (by simp at hs2; omega) (by simp)⟩⟩
  have f0 := inv0.box.c0
  have s0 := inv0.own.cellAt 0 (by simp; omega)
  have s1 := inv0.own.cellAt 1 (by simp; omega)
  have z0 := inv0.own.frozenAt 0
  have z1 := inv0.own.frozenAt 1
  have INV0 := Lib.hid inv0
  clear ho2 ho3 hob hg2 inv0 hq hgq hs2 hb2 hg1 c0
  have hqw : w.heap.size + 1 ≤ q := INV0.out.own.parts.1
  have hne1 : ¬ w.heap.size = q := by omega
  have hne2 : ¬ q = w.heap.size := by omega
  have n0 : 0 < n := by omega
  have n1 : 1 < n := by omega
  have n0' : (0 : Int) < (n : Int) := by omega
  have n1' : (1 : Int) < (n : Int) := by omega
  go_region
  have hm2 : ((p : Int) / 256) = ((UInt8.ofNat (p / 256)).toNat : Int) := by rw [UInt8.toNat_ofNat']; omega
  have hm3 : ((p : Int) % 256) = ((UInt8.ofNat p).toNat : Int) := by rw [UInt8.toNat_ofNat']; omega
  have inv1 := ((INV0.out.set 0 (by simp; omega) (UInt8.ofNat (p / 256))).set 1 (by simp; omega) (UInt8.ofNat p)).drew
  rw [← hm2, ← hm3] at inv1
  have el : ((List.replicate n (0 : UInt8)).set 0 (UInt8.ofNat (p / 256))).set 1 (UInt8.ofNat p) = bmN p U 0 := by
    have : n = (p + 7) / 8 + 2 := by have := HN.out; omega
    rw [this, List.replicate_succ, List.replicate_succ, List.set_cons_zero, List.set_cons_succ, List.set_cons_zero]
    rfl
  rw [el] at inv1
  have INV1 := Lib.hid inv1
  clear inv1 el hm2 hm3 f0 s0 s1 z0 z1
  have f0 := INV1.out.box.c0
  go_wp2_with fail
  go_loopw [4] (fun i wr => ∃ k : Nat, k ≤ p ∧ i = .int .i64 k ∧ Hid (BmInv 27 w p U q n wr (bmN p U k))) (fun i _ => p - (intOf i).toNat)
  case atStart => exact ⟨0, by omega, rfl, INV1⟩
  case round =>
    obtain ⟨k, hk, rfl, hr⟩ := hrel
    clear INV1 INV0 f0
    have f0 := hr.out.box.c0
    by_cases hlt : k < p
    · have hc := hr.out.box.cs k (by rw [HU.out]; omega)
      obtain ⟨u, hu⟩ : ∃ u, u = U.getD k false := ⟨_, rfl⟩
      rw [← hu] at hc
      have HUU := Lib.hid hu
      clear hu
      cases u
      · have HST : Hid (bmN p U (k + 1) = bmN p U k) := Lib.hid (by show (if U.getD k false then _ else _) = _; rw [← HUU.out]; rfl)
        go_wp2_with fail
        go_roundw
        case rel => exact ⟨k + 1, by omega, by go_num, Lib.hid (by rw [HST.out]; exact hr.out)⟩
        case measure => simp [intOf]; omega
      · obtain ⟨j, hj⟩ : ∃ j, j = 2 + k / 8 := ⟨_, rfl⟩
        have hjl : j < (bmN p U k).length := by rw [length_bmN, hj]; omega
        have hjn : j < n := by have := HN.out; omega
        obtain ⟨o, ho⟩ : ∃ o, o = (bmN p U k).getD j 0 := ⟨_, rfl⟩
        have s0 := hr.out.own.cellAt j hjl
        have z0 := hr.out.own.frozenAt j
        rw [← ho] at s0
        have hji : (2 : Int) + (k : Int) / 8 = (j : Int) := by omega
        have hjn' : (j : Int) < (n : Int) := by omega
        obtain ⟨e, he⟩ : ∃ e, e = k % 8 := ⟨_, rfl⟩
        have hei : (k : Int) % 8 = (e : Int) := by omega
        have he8 : e < 8 := by omega
        have HO := Lib.hid ho
        have HJ := Lib.hid hj
        have HE := Lib.hid he
        clear ho hj he hk
        go_upto_region 9 with fail
        go_region
        have h1 := (hr.out.set j hjl (o ||| UInt8.ofNat (2 ^ e))).drew
        rw [← or_bit e he8 o] at h1
        have hst : (bmN p U k).set j (o ||| UInt8.ofNat (2 ^ e)) = bmN p U (k + 1) := by
          show _ = (if U.getD k false then (bmN p U k).set (2 + k / 8) ((bmN p U k).getD (2 + k / 8) 0 ||| UInt8.ofNat (2 ^ (k % 8))) else bmN p U k)
          rw [← HUU.out, HO.out, HJ.out, HE.out]
          rfl
        rw [hst] at h1
        have H1 := Lib.hid h1
        clear h1 hst s0 z0
        go_wp2_with fail
        go_roundw
        case rel => exact ⟨k + 1, by omega, by go_num, H1⟩
        case measure => simp [intOf]; omega
    · obtain rfl : k = p := by omega
      go_wp2_with fail
      go_ret
      exact ⟨q, rfl, hr.out.own, hr.out.bel⟩

set_option maxHeartbeats 1000000 in
set_option maxRecDepth 100000 in
theorem put_rf_no (p : Int) (U : List Bool) (hU : U.length = 512) (hok : ¬ okM p U) (w : World) (C : Array Value) (eC : C = mapC p U) :
    Calls Try.prog 18 #[.agg C] w fun e w' => e = .returned (.slice none 0 0) ∧ Below w.heap.size w w' := by
  have hS : Hid (some 513 = some C.size) := Lib.hid (by rw [eC, size_mapC hU])
  have HR : Hid (∀ W, Calls Try.prog 24 #[.agg C] W fun e w' => e = .returned (.bool false) ∧ Below W.heap.size W w') := Lib.hid (fun W => right_rf _ U hU W C eC false (decide_eq_false hok).symm)
  have HB1 : Hid (Below w.heap.size w (w.alloc (.cells C 27))) := Lib.hid ((Below.refl _ _).alloc (Nat.le_refl _) _)
  have hg : Hid ((w.alloc (.cells C 27)).heap[w.heap.size]? = some (.cells C 27 (0, 0))) := Lib.hid (heap_alloc_new _ _)
  clear eC hok hU
  go_enter Try.func18, Try.ntmps18
  go_wp2_with (first
    | (refine wpList_load_row rfl 27 (.tmp 1) rfl w.heap.size rfl 27 C (0, 0) _ hg.out Try.underlying27 rfl (infoMapR.trans hS.out) ?_)
    | (go_at_call 24; (refine (HR.out _).mono ?_); rintro e w1 ⟨rfl, hb2⟩))
  go_ret
  exact ⟨rfl, HB1.out.trans (hb2.mono (by simp))⟩

end Go.Proofs.Ytobfepkeikecoaa
