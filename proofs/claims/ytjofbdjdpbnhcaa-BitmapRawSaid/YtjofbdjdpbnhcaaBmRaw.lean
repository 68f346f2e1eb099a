/- BitmapRaw: its walk. -/
import Derived.Test.YtjofbdjdpbnhcaaBmQ
import Derived.Test.YtjofbdjdpbnhcaaPi
namespace Go.Proofs.Ytjofbdjdpbnhcaa
open Go.ChangeShapes Go.WideShapes Go.ChangeAt Go.RowKit PageM
set_option linter.unusedVariables false

theorem modB (a : Int) (m : Nat) (h0 : 0 < m) (hm : m ≤ 1000000) : ∃ k : Nat, k < m ∧ wrap64 ((IntKind.u64.wrap a).tmod (m : Int)) = (k : Int) := by
  have h1 : 0 ≤ IntKind.u64.wrap a := by rw [IntKind.wrap_u64]; omega
  rw [Int.tmod_eq_emod_of_nonneg h1]
  have h2 : 0 ≤ IntKind.u64.wrap a % (m : Int) := Int.emod_nonneg _ (by omega)
  have h3 : IntKind.u64.wrap a % (m : Int) < (m : Int) := Int.emod_lt_of_pos _ (by omega)
  obtain ⟨k, hk⟩ := Int.eq_ofNat_of_zero_le h2
  refine ⟨k, by omega, ?_⟩
  rw [hk]
  unfold wrap64
  omega
theorem text_b {w : World} (A : Option Addr) (n c : Nat) (xs : List UInt8) (hn : xs.length = n) (hA : BytesAt w A xs) :
    (convert 42 9 (.slice A n c)).run Try.prog w = .ok (.string ⟨xs.toArray⟩) w := by
  subst hn
  exact run_text (P := Try.prog) 42 9 Try.underlying42 Try.underlying5 Try.underlying9 A c hA

set_option maxHeartbeats 8000000 in
set_option maxRecDepth 100000 in
theorem bitmapRaw_walk (z : Int) (U : List Bool) (hU : U.length = 512) (A1 : Option Addr) (cap1 : Nat) (zs : List Int) {w : World} (hzs : NumRow .i64 w A1 zs) (lc1 : zs.length ≤ cap1) (cm1 : cap1 ≤ maxLen)
    (A2 : Option Addr) (cap2 : Nat) (xs : List UInt8) (hx : BytesAt w A2 xs) (lc2 : xs.length ≤ cap2) (cm2 : cap2 ≤ maxLen) :
    Calls Try.prog 4 #[.agg (mapC z U), .slice A1 zs.length cap1, .slice A2 xs.length cap2] w fun e w' => e = .returned (.bool true) ∧ Below w.heap.size w w' := by
  unfold maxLen at cm1 cm2
  obtain ⟨C0, eC0⟩ : ∃ C0, C0 = mapC z U := ⟨_, rfl⟩
  have hm0 : MapAt (w.alloc (.cells C0 27)) w.heap.size 27 z U := by rw [eC0]; exact MapAt.new w _ z U
  have HM0 := Lib.hid hm0
  have hb0 : Hid (Below w.heap.size w (w.alloc (.cells C0 27))) := Lib.hid ((Below.refl _ _).alloc (Nat.le_refl _) _)
  have HX := Lib.hid hx
  have HZS := Lib.hid hzs
  rw [← eC0]
  obtain ⟨len1, hlen1⟩ : ∃ n, n = zs.length := ⟨_, rfl⟩
  rw [← hlen1] at lc1 ⊢
  have HL1 := Lib.hid hlen1
  have HUU := Lib.hid hU
  clear eC0 hm0 hx hzs hlen1 hU
  go_enter Try.func4, Try.ntmps4
  go_wp2_with fail
  go_loopw [7] (fun i wr => ∃ (k : Nat) (V : List Bool), k ≤ 20 ∧ k ≤ len1 ∧ V.length = 512 ∧ i = .int .i64 k ∧ Hid (MapAt wr w.heap.size 27 z V) ∧ Hid (Below w.heap.size w wr)) (fun i _ => 20 - (intOf i).toNat)
  case atStart => exact ⟨0, U, by omega, by omega, HUU.out, rfl, HM0, hb0⟩
  case round =>
    obtain ⟨k, V, hk, hkl, hV, rfl, hm, hB⟩ := hrel
    clear HM0 hb0
    by_cases hlt : k < len1 ∧ k < 20
    · obtain ⟨hl1, hl2⟩ := hlt
      have d1 : decide (k < len1) = true := decide_eq_true hl1
      have d2 : decide ((k : Int) < (len1 : Int)) = true := by simp; omega
      have d3 : decide ((k : Int) < 20) = true := by simp; omega
      have hlz : k < zs.length := by have := HL1.out; omega
      obtain ⟨ub, uo, hA1, hcell⟩ := HZS.out.2 (by intro h; subst h; simp at hlz)
      subst hA1
      have hck := hcell k hlz
      have hul : ub < w.heap.size := cell_lt hck
      have cu : wr.cell? ⟨ub, uo + k, none⟩ = some (.int .i64 zs[k]) := (World.cell?_of_block (a := ⟨ub, uo + k, none⟩) (hB.out.block ub hul)).trans hck
      obtain ⟨m, hm5, hme⟩ := modB zs[k] 512 (by omega) (by omega)
      obtain ⟨u, hu⟩ : ∃ u, u = zs[k] := ⟨_, rfl⟩
      rw [← hu] at cu hme
      have hb1 : 0 ≤ wrap64 ((IntKind.u64.wrap u).tmod 512) := by have := hme; simp only [Int.cast_ofNat_Int] at this; omega
      have hb2 : wrap64 ((IntKind.u64.wrap u).tmod 512) < 512 := by have := hme; simp only [Int.cast_ofNat_Int] at this; omega
      have hmn : (wrap64 ((IntKind.u64.wrap u).tmod 512)).toNat < 512 := by omega
      have cm := hm.out.cs (wrap64 ((IntKind.u64.wrap u).tmod 512)).toNat (by omega)
      have cf := hm.out.fr (1 + (wrap64 ((IntKind.u64.wrap u).tmod 512)).toNat)
      clear hcell hck hu hme hm5
      go_wp2_with fail
      go_roundw
      case rel => exact ⟨k + 1, _, by omega, by omega, by rw [List.length_set]; exact hV, by go_num, Lib.hid (hm.out.set _ true), Lib.hid (below_setCM hB.out (Nat.le_refl _))⟩
      case measure => simp [intOf]; omega
    · have hex : k = len1 ∨ (k < len1 ∧ k = 20) := by omega
      rcases hex with hk1 | ⟨hk1, hk2⟩
      · have d1 : decide (k < len1) = false := decide_eq_false (by omega)
        have d2 : decide ((k : Int) < (len1 : Int)) = false := by simp; omega
        clear hk1 hlt
        obtain ⟨C3, eC3⟩ : ∃ C3, C3 = mapC z V := ⟨_, rfl⟩
        have hm3 := hm.out
        unfold MapAt at hm3
        rw [← eC3] at hm3
        have HM := Lib.hid hm3
        have hS3 : Hid (some 513 = some C3.size) := Lib.hid (by rw [eC3, size_mapC hV])
        have hO3 : Hid (C3.all (·.oneCell') = true) := Lib.hid (by rw [eC3]; exact one_mapC _ _)
        have HTO : Hid (∀ W, Calls Try.prog 23 #[.agg C3] W fun e w' => e = .returned (.agg C3) ∧ Below W.heap.size W w') := Lib.hid (fun W => to_bm z V hV W C3 eC3)
        have HRT : Hid (∀ W, Calls Try.prog 21 #[.agg C3] W fun e w' => e = .returned (.bool (decide (okM z V))) ∧ Below W.heap.size W w') := Lib.hid (fun W => right_bmC z V hV W C3 eC3 _ rfl)
        have HRR : Hid (∀ W, Calls Try.prog 24 #[.agg C3] W fun e w' => e = .returned (.bool (decide (okM z V))) ∧ Below W.heap.size W w') := Lib.hid (fun W => right_rf z V hV W C3 eC3 _ rfl)
        obtain ⟨X, hX⟩ : ∃ X, X = bmPut z V := ⟨_, rfl⟩
        have HPT : Hid (∀ W, Calls Try.prog 16 #[.agg C3] W fun e w' => (∃ A n c, e = .returned (.slice A n c) ∧ X.length = n ∧ n ≤ c ∧ BytesAt w' A X) ∧ Below W.heap.size W w') := Lib.hid (fun W => put_all z V hV W C3 eC3 X hX)
        have HPR : Hid (∀ W, Calls Try.prog 18 #[.agg C3] W fun e w' => (∃ A n c, e = .returned (.slice A n c) ∧ X.length = n ∧ n ≤ c ∧ BytesAt w' A X) ∧ Below W.heap.size W w') := Lib.hid (fun W => put_rf_all z V hV W C3 eC3 X hX)
        obtain ⟨ok3, hok3⟩ : ∃ b, b = decide (okM z V) := ⟨_, rfl⟩
        rw [← hok3] at HRT HRR
        have hwl : w.heap.size < wr.heap.size := (Array.getElem?_eq_some_iff.1 hm3).1
        obtain ⟨n2, hn2⟩ : ∃ n2, n2 = min xs.length 100 := ⟨_, rfl⟩
        obtain ⟨len2, hlen2⟩ : ∃ n, n = xs.length := ⟨_, rfl⟩
        rw [← hlen2] at hn2 lc2
        have hmin : min (len2 : Int) 100 = (n2 : Int) := by omega
        have hn2c : n2 ≤ cap2 := by omega
        have hn2c' : (n2 : Int) ≤ (cap2 : Int) := by omega
        have hn100 : n2 ≤ 100 := by omega
        have HN2 : Hid ((xs.take n2).length = n2) := Lib.hid (by rw [List.length_take]; omega)
        have HX2 : Hid (BytesAt w A2 (xs.take n2)) := Lib.hid (HX.out.take n2)
        obtain ⟨ys, hys⟩ : ∃ ys, ys = xs.take n2 := ⟨_, rfl⟩
        rw [← hys] at HN2 HX2
        obtain ⟨C9, eC9⟩ : ∃ C9, C9 = toldMC ys := ⟨_, rfl⟩
        obtain ⟨rn, ern⟩ : ∃ rn, rn = numM ys := ⟨_, rfl⟩
        have EC9 := Lib.hid eC9
        have ERN := Lib.hid ern
        have hS9 : Hid (some 513 = some C9.size) := Lib.hid (by
          rw [eC9]; unfold toldMC; split
          · rw [size_mapC (length_gotU ys)]
          · rw [size_mapC List.length_replicate])
        have hO9 : Hid (C9.all (·.oneCell') = true) := Lib.hid (by
          rw [eC9]; unfold toldMC; split
          · exact one_mapC _ _
          · exact one_mapC _ _)
        have HB := Lib.hid hB.out
        have HLEN2 := Lib.hid hlen2
        rw [← hlen2]
        clear eC3 hm3 hX hok3 hn2 hys eC9 ern hm hB hlen2
        go_upto_region 6 with (first
          | (refine wpList_load_row rfl 27 (.tmp 3) rfl w.heap.size rfl 27 C3 (0, 0) _ HM.out Try.underlying27 rfl (infoMapR.trans hS3.out) ?_)
          | (go_at_call 23; (refine (HTO.out _).mono ?_); rintro e w2 ⟨rfl, hb2⟩)
          | (refine wpList_store_row rfl 25 (.tmp 8) (.tmp 31) rfl w2.heap.size C3 rfl rfl 25 Try.zeroCells25 (heap_alloc_new _ _) (infoMap.trans hS3.out) (size_zeroMap.trans (Option.some.inj hS3.out)) hO3.out ?_; rw [World.setRow_alloc_new]))
        obtain ⟨g8, hg8⟩ : ∃ g8, g8 = w2.heap.size := ⟨_, rfl⟩
        rw [← hg8]
        have hb3 : Below wr.heap.size wr (w2.alloc (.cells C3 25)) := hb2.alloc hb2.size _
        have h83 : (w2.alloc (.cells C3 25)).heap[g8]? = some (.cells C3 25 (0, 0)) := by rw [hg8]; exact heap_alloc_new _ _
        obtain ⟨W3, eW3⟩ : ∃ W3, W3 = w2.alloc (.cells C3 25) := ⟨_, rfl⟩
        rw [← eW3] at hb3 h83 ⊢
        have HB3 := Lib.hid hb3
        have H83 := Lib.hid h83
        clear eW3 hb3 h83 hb2 hg8
        go_upto_region 8 with (first
          | (go_at_call 17; (refine (get_all A2 cap2 n2 ys _ HN2.out (by omega) (HX2.out.below (HB.out.trans (HB3.out.mono HB.out.size))) hn2c C9 EC9.out rn ERN.out).mono ?_); rintro e w4 ⟨rfl, hb4⟩)
          | (refine wpList_store_row rfl 25 (.tmp 9) (.tmp 40) rfl w4.heap.size C9 rfl rfl 25 Try.zeroCells25 (heap_alloc_new _ _) (infoMap.trans hS9.out) (size_zeroMap.trans (Option.some.inj hS9.out)) hO9.out ?_; rw [World.setRow_alloc_new]))
        obtain ⟨g9, hg9⟩ : ∃ g9, g9 = w4.heap.size := ⟨_, rfl⟩
        rw [← hg9]
        have hb8 : Below W3.heap.size W3 (w4.alloc (.cells C9 25)) := hb4.alloc hb4.size _
        have h98 : (w4.alloc (.cells C9 25)).heap[g9]? = some (.cells C9 25 (0, 0)) := by rw [hg9]; exact heap_alloc_new _ _
        obtain ⟨W8, eW8⟩ : ∃ W8, W8 = w4.alloc (.cells C9 25) := ⟨_, rfl⟩
        rw [← eW8] at hb8 h98 ⊢
        clear eW8 hb4 hg9
        have h88 := (hb8.block g8 (Array.getElem?_eq_some_iff.1 H83.out).1).trans H83.out
        have hw3 : w.heap.size < W3.heap.size := Nat.lt_of_lt_of_le hwl HB3.out.size
        have h38 := (hb8.block w.heap.size hw3).trans ((HB3.out.block w.heap.size hwl).trans HM.out)
        have HB8 : Hid (Below w.heap.size w W8) := Lib.hid (HB.out.trans ((HB3.out.trans (hb8.mono HB3.out.size)).mono HB.out.size))
        have HQ8 : Hid (∀ y : SubW W8.heap.size W8, y.at_.heap[g8]? = some (.cells C3 25 (0, 0))) := Lib.hid (fun y => (y.ok_.block _ (Array.getElem?_eq_some_iff.1 h88).1).trans h88)
        have HQ3 : Hid (∀ y : SubW W8.heap.size W8, y.at_.heap[w.heap.size]? = some (.cells C3 27 (0, 0))) := Lib.hid (fun y => (y.ok_.block _ (Array.getElem?_eq_some_iff.1 h38).1).trans h38)
        have HQ9 : Hid (∀ y : SubW W8.heap.size W8, y.at_.heap[g9]? = some (.cells C9 25 (0, 0))) := Lib.hid (fun y => (y.ok_.block _ (Array.getElem?_eq_some_iff.1 h98).1).trans h98)
        have H98 := Lib.hid h98
        clear hb8 h88 h38 h98 hwl hw3 H83 HB3 HM HB HTO
        have hrn : rn = 0 ∨ rn = 3 := by rw [ERN.out]; unfold numM; split <;> simp
        go_cut [67] (fun s67 wx => s67 = .bool false ∧ Hid (Below W8.heap.size W8 wx))
        case first =>
          rcases hrn with rfl | rfl
          · refine region_ways4 W8.heap.size (Nat.le_refl _) (.one [] 0 (.one [1, 2, 3, 5] 4 (.one [] 6 (.one [7, 8, 9, 10, 13] 11 (.two [] 12 (.one [] 14 (.one [] 15 (.done [16, 17, 18, 19, 20, 21, 22, 23, 24, 25]))) 14 (.two [] 12 (.one [] 15 (.done [16, 17, 18, 19, 20, 21, 22, 23, 24, 25])) 15 (.one [] 12 (.done [16, 17, 18, 19, 20, 21, 22, 23, 24, 25])))))))) (by kernel_rfl) (by kernel_rfl) ?_
            rintro wd hbd
            rw [wpWays_one4]
            try simp only [List.map_cons, List.map_nil, opAt, List.getElem?_toArray, List.getElem?_cons_zero, List.getElem?_cons_succ, Option.getD_some]
            repeat (first
              | (go_big_quiet_step (fail)))
            refine wpQuiet_nil ?_
            go_wp2_with (go_at_call 10; (refine (takes_any _).mono ?_); rintro e v1 ⟨rfl, hv1⟩)
            have b1 := hbd.trans (hv1.mono hbd.size)
            refine ⟨⟨⟨_, b1⟩, rfl⟩, ?_⟩
            rw [wpWays_one4]
            try simp only [List.map_cons, List.map_nil, opAt, List.getElem?_toArray, List.getElem?_cons_zero, List.getElem?_cons_succ, Option.getD_some]
            repeat (first
              | (go_big_quiet_want; refine quiet_load_row 25 (.tmp 8) rfl g8 rfl 25 C3 (0, 0) _ HQ8.out Try.underlying25 rfl (infoMap.trans hS3.out) ?_; simp only [Act.put, List.setIfInBounds_toArray, List.set_cons_zero, List.set_cons_succ]; go_big_quiet_on)
              | (go_big_quiet_want; refine quiet_load_row 27 (.tmp 3) rfl w.heap.size rfl 27 C3 (0, 0) _ HQ3.out Try.underlying27 rfl (infoMapR.trans hS3.out) ?_; simp only [Act.put, List.setIfInBounds_toArray, List.set_cons_zero, List.set_cons_succ]; go_big_quiet_on)
              | (go_big_quiet_step (fail)))
            refine wpQuiet_nil ?_
            go_wp2_with (go_at_call 21; (refine (HRT.out _).mono ?_); rintro e v2 ⟨rfl, hv2⟩)
            have b2 := b1.trans (hv2.mono b1.size)
            refine ⟨⟨⟨_, b2⟩, rfl⟩, ?_⟩
            rw [wpWays_one4]
            try simp only [List.map_cons, List.map_nil, opAt, List.getElem?_toArray, List.getElem?_cons_zero, List.getElem?_cons_succ, Option.getD_some]
            repeat (first
              | (go_big_quiet_want; refine quiet_load_row 25 (.tmp 8) rfl g8 rfl 25 C3 (0, 0) _ HQ8.out Try.underlying25 rfl (infoMap.trans hS3.out) ?_; simp only [Act.put, List.setIfInBounds_toArray, List.set_cons_zero, List.set_cons_succ]; go_big_quiet_on)
              | (go_big_quiet_want; refine quiet_load_row 27 (.tmp 3) rfl w.heap.size rfl 27 C3 (0, 0) _ HQ3.out Try.underlying27 rfl (infoMapR.trans hS3.out) ?_; simp only [Act.put, List.setIfInBounds_toArray, List.set_cons_zero, List.set_cons_succ]; go_big_quiet_on)
              | (go_big_quiet_step (fail)))
            refine wpQuiet_nil ?_
            go_wp2_with (go_at_call 24; (refine (HRR.out _).mono ?_); rintro e v3 ⟨rfl, hv3⟩)
            have b3 := b2.trans (hv3.mono b2.size)
            refine ⟨⟨⟨_, b3⟩, rfl⟩, ?_⟩
            rw [wpWays_one4]
            try simp only [List.map_cons, List.map_nil, opAt, List.getElem?_toArray, List.getElem?_cons_zero, List.getElem?_cons_succ, Option.getD_some]
            repeat (first
              | (go_big_quiet_want; refine quiet_load_row 25 (.tmp 8) rfl g8 rfl 25 C3 (0, 0) _ HQ8.out Try.underlying25 rfl (infoMap.trans hS3.out) ?_; simp only [Act.put, List.setIfInBounds_toArray, List.set_cons_zero, List.set_cons_succ]; go_big_quiet_on)
              | (go_big_quiet_want; refine quiet_load_row 27 (.tmp 3) rfl w.heap.size rfl 27 C3 (0, 0) _ HQ3.out Try.underlying27 rfl (infoMapR.trans hS3.out) ?_; simp only [Act.put, List.setIfInBounds_toArray, List.set_cons_zero, List.set_cons_succ]; go_big_quiet_on)
              | (go_big_quiet_step (fail)))
            refine wpQuiet_nil ?_
            go_wp2_with (go_at_call 16; (refine (HPT.out _).mono ?_); rintro e v4 ⟨⟨A4, n4, c4, rfl, hl4, hc4, hx4⟩, hv4⟩)
            have b4 := b3.trans (hv4.mono b3.size)
            have tp_4 := text_b A4 n4 c4 X hl4 hx4
            refine ⟨⟨⟨_, b4⟩, rfl⟩, ?_⟩
            rw [wpWays_two4]
            try simp only [List.map_cons, List.map_nil, opAt, List.getElem?_toArray, List.getElem?_cons_zero, List.getElem?_cons_succ, Option.getD_some]
            repeat (first
              | (go_big_quiet_want; refine quiet_load_row 25 (.tmp 8) rfl g8 rfl 25 C3 (0, 0) _ HQ8.out Try.underlying25 rfl (infoMap.trans hS3.out) ?_; simp only [Act.put, List.setIfInBounds_toArray, List.set_cons_zero, List.set_cons_succ]; go_big_quiet_on)
              | (go_big_quiet_want; refine quiet_load_row 27 (.tmp 3) rfl w.heap.size rfl 27 C3 (0, 0) _ HQ3.out Try.underlying27 rfl (infoMapR.trans hS3.out) ?_; simp only [Act.put, List.setIfInBounds_toArray, List.set_cons_zero, List.set_cons_succ]; go_big_quiet_on)
              | (go_big_quiet_step (fail)))
            refine wpQuiet_nil ⟨?_, ?_⟩
            · go_wp2_with (fail)
              refine ⟨⟨⟨_, b4⟩, rfl⟩, ?_⟩
              rw [wpWays_one4]
              try simp only [List.map_cons, List.map_nil, opAt, List.getElem?_toArray, List.getElem?_cons_zero, List.getElem?_cons_succ, Option.getD_some]
              repeat (first
                | (go_big_quiet_want; refine quiet_load_row 25 (.tmp 8) rfl g8 rfl 25 C3 (0, 0) _ HQ8.out Try.underlying25 rfl (infoMap.trans hS3.out) ?_; simp only [Act.put, List.setIfInBounds_toArray, List.set_cons_zero, List.set_cons_succ]; go_big_quiet_on)
                | (go_big_quiet_want; refine quiet_load_row 27 (.tmp 3) rfl w.heap.size rfl 27 C3 (0, 0) _ HQ3.out Try.underlying27 rfl (infoMapR.trans hS3.out) ?_; simp only [Act.put, List.setIfInBounds_toArray, List.set_cons_zero, List.set_cons_succ]; go_big_quiet_on)
                | (go_big_quiet_step (fail)))
              refine wpQuiet_nil ?_
              go_wp2_with (go_at_call 18; (refine (HPR.out _).mono ?_); rintro e v6 ⟨⟨A6, n6, c6, rfl, hl6, hc6, hx6⟩, hv6⟩)
              have b6 := b4.trans (hv6.mono b4.size)
              have hxp_6 := hx4.below hv6
              have tp_6 := text_b A4 n4 c4 X hl4 hxp_6
              have tr_6 := text_b A6 n6 c6 X hl6 hx6
              refine ⟨⟨⟨_, b6⟩, rfl⟩, ?_⟩
              rw [wpWays_one4]
              try simp only [List.map_cons, List.map_nil, opAt, List.getElem?_toArray, List.getElem?_cons_zero, List.getElem?_cons_succ, Option.getD_some]
              repeat (first
                | (go_big_quiet_want; refine quiet_load_row 25 (.tmp 8) rfl g8 rfl 25 C3 (0, 0) _ HQ8.out Try.underlying25 rfl (infoMap.trans hS3.out) ?_; simp only [Act.put, List.setIfInBounds_toArray, List.set_cons_zero, List.set_cons_succ]; go_big_quiet_on)
                | (go_big_quiet_want; refine quiet_load_row 27 (.tmp 3) rfl w.heap.size rfl 27 C3 (0, 0) _ HQ3.out Try.underlying27 rfl (infoMapR.trans hS3.out) ?_; simp only [Act.put, List.setIfInBounds_toArray, List.set_cons_zero, List.set_cons_succ]; go_big_quiet_on)
                | (go_big_quiet_step (fail)))
              refine wpQuiet_nil ?_
              go_wp2_with (fail)
              refine ⟨⟨⟨_, b6⟩, rfl⟩, ?_⟩
              rw [wpWays_done4]
              try simp only [List.map_cons, List.map_nil, opAt, List.getElem?_toArray, List.getElem?_cons_zero, List.getElem?_cons_succ, Option.getD_some]
              repeat (first
                | (go_big_quiet_step (fail)))
              refine wpQuiet_nil ?_
              go_wp2_with fail
              go_meet
              exact ⟨rfl, Lib.hid b6⟩
            · go_wp2_with (go_at_call 18; (refine (HPR.out _).mono ?_); rintro e v5 ⟨⟨A5, n5, c5, rfl, hl5, hc5, hx5⟩, hv5⟩)
              have b5 := b4.trans (hv5.mono b4.size)
              have hxp_5 := hx4.below hv5
              have tp_5 := text_b A4 n4 c4 X hl4 hxp_5
              have tr_5 := text_b A5 n5 c5 X hl5 hx5
              refine ⟨⟨⟨_, b5⟩, rfl⟩, ?_⟩
              rw [wpWays_two4]
              try simp only [List.map_cons, List.map_nil, opAt, List.getElem?_toArray, List.getElem?_cons_zero, List.getElem?_cons_succ, Option.getD_some]
              repeat (first
                | (go_big_quiet_want; refine quiet_load_row 25 (.tmp 8) rfl g8 rfl 25 C3 (0, 0) _ HQ8.out Try.underlying25 rfl (infoMap.trans hS3.out) ?_; simp only [Act.put, List.setIfInBounds_toArray, List.set_cons_zero, List.set_cons_succ]; go_big_quiet_on)
                | (go_big_quiet_want; refine quiet_load_row 27 (.tmp 3) rfl w.heap.size rfl 27 C3 (0, 0) _ HQ3.out Try.underlying27 rfl (infoMapR.trans hS3.out) ?_; simp only [Act.put, List.setIfInBounds_toArray, List.set_cons_zero, List.set_cons_succ]; go_big_quiet_on)
                | (go_big_quiet_step (fail)))
              refine wpQuiet_nil ⟨?_, ?_⟩
              · go_wp2_with (fail)
                refine ⟨⟨⟨_, b5⟩, rfl⟩, ?_⟩
                rw [wpWays_one4]
                try simp only [List.map_cons, List.map_nil, opAt, List.getElem?_toArray, List.getElem?_cons_zero, List.getElem?_cons_succ, Option.getD_some]
                repeat (first
                  | (go_big_quiet_want; refine quiet_load_row 25 (.tmp 8) rfl g8 rfl 25 C3 (0, 0) _ HQ8.out Try.underlying25 rfl (infoMap.trans hS3.out) ?_; simp only [Act.put, List.setIfInBounds_toArray, List.set_cons_zero, List.set_cons_succ]; go_big_quiet_on)
                  | (go_big_quiet_want; refine quiet_load_row 27 (.tmp 3) rfl w.heap.size rfl 27 C3 (0, 0) _ HQ3.out Try.underlying27 rfl (infoMapR.trans hS3.out) ?_; simp only [Act.put, List.setIfInBounds_toArray, List.set_cons_zero, List.set_cons_succ]; go_big_quiet_on)
                  | (go_big_quiet_step (fail)))
                refine wpQuiet_nil ?_
                go_wp2_with (fail)
                refine ⟨⟨⟨_, b5⟩, rfl⟩, ?_⟩
                rw [wpWays_done4]
                try simp only [List.map_cons, List.map_nil, opAt, List.getElem?_toArray, List.getElem?_cons_zero, List.getElem?_cons_succ, Option.getD_some]
                repeat (first
                  | (go_big_quiet_step (fail)))
                refine wpQuiet_nil ?_
                go_wp2_with fail
                go_meet
                exact ⟨rfl, Lib.hid b5⟩
              · go_wp2_with (fail)
                refine ⟨⟨⟨_, b5⟩, rfl⟩, ?_⟩
                rw [wpWays_one4]
                try simp only [List.map_cons, List.map_nil, opAt, List.getElem?_toArray, List.getElem?_cons_zero, List.getElem?_cons_succ, Option.getD_some]
                repeat (first
                  | (go_big_quiet_want; refine quiet_load_row 25 (.tmp 8) rfl g8 rfl 25 C3 (0, 0) _ HQ8.out Try.underlying25 rfl (infoMap.trans hS3.out) ?_; simp only [Act.put, List.setIfInBounds_toArray, List.set_cons_zero, List.set_cons_succ]; go_big_quiet_on)
                  | (go_big_quiet_want; refine quiet_load_row 27 (.tmp 3) rfl w.heap.size rfl 27 C3 (0, 0) _ HQ3.out Try.underlying27 rfl (infoMapR.trans hS3.out) ?_; simp only [Act.put, List.setIfInBounds_toArray, List.set_cons_zero, List.set_cons_succ]; go_big_quiet_on)
                  | (go_big_quiet_step (fail)))
                refine wpQuiet_nil ?_
                go_wp2_with (fail)
                refine ⟨⟨⟨_, b5⟩, rfl⟩, ?_⟩
                rw [wpWays_done4]
                try simp only [List.map_cons, List.map_nil, opAt, List.getElem?_toArray, List.getElem?_cons_zero, List.getElem?_cons_succ, Option.getD_some]
                repeat (first
                  | (go_big_quiet_step (fail)))
                refine wpQuiet_nil ?_
                go_wp2_with fail
                go_meet
                exact ⟨rfl, Lib.hid b5⟩
          · refine region_ways4 W8.heap.size (Nat.le_refl _) (.one [] 0 (.one [1, 2, 3, 5] 4 (.one [] 6 (.one [7, 8, 9, 10, 13] 11 (.two [] 12 (.one [] 14 (.one [] 15 (.done [16, 17, 18, 19, 20, 21, 22, 23, 24, 25]))) 14 (.two [] 12 (.one [] 15 (.done [16, 17, 18, 19, 20, 21, 22, 23, 24, 25])) 15 (.one [] 12 (.done [16, 17, 18, 19, 20, 21, 22, 23, 24, 25])))))))) (by kernel_rfl) (by kernel_rfl) ?_
            rintro wd hbd
            rw [wpWays_one4]
            try simp only [List.map_cons, List.map_nil, opAt, List.getElem?_toArray, List.getElem?_cons_zero, List.getElem?_cons_succ, Option.getD_some]
            repeat (first
              | (go_big_quiet_step (fail)))
            refine wpQuiet_nil ?_
            go_wp2_with (go_at_call 10; (refine (takes_any _).mono ?_); rintro e v7 ⟨rfl, hv7⟩)
            have b7 := hbd.trans (hv7.mono hbd.size)
            refine ⟨⟨⟨_, b7⟩, rfl⟩, ?_⟩
            rw [wpWays_one4]
            try simp only [List.map_cons, List.map_nil, opAt, List.getElem?_toArray, List.getElem?_cons_zero, List.getElem?_cons_succ, Option.getD_some]
            repeat (first
              | (go_big_quiet_want; refine quiet_load_row 25 (.tmp 8) rfl g8 rfl 25 C3 (0, 0) _ HQ8.out Try.underlying25 rfl (infoMap.trans hS3.out) ?_; simp only [Act.put, List.setIfInBounds_toArray, List.set_cons_zero, List.set_cons_succ]; go_big_quiet_on)
              | (go_big_quiet_want; refine quiet_load_row 27 (.tmp 3) rfl w.heap.size rfl 27 C3 (0, 0) _ HQ3.out Try.underlying27 rfl (infoMapR.trans hS3.out) ?_; simp only [Act.put, List.setIfInBounds_toArray, List.set_cons_zero, List.set_cons_succ]; go_big_quiet_on)
              | (go_big_quiet_step (fail)))
            refine wpQuiet_nil ?_
            go_wp2_with (go_at_call 21; (refine (HRT.out _).mono ?_); rintro e v8 ⟨rfl, hv8⟩)
            have b8 := b7.trans (hv8.mono b7.size)
            refine ⟨⟨⟨_, b8⟩, rfl⟩, ?_⟩
            rw [wpWays_one4]
            try simp only [List.map_cons, List.map_nil, opAt, List.getElem?_toArray, List.getElem?_cons_zero, List.getElem?_cons_succ, Option.getD_some]
            repeat (first
              | (go_big_quiet_want; refine quiet_load_row 25 (.tmp 8) rfl g8 rfl 25 C3 (0, 0) _ HQ8.out Try.underlying25 rfl (infoMap.trans hS3.out) ?_; simp only [Act.put, List.setIfInBounds_toArray, List.set_cons_zero, List.set_cons_succ]; go_big_quiet_on)
              | (go_big_quiet_want; refine quiet_load_row 27 (.tmp 3) rfl w.heap.size rfl 27 C3 (0, 0) _ HQ3.out Try.underlying27 rfl (infoMapR.trans hS3.out) ?_; simp only [Act.put, List.setIfInBounds_toArray, List.set_cons_zero, List.set_cons_succ]; go_big_quiet_on)
              | (go_big_quiet_step (fail)))
            refine wpQuiet_nil ?_
            go_wp2_with (go_at_call 24; (refine (HRR.out _).mono ?_); rintro e v9 ⟨rfl, hv9⟩)
            have b9 := b8.trans (hv9.mono b8.size)
            refine ⟨⟨⟨_, b9⟩, rfl⟩, ?_⟩
            rw [wpWays_one4]
            try simp only [List.map_cons, List.map_nil, opAt, List.getElem?_toArray, List.getElem?_cons_zero, List.getElem?_cons_succ, Option.getD_some]
            repeat (first
              | (go_big_quiet_want; refine quiet_load_row 25 (.tmp 8) rfl g8 rfl 25 C3 (0, 0) _ HQ8.out Try.underlying25 rfl (infoMap.trans hS3.out) ?_; simp only [Act.put, List.setIfInBounds_toArray, List.set_cons_zero, List.set_cons_succ]; go_big_quiet_on)
              | (go_big_quiet_want; refine quiet_load_row 27 (.tmp 3) rfl w.heap.size rfl 27 C3 (0, 0) _ HQ3.out Try.underlying27 rfl (infoMapR.trans hS3.out) ?_; simp only [Act.put, List.setIfInBounds_toArray, List.set_cons_zero, List.set_cons_succ]; go_big_quiet_on)
              | (go_big_quiet_step (fail)))
            refine wpQuiet_nil ?_
            go_wp2_with (go_at_call 16; (refine (HPT.out _).mono ?_); rintro e v10 ⟨⟨A10, n10, c10, rfl, hl10, hc10, hx10⟩, hv10⟩)
            have b10 := b9.trans (hv10.mono b9.size)
            have tp_10 := text_b A10 n10 c10 X hl10 hx10
            refine ⟨⟨⟨_, b10⟩, rfl⟩, ?_⟩
            rw [wpWays_two4]
            try simp only [List.map_cons, List.map_nil, opAt, List.getElem?_toArray, List.getElem?_cons_zero, List.getElem?_cons_succ, Option.getD_some]
            repeat (first
              | (go_big_quiet_want; refine quiet_load_row 25 (.tmp 8) rfl g8 rfl 25 C3 (0, 0) _ HQ8.out Try.underlying25 rfl (infoMap.trans hS3.out) ?_; simp only [Act.put, List.setIfInBounds_toArray, List.set_cons_zero, List.set_cons_succ]; go_big_quiet_on)
              | (go_big_quiet_want; refine quiet_load_row 27 (.tmp 3) rfl w.heap.size rfl 27 C3 (0, 0) _ HQ3.out Try.underlying27 rfl (infoMapR.trans hS3.out) ?_; simp only [Act.put, List.setIfInBounds_toArray, List.set_cons_zero, List.set_cons_succ]; go_big_quiet_on)
              | (go_big_quiet_step (fail)))
            refine wpQuiet_nil ⟨?_, ?_⟩
            · go_wp2_with (fail)
              refine ⟨⟨⟨_, b10⟩, rfl⟩, ?_⟩
              rw [wpWays_one4]
              try simp only [List.map_cons, List.map_nil, opAt, List.getElem?_toArray, List.getElem?_cons_zero, List.getElem?_cons_succ, Option.getD_some]
              repeat (first
                | (go_big_quiet_want; refine quiet_load_row 25 (.tmp 8) rfl g8 rfl 25 C3 (0, 0) _ HQ8.out Try.underlying25 rfl (infoMap.trans hS3.out) ?_; simp only [Act.put, List.setIfInBounds_toArray, List.set_cons_zero, List.set_cons_succ]; go_big_quiet_on)
                | (go_big_quiet_want; refine quiet_load_row 27 (.tmp 3) rfl w.heap.size rfl 27 C3 (0, 0) _ HQ3.out Try.underlying27 rfl (infoMapR.trans hS3.out) ?_; simp only [Act.put, List.setIfInBounds_toArray, List.set_cons_zero, List.set_cons_succ]; go_big_quiet_on)
                | (go_big_quiet_step (fail)))
              refine wpQuiet_nil ?_
              go_wp2_with (go_at_call 18; (refine (HPR.out _).mono ?_); rintro e v12 ⟨⟨A12, n12, c12, rfl, hl12, hc12, hx12⟩, hv12⟩)
              have b12 := b10.trans (hv12.mono b10.size)
              have hxp_12 := hx10.below hv12
              have tp_12 := text_b A10 n10 c10 X hl10 hxp_12
              have tr_12 := text_b A12 n12 c12 X hl12 hx12
              refine ⟨⟨⟨_, b12⟩, rfl⟩, ?_⟩
              rw [wpWays_one4]
              try simp only [List.map_cons, List.map_nil, opAt, List.getElem?_toArray, List.getElem?_cons_zero, List.getElem?_cons_succ, Option.getD_some]
              repeat (first
                | (go_big_quiet_want; refine quiet_load_row 25 (.tmp 8) rfl g8 rfl 25 C3 (0, 0) _ HQ8.out Try.underlying25 rfl (infoMap.trans hS3.out) ?_; simp only [Act.put, List.setIfInBounds_toArray, List.set_cons_zero, List.set_cons_succ]; go_big_quiet_on)
                | (go_big_quiet_want; refine quiet_load_row 27 (.tmp 3) rfl w.heap.size rfl 27 C3 (0, 0) _ HQ3.out Try.underlying27 rfl (infoMapR.trans hS3.out) ?_; simp only [Act.put, List.setIfInBounds_toArray, List.set_cons_zero, List.set_cons_succ]; go_big_quiet_on)
                | (go_big_quiet_step (fail)))
              refine wpQuiet_nil ?_
              go_wp2_with (fail)
              refine ⟨⟨⟨_, b12⟩, rfl⟩, ?_⟩
              rw [wpWays_done4]
              try simp only [List.map_cons, List.map_nil, opAt, List.getElem?_toArray, List.getElem?_cons_zero, List.getElem?_cons_succ, Option.getD_some]
              repeat (first
                | (go_big_quiet_step (fail)))
              refine wpQuiet_nil ?_
              go_wp2_with fail
              go_meet
              exact ⟨rfl, Lib.hid b12⟩
            · go_wp2_with (go_at_call 18; (refine (HPR.out _).mono ?_); rintro e v11 ⟨⟨A11, n11, c11, rfl, hl11, hc11, hx11⟩, hv11⟩)
              have b11 := b10.trans (hv11.mono b10.size)
              have hxp_11 := hx10.below hv11
              have tp_11 := text_b A10 n10 c10 X hl10 hxp_11
              have tr_11 := text_b A11 n11 c11 X hl11 hx11
              refine ⟨⟨⟨_, b11⟩, rfl⟩, ?_⟩
              rw [wpWays_two4]
              try simp only [List.map_cons, List.map_nil, opAt, List.getElem?_toArray, List.getElem?_cons_zero, List.getElem?_cons_succ, Option.getD_some]
              repeat (first
                | (go_big_quiet_want; refine quiet_load_row 25 (.tmp 8) rfl g8 rfl 25 C3 (0, 0) _ HQ8.out Try.underlying25 rfl (infoMap.trans hS3.out) ?_; simp only [Act.put, List.setIfInBounds_toArray, List.set_cons_zero, List.set_cons_succ]; go_big_quiet_on)
                | (go_big_quiet_want; refine quiet_load_row 27 (.tmp 3) rfl w.heap.size rfl 27 C3 (0, 0) _ HQ3.out Try.underlying27 rfl (infoMapR.trans hS3.out) ?_; simp only [Act.put, List.setIfInBounds_toArray, List.set_cons_zero, List.set_cons_succ]; go_big_quiet_on)
                | (go_big_quiet_step (fail)))
              refine wpQuiet_nil ⟨?_, ?_⟩
              · go_wp2_with (fail)
                refine ⟨⟨⟨_, b11⟩, rfl⟩, ?_⟩
                rw [wpWays_one4]
                try simp only [List.map_cons, List.map_nil, opAt, List.getElem?_toArray, List.getElem?_cons_zero, List.getElem?_cons_succ, Option.getD_some]
                repeat (first
                  | (go_big_quiet_want; refine quiet_load_row 25 (.tmp 8) rfl g8 rfl 25 C3 (0, 0) _ HQ8.out Try.underlying25 rfl (infoMap.trans hS3.out) ?_; simp only [Act.put, List.setIfInBounds_toArray, List.set_cons_zero, List.set_cons_succ]; go_big_quiet_on)
                  | (go_big_quiet_want; refine quiet_load_row 27 (.tmp 3) rfl w.heap.size rfl 27 C3 (0, 0) _ HQ3.out Try.underlying27 rfl (infoMapR.trans hS3.out) ?_; simp only [Act.put, List.setIfInBounds_toArray, List.set_cons_zero, List.set_cons_succ]; go_big_quiet_on)
                  | (go_big_quiet_step (fail)))
                refine wpQuiet_nil ?_
                go_wp2_with (fail)
                refine ⟨⟨⟨_, b11⟩, rfl⟩, ?_⟩
                rw [wpWays_done4]
                try simp only [List.map_cons, List.map_nil, opAt, List.getElem?_toArray, List.getElem?_cons_zero, List.getElem?_cons_succ, Option.getD_some]
                repeat (first
                  | (go_big_quiet_step (fail)))
                refine wpQuiet_nil ?_
                go_wp2_with fail
                go_meet
                exact ⟨rfl, Lib.hid b11⟩
              · go_wp2_with (fail)
                refine ⟨⟨⟨_, b11⟩, rfl⟩, ?_⟩
                rw [wpWays_one4]
                try simp only [List.map_cons, List.map_nil, opAt, List.getElem?_toArray, List.getElem?_cons_zero, List.getElem?_cons_succ, Option.getD_some]
                repeat (first
                  | (go_big_quiet_want; refine quiet_load_row 25 (.tmp 8) rfl g8 rfl 25 C3 (0, 0) _ HQ8.out Try.underlying25 rfl (infoMap.trans hS3.out) ?_; simp only [Act.put, List.setIfInBounds_toArray, List.set_cons_zero, List.set_cons_succ]; go_big_quiet_on)
                  | (go_big_quiet_want; refine quiet_load_row 27 (.tmp 3) rfl w.heap.size rfl 27 C3 (0, 0) _ HQ3.out Try.underlying27 rfl (infoMapR.trans hS3.out) ?_; simp only [Act.put, List.setIfInBounds_toArray, List.set_cons_zero, List.set_cons_succ]; go_big_quiet_on)
                  | (go_big_quiet_step (fail)))
                refine wpQuiet_nil ?_
                go_wp2_with (fail)
                refine ⟨⟨⟨_, b11⟩, rfl⟩, ?_⟩
                rw [wpWays_done4]
                try simp only [List.map_cons, List.map_nil, opAt, List.getElem?_toArray, List.getElem?_cons_zero, List.getElem?_cons_succ, Option.getD_some]
                repeat (first
                  | (go_big_quiet_step (fail)))
                refine wpQuiet_nil ?_
                go_wp2_with fail
                go_meet
                exact ⟨rfl, Lib.hid b11⟩
        case rest =>
          obtain ⟨rfl, HBC⟩ := hcut
          have hbc := HBC.out
          have hbw : Below w.heap.size w wc := HB8.out.trans (hbc.mono HB8.out.size)
          have HC9 := Lib.hid ((hbc.block g9 (Array.getElem?_eq_some_iff.1 H98.out).1).trans H98.out)
          clear HQ8 HQ3 HQ9 HRT HRR HPT HPR HBC hbc H98
          rcases hrn with rfl | rfl
          · have hgd : goodM ys := by
              by_cases h : goodM ys
              · exact h
              · have := ERN.out
                unfold numM at this
                rw [if_neg h] at this
                omega
            obtain ⟨hok9, hbm9⟩ := good_ok hgd
            have e9 : C9 = mapC (gotP ys : Int) (gotU ys) := EC9.out.trans (if_pos hgd)
            have HRT9 : Hid (∀ W, Calls Try.prog 21 #[.agg C9] W fun e w' => e = .returned (.bool true) ∧ Below W.heap.size W w') := Lib.hid (fun W => right_bmC _ _ (length_gotU ys) W C9 e9 _ (decide_eq_true hok9).symm)
            have HPT9 : Hid (∀ W, Calls Try.prog 16 #[.agg C9] W fun e w' => (∃ A n c, e = .returned (.slice A n c) ∧ ys.length = n ∧ n ≤ c ∧ BytesAt w' A ys) ∧ Below W.heap.size W w') := Lib.hid (fun W => put_all _ _ (length_gotU ys) W C9 e9 ys (by unfold bmPut; rw [if_pos hok9, Int.toNat_natCast, hbm9]))
            have HQ9 : Hid (∀ y : SubW wc.heap.size wc, y.at_.heap[g9]? = some (.cells C9 25 (0, 0))) := Lib.hid (fun y => (y.ok_.block _ (Array.getElem?_eq_some_iff.1 HC9.out).1).trans HC9.out)
            have hxc := HX2.out.below hbw
            clear hgd hok9 hbm9 e9
            go_upto_region 12 with fail
            refine region_ways4 wc.heap.size (Nat.le_refl _) (.one [0] 1 (.two [2, 3, 6] 4 (.two [] 5 (.one [] 7 (.done [8, 9, 10])) 7 (.one [] 5 (.done [8, 9, 10]))) 7 (.one [] 4 (.one [] 5 (.done [8, 9, 10]))))) (by kernel_rfl) (by kernel_rfl) ?_
            rintro wd hbd
            have hxb0 := hxc.below hbd
            have tb_0 := text_b A2 n2 cap2 ys HN2.out hxb0
            rw [wpWays_one4]
            try simp only [List.map_cons, List.map_nil, opAt, List.getElem?_toArray, List.getElem?_cons_zero, List.getElem?_cons_succ, Option.getD_some]
            repeat (first
              | (go_big_quiet_want; refine quiet_load_row 25 (.tmp 9) rfl g9 rfl 25 C9 (0, 0) _ HQ9.out Try.underlying25 rfl (infoMap.trans hS9.out) ?_; simp only [Act.put, List.setIfInBounds_toArray, List.set_cons_zero, List.set_cons_succ]; go_big_quiet_on)
              | (go_big_quiet_step (fail)))
            refine wpQuiet_nil ?_
            go_wp2_with (go_at_call 21; (refine (HRT9.out _).mono ?_); rintro e v13 ⟨rfl, hv13⟩)
            have b13 := hbd.trans (hv13.mono hbd.size)
            have hxb_13 := hxb0.below hv13
            have tb_13 := text_b A2 n2 cap2 ys HN2.out hxb_13
            refine ⟨⟨⟨_, b13⟩, rfl⟩, ?_⟩
            rw [wpWays_two4]
            try simp only [List.map_cons, List.map_nil, opAt, List.getElem?_toArray, List.getElem?_cons_zero, List.getElem?_cons_succ, Option.getD_some]
            repeat (first
              | (go_big_quiet_want; refine quiet_load_row 25 (.tmp 9) rfl g9 rfl 25 C9 (0, 0) _ HQ9.out Try.underlying25 rfl (infoMap.trans hS9.out) ?_; simp only [Act.put, List.setIfInBounds_toArray, List.set_cons_zero, List.set_cons_succ]; go_big_quiet_on)
              | (go_big_quiet_step (fail)))
            refine wpQuiet_nil ⟨?_, ?_⟩
            · go_wp2_with (go_at_call 16; (refine (HPT9.out _).mono ?_); rintro e v14 ⟨⟨A14, n14, c14, rfl, hl14, hc14, hx14⟩, hv14⟩)
              have b14 := b13.trans (hv14.mono b13.size)
              have hxb_14 := hxb_13.below hv14
              have tb_14 := text_b A2 n2 cap2 ys HN2.out hxb_14
              have tq_14 := text_b A14 n14 c14 ys hl14 hx14
              refine ⟨⟨⟨_, b14⟩, rfl⟩, ?_⟩
              rw [wpWays_two4]
              try simp only [List.map_cons, List.map_nil, opAt, List.getElem?_toArray, List.getElem?_cons_zero, List.getElem?_cons_succ, Option.getD_some]
              repeat (first
                | (go_big_quiet_want; refine quiet_load_row 25 (.tmp 9) rfl g9 rfl 25 C9 (0, 0) _ HQ9.out Try.underlying25 rfl (infoMap.trans hS9.out) ?_; simp only [Act.put, List.setIfInBounds_toArray, List.set_cons_zero, List.set_cons_succ]; go_big_quiet_on)
                | (go_big_quiet_step (fail)))
              refine wpQuiet_nil ⟨?_, ?_⟩
              · go_wp2_with (fail)
                refine ⟨⟨⟨_, b14⟩, rfl⟩, ?_⟩
                rw [wpWays_one4]
                try simp only [List.map_cons, List.map_nil, opAt, List.getElem?_toArray, List.getElem?_cons_zero, List.getElem?_cons_succ, Option.getD_some]
                repeat (first
                  | (go_big_quiet_want; refine quiet_load_row 25 (.tmp 9) rfl g9 rfl 25 C9 (0, 0) _ HQ9.out Try.underlying25 rfl (infoMap.trans hS9.out) ?_; simp only [Act.put, List.setIfInBounds_toArray, List.set_cons_zero, List.set_cons_succ]; go_big_quiet_on)
                  | (go_big_quiet_step (fail)))
                refine wpQuiet_nil ?_
                go_wp2_with (fail)
                refine ⟨⟨⟨_, b14⟩, rfl⟩, ?_⟩
                rw [wpWays_done4]
                try simp only [List.map_cons, List.map_nil, opAt, List.getElem?_toArray, List.getElem?_cons_zero, List.getElem?_cons_succ, Option.getD_some]
                repeat (first
                  | (go_big_quiet_step (fail)))
                refine wpQuiet_nil ?_
                go_wp2_with fail
                go_ret
                exact ⟨rfl, hbw.trans (b14.mono hbw.size)⟩
              · go_wp2_with (fail)
                refine ⟨⟨⟨_, b14⟩, rfl⟩, ?_⟩
                rw [wpWays_one4]
                try simp only [List.map_cons, List.map_nil, opAt, List.getElem?_toArray, List.getElem?_cons_zero, List.getElem?_cons_succ, Option.getD_some]
                repeat (first
                  | (go_big_quiet_want; refine quiet_load_row 25 (.tmp 9) rfl g9 rfl 25 C9 (0, 0) _ HQ9.out Try.underlying25 rfl (infoMap.trans hS9.out) ?_; simp only [Act.put, List.setIfInBounds_toArray, List.set_cons_zero, List.set_cons_succ]; go_big_quiet_on)
                  | (go_big_quiet_step (fail)))
                refine wpQuiet_nil ?_
                go_wp2_with (fail)
                refine ⟨⟨⟨_, b14⟩, rfl⟩, ?_⟩
                rw [wpWays_done4]
                try simp only [List.map_cons, List.map_nil, opAt, List.getElem?_toArray, List.getElem?_cons_zero, List.getElem?_cons_succ, Option.getD_some]
                repeat (first
                  | (go_big_quiet_step (fail)))
                refine wpQuiet_nil ?_
                go_wp2_with fail
                go_ret
                exact ⟨rfl, hbw.trans (b14.mono hbw.size)⟩
            · go_wp2_with (fail)
              refine ⟨⟨⟨_, b13⟩, rfl⟩, ?_⟩
              rw [wpWays_one4]
              try simp only [List.map_cons, List.map_nil, opAt, List.getElem?_toArray, List.getElem?_cons_zero, List.getElem?_cons_succ, Option.getD_some]
              repeat (first
                | (go_big_quiet_want; refine quiet_load_row 25 (.tmp 9) rfl g9 rfl 25 C9 (0, 0) _ HQ9.out Try.underlying25 rfl (infoMap.trans hS9.out) ?_; simp only [Act.put, List.setIfInBounds_toArray, List.set_cons_zero, List.set_cons_succ]; go_big_quiet_on)
                | (go_big_quiet_step (fail)))
              refine wpQuiet_nil ?_
              go_wp2_with (go_at_call 16; (refine (HPT9.out _).mono ?_); rintro e v15 ⟨⟨A15, n15, c15, rfl, hl15, hc15, hx15⟩, hv15⟩)
              have b15 := b13.trans (hv15.mono b13.size)
              have hxb_15 := hxb_13.below hv15
              have tb_15 := text_b A2 n2 cap2 ys HN2.out hxb_15
              have tq_15 := text_b A15 n15 c15 ys hl15 hx15
              refine ⟨⟨⟨_, b15⟩, rfl⟩, ?_⟩
              rw [wpWays_one4]
              try simp only [List.map_cons, List.map_nil, opAt, List.getElem?_toArray, List.getElem?_cons_zero, List.getElem?_cons_succ, Option.getD_some]
              repeat (first
                | (go_big_quiet_want; refine quiet_load_row 25 (.tmp 9) rfl g9 rfl 25 C9 (0, 0) _ HQ9.out Try.underlying25 rfl (infoMap.trans hS9.out) ?_; simp only [Act.put, List.setIfInBounds_toArray, List.set_cons_zero, List.set_cons_succ]; go_big_quiet_on)
                | (go_big_quiet_step (fail)))
              refine wpQuiet_nil ?_
              go_wp2_with (fail)
              refine ⟨⟨⟨_, b15⟩, rfl⟩, ?_⟩
              rw [wpWays_done4]
              try simp only [List.map_cons, List.map_nil, opAt, List.getElem?_toArray, List.getElem?_cons_zero, List.getElem?_cons_succ, Option.getD_some]
              repeat (first
                | (go_big_quiet_step (fail)))
              refine wpQuiet_nil ?_
              go_wp2_with fail
              go_ret
              exact ⟨rfl, hbw.trans (b15.mono hbw.size)⟩
          · have hgd : ¬ goodM ys := fun h => by
              have := ERN.out
              unfold numM at this
              rw [if_pos h] at this
              omega
            have e9 : C9 = mapC 0 (List.replicate 512 false) := EC9.out.trans (if_neg hgd)
            have HEQ : Hid (∀ W, (binOp .eql 25 (.agg C9) (.agg Try.zeroCells25)).run Try.prog W = .ok (.bool true) W) := Lib.hid (fun W => by rw [e9, zeroMap]; exact eq_map 0 _ List.length_replicate W)
            clear hgd e9
            go_wp2_with (first
              | (refine wpList_load_row rfl 25 (.tmp 9) rfl g9 rfl 25 C9 (0, 0) _ HC9.out Try.underlying25 rfl (infoMap.trans hS9.out) ?_)
              | (refine wpList_binOp rfl .eql 25 (.tmp 70) (.tmp 71) 25 rfl (.agg C9) (.agg Try.zeroCells25) (.bool true) rfl rfl (guard_map _ _ _ _ _) (HEQ.out _) ?_))
            go_ret
            exact ⟨rfl, hbw⟩
      · have d1 : decide (k < len1) = true := decide_eq_true (by omega)
        have d2 : decide ((k : Int) < (len1 : Int)) = true := by simp; omega
        have d3 : decide ((k : Int) < 20) = false := by simp; omega
        clear hk1 hk2 hlt
        obtain ⟨C3, eC3⟩ : ∃ C3, C3 = mapC z V := ⟨_, rfl⟩
        have hm3 := hm.out
        unfold MapAt at hm3
        rw [← eC3] at hm3
        have HM := Lib.hid hm3
        have hS3 : Hid (some 513 = some C3.size) := Lib.hid (by rw [eC3, size_mapC hV])
        have hO3 : Hid (C3.all (·.oneCell') = true) := Lib.hid (by rw [eC3]; exact one_mapC _ _)
        have HTO : Hid (∀ W, Calls Try.prog 23 #[.agg C3] W fun e w' => e = .returned (.agg C3) ∧ Below W.heap.size W w') := Lib.hid (fun W => to_bm z V hV W C3 eC3)
        have HRT : Hid (∀ W, Calls Try.prog 21 #[.agg C3] W fun e w' => e = .returned (.bool (decide (okM z V))) ∧ Below W.heap.size W w') := Lib.hid (fun W => right_bmC z V hV W C3 eC3 _ rfl)
        have HRR : Hid (∀ W, Calls Try.prog 24 #[.agg C3] W fun e w' => e = .returned (.bool (decide (okM z V))) ∧ Below W.heap.size W w') := Lib.hid (fun W => right_rf z V hV W C3 eC3 _ rfl)
        obtain ⟨X, hX⟩ : ∃ X, X = bmPut z V := ⟨_, rfl⟩
        have HPT : Hid (∀ W, Calls Try.prog 16 #[.agg C3] W fun e w' => (∃ A n c, e = .returned (.slice A n c) ∧ X.length = n ∧ n ≤ c ∧ BytesAt w' A X) ∧ Below W.heap.size W w') := Lib.hid (fun W => put_all z V hV W C3 eC3 X hX)
        have HPR : Hid (∀ W, Calls Try.prog 18 #[.agg C3] W fun e w' => (∃ A n c, e = .returned (.slice A n c) ∧ X.length = n ∧ n ≤ c ∧ BytesAt w' A X) ∧ Below W.heap.size W w') := Lib.hid (fun W => put_rf_all z V hV W C3 eC3 X hX)
        obtain ⟨ok3, hok3⟩ : ∃ b, b = decide (okM z V) := ⟨_, rfl⟩
        rw [← hok3] at HRT HRR
        have hwl : w.heap.size < wr.heap.size := (Array.getElem?_eq_some_iff.1 hm3).1
        obtain ⟨n2, hn2⟩ : ∃ n2, n2 = min xs.length 100 := ⟨_, rfl⟩
        obtain ⟨len2, hlen2⟩ : ∃ n, n = xs.length := ⟨_, rfl⟩
        rw [← hlen2] at hn2 lc2
        have hmin : min (len2 : Int) 100 = (n2 : Int) := by omega
        have hn2c : n2 ≤ cap2 := by omega
        have hn2c' : (n2 : Int) ≤ (cap2 : Int) := by omega
        have hn100 : n2 ≤ 100 := by omega
        have HN2 : Hid ((xs.take n2).length = n2) := Lib.hid (by rw [List.length_take]; omega)
        have HX2 : Hid (BytesAt w A2 (xs.take n2)) := Lib.hid (HX.out.take n2)
        obtain ⟨ys, hys⟩ : ∃ ys, ys = xs.take n2 := ⟨_, rfl⟩
        rw [← hys] at HN2 HX2
        obtain ⟨C9, eC9⟩ : ∃ C9, C9 = toldMC ys := ⟨_, rfl⟩
        obtain ⟨rn, ern⟩ : ∃ rn, rn = numM ys := ⟨_, rfl⟩
        have EC9 := Lib.hid eC9
        have ERN := Lib.hid ern
        have hS9 : Hid (some 513 = some C9.size) := Lib.hid (by
          rw [eC9]; unfold toldMC; split
          · rw [size_mapC (length_gotU ys)]
          · rw [size_mapC List.length_replicate])
        have hO9 : Hid (C9.all (·.oneCell') = true) := Lib.hid (by
          rw [eC9]; unfold toldMC; split
          · exact one_mapC _ _
          · exact one_mapC _ _)
        have HB := Lib.hid hB.out
        have HLEN2 := Lib.hid hlen2
        rw [← hlen2]
        clear eC3 hm3 hX hok3 hn2 hys eC9 ern hm hB hlen2
        go_upto_region 6 with (first
          | (refine wpList_load_row rfl 27 (.tmp 3) rfl w.heap.size rfl 27 C3 (0, 0) _ HM.out Try.underlying27 rfl (infoMapR.trans hS3.out) ?_)
          | (go_at_call 23; (refine (HTO.out _).mono ?_); rintro e w2 ⟨rfl, hb2⟩)
          | (refine wpList_store_row rfl 25 (.tmp 8) (.tmp 31) rfl w2.heap.size C3 rfl rfl 25 Try.zeroCells25 (heap_alloc_new _ _) (infoMap.trans hS3.out) (size_zeroMap.trans (Option.some.inj hS3.out)) hO3.out ?_; rw [World.setRow_alloc_new]))
        obtain ⟨g8, hg8⟩ : ∃ g8, g8 = w2.heap.size := ⟨_, rfl⟩
        rw [← hg8]
        have hb3 : Below wr.heap.size wr (w2.alloc (.cells C3 25)) := hb2.alloc hb2.size _
        have h83 : (w2.alloc (.cells C3 25)).heap[g8]? = some (.cells C3 25 (0, 0)) := by rw [hg8]; exact heap_alloc_new _ _
        obtain ⟨W3, eW3⟩ : ∃ W3, W3 = w2.alloc (.cells C3 25) := ⟨_, rfl⟩
        rw [← eW3] at hb3 h83 ⊢
        have HB3 := Lib.hid hb3
        have H83 := Lib.hid h83
        clear eW3 hb3 h83 hb2 hg8
        go_upto_region 8 with (first
          | (go_at_call 17; (refine (get_all A2 cap2 n2 ys _ HN2.out (by omega) (HX2.out.below (HB.out.trans (HB3.out.mono HB.out.size))) hn2c C9 EC9.out rn ERN.out).mono ?_); rintro e w4 ⟨rfl, hb4⟩)
          | (refine wpList_store_row rfl 25 (.tmp 9) (.tmp 40) rfl w4.heap.size C9 rfl rfl 25 Try.zeroCells25 (heap_alloc_new _ _) (infoMap.trans hS9.out) (size_zeroMap.trans (Option.some.inj hS9.out)) hO9.out ?_; rw [World.setRow_alloc_new]))
        obtain ⟨g9, hg9⟩ : ∃ g9, g9 = w4.heap.size := ⟨_, rfl⟩
        rw [← hg9]
        have hb8 : Below W3.heap.size W3 (w4.alloc (.cells C9 25)) := hb4.alloc hb4.size _
        have h98 : (w4.alloc (.cells C9 25)).heap[g9]? = some (.cells C9 25 (0, 0)) := by rw [hg9]; exact heap_alloc_new _ _
        obtain ⟨W8, eW8⟩ : ∃ W8, W8 = w4.alloc (.cells C9 25) := ⟨_, rfl⟩
        rw [← eW8] at hb8 h98 ⊢
        clear eW8 hb4 hg9
        have h88 := (hb8.block g8 (Array.getElem?_eq_some_iff.1 H83.out).1).trans H83.out
        have hw3 : w.heap.size < W3.heap.size := Nat.lt_of_lt_of_le hwl HB3.out.size
        have h38 := (hb8.block w.heap.size hw3).trans ((HB3.out.block w.heap.size hwl).trans HM.out)
        have HB8 : Hid (Below w.heap.size w W8) := Lib.hid (HB.out.trans ((HB3.out.trans (hb8.mono HB3.out.size)).mono HB.out.size))
        have HQ8 : Hid (∀ y : SubW W8.heap.size W8, y.at_.heap[g8]? = some (.cells C3 25 (0, 0))) := Lib.hid (fun y => (y.ok_.block _ (Array.getElem?_eq_some_iff.1 h88).1).trans h88)
        have HQ3 : Hid (∀ y : SubW W8.heap.size W8, y.at_.heap[w.heap.size]? = some (.cells C3 27 (0, 0))) := Lib.hid (fun y => (y.ok_.block _ (Array.getElem?_eq_some_iff.1 h38).1).trans h38)
        have HQ9 : Hid (∀ y : SubW W8.heap.size W8, y.at_.heap[g9]? = some (.cells C9 25 (0, 0))) := Lib.hid (fun y => (y.ok_.block _ (Array.getElem?_eq_some_iff.1 h98).1).trans h98)
        have H98 := Lib.hid h98
        clear hb8 h88 h38 h98 hwl hw3 H83 HB3 HM HB HTO
        have hrn : rn = 0 ∨ rn = 3 := by rw [ERN.out]; unfold numM; split <;> simp
        go_cut [67] (fun s67 wx => s67 = .bool false ∧ Hid (Below W8.heap.size W8 wx))
        case first =>
          rcases hrn with rfl | rfl
          · refine region_ways4 W8.heap.size (Nat.le_refl _) (.one [] 0 (.one [1, 2, 3, 5] 4 (.one [] 6 (.one [7, 8, 9, 10, 13] 11 (.two [] 12 (.one [] 14 (.one [] 15 (.done [16, 17, 18, 19, 20, 21, 22, 23, 24, 25]))) 14 (.two [] 12 (.one [] 15 (.done [16, 17, 18, 19, 20, 21, 22, 23, 24, 25])) 15 (.one [] 12 (.done [16, 17, 18, 19, 20, 21, 22, 23, 24, 25])))))))) (by kernel_rfl) (by kernel_rfl) ?_
            rintro wd hbd
            rw [wpWays_one4]
            try simp only [List.map_cons, List.map_nil, opAt, List.getElem?_toArray, List.getElem?_cons_zero, List.getElem?_cons_succ, Option.getD_some]
            repeat (first
              | (go_big_quiet_step (fail)))
            refine wpQuiet_nil ?_
            go_wp2_with (go_at_call 10; (refine (takes_any _).mono ?_); rintro e v1 ⟨rfl, hv1⟩)
            have b1 := hbd.trans (hv1.mono hbd.size)
            refine ⟨⟨⟨_, b1⟩, rfl⟩, ?_⟩
            rw [wpWays_one4]
            try simp only [List.map_cons, List.map_nil, opAt, List.getElem?_toArray, List.getElem?_cons_zero, List.getElem?_cons_succ, Option.getD_some]
            repeat (first
              | (go_big_quiet_want; refine quiet_load_row 25 (.tmp 8) rfl g8 rfl 25 C3 (0, 0) _ HQ8.out Try.underlying25 rfl (infoMap.trans hS3.out) ?_; simp only [Act.put, List.setIfInBounds_toArray, List.set_cons_zero, List.set_cons_succ]; go_big_quiet_on)
              | (go_big_quiet_want; refine quiet_load_row 27 (.tmp 3) rfl w.heap.size rfl 27 C3 (0, 0) _ HQ3.out Try.underlying27 rfl (infoMapR.trans hS3.out) ?_; simp only [Act.put, List.setIfInBounds_toArray, List.set_cons_zero, List.set_cons_succ]; go_big_quiet_on)
              | (go_big_quiet_step (fail)))
            refine wpQuiet_nil ?_
            go_wp2_with (go_at_call 21; (refine (HRT.out _).mono ?_); rintro e v2 ⟨rfl, hv2⟩)
            have b2 := b1.trans (hv2.mono b1.size)
            refine ⟨⟨⟨_, b2⟩, rfl⟩, ?_⟩
            rw [wpWays_one4]
            try simp only [List.map_cons, List.map_nil, opAt, List.getElem?_toArray, List.getElem?_cons_zero, List.getElem?_cons_succ, Option.getD_some]
            repeat (first
              | (go_big_quiet_want; refine quiet_load_row 25 (.tmp 8) rfl g8 rfl 25 C3 (0, 0) _ HQ8.out Try.underlying25 rfl (infoMap.trans hS3.out) ?_; simp only [Act.put, List.setIfInBounds_toArray, List.set_cons_zero, List.set_cons_succ]; go_big_quiet_on)
              | (go_big_quiet_want; refine quiet_load_row 27 (.tmp 3) rfl w.heap.size rfl 27 C3 (0, 0) _ HQ3.out Try.underlying27 rfl (infoMapR.trans hS3.out) ?_; simp only [Act.put, List.setIfInBounds_toArray, List.set_cons_zero, List.set_cons_succ]; go_big_quiet_on)
              | (go_big_quiet_step (fail)))
            refine wpQuiet_nil ?_
            go_wp2_with (go_at_call 24; (refine (HRR.out _).mono ?_); rintro e v3 ⟨rfl, hv3⟩)
            have b3 := b2.trans (hv3.mono b2.size)
            refine ⟨⟨⟨_, b3⟩, rfl⟩, ?_⟩
            rw [wpWays_one4]
            try simp only [List.map_cons, List.map_nil, opAt, List.getElem?_toArray, List.getElem?_cons_zero, List.getElem?_cons_succ, Option.getD_some]
            repeat (first
              | (go_big_quiet_want; refine quiet_load_row 25 (.tmp 8) rfl g8 rfl 25 C3 (0, 0) _ HQ8.out Try.underlying25 rfl (infoMap.trans hS3.out) ?_; simp only [Act.put, List.setIfInBounds_toArray, List.set_cons_zero, List.set_cons_succ]; go_big_quiet_on)
              | (go_big_quiet_want; refine quiet_load_row 27 (.tmp 3) rfl w.heap.size rfl 27 C3 (0, 0) _ HQ3.out Try.underlying27 rfl (infoMapR.trans hS3.out) ?_; simp only [Act.put, List.setIfInBounds_toArray, List.set_cons_zero, List.set_cons_succ]; go_big_quiet_on)
              | (go_big_quiet_step (fail)))
            refine wpQuiet_nil ?_
            go_wp2_with (go_at_call 16; (refine (HPT.out _).mono ?_); rintro e v4 ⟨⟨A4, n4, c4, rfl, hl4, hc4, hx4⟩, hv4⟩)
            have b4 := b3.trans (hv4.mono b3.size)
            have tp_4 := text_b A4 n4 c4 X hl4 hx4
            refine ⟨⟨⟨_, b4⟩, rfl⟩, ?_⟩
            rw [wpWays_two4]
            try simp only [List.map_cons, List.map_nil, opAt, List.getElem?_toArray, List.getElem?_cons_zero, List.getElem?_cons_succ, Option.getD_some]
            repeat (first
              | (go_big_quiet_want; refine quiet_load_row 25 (.tmp 8) rfl g8 rfl 25 C3 (0, 0) _ HQ8.out Try.underlying25 rfl (infoMap.trans hS3.out) ?_; simp only [Act.put, List.setIfInBounds_toArray, List.set_cons_zero, List.set_cons_succ]; go_big_quiet_on)
              | (go_big_quiet_want; refine quiet_load_row 27 (.tmp 3) rfl w.heap.size rfl 27 C3 (0, 0) _ HQ3.out Try.underlying27 rfl (infoMapR.trans hS3.out) ?_; simp only [Act.put, List.setIfInBounds_toArray, List.set_cons_zero, List.set_cons_succ]; go_big_quiet_on)
              | (go_big_quiet_step (fail)))
            refine wpQuiet_nil ⟨?_, ?_⟩
            · go_wp2_with (fail)
              refine ⟨⟨⟨_, b4⟩, rfl⟩, ?_⟩
              rw [wpWays_one4]
              try simp only [List.map_cons, List.map_nil, opAt, List.getElem?_toArray, List.getElem?_cons_zero, List.getElem?_cons_succ, Option.getD_some]
              repeat (first
                | (go_big_quiet_want; refine quiet_load_row 25 (.tmp 8) rfl g8 rfl 25 C3 (0, 0) _ HQ8.out Try.underlying25 rfl (infoMap.trans hS3.out) ?_; simp only [Act.put, List.setIfInBounds_toArray, List.set_cons_zero, List.set_cons_succ]; go_big_quiet_on)
                | (go_big_quiet_want; refine quiet_load_row 27 (.tmp 3) rfl w.heap.size rfl 27 C3 (0, 0) _ HQ3.out Try.underlying27 rfl (infoMapR.trans hS3.out) ?_; simp only [Act.put, List.setIfInBounds_toArray, List.set_cons_zero, List.set_cons_succ]; go_big_quiet_on)
                | (go_big_quiet_step (fail)))
              refine wpQuiet_nil ?_
              go_wp2_with (go_at_call 18; (refine (HPR.out _).mono ?_); rintro e v6 ⟨⟨A6, n6, c6, rfl, hl6, hc6, hx6⟩, hv6⟩)
              have b6 := b4.trans (hv6.mono b4.size)
              have hxp_6 := hx4.below hv6
              have tp_6 := text_b A4 n4 c4 X hl4 hxp_6
              have tr_6 := text_b A6 n6 c6 X hl6 hx6
              refine ⟨⟨⟨_, b6⟩, rfl⟩, ?_⟩
              rw [wpWays_one4]
              try simp only [List.map_cons, List.map_nil, opAt, List.getElem?_toArray, List.getElem?_cons_zero, List.getElem?_cons_succ, Option.getD_some]
              repeat (first
                | (go_big_quiet_want; refine quiet_load_row 25 (.tmp 8) rfl g8 rfl 25 C3 (0, 0) _ HQ8.out Try.underlying25 rfl (infoMap.trans hS3.out) ?_; simp only [Act.put, List.setIfInBounds_toArray, List.set_cons_zero, List.set_cons_succ]; go_big_quiet_on)
                | (go_big_quiet_want; refine quiet_load_row 27 (.tmp 3) rfl w.heap.size rfl 27 C3 (0, 0) _ HQ3.out Try.underlying27 rfl (infoMapR.trans hS3.out) ?_; simp only [Act.put, List.setIfInBounds_toArray, List.set_cons_zero, List.set_cons_succ]; go_big_quiet_on)
                | (go_big_quiet_step (fail)))
              refine wpQuiet_nil ?_
              go_wp2_with (fail)
              refine ⟨⟨⟨_, b6⟩, rfl⟩, ?_⟩
              rw [wpWays_done4]
              try simp only [List.map_cons, List.map_nil, opAt, List.getElem?_toArray, List.getElem?_cons_zero, List.getElem?_cons_succ, Option.getD_some]
              repeat (first
                | (go_big_quiet_step (fail)))
              refine wpQuiet_nil ?_
              go_wp2_with fail
              go_meet
              exact ⟨rfl, Lib.hid b6⟩
            · go_wp2_with (go_at_call 18; (refine (HPR.out _).mono ?_); rintro e v5 ⟨⟨A5, n5, c5, rfl, hl5, hc5, hx5⟩, hv5⟩)
              have b5 := b4.trans (hv5.mono b4.size)
              have hxp_5 := hx4.below hv5
              have tp_5 := text_b A4 n4 c4 X hl4 hxp_5
              have tr_5 := text_b A5 n5 c5 X hl5 hx5
              refine ⟨⟨⟨_, b5⟩, rfl⟩, ?_⟩
              rw [wpWays_two4]
              try simp only [List.map_cons, List.map_nil, opAt, List.getElem?_toArray, List.getElem?_cons_zero, List.getElem?_cons_succ, Option.getD_some]
              repeat (first
                | (go_big_quiet_want; refine quiet_load_row 25 (.tmp 8) rfl g8 rfl 25 C3 (0, 0) _ HQ8.out Try.underlying25 rfl (infoMap.trans hS3.out) ?_; simp only [Act.put, List.setIfInBounds_toArray, List.set_cons_zero, List.set_cons_succ]; go_big_quiet_on)
                | (go_big_quiet_want; refine quiet_load_row 27 (.tmp 3) rfl w.heap.size rfl 27 C3 (0, 0) _ HQ3.out Try.underlying27 rfl (infoMapR.trans hS3.out) ?_; simp only [Act.put, List.setIfInBounds_toArray, List.set_cons_zero, List.set_cons_succ]; go_big_quiet_on)
                | (go_big_quiet_step (fail)))
              refine wpQuiet_nil ⟨?_, ?_⟩
              · go_wp2_with (fail)
                refine ⟨⟨⟨_, b5⟩, rfl⟩, ?_⟩
                rw [wpWays_one4]
                try simp only [List.map_cons, List.map_nil, opAt, List.getElem?_toArray, List.getElem?_cons_zero, List.getElem?_cons_succ, Option.getD_some]
                repeat (first
                  | (go_big_quiet_want; refine quiet_load_row 25 (.tmp 8) rfl g8 rfl 25 C3 (0, 0) _ HQ8.out Try.underlying25 rfl (infoMap.trans hS3.out) ?_; simp only [Act.put, List.setIfInBounds_toArray, List.set_cons_zero, List.set_cons_succ]; go_big_quiet_on)
                  | (go_big_quiet_want; refine quiet_load_row 27 (.tmp 3) rfl w.heap.size rfl 27 C3 (0, 0) _ HQ3.out Try.underlying27 rfl (infoMapR.trans hS3.out) ?_; simp only [Act.put, List.setIfInBounds_toArray, List.set_cons_zero, List.set_cons_succ]; go_big_quiet_on)
                  | (go_big_quiet_step (fail)))
                refine wpQuiet_nil ?_
                go_wp2_with (fail)
                refine ⟨⟨⟨_, b5⟩, rfl⟩, ?_⟩
                rw [wpWays_done4]
                try simp only [List.map_cons, List.map_nil, opAt, List.getElem?_toArray, List.getElem?_cons_zero, List.getElem?_cons_succ, Option.getD_some]
                repeat (first
                  | (go_big_quiet_step (fail)))
                refine wpQuiet_nil ?_
                go_wp2_with fail
                go_meet
                exact ⟨rfl, Lib.hid b5⟩
              · go_wp2_with (fail)
                refine ⟨⟨⟨_, b5⟩, rfl⟩, ?_⟩
                rw [wpWays_one4]
                try simp only [List.map_cons, List.map_nil, opAt, List.getElem?_toArray, List.getElem?_cons_zero, List.getElem?_cons_succ, Option.getD_some]
                repeat (first
                  | (go_big_quiet_want; refine quiet_load_row 25 (.tmp 8) rfl g8 rfl 25 C3 (0, 0) _ HQ8.out Try.underlying25 rfl (infoMap.trans hS3.out) ?_; simp only [Act.put, List.setIfInBounds_toArray, List.set_cons_zero, List.set_cons_succ]; go_big_quiet_on)
                  | (go_big_quiet_want; refine quiet_load_row 27 (.tmp 3) rfl w.heap.size rfl 27 C3 (0, 0) _ HQ3.out Try.underlying27 rfl (infoMapR.trans hS3.out) ?_; simp only [Act.put, List.setIfInBounds_toArray, List.set_cons_zero, List.set_cons_succ]; go_big_quiet_on)
                  | (go_big_quiet_step (fail)))
                refine wpQuiet_nil ?_
                go_wp2_with (fail)
                refine ⟨⟨⟨_, b5⟩, rfl⟩, ?_⟩
                rw [wpWays_done4]
                try simp only [List.map_cons, List.map_nil, opAt, List.getElem?_toArray, List.getElem?_cons_zero, List.getElem?_cons_succ, Option.getD_some]
                repeat (first
                  | (go_big_quiet_step (fail)))
                refine wpQuiet_nil ?_
                go_wp2_with fail
                go_meet
                exact ⟨rfl, Lib.hid b5⟩
          · refine region_ways4 W8.heap.size (Nat.le_refl _) (.one [] 0 (.one [1, 2, 3, 5] 4 (.one [] 6 (.one [7, 8, 9, 10, 13] 11 (.two [] 12 (.one [] 14 (.one [] 15 (.done [16, 17, 18, 19, 20, 21, 22, 23, 24, 25]))) 14 (.two [] 12 (.one [] 15 (.done [16, 17, 18, 19, 20, 21, 22, 23, 24, 25])) 15 (.one [] 12 (.done [16, 17, 18, 19, 20, 21, 22, 23, 24, 25])))))))) (by kernel_rfl) (by kernel_rfl) ?_
            rintro wd hbd
            rw [wpWays_one4]
            try simp only [List.map_cons, List.map_nil, opAt, List.getElem?_toArray, List.getElem?_cons_zero, List.getElem?_cons_succ, Option.getD_some]
            repeat (first
              | (go_big_quiet_step (fail)))
            refine wpQuiet_nil ?_
            go_wp2_with (go_at_call 10; (refine (takes_any _).mono ?_); rintro e v7 ⟨rfl, hv7⟩)
            have b7 := hbd.trans (hv7.mono hbd.size)
            refine ⟨⟨⟨_, b7⟩, rfl⟩, ?_⟩
            rw [wpWays_one4]
            try simp only [List.map_cons, List.map_nil, opAt, List.getElem?_toArray, List.getElem?_cons_zero, List.getElem?_cons_succ, Option.getD_some]
            repeat (first
              | (go_big_quiet_want; refine quiet_load_row 25 (.tmp 8) rfl g8 rfl 25 C3 (0, 0) _ HQ8.out Try.underlying25 rfl (infoMap.trans hS3.out) ?_; simp only [Act.put, List.setIfInBounds_toArray, List.set_cons_zero, List.set_cons_succ]; go_big_quiet_on)
              | (go_big_quiet_want; refine quiet_load_row 27 (.tmp 3) rfl w.heap.size rfl 27 C3 (0, 0) _ HQ3.out Try.underlying27 rfl (infoMapR.trans hS3.out) ?_; simp only [Act.put, List.setIfInBounds_toArray, List.set_cons_zero, List.set_cons_succ]; go_big_quiet_on)
              | (go_big_quiet_step (fail)))
            refine wpQuiet_nil ?_
            go_wp2_with (go_at_call 21; (refine (HRT.out _).mono ?_); rintro e v8 ⟨rfl, hv8⟩)
            have b8 := b7.trans (hv8.mono b7.size)
            refine ⟨⟨⟨_, b8⟩, rfl⟩, ?_⟩
            rw [wpWays_one4]
            try simp only [List.map_cons, List.map_nil, opAt, List.getElem?_toArray, List.getElem?_cons_zero, List.getElem?_cons_succ, Option.getD_some]
            repeat (first
              | (go_big_quiet_want; refine quiet_load_row 25 (.tmp 8) rfl g8 rfl 25 C3 (0, 0) _ HQ8.out Try.underlying25 rfl (infoMap.trans hS3.out) ?_; simp only [Act.put, List.setIfInBounds_toArray, List.set_cons_zero, List.set_cons_succ]; go_big_quiet_on)
              | (go_big_quiet_want; refine quiet_load_row 27 (.tmp 3) rfl w.heap.size rfl 27 C3 (0, 0) _ HQ3.out Try.underlying27 rfl (infoMapR.trans hS3.out) ?_; simp only [Act.put, List.setIfInBounds_toArray, List.set_cons_zero, List.set_cons_succ]; go_big_quiet_on)
              | (go_big_quiet_step (fail)))
            refine wpQuiet_nil ?_
            go_wp2_with (go_at_call 24; (refine (HRR.out _).mono ?_); rintro e v9 ⟨rfl, hv9⟩)
            have b9 := b8.trans (hv9.mono b8.size)
            refine ⟨⟨⟨_, b9⟩, rfl⟩, ?_⟩
            rw [wpWays_one4]
            try simp only [List.map_cons, List.map_nil, opAt, List.getElem?_toArray, List.getElem?_cons_zero, List.getElem?_cons_succ, Option.getD_some]
            repeat (first
              | (go_big_quiet_want; refine quiet_load_row 25 (.tmp 8) rfl g8 rfl 25 C3 (0, 0) _ HQ8.out Try.underlying25 rfl (infoMap.trans hS3.out) ?_; simp only [Act.put, List.setIfInBounds_toArray, List.set_cons_zero, List.set_cons_succ]; go_big_quiet_on)
              | (go_big_quiet_want; refine quiet_load_row 27 (.tmp 3) rfl w.heap.size rfl 27 C3 (0, 0) _ HQ3.out Try.underlying27 rfl (infoMapR.trans hS3.out) ?_; simp only [Act.put, List.setIfInBounds_toArray, List.set_cons_zero, List.set_cons_succ]; go_big_quiet_on)
              | (go_big_quiet_step (fail)))
            refine wpQuiet_nil ?_
            go_wp2_with (go_at_call 16; (refine (HPT.out _).mono ?_); rintro e v10 ⟨⟨A10, n10, c10, rfl, hl10, hc10, hx10⟩, hv10⟩)
            have b10 := b9.trans (hv10.mono b9.size)
            have tp_10 := text_b A10 n10 c10 X hl10 hx10
            refine ⟨⟨⟨_, b10⟩, rfl⟩, ?_⟩
            rw [wpWays_two4]
            try simp only [List.map_cons, List.map_nil, opAt, List.getElem?_toArray, List.getElem?_cons_zero, List.getElem?_cons_succ, Option.getD_some]
            repeat (first
              | (go_big_quiet_want; refine quiet_load_row 25 (.tmp 8) rfl g8 rfl 25 C3 (0, 0) _ HQ8.out Try.underlying25 rfl (infoMap.trans hS3.out) ?_; simp only [Act.put, List.setIfInBounds_toArray, List.set_cons_zero, List.set_cons_succ]; go_big_quiet_on)
              | (go_big_quiet_want; refine quiet_load_row 27 (.tmp 3) rfl w.heap.size rfl 27 C3 (0, 0) _ HQ3.out Try.underlying27 rfl (infoMapR.trans hS3.out) ?_; simp only [Act.put, List.setIfInBounds_toArray, List.set_cons_zero, List.set_cons_succ]; go_big_quiet_on)
              | (go_big_quiet_step (fail)))
            refine wpQuiet_nil ⟨?_, ?_⟩
            · go_wp2_with (fail)
              refine ⟨⟨⟨_, b10⟩, rfl⟩, ?_⟩
              rw [wpWays_one4]
              try simp only [List.map_cons, List.map_nil, opAt, List.getElem?_toArray, List.getElem?_cons_zero, List.getElem?_cons_succ, Option.getD_some]
              repeat (first
                | (go_big_quiet_want; refine quiet_load_row 25 (.tmp 8) rfl g8 rfl 25 C3 (0, 0) _ HQ8.out Try.underlying25 rfl (infoMap.trans hS3.out) ?_; simp only [Act.put, List.setIfInBounds_toArray, List.set_cons_zero, List.set_cons_succ]; go_big_quiet_on)
                | (go_big_quiet_want; refine quiet_load_row 27 (.tmp 3) rfl w.heap.size rfl 27 C3 (0, 0) _ HQ3.out Try.underlying27 rfl (infoMapR.trans hS3.out) ?_; simp only [Act.put, List.setIfInBounds_toArray, List.set_cons_zero, List.set_cons_succ]; go_big_quiet_on)
                | (go_big_quiet_step (fail)))
              refine wpQuiet_nil ?_
              go_wp2_with (go_at_call 18; (refine (HPR.out _).mono ?_); rintro e v12 ⟨⟨A12, n12, c12, rfl, hl12, hc12, hx12⟩, hv12⟩)
              have b12 := b10.trans (hv12.mono b10.size)
              have hxp_12 := hx10.below hv12
              have tp_12 := text_b A10 n10 c10 X hl10 hxp_12
              have tr_12 := text_b A12 n12 c12 X hl12 hx12
              refine ⟨⟨⟨_, b12⟩, rfl⟩, ?_⟩
              rw [wpWays_one4]
              try simp only [List.map_cons, List.map_nil, opAt, List.getElem?_toArray, List.getElem?_cons_zero, List.getElem?_cons_succ, Option.getD_some]
              repeat (first
                | (go_big_quiet_want; refine quiet_load_row 25 (.tmp 8) rfl g8 rfl 25 C3 (0, 0) _ HQ8.out Try.underlying25 rfl (infoMap.trans hS3.out) ?_; simp only [Act.put, List.setIfInBounds_toArray, List.set_cons_zero, List.set_cons_succ]; go_big_quiet_on)
                | (go_big_quiet_want; refine quiet_load_row 27 (.tmp 3) rfl w.heap.size rfl 27 C3 (0, 0) _ HQ3.out Try.underlying27 rfl (infoMapR.trans hS3.out) ?_; simp only [Act.put, List.setIfInBounds_toArray, List.set_cons_zero, List.set_cons_succ]; go_big_quiet_on)
                | (go_big_quiet_step (fail)))
              refine wpQuiet_nil ?_
              go_wp2_with (fail)
              refine ⟨⟨⟨_, b12⟩, rfl⟩, ?_⟩
              rw [wpWays_done4]
              try simp only [List.map_cons, List.map_nil, opAt, List.getElem?_toArray, List.getElem?_cons_zero, List.getElem?_cons_succ, Option.getD_some]
              repeat (first
                | (go_big_quiet_step (fail)))
              refine wpQuiet_nil ?_
              go_wp2_with fail
              go_meet
              exact ⟨rfl, Lib.hid b12⟩
            · go_wp2_with (go_at_call 18; (refine (HPR.out _).mono ?_); rintro e v11 ⟨⟨A11, n11, c11, rfl, hl11, hc11, hx11⟩, hv11⟩)
              have b11 := b10.trans (hv11.mono b10.size)
              have hxp_11 := hx10.below hv11
              have tp_11 := text_b A10 n10 c10 X hl10 hxp_11
              have tr_11 := text_b A11 n11 c11 X hl11 hx11
              refine ⟨⟨⟨_, b11⟩, rfl⟩, ?_⟩
              rw [wpWays_two4]
              try simp only [List.map_cons, List.map_nil, opAt, List.getElem?_toArray, List.getElem?_cons_zero, List.getElem?_cons_succ, Option.getD_some]
              repeat (first
                | (go_big_quiet_want; refine quiet_load_row 25 (.tmp 8) rfl g8 rfl 25 C3 (0, 0) _ HQ8.out Try.underlying25 rfl (infoMap.trans hS3.out) ?_; simp only [Act.put, List.setIfInBounds_toArray, List.set_cons_zero, List.set_cons_succ]; go_big_quiet_on)
                | (go_big_quiet_want; refine quiet_load_row 27 (.tmp 3) rfl w.heap.size rfl 27 C3 (0, 0) _ HQ3.out Try.underlying27 rfl (infoMapR.trans hS3.out) ?_; simp only [Act.put, List.setIfInBounds_toArray, List.set_cons_zero, List.set_cons_succ]; go_big_quiet_on)
                | (go_big_quiet_step (fail)))
              refine wpQuiet_nil ⟨?_, ?_⟩
              · go_wp2_with (fail)
                refine ⟨⟨⟨_, b11⟩, rfl⟩, ?_⟩
                rw [wpWays_one4]
                try simp only [List.map_cons, List.map_nil, opAt, List.getElem?_toArray, List.getElem?_cons_zero, List.getElem?_cons_succ, Option.getD_some]
                repeat (first
                  | (go_big_quiet_want; refine quiet_load_row 25 (.tmp 8) rfl g8 rfl 25 C3 (0, 0) _ HQ8.out Try.underlying25 rfl (infoMap.trans hS3.out) ?_; simp only [Act.put, List.setIfInBounds_toArray, List.set_cons_zero, List.set_cons_succ]; go_big_quiet_on)
                  | (go_big_quiet_want; refine quiet_load_row 27 (.tmp 3) rfl w.heap.size rfl 27 C3 (0, 0) _ HQ3.out Try.underlying27 rfl (infoMapR.trans hS3.out) ?_; simp only [Act.put, List.setIfInBounds_toArray, List.set_cons_zero, List.set_cons_succ]; go_big_quiet_on)
                  | (go_big_quiet_step (fail)))
                refine wpQuiet_nil ?_
                go_wp2_with (fail)
                refine ⟨⟨⟨_, b11⟩, rfl⟩, ?_⟩
                rw [wpWays_done4]
                try simp only [List.map_cons, List.map_nil, opAt, List.getElem?_toArray, List.getElem?_cons_zero, List.getElem?_cons_succ, Option.getD_some]
                repeat (first
                  | (go_big_quiet_step (fail)))
                refine wpQuiet_nil ?_
                go_wp2_with fail
                go_meet
                exact ⟨rfl, Lib.hid b11⟩
              · go_wp2_with (fail)
                refine ⟨⟨⟨_, b11⟩, rfl⟩, ?_⟩
                rw [wpWays_one4]
                try simp only [List.map_cons, List.map_nil, opAt, List.getElem?_toArray, List.getElem?_cons_zero, List.getElem?_cons_succ, Option.getD_some]
                repeat (first
                  | (go_big_quiet_want; refine quiet_load_row 25 (.tmp 8) rfl g8 rfl 25 C3 (0, 0) _ HQ8.out Try.underlying25 rfl (infoMap.trans hS3.out) ?_; simp only [Act.put, List.setIfInBounds_toArray, List.set_cons_zero, List.set_cons_succ]; go_big_quiet_on)
                  | (go_big_quiet_want; refine quiet_load_row 27 (.tmp 3) rfl w.heap.size rfl 27 C3 (0, 0) _ HQ3.out Try.underlying27 rfl (infoMapR.trans hS3.out) ?_; simp only [Act.put, List.setIfInBounds_toArray, List.set_cons_zero, List.set_cons_succ]; go_big_quiet_on)
                  | (go_big_quiet_step (fail)))
                refine wpQuiet_nil ?_
                go_wp2_with (fail)
                refine ⟨⟨⟨_, b11⟩, rfl⟩, ?_⟩
                rw [wpWays_done4]
                try simp only [List.map_cons, List.map_nil, opAt, List.getElem?_toArray, List.getElem?_cons_zero, List.getElem?_cons_succ, Option.getD_some]
                repeat (first
                  | (go_big_quiet_step (fail)))
                refine wpQuiet_nil ?_
                go_wp2_with fail
                go_meet
                exact ⟨rfl, Lib.hid b11⟩
        case rest =>
          obtain ⟨rfl, HBC⟩ := hcut
          have hbc := HBC.out
          have hbw : Below w.heap.size w wc := HB8.out.trans (hbc.mono HB8.out.size)
          have HC9 := Lib.hid ((hbc.block g9 (Array.getElem?_eq_some_iff.1 H98.out).1).trans H98.out)
          clear HQ8 HQ3 HQ9 HRT HRR HPT HPR HBC hbc H98
          rcases hrn with rfl | rfl
          · have hgd : goodM ys := by
              by_cases h : goodM ys
              · exact h
              · have := ERN.out
                unfold numM at this
                rw [if_neg h] at this
                omega
            obtain ⟨hok9, hbm9⟩ := good_ok hgd
            have e9 : C9 = mapC (gotP ys : Int) (gotU ys) := EC9.out.trans (if_pos hgd)
            have HRT9 : Hid (∀ W, Calls Try.prog 21 #[.agg C9] W fun e w' => e = .returned (.bool true) ∧ Below W.heap.size W w') := Lib.hid (fun W => right_bmC _ _ (length_gotU ys) W C9 e9 _ (decide_eq_true hok9).symm)
            have HPT9 : Hid (∀ W, Calls Try.prog 16 #[.agg C9] W fun e w' => (∃ A n c, e = .returned (.slice A n c) ∧ ys.length = n ∧ n ≤ c ∧ BytesAt w' A ys) ∧ Below W.heap.size W w') := Lib.hid (fun W => put_all _ _ (length_gotU ys) W C9 e9 ys (by unfold bmPut; rw [if_pos hok9, Int.toNat_natCast, hbm9]))
            have HQ9 : Hid (∀ y : SubW wc.heap.size wc, y.at_.heap[g9]? = some (.cells C9 25 (0, 0))) := Lib.hid (fun y => (y.ok_.block _ (Array.getElem?_eq_some_iff.1 HC9.out).1).trans HC9.out)
            have hxc := HX2.out.below hbw
            clear hgd hok9 hbm9 e9
            go_upto_region 12 with fail
            refine region_ways4 wc.heap.size (Nat.le_refl _) (.one [0] 1 (.two [2, 3, 6] 4 (.two [] 5 (.one [] 7 (.done [8, 9, 10])) 7 (.one [] 5 (.done [8, 9, 10]))) 7 (.one [] 4 (.one [] 5 (.done [8, 9, 10]))))) (by kernel_rfl) (by kernel_rfl) ?_
            rintro wd hbd
            have hxb0 := hxc.below hbd
            have tb_0 := text_b A2 n2 cap2 ys HN2.out hxb0
            rw [wpWays_one4]
            try simp only [List.map_cons, List.map_nil, opAt, List.getElem?_toArray, List.getElem?_cons_zero, List.getElem?_cons_succ, Option.getD_some]
            repeat (first
              | (go_big_quiet_want; refine quiet_load_row 25 (.tmp 9) rfl g9 rfl 25 C9 (0, 0) _ HQ9.out Try.underlying25 rfl (infoMap.trans hS9.out) ?_; simp only [Act.put, List.setIfInBounds_toArray, List.set_cons_zero, List.set_cons_succ]; go_big_quiet_on)
              | (go_big_quiet_step (fail)))
            refine wpQuiet_nil ?_
            go_wp2_with (go_at_call 21; (refine (HRT9.out _).mono ?_); rintro e v13 ⟨rfl, hv13⟩)
            have b13 := hbd.trans (hv13.mono hbd.size)
            have hxb_13 := hxb0.below hv13
            have tb_13 := text_b A2 n2 cap2 ys HN2.out hxb_13
            refine ⟨⟨⟨_, b13⟩, rfl⟩, ?_⟩
            rw [wpWays_two4]
            try simp only [List.map_cons, List.map_nil, opAt, List.getElem?_toArray, List.getElem?_cons_zero, List.getElem?_cons_succ, Option.getD_some]
            repeat (first
              | (go_big_quiet_want; refine quiet_load_row 25 (.tmp 9) rfl g9 rfl 25 C9 (0, 0) _ HQ9.out Try.underlying25 rfl (infoMap.trans hS9.out) ?_; simp only [Act.put, List.setIfInBounds_toArray, List.set_cons_zero, List.set_cons_succ]; go_big_quiet_on)
              | (go_big_quiet_step (fail)))
            refine wpQuiet_nil ⟨?_, ?_⟩
            · go_wp2_with (go_at_call 16; (refine (HPT9.out _).mono ?_); rintro e v14 ⟨⟨A14, n14, c14, rfl, hl14, hc14, hx14⟩, hv14⟩)
              have b14 := b13.trans (hv14.mono b13.size)
              have hxb_14 := hxb_13.below hv14
              have tb_14 := text_b A2 n2 cap2 ys HN2.out hxb_14
              have tq_14 := text_b A14 n14 c14 ys hl14 hx14
              refine ⟨⟨⟨_, b14⟩, rfl⟩, ?_⟩
              rw [wpWays_two4]
              try simp only [List.map_cons, List.map_nil, opAt, List.getElem?_toArray, List.getElem?_cons_zero, List.getElem?_cons_succ, Option.getD_some]
              repeat (first
                | (go_big_quiet_want; refine quiet_load_row 25 (.tmp 9) rfl g9 rfl 25 C9 (0, 0) _ HQ9.out Try.underlying25 rfl (infoMap.trans hS9.out) ?_; simp only [Act.put, List.setIfInBounds_toArray, List.set_cons_zero, List.set_cons_succ]; go_big_quiet_on)
                | (go_big_quiet_step (fail)))
              refine wpQuiet_nil ⟨?_, ?_⟩
              · go_wp2_with (fail)
                refine ⟨⟨⟨_, b14⟩, rfl⟩, ?_⟩
                rw [wpWays_one4]
                try simp only [List.map_cons, List.map_nil, opAt, List.getElem?_toArray, List.getElem?_cons_zero, List.getElem?_cons_succ, Option.getD_some]
                repeat (first
                  | (go_big_quiet_want; refine quiet_load_row 25 (.tmp 9) rfl g9 rfl 25 C9 (0, 0) _ HQ9.out Try.underlying25 rfl (infoMap.trans hS9.out) ?_; simp only [Act.put, List.setIfInBounds_toArray, List.set_cons_zero, List.set_cons_succ]; go_big_quiet_on)
                  | (go_big_quiet_step (fail)))
                refine wpQuiet_nil ?_
                go_wp2_with (fail)
                refine ⟨⟨⟨_, b14⟩, rfl⟩, ?_⟩
                rw [wpWays_done4]
                try simp only [List.map_cons, List.map_nil, opAt, List.getElem?_toArray, List.getElem?_cons_zero, List.getElem?_cons_succ, Option.getD_some]
                repeat (first
                  | (go_big_quiet_step (fail)))
                refine wpQuiet_nil ?_
                go_wp2_with fail
                go_ret
                exact ⟨rfl, hbw.trans (b14.mono hbw.size)⟩
              · go_wp2_with (fail)
                refine ⟨⟨⟨_, b14⟩, rfl⟩, ?_⟩
                rw [wpWays_one4]
                try simp only [List.map_cons, List.map_nil, opAt, List.getElem?_toArray, List.getElem?_cons_zero, List.getElem?_cons_succ, Option.getD_some]
                repeat (first
                  | (go_big_quiet_want; refine quiet_load_row 25 (.tmp 9) rfl g9 rfl 25 C9 (0, 0) _ HQ9.out Try.underlying25 rfl (infoMap.trans hS9.out) ?_; simp only [Act.put, List.setIfInBounds_toArray, List.set_cons_zero, List.set_cons_succ]; go_big_quiet_on)
                  | (go_big_quiet_step (fail)))
                refine wpQuiet_nil ?_
                go_wp2_with (fail)
                refine ⟨⟨⟨_, b14⟩, rfl⟩, ?_⟩
                rw [wpWays_done4]
                try simp only [List.map_cons, List.map_nil, opAt, List.getElem?_toArray, List.getElem?_cons_zero, List.getElem?_cons_succ, Option.getD_some]
                repeat (first
                  | (go_big_quiet_step (fail)))
                refine wpQuiet_nil ?_
                go_wp2_with fail
                go_ret
                exact ⟨rfl, hbw.trans (b14.mono hbw.size)⟩
            · go_wp2_with (fail)
              refine ⟨⟨⟨_, b13⟩, rfl⟩, ?_⟩
              rw [wpWays_one4]
              try simp only [List.map_cons, List.map_nil, opAt, List.getElem?_toArray, List.getElem?_cons_zero, List.getElem?_cons_succ, Option.getD_some]
              repeat (first
                | (go_big_quiet_want; refine quiet_load_row 25 (.tmp 9) rfl g9 rfl 25 C9 (0, 0) _ HQ9.out Try.underlying25 rfl (infoMap.trans hS9.out) ?_; simp only [Act.put, List.setIfInBounds_toArray, List.set_cons_zero, List.set_cons_succ]; go_big_quiet_on)
                | (go_big_quiet_step (fail)))
              refine wpQuiet_nil ?_
              go_wp2_with (go_at_call 16; (refine (HPT9.out _).mono ?_); rintro e v15 ⟨⟨A15, n15, c15, rfl, hl15, hc15, hx15⟩, hv15⟩)
              have b15 := b13.trans (hv15.mono b13.size)
              have hxb_15 := hxb_13.below hv15
              have tb_15 := text_b A2 n2 cap2 ys HN2.out hxb_15
              have tq_15 := text_b A15 n15 c15 ys hl15 hx15
              refine ⟨⟨⟨_, b15⟩, rfl⟩, ?_⟩
              rw [wpWays_one4]
              try simp only [List.map_cons, List.map_nil, opAt, List.getElem?_toArray, List.getElem?_cons_zero, List.getElem?_cons_succ, Option.getD_some]
              repeat (first
                | (go_big_quiet_want; refine quiet_load_row 25 (.tmp 9) rfl g9 rfl 25 C9 (0, 0) _ HQ9.out Try.underlying25 rfl (infoMap.trans hS9.out) ?_; simp only [Act.put, List.setIfInBounds_toArray, List.set_cons_zero, List.set_cons_succ]; go_big_quiet_on)
                | (go_big_quiet_step (fail)))
              refine wpQuiet_nil ?_
              go_wp2_with (fail)
              refine ⟨⟨⟨_, b15⟩, rfl⟩, ?_⟩
              rw [wpWays_done4]
              try simp only [List.map_cons, List.map_nil, opAt, List.getElem?_toArray, List.getElem?_cons_zero, List.getElem?_cons_succ, Option.getD_some]
              repeat (first
                | (go_big_quiet_step (fail)))
              refine wpQuiet_nil ?_
              go_wp2_with fail
              go_ret
              exact ⟨rfl, hbw.trans (b15.mono hbw.size)⟩
          · have hgd : ¬ goodM ys := fun h => by
              have := ERN.out
              unfold numM at this
              rw [if_pos h] at this
              omega
            have e9 : C9 = mapC 0 (List.replicate 512 false) := EC9.out.trans (if_neg hgd)
            have HEQ : Hid (∀ W, (binOp .eql 25 (.agg C9) (.agg Try.zeroCells25)).run Try.prog W = .ok (.bool true) W) := Lib.hid (fun W => by rw [e9, zeroMap]; exact eq_map 0 _ List.length_replicate W)
            clear hgd e9
            go_wp2_with (first
              | (refine wpList_load_row rfl 25 (.tmp 9) rfl g9 rfl 25 C9 (0, 0) _ HC9.out Try.underlying25 rfl (infoMap.trans hS9.out) ?_)
              | (refine wpList_binOp rfl .eql 25 (.tmp 70) (.tmp 71) 25 rfl (.agg C9) (.agg Try.zeroCells25) (.bool true) rfl rfl (guard_map _ _ _ _ _) (HEQ.out _) ?_))
            go_ret
            exact ⟨rfl, hbw⟩
end Go.Proofs.Ytjofbdjdpbnhcaa
