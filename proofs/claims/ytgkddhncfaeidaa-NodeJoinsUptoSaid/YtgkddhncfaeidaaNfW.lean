/- The reference's Same of two nodes that are the same: its walk. -/
import Derived.Test.YtgkddhncfaeidaaNfS
namespace Go.Proofs.Ytgkddhncfaeidaa
open Go.ChangeShapes Go.WideShapes Go.ChangeAt Go.RowKit CrcM PageM
set_option linter.unusedVariables false

set_option maxRecDepth 100000 in
set_option maxHeartbeats 4000000 in
theorem same_yes (n : NodeD) (l l2 : NdL) (w : World) (h : NodeAt w n l) (h2 : NodeAt w n l2) :
    Calls Try.prog 19 #[.agg #[.bool n.leaf, .slice l.EA n.es.length l.ec, .slice l.KA n.ks.length l.kc, .slice l.DA n.ds.length l.dc], .agg #[.bool n.leaf, .slice l2.EA n.es.length l2.ec, .slice l2.KA n.ks.length l2.kc, .slice l2.DA n.ds.length l2.dc]] w fun e w' => e = .returned (.bool true) ∧ Below w.heap.size w w' := by
  obtain ⟨lf, es, ks, ds⟩ := n
  obtain ⟨EA, ec, KA, kc, DA, dc⟩ := l
  obtain ⟨EA2, ec2, KA2, kc2, DA2, dc2⟩ := l2
  dsimp only
  have hem : es.length ≤ maxLen := Nat.le_trans h.ec h.em
  have hkm : ks.length ≤ maxLen := Nat.le_trans h.kc h.km
  have hdm : ds.length ≤ maxLen := Nat.le_trans h.dc h.dm
  unfold maxLen at hem hkm hdm
  obtain ⟨ne, hne⟩ : ∃ x, es.length = x := ⟨_, rfl⟩
  obtain ⟨nk, hnk⟩ : ∃ x, ks.length = x := ⟨_, rfl⟩
  obtain ⟨nd, hnd⟩ : ∃ x, ds.length = x := ⟨_, rfl⟩
  rw [hne] at hem
  rw [hnk] at hkm
  rw [hnd] at hdm
  rw [hne, hnk, hnd]
  have H1 := Lib.hid h
  have H2 := Lib.hid h2
  have HNE := Lib.hid hne
  have HNK := Lib.hid hnk
  have HND := Lib.hid hnd
  obtain ⟨W, eW⟩ : ∃ W, W = (w.alloc (.cells #[.bool lf, .slice EA ne ec, .slice KA nk kc, .slice DA nd dc] 26)).alloc (.cells #[.bool lf, .slice EA2 ne ec2, .slice KA2 nk kc2, .slice DA2 nd dc2] 26) := ⟨_, rfl⟩
  have hr1 : W.heap[w.heap.size]? = some (.cells #[.bool lf, .slice EA ne ec, .slice KA nk kc, .slice DA nd dc] 26 (0, 0)) := by rw [eW]; exact heap_alloc2_old _ _ _
  have hr2 : W.heap[w.heap.size + 1]? = some (.cells #[.bool lf, .slice EA2 ne ec2, .slice KA2 nk kc2, .slice DA2 nd dc2] 26 (0, 0)) := by rw [eW]; exact heap_alloc2_new _ _ _
  have hb : Below w.heap.size w W := by rw [eW]; exact below_two (Below.refl _ _)
  have EW := Lib.hid eW.symm
  have HB := Lib.hid hb
  have HR1 := Lib.hid hr1
  have HR2 := Lib.hid hr2
  have x0 := nd_cell hr1 0 _ rfl
  have y0 := nd_cell hr2 0 _ rfl
  have x1 := nd_cell hr1 1 _ rfl
  have y1 := nd_cell hr2 1 _ rfl
  have x2 := nd_cell hr1 2 _ rfl
  have y2 := nd_cell hr2 2 _ rfl
  have x3 := nd_cell hr1 3 _ rfl
  have y3 := nd_cell hr2 3 _ rfl
  clear h h2 hne hnk hnd eW hr1 hr2 hb
  go_enter Try.func19, Try.ntmps19
  go_upto_region 1 with fail
  rw [EW.out]
  go_upto_region 4 with fail
  clear x0 x1 x2 x3 y0 y1 y2 y3
  go_loopw [5] (fun i wr => ∃ k : Nat, k ≤ ne ∧ i = .int .i64 k ∧ Hid (Below W.heap.size W wr)) (fun i _ => ne - (intOf i).toNat)
  case atStart => exact ⟨0, by omega, rfl, Lib.hid (Below.refl _ _)⟩
  case round =>
    obtain ⟨k, hk, rfl, HBR⟩ := hrel
    obtain ⟨W0, rfl⟩ : ∃ W0, W0 = wr := ⟨_, rfl⟩
    have g1 := (HBR.out.block _ (Array.getElem?_eq_some_iff.1 HR1.out).1).trans HR1.out
    have g2 := (HBR.out.block _ (Array.getElem?_eq_some_iff.1 HR2.out).1).trans HR2.out
    have k1 := nd_cell g1 1 _ rfl
    by_cases hlt : k < ne
    · obtain ⟨e, he⟩ : ∃ e, es[k]? = some e := ⟨_, List.getElem?_eq_getElem (by rw [HNE.out]; exact hlt)⟩
      obtain ⟨b1, o1, rfl, hc0⟩ := ((H1.out.below HB.out).below HBR.out).e (by intro e'; have h' := HNE.out; dsimp only at e'; rw [e'] at h'; simp at h'; omega)
      obtain ⟨b2, o2, rfl, hc1⟩ := ((H2.out.below HB.out).below HBR.out).e (by intro e'; have h' := HNE.out; dsimp only at e'; rw [e'] at h'; simp at h'; omega)
      obtain ⟨z00, z01, z02, z03, z04, z05, z06, z07⟩ := hc0 k e he
      have hl0 := World.block_lt_of_cell? _ _ z00
      have P0 : ∀ y : SubW W0.heap.size W0, y.at_.cell? ⟨b1, o1 + k * 8, none⟩ = some (.int .i64 e.se) := fun y => (y.ok_.cell (p := ⟨b1, o1 + k * 8, none⟩) hl0).trans z00
      have P1 : ∀ y : SubW W0.heap.size W0, y.at_.cell? ⟨b1, o1 + k * 8 + 1, none⟩ = some (.int .i64 e.st) := fun y => (y.ok_.cell (p := ⟨b1, o1 + k * 8 + 1, none⟩) hl0).trans z01
      have P2 : ∀ y : SubW W0.heap.size W0, y.at_.cell? ⟨b1, o1 + k * 8 + 2, none⟩ = some (.int .i64 e.en) := fun y => (y.ok_.cell (p := ⟨b1, o1 + k * 8 + 2, none⟩) hl0).trans z02
      have P3 : ∀ y : SubW W0.heap.size W0, y.at_.cell? ⟨b1, o1 + k * 8 + 3, none⟩ = some (.int .i64 e.ad) := fun y => (y.ok_.cell (p := ⟨b1, o1 + k * 8 + 3, none⟩) hl0).trans z03
      have P4 : ∀ y : SubW W0.heap.size W0, y.at_.cell? ⟨b1, o1 + k * 8 + 4, none⟩ = some (.int .i64 e.le) := fun y => (y.ok_.cell (p := ⟨b1, o1 + k * 8 + 4, none⟩) hl0).trans z04
      have P5 : ∀ y : SubW W0.heap.size W0, y.at_.cell? ⟨b1, o1 + k * 8 + 5, none⟩ = some (.int .i64 e.cn) := fun y => (y.ok_.cell (p := ⟨b1, o1 + k * 8 + 5, none⟩) hl0).trans z05
      have P6 : ∀ y : SubW W0.heap.size W0, y.at_.cell? ⟨b1, o1 + k * 8 + 6, none⟩ = some (.int .i64 e.co) := fun y => (y.ok_.cell (p := ⟨b1, o1 + k * 8 + 6, none⟩) hl0).trans z06
      have P7 : ∀ y : SubW W0.heap.size W0, y.at_.cell? ⟨b1, o1 + k * 8 + 7, none⟩ = some (.int .u32 e.cr) := fun y => (y.ok_.cell (p := ⟨b1, o1 + k * 8 + 7, none⟩) hl0).trans z07
      obtain ⟨z10, z11, z12, z13, z14, z15, z16, z17⟩ := hc1 k e he
      have hl1 := World.block_lt_of_cell? _ _ z10
      have Q0 : ∀ y : SubW W0.heap.size W0, y.at_.cell? ⟨b2, o2 + k * 8, none⟩ = some (.int .i64 e.se) := fun y => (y.ok_.cell (p := ⟨b2, o2 + k * 8, none⟩) hl1).trans z10
      have Q1 : ∀ y : SubW W0.heap.size W0, y.at_.cell? ⟨b2, o2 + k * 8 + 1, none⟩ = some (.int .i64 e.st) := fun y => (y.ok_.cell (p := ⟨b2, o2 + k * 8 + 1, none⟩) hl1).trans z11
      have Q2 : ∀ y : SubW W0.heap.size W0, y.at_.cell? ⟨b2, o2 + k * 8 + 2, none⟩ = some (.int .i64 e.en) := fun y => (y.ok_.cell (p := ⟨b2, o2 + k * 8 + 2, none⟩) hl1).trans z12
      have Q3 : ∀ y : SubW W0.heap.size W0, y.at_.cell? ⟨b2, o2 + k * 8 + 3, none⟩ = some (.int .i64 e.ad) := fun y => (y.ok_.cell (p := ⟨b2, o2 + k * 8 + 3, none⟩) hl1).trans z13
      have Q4 : ∀ y : SubW W0.heap.size W0, y.at_.cell? ⟨b2, o2 + k * 8 + 4, none⟩ = some (.int .i64 e.le) := fun y => (y.ok_.cell (p := ⟨b2, o2 + k * 8 + 4, none⟩) hl1).trans z14
      have Q5 : ∀ y : SubW W0.heap.size W0, y.at_.cell? ⟨b2, o2 + k * 8 + 5, none⟩ = some (.int .i64 e.cn) := fun y => (y.ok_.cell (p := ⟨b2, o2 + k * 8 + 5, none⟩) hl1).trans z15
      have Q6 : ∀ y : SubW W0.heap.size W0, y.at_.cell? ⟨b2, o2 + k * 8 + 6, none⟩ = some (.int .i64 e.co) := fun y => (y.ok_.cell (p := ⟨b2, o2 + k * 8 + 6, none⟩) hl1).trans z16
      have Q7 : ∀ y : SubW W0.heap.size W0, y.at_.cell? ⟨b2, o2 + k * 8 + 7, none⟩ = some (.int .u32 e.cr) := fun y => (y.ok_.cell (p := ⟨b2, o2 + k * 8 + 7, none⟩) hl1).trans z17
      have N1 : ∀ y : SubW W0.heap.size W0, y.at_.cell? ⟨w.heap.size, 1, none⟩ = some (.slice (some ⟨b1, o1, none⟩) ne ec) := fun y => nd_cell ((y.ok_.block _ (Array.getElem?_eq_some_iff.1 g1).1).trans g1) 1 _ rfl
      have N2 : ∀ y : SubW W0.heap.size W0, y.at_.cell? ⟨w.heap.size + 1, 1, none⟩ = some (.slice (some ⟨b2, o2, none⟩) ne ec2) := fun y => nd_cell ((y.ok_.block _ (Array.getElem?_eq_some_iff.1 g2).1).trans g2) 1 _ rfl
      clear hc0 hc1 hl0 hl1 g1 g2 he z00 z01 z02 z03 z04 z05 z06 z07 z10 z11 z12 z13 z14 z15 z16 z17
      go_upto_region 6 with fail
      refine region_below W0.heap.size W0 (Below.refl _ _) (by kernel_rfl) (by kernel_rfl) ?_
      repeat (first
        | (go_big_quiet_want; refine quiet_binOpN .neq 51 (.tmp 51) (.tmp 56) 51 rfl (.agg #[.int .i64 e.se, .int .i64 e.st, .int .i64 e.en, .int .i64 e.ad, .int .i64 e.le, .int .i64 e.cn, .int .i64 e.co, .int .u32 e.cr]) (.agg #[.int .i64 e.se, .int .i64 e.st, .int .i64 e.en, .int .i64 e.ad, .int .i64 e.le, .int .i64 e.cn, .int .i64 e.co, .int .u32 e.cr]) (.bool false) rfl rfl (fun W => guard_ent _ _ _ _ _ W) (fun W => neq_ent e W) ?_; simp only [Act.put, List.setIfInBounds_toArray, List.set_cons_zero, List.set_cons_succ]; go_big_quiet_on)
        | go_big_quiet_step (fail))
      refine wpQuiet_nil ?_
      rintro w' ⟨y, rfl⟩
      have HY := Lib.hid (HBR.out.trans (y.ok_.mono HBR.out.size))
      clear N1 N2 P0 P1 P2 P3 P4 P5 P6 P7 Q0 Q1 Q2 Q3 Q4 Q5 Q6 Q7
      go_wp2_with fail
      go_roundw
      case rel => exact ⟨k + 1, by omega, by go_num, HY⟩
      case measure => first | (simp [intOf]; done) | (simp [intOf]; omega)
    · obtain rfl : k = ne := by omega
      have hdk : decide ((k : Int) < (k : Int)) = false := by simp
      go_upto_region 9 with fail
      clear k1 g1 g2 hdk
      go_loopw [6] (fun i wr => ∃ k : Nat, k ≤ nk ∧ i = .int .i64 k ∧ Hid (Below W.heap.size W wr)) (fun i _ => nk - (intOf i).toNat)
      case atStart => exact ⟨0, by omega, rfl, HBR⟩
      case round =>
        clear HBR
        obtain ⟨k, hk, rfl, HBR⟩ := hrel
        obtain ⟨W0, rfl⟩ : ∃ W0, W0 = wr := ⟨_, rfl⟩
        have g1 := (HBR.out.block _ (Array.getElem?_eq_some_iff.1 HR1.out).1).trans HR1.out
        have g2 := (HBR.out.block _ (Array.getElem?_eq_some_iff.1 HR2.out).1).trans HR2.out
        have k1 := nd_cell g1 2 _ rfl
        by_cases hlt : k < nk
        · obtain ⟨e, he⟩ : ∃ e, ks[k]? = some e := ⟨_, List.getElem?_eq_getElem (by rw [HNK.out]; exact hlt)⟩
          obtain ⟨b1, o1, rfl, hc0⟩ := ((H1.out.below HB.out).below HBR.out).k (by intro e'; have h' := HNK.out; dsimp only at e'; rw [e'] at h'; simp at h'; omega)
          obtain ⟨b2, o2, rfl, hc1⟩ := ((H2.out.below HB.out).below HBR.out).k (by intro e'; have h' := HNK.out; dsimp only at e'; rw [e'] at h'; simp at h'; omega)
          obtain ⟨z00, z01⟩ := hc0 k e he
          have hl0 := World.block_lt_of_cell? _ _ z00
          have P0 : ∀ y : SubW W0.heap.size W0, y.at_.cell? ⟨b1, o1 + k * 2, none⟩ = some (.int .i64 e.se) := fun y => (y.ok_.cell (p := ⟨b1, o1 + k * 2, none⟩) hl0).trans z00
          have P1 : ∀ y : SubW W0.heap.size W0, y.at_.cell? ⟨b1, o1 + k * 2 + 1, none⟩ = some (.int .i64 e.st) := fun y => (y.ok_.cell (p := ⟨b1, o1 + k * 2 + 1, none⟩) hl0).trans z01
          obtain ⟨z10, z11⟩ := hc1 k e he
          have hl1 := World.block_lt_of_cell? _ _ z10
          have Q0 : ∀ y : SubW W0.heap.size W0, y.at_.cell? ⟨b2, o2 + k * 2, none⟩ = some (.int .i64 e.se) := fun y => (y.ok_.cell (p := ⟨b2, o2 + k * 2, none⟩) hl1).trans z10
          have Q1 : ∀ y : SubW W0.heap.size W0, y.at_.cell? ⟨b2, o2 + k * 2 + 1, none⟩ = some (.int .i64 e.st) := fun y => (y.ok_.cell (p := ⟨b2, o2 + k * 2 + 1, none⟩) hl1).trans z11
          have N1 : ∀ y : SubW W0.heap.size W0, y.at_.cell? ⟨w.heap.size, 2, none⟩ = some (.slice (some ⟨b1, o1, none⟩) nk kc) := fun y => nd_cell ((y.ok_.block _ (Array.getElem?_eq_some_iff.1 g1).1).trans g1) 2 _ rfl
          have N2 : ∀ y : SubW W0.heap.size W0, y.at_.cell? ⟨w.heap.size + 1, 2, none⟩ = some (.slice (some ⟨b2, o2, none⟩) nk kc2) := fun y => nd_cell ((y.ok_.block _ (Array.getElem?_eq_some_iff.1 g2).1).trans g2) 2 _ rfl
          clear hc0 hc1 hl0 hl1 g1 g2 he z00 z01 z10 z11
          go_upto_region 11 with fail
          refine region_below W0.heap.size W0 (Below.refl _ _) (by kernel_rfl) (by kernel_rfl) ?_
          repeat (first
            | (go_big_quiet_want; refine quiet_binOpN .neq 48 (.tmp 69) (.tmp 74) 48 rfl (.agg #[.int .i64 e.se, .int .i64 e.st]) (.agg #[.int .i64 e.se, .int .i64 e.st]) (.bool false) rfl rfl (fun W => guard_key _ _ _ _ _ W) (fun W => neq_key _ _ W) ?_; simp only [Act.put, List.setIfInBounds_toArray, List.set_cons_zero, List.set_cons_succ]; go_big_quiet_on)
            | go_big_quiet_step (fail))
          refine wpQuiet_nil ?_
          rintro w' ⟨y, rfl⟩
          have HY := Lib.hid (HBR.out.trans (y.ok_.mono HBR.out.size))
          clear N1 N2 P0 P1 Q0 Q1
          go_wp2_with fail
          go_roundw
          case rel => exact ⟨k + 1, by omega, by go_num, HY⟩
          case measure => first | (simp [intOf]; done) | (simp [intOf]; omega)
        · obtain rfl : k = nk := by omega
          have hdk : decide ((k : Int) < (k : Int)) = false := by simp
          go_upto_region 14 with fail
          clear k1 g1 g2 hdk
          go_loopw [7] (fun i wr => ∃ k : Nat, k ≤ nd ∧ i = .int .i64 k ∧ Hid (Below W.heap.size W wr)) (fun i _ => nd - (intOf i).toNat)
          case atStart => exact ⟨0, by omega, rfl, HBR⟩
          case round =>
            clear HBR
            obtain ⟨k, hk, rfl, HBR⟩ := hrel
            obtain ⟨W0, rfl⟩ : ∃ W0, W0 = wr := ⟨_, rfl⟩
            have g1 := (HBR.out.block _ (Array.getElem?_eq_some_iff.1 HR1.out).1).trans HR1.out
            have g2 := (HBR.out.block _ (Array.getElem?_eq_some_iff.1 HR2.out).1).trans HR2.out
            have k1 := nd_cell g1 3 _ rfl
            by_cases hlt : k < nd
            · obtain ⟨e, he⟩ : ∃ e, ds[k]? = some e := ⟨_, List.getElem?_eq_getElem (by rw [HND.out]; exact hlt)⟩
              obtain ⟨b1, o1, rfl, hc0⟩ := ((H1.out.below HB.out).below HBR.out).d (by intro e'; have h' := HND.out; dsimp only at e'; rw [e'] at h'; simp at h'; omega)
              obtain ⟨b2, o2, rfl, hc1⟩ := ((H2.out.below HB.out).below HBR.out).d (by intro e'; have h' := HND.out; dsimp only at e'; rw [e'] at h'; simp at h'; omega)
              have z0 := hc0 k e he
              have hl0 := World.block_lt_of_cell? _ _ z0
              have P0 : ∀ y : SubW W0.heap.size W0, y.at_.cell? ⟨b1, o1 + k, none⟩ = some (.int .i64 e) := fun y => (y.ok_.cell (p := ⟨b1, o1 + k, none⟩) hl0).trans z0
              have z1 := hc1 k e he
              have hl1 := World.block_lt_of_cell? _ _ z1
              have Q0 : ∀ y : SubW W0.heap.size W0, y.at_.cell? ⟨b2, o2 + k, none⟩ = some (.int .i64 e) := fun y => (y.ok_.cell (p := ⟨b2, o2 + k, none⟩) hl1).trans z1
              have N1 : ∀ y : SubW W0.heap.size W0, y.at_.cell? ⟨w.heap.size, 3, none⟩ = some (.slice (some ⟨b1, o1, none⟩) nd dc) := fun y => nd_cell ((y.ok_.block _ (Array.getElem?_eq_some_iff.1 g1).1).trans g1) 3 _ rfl
              have N2 : ∀ y : SubW W0.heap.size W0, y.at_.cell? ⟨w.heap.size + 1, 3, none⟩ = some (.slice (some ⟨b2, o2, none⟩) nd dc2) := fun y => nd_cell ((y.ok_.block _ (Array.getElem?_eq_some_iff.1 g2).1).trans g2) 3 _ rfl
              clear hc0 hc1 z0 z1 hl0 hl1 g1 g2 he
              go_upto_region 16 with fail
              refine region_below W0.heap.size W0 (Below.refl _ _) (by kernel_rfl) (by kernel_rfl) ?_
              repeat (go_big_quiet_step (fail))
              refine wpQuiet_nil ?_
              rintro w' ⟨y, rfl⟩
              have HY := Lib.hid (HBR.out.trans (y.ok_.mono HBR.out.size))
              clear N1 N2 P0 Q0
              go_wp2_with fail
              go_roundw
              case rel => exact ⟨k + 1, by omega, by go_num, HY⟩
              case measure => first | (simp [intOf]; done) | (simp [intOf]; omega)
            · obtain rfl : k = nd := by omega
              have hdk : decide ((k : Int) < (k : Int)) = false := by simp
              go_wp2_with fail
              go_ret
              exact ⟨rfl, HB.out.trans (HBR.out.mono HB.out.size)⟩
end Go.Proofs.Ytgkddhncfaeidaa
