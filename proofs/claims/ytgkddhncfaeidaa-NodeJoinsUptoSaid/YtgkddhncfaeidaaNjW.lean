/- NodeJoins: a node that is split, and put together again, is as it was. -/
import Derived.Test.YtgkddhncfaeidaaPartB
import Derived.Deep.CutBlock
namespace Go.Proofs.Ytgkddhncfaeidaa
open Go.ChangeShapes Go.WideShapes Go.ChangeAt Go.RowKit CrcM PageM
set_option linter.unusedVariables false

theorem meas_step {M k : Nat} {z : Int} (h : k < M) (e : z = (k : Int) + 1) : M - (intOf (.int .i64 z)).toNat < M - (intOf (.int .i64 (k : Int))).toNat := by
  subst e
  simp only [intOf]
  omega


set_option maxRecDepth 100000 in
set_option maxHeartbeats 16000000 in
theorem nodeJoins_walk (n : NodeD) (l : NdL) (hsz : n.es.length ≤ 2000000 ∧ n.ks.length ≤ 2000000 ∧ n.ds.length ≤ 2000000) {w : World} (hat : NodeAt w n l) (m : Int) :
    Calls Try.prog 5 #[.agg #[.bool n.leaf, .slice l.EA n.es.length l.ec, .slice l.KA n.ks.length l.kc, .slice l.DA n.ds.length l.dc], .int .i64 m] w fun e w' => e = .returned (.bool true) ∧ Below w.heap.size w w' := by
  obtain ⟨W, eW⟩ : ∃ W, W = w.alloc (.cells #[.bool n.leaf, .slice l.EA n.es.length l.ec, .slice l.KA n.ks.length l.kc, .slice l.DA n.ds.length l.dc] 26) := ⟨_, rfl⟩
  have hb : Below w.heap.size w W := by rw [eW]; exact (Below.refl _ _).alloc (Nat.le_refl _) _
  have hg : W.heap[w.heap.size]? = some (.cells #[.bool n.leaf, .slice l.EA n.es.length l.ec, .slice l.KA n.ks.length l.kc, .slice l.DA n.ds.length l.dc] 26 (0, 0)) := by rw [eW]; exact heap_alloc_new _ _
  obtain ⟨M, hM, hMe⟩ := modI m 3 (by decide) (by decide)
  obtain ⟨lf, hlf⟩ : ∃ lf, n.leaf = lf := ⟨_, rfl⟩
  have HJ0 : Hid (JoS w W lf 0 n l) := Lib.hid { bel := hb, box := hg, at_ := hat.below hb, leaf := hlf, es := by simpa using hsz.1, ks := by simpa using hsz.2.1, ds := by simpa using hsz.2.2 }
  have HME := Lib.hid hMe
  have HM3 := Lib.hid hM
  clear hb hg hsz hat hMe hlf hM
  go_enter Try.func5, Try.ntmps5
  go_upto_region 1 with fail
  rw [← eW]
  clear eW
  go_upto_region 2 with fail
  go_loopw [5] (fun i wr => ∃ k : Nat, k ≤ M ∧ i = .int .i64 k ∧ Hid (∃ D lD, JoS w wr lf k D lD)) (fun i _ => M - (intOf i).toNat)
  case atStart => exact ⟨0, by omega, rfl, Lib.hid ⟨_, _, HJ0.out⟩⟩
  case round =>
    obtain ⟨k, hk, rfl, hj⟩ := hrel
    obtain ⟨D, lD, hJ⟩ := hj.out
    have HJ := Lib.hid hJ
    clear hj hJ
    by_cases hlt : k < M
    · have hme : wrap64 ((IntKind.u64.wrap m).tmod 3) = (M : Int) := HME.out
      have hkm : decide ((k : Int) < (M : Int)) = true := by simp; omega
      go_upto_block 1 with fail
      clear hme hkm
      as_aux_lemma =>
        have G1 : ∀ y : SubW (w.heap.size + 1) wr, y.at_.cell? ⟨w.heap.size, 1, none⟩ = some (.slice lD.EA D.es.length lD.ec) := fun y => nd_cell ((y.ok_.block _ (by omega)).trans HJ.out.box) 1 _ rfl
        have G2 : ∀ y : SubW (w.heap.size + 1) wr, y.at_.cell? ⟨w.heap.size, 2, none⟩ = some (.slice lD.KA D.ks.length lD.kc) := fun y => nd_cell ((y.ok_.block _ (by omega)).trans HJ.out.box) 2 _ rfl
        have G3 : ∀ y : SubW (w.heap.size + 1) wr, y.at_.cell? ⟨w.heap.size, 3, none⟩ = some (.slice lD.DA D.ds.length lD.dc) := fun y => nd_cell ((y.ok_.block _ (by omega)).trans HJ.out.box) 3 _ rfl
        have HL1 : Hid (w.heap.size + 1 ≤ wr.heap.size) := Lib.hid (by have := HJ.out.lt; omega)
        obtain ⟨D2, hD2⟩ : ∃ D2 : NodeD, D2 = ⟨D.leaf, D.es ++ D.es, D.ks ++ D.ks, D.ds ++ D.ds⟩ := ⟨_, rfl⟩
        obtain ⟨uE, huE⟩ : ∃ u, u = D.es.flatMap enC := ⟨_, rfl⟩
        obtain ⟨uK, huK⟩ : ∃ u, u = D.ks.flatMap kyC := ⟨_, rfl⟩
        obtain ⟨uD, huD⟩ : ∃ u, u = D.ds.map kdC := ⟨_, rfl⟩
        obtain ⟨n2E, hn2E⟩ : ∃ n2, n2 = D.es.length + D.es.length := ⟨_, rfl⟩
        obtain ⟨n2K, hn2K⟩ : ∃ n2, n2 = D.ks.length + D.ks.length := ⟨_, rfl⟩
        obtain ⟨n2D, hn2D⟩ : ∃ n2, n2 = D.ds.length + D.ds.length := ⟨_, rfl⟩
        have hp4 : 2 ^ k ≤ 4 := by have : k ≤ 2 := by have := HM3.out; omega
                                   exact Nat.le_trans (Nat.pow_le_pow_right (by decide) this) (by decide)
        have FE : Hid (n2E = D.es.length + D.es.length ∧ D.es.length ≤ 8000000) := Lib.hid ⟨hn2E, by have h1 := HJ.out.es; have h2 := Nat.mul_le_mul_left 2000000 hp4; omega⟩
        have FK : Hid (n2K = D.ks.length + D.ks.length ∧ D.ks.length ≤ 8000000) := Lib.hid ⟨hn2K, by have h1 := HJ.out.ks; have h2 := Nat.mul_le_mul_left 2000000 hp4; omega⟩
        have FD : Hid (n2D = D.ds.length + D.ds.length ∧ D.ds.length ≤ 8000000) := Lib.hid ⟨hn2D, by have h1 := HJ.out.ds; have h2 := Nat.mul_le_mul_left 2000000 hp4; omega⟩
        have HE : Hid (CellsAt wr lD.EA uE) := Lib.hid (by rw [huE]; exact HJ.out.at_.e.cells)
        have HK : Hid (CellsAt wr lD.KA uK) := Lib.hid (by rw [huK]; exact HJ.out.at_.k.cells)
        have HD : Hid (CellsAt wr lD.DA uD) := Lib.hid (by rw [huD]; exact HJ.out.at_.d.cells)
        have LE : Hid (uE.length = D.es.length * 8) := Lib.hid (by rw [huE]; exact flatV_len lenEnC _)
        have LK : Hid (uK.length = D.ks.length * 2) := Lib.hid (by rw [huK]; exact flatV_len lenKyC _)
        have LD : Hid (uD.length = D.ds.length * 1) := Lib.hid (by rw [huD]; simp)
        have OE : Hid (∀ u ∈ uE, u.oneCell' = true) := Lib.hid (by rw [huE]; exact flat_one enC_one _)
        have OK : Hid (∀ u ∈ uK, u.oneCell' = true) := Lib.hid (by rw [huK]; exact flat_one kyC_one _)
        have OD : Hid (∀ u ∈ uD, u.oneCell' = true) := Lib.hid (by rw [huD]; exact kdC_one _)
        have HU := Lib.hid (And.intro huE (And.intro huK (And.intro huD hD2)))
        have hkm : wrap64 ((k : Int) + 1) = (k : Int) + 1 := by have := HM3.out; unfold wrap64; omega
        clear huE huK huD hn2E hn2K hn2D hp4 hD2
        go_cut [] from 19 to 42 (fun wx => Hid (∃ D2 l2, JoS w wx lf (k + 1) D2 l2))
        case rest =>
          obtain ⟨D2, l2, hJ2⟩ := hcut.out
          have HJ2 := Lib.hid hJ2
          clear hJ2 hcut
          go_wp2_with fail
          go_roundw
          case rel => exact ⟨k + 1, by omega, by go_num, Lib.hid ⟨_, _, HJ2.out⟩⟩
          case measure => exact meas_step hlt hkm
        case first =>
         go_upto_region 4 with fail
         refine region_waysT 22 (w.heap.size + 1) HL1.out (.three [1, 2, 4, 5, 8, 9, 11, 12, 15, 16, 18, 19] 0 (.three [] 3 (.three [] 6 (.two [21] 7 (.two [] 10 (.two [] 13 (.one [] 14 (.one [] 17 (.one [] 20 (.done [])))) 14 (.one [] 13 (.one [] 17 (.one [] 20 (.done []))))) 14 (.one [] 10 (.one [] 13 (.one [] 17 (.one [] 20 (.done [])))))) 14 (.one [] 7 (.one [] 10 (.one [] 13 (.one [] 17 (.one [] 20 (.done []))))))) 7 (.two [] 6 (.two [21] 10 (.two [] 13 (.one [] 14 (.one [] 17 (.one [] 20 (.done [])))) 14 (.one [] 13 (.one [] 17 (.one [] 20 (.done []))))) 14 (.one [] 10 (.one [] 13 (.one [] 17 (.one [] 20 (.done [])))))) 14 (.one [] 6 (.one [21] 10 (.one [] 13 (.one [] 17 (.one [] 20 (.done []))))))) 14 (.two [] 6 (.one [21] 7 (.one [] 10 (.one [] 13 (.one [] 17 (.one [] 20 (.done [])))))) 7 (.one [] 6 (.one [21] 10 (.one [] 13 (.one [] 17 (.one [] 20 (.done [])))))))) 7 (.two [] 3 (.two [] 6 (.two [21] 10 (.two [] 13 (.one [] 14 (.one [] 17 (.one [] 20 (.done [])))) 14 (.one [] 13 (.one [] 17 (.one [] 20 (.done []))))) 14 (.one [] 10 (.one [] 13 (.one [] 17 (.one [] 20 (.done [])))))) 14 (.one [] 6 (.one [21] 10 (.one [] 13 (.one [] 17 (.one [] 20 (.done []))))))) 14 (.one [] 3 (.one [] 6 (.one [21] 10 (.one [] 13 (.one [] 17 (.one [] 20 (.done [])))))))) 14 (.two [] 3 (.two [] 6 (.one [21] 7 (.one [] 10 (.one [] 13 (.one [] 17 (.one [] 20 (.done [])))))) 7 (.one [] 6 (.one [21] 10 (.one [] 13 (.one [] 17 (.one [] 20 (.done []))))))) 7 (.one [] 3 (.one [] 6 (.one [21] 10 (.one [] 13 (.one [] 17 (.one [] 20 (.done []))))))))) 7 (.two [] 0 (.two [] 3 (.two [] 6 (.two [21] 10 (.two [] 13 (.one [] 14 (.one [] 17 (.one [] 20 (.done [])))) 14 (.one [] 13 (.one [] 17 (.one [] 20 (.done []))))) 14 (.one [] 10 (.one [] 13 (.one [] 17 (.one [] 20 (.done [])))))) 14 (.one [] 6 (.one [21] 10 (.one [] 13 (.one [] 17 (.one [] 20 (.done []))))))) 14 (.one [] 3 (.one [] 6 (.one [21] 10 (.one [] 13 (.one [] 17 (.one [] 20 (.done [])))))))) 14 (.one [] 0 (.one [] 3 (.one [] 6 (.one [21] 10 (.one [] 13 (.one [] 17 (.one [] 20 (.done []))))))))) 14 (.two [] 0 (.two [] 3 (.two [] 6 (.one [21] 7 (.one [] 10 (.one [] 13 (.one [] 17 (.one [] 20 (.done [])))))) 7 (.one [] 6 (.one [21] 10 (.one [] 13 (.one [] 17 (.one [] 20 (.done []))))))) 7 (.one [] 3 (.one [] 6 (.one [21] 10 (.one [] 13 (.one [] 17 (.one [] 20 (.done [])))))))) 7 (.one [] 0 (.one [] 3 (.one [] 6 (.one [21] 10 (.one [] 13 (.one [] 17 (.one [] 20 (.done [])))))))))) (by kernel_rfl) reg4_ok ?_
         rintro wd hbd
         have B0 := Lib.hid hbd
         clear hbd
         rw [wpWaysT_three]
         try simp only [List.map_cons, List.map_nil, opAt, List.getElem?_toArray, List.getElem?_cons_zero, List.getElem?_cons_succ, Option.getD_some]
         repeat (go_big_quiet_step (fail))
         clear G1 G2 G3
         refine wpQuiet_nil ⟨?_, ?_, ?_⟩
         · skip
           go_wp2_with fail
           obtain ⟨x1, ex1⟩ : ∃ x, x = wd.alloc (.cells #[] 51) := ⟨_, rfl⟩
           rw [← ex1]
           have R1 := Lib.hid (empty_row wr wd 51 8 x1 ex1 B0.out)
           have b1 := alloc_bel ex1
           have B1 := Lib.hid (B0.out.trans (b1.mono B0.out.size))
           clear b1 ex1
           refine ⟨⟨⟨_, B1.out.mono HL1.out⟩, rfl⟩, ?_⟩
           try simp only [Act.put, List.setIfInBounds_toArray, List.set_cons_zero, List.set_cons_succ]
           refine st_0 HJ HL1 FE FK FD HE HK HD LE LK LD OE OK OD HU B1 R1 ?_
           refine Lib.hid ?_
           intro b19 b20 b21 b22 b23 b24 b25 b26 b27 b28 b29 b30 b31 b32 b33 b34 b35 b36 b37 b38 b39 b40 b41 b42 x2 h2
           go_wp2_with fail
           go_meet
           exact Lib.hid (by obtain ⟨l2, h3⟩ := h2.out; exact ⟨D2, l2, h3⟩)
         · skip
           go_wp2_with fail
           obtain ⟨x2, ex2⟩ : ∃ x, x = wd.alloc (.cells #[] 48) := ⟨_, rfl⟩
           rw [← ex2]
           have R2 := Lib.hid (empty_row wr wd 48 2 x2 ex2 B0.out)
           have b2 := alloc_bel ex2
           have B2 := Lib.hid (B0.out.trans (b2.mono B0.out.size))
           clear b2 ex2
           refine ⟨⟨⟨_, B2.out.mono HL1.out⟩, rfl⟩, ?_⟩
           try simp only [Act.put, List.setIfInBounds_toArray, List.set_cons_zero, List.set_cons_succ]
           refine st_7 HJ HL1 FE FK FD HE HK HD LE LK LD OE OK OD HU B2 R2 ?_
           refine Lib.hid ?_
           intro b19 b20 b21 b22 b23 b24 b25 b26 b27 b28 b29 b30 b31 b32 b33 b34 b35 b36 b37 b38 b39 b40 b41 b42 x2 h2
           go_wp2_with fail
           go_meet
           exact Lib.hid (by obtain ⟨l2, h3⟩ := h2.out; exact ⟨D2, l2, h3⟩)
         · skip
           go_wp2_with fail
           obtain ⟨x3, ex3⟩ : ∃ x, x = wd.alloc (.cells #[] 3) := ⟨_, rfl⟩
           rw [← ex3]
           have R3 := Lib.hid (empty_row wr wd 3 1 x3 ex3 B0.out)
           have b3 := alloc_bel ex3
           have B3 := Lib.hid (B0.out.trans (b3.mono B0.out.size))
           clear b3 ex3
           refine ⟨⟨⟨_, B3.out.mono HL1.out⟩, rfl⟩, ?_⟩
           try simp only [Act.put, List.setIfInBounds_toArray, List.set_cons_zero, List.set_cons_succ]
           refine st_14 HJ HL1 FE FK FD HE HK HD LE LK LD OE OK OD HU B3 R3 ?_
           refine Lib.hid ?_
           intro b19 b20 b21 b22 b23 b24 b25 b26 b27 b28 b29 b30 b31 b32 b33 b34 b35 b36 b37 b38 b39 b40 b41 b42 x2 h2
           go_wp2_with fail
           go_meet
           exact Lib.hid (by obtain ⟨l2, h3⟩ := h2.out; exact ⟨D2, l2, h3⟩)
    · obtain rfl : k = M := by omega
      have hme : wrap64 ((IntKind.u64.wrap m).tmod 3) = (k : Int) := HME.out
      go_upto_region 5 with fail
      clear hme HME HJ0
      have c0 := nd_cell HJ.out.box 0 _ rfl
      simp only [List.getElem_toArray, List.getElem_cons_zero, HJ.out.leaf] at c0
      cases lf
      · as_aux_lemma =>
        have g0 := HJ.out.box
        have z2 := nd_cell g0 2 _ rfl
        have z3 := nd_cell g0 3 _ rfl
        try simp only [List.getElem_toArray, List.getElem_cons_zero, List.getElem_cons_succ] at z2 z3
        obtain ⟨q, hq⟩ : ∃ q, q = min D.ks.length D.ds.length := ⟨_, rfl⟩
        have hq1 : min (D.ks.length : Int) (D.ds.length : Int) = (q : Int) := by omega
        have hq2 : q ≤ lD.kc := by have := HJ.out.at_.kc; omega
        have hq3 : q ≤ lD.dc := by have := HJ.out.at_.dc; omega
        have HQ := Lib.hid hq
        clear hq
        go_upto_region 8 with fail
        clear hq1 z2 z3 c0 g0
        have HSK := fun W => slice_toZ 2 23 (by kernel_rfl) (by kernel_rfl) lD.KA D.ks.length lD.kc q hq2 W
        have HSD := fun W => slice_toZ 1 24 (by kernel_rfl) (by kernel_rfl) lD.DA D.ds.length lD.dc q hq3 W
        have hlt := HJ.out.lt
        refine region_ways4 w.heap.size (Nat.le_of_lt hlt) (.two [0, 2, 4, 6] 1 (.one [3] 5 (.one [7, 8] 9 (.one [10] 11 (.one [12] 13 (.done []))))) 5 (.one [7] 1 (.one [3, 8] 9 (.one [10] 11 (.one [12] 13 (.done [])))))) (by kernel_rfl) (by kernel_rfl) ?_
        rintro Y hbd
        have BY : Hid (Below w.heap.size wr Y) := Lib.hid (hbd.mono (Nat.le_of_lt hlt))
        have HJY : Hid (Y.heap[w.heap.size]? = some (.cells #[.bool D.leaf, .slice lD.EA D.es.length lD.ec, .slice lD.KA D.ks.length lD.kc, .slice lD.DA D.ds.length lD.dc] 26 (0, 0)) ∧ NodeAt Y D lD ∧ Below w.heap.size w Y) := Lib.hid ⟨row_stays HJ.out.box hbd, HJ.out.at_.below hbd, HJ.out.bel.trans (hbd.mono HJ.out.bel.size)⟩
        clear hbd
        have g0 := HJY.out.1
        have y2 := nd_cell g0 2 (.slice lD.KA D.ks.length lD.kc) rfl
        have y3 := nd_cell g0 3 (.slice lD.DA D.ds.length lD.dc) rfl
        have z1 := nd_cell g0 1 (.slice lD.EA D.es.length lD.ec) rfl
        have f1 : Y.frozen? ⟨w.heap.size, 1, none⟩ = false := nd_frozen g0
        have g1 := heap_setCell_same Y w.heap.size 1 _ _ (.slice none 0 0) g0
        have z2 := nd_cell g1 2 (.slice lD.KA D.ks.length lD.kc) rfl
        have f2 : (Y.setCell ⟨w.heap.size, 1, none⟩ (.slice none 0 0)).frozen? ⟨w.heap.size, 2, none⟩ = false := nd_frozen g1
        have g2 := heap_setCell_same _ w.heap.size 2 _ _ (.slice lD.KA q lD.kc) g1
        have z3 := nd_cell g2 3 (.slice lD.DA D.ds.length lD.dc) rfl
        have f3 : ((Y.setCell ⟨w.heap.size, 1, none⟩ (.slice none 0 0)).setCell ⟨w.heap.size, 2, none⟩ (.slice lD.KA q lD.kc)).frozen? ⟨w.heap.size, 3, none⟩ = false := nd_frozen g2
        have g3 := heap_setCell_same _ w.heap.size 3 _ _ (.slice lD.DA q lD.dc) g2
        have GG := Lib.hid (And.intro g1 (And.intro g2 g3))
        clear g0 g1 g2 g3
        rw [wpWays_two4]
        try simp only [List.map_cons, List.map_nil, opAt, List.getElem?_toArray, List.getElem?_cons_zero, List.getElem?_cons_succ, Option.getD_some]
        repeat (go_big_quiet_step (fail))
        refine wpQuiet_nil ⟨?_, ?_⟩
        · go_wp2_with fail
          refine ⟨⟨⟨_, BY.out⟩, rfl⟩, ?_⟩
          try simp only [Act.put, List.setIfInBounds_toArray, List.set_cons_zero, List.set_cons_succ]
          rw [wpWays_one4]
          try simp only [List.map_cons, List.map_nil, opAt, List.getElem?_toArray, List.getElem?_cons_zero, List.getElem?_cons_succ, Option.getD_some]
          repeat (go_big_quiet_step (fail))
          refine wpQuiet_nil ?_
          go_wp2_with fail
          refine ⟨⟨⟨_, BY.out⟩, rfl⟩, ?_⟩
          try simp only [Act.put, List.setIfInBounds_toArray, List.set_cons_zero, List.set_cons_succ]
          rw [wpWays_one4]
          try simp only [List.map_cons, List.map_nil, opAt, List.getElem?_toArray, List.getElem?_cons_zero, List.getElem?_cons_succ, Option.getD_some]
          repeat (go_big_quiet_step (fail))
          clear HSK HSD y2 y3
          refine wpQuiet_nil ?_
          go_wp2_with fail
          refine ⟨⟨⟨_, bel_cell BY.out (Nat.le_refl _)⟩, rfl⟩, ?_⟩
          try simp only [Act.put, List.setIfInBounds_toArray, List.set_cons_zero, List.set_cons_succ]
          rw [wpWays_one4]
          try simp only [List.map_cons, List.map_nil, opAt, List.getElem?_toArray, List.getElem?_cons_zero, List.getElem?_cons_succ, Option.getD_some]
          repeat (go_big_quiet_step (fail))
          refine wpQuiet_nil ?_
          go_wp2_with fail
          refine ⟨⟨⟨_, bel_cell (bel_cell BY.out (Nat.le_refl _)) (Nat.le_refl _)⟩, rfl⟩, ?_⟩
          try simp only [Act.put, List.setIfInBounds_toArray, List.set_cons_zero, List.set_cons_succ]
          rw [wpWays_one4]
          try simp only [List.map_cons, List.map_nil, opAt, List.getElem?_toArray, List.getElem?_cons_zero, List.getElem?_cons_succ, Option.getD_some]
          repeat (go_big_quiet_step (fail))
          refine wpQuiet_nil ?_
          go_wp2_with fail
          refine ⟨⟨⟨_, bel_cell (bel_cell (bel_cell BY.out (Nat.le_refl _)) (Nat.le_refl _)) (Nat.le_refl _)⟩, rfl⟩, ?_⟩
          try simp only [Act.put, List.setIfInBounds_toArray, List.set_cons_zero, List.set_cons_succ]
          rw [wpWays_done4]
          try simp only [List.map_nil]
          refine wpQuiet_nil ?_
          go_upto_region 9 with fail
          try simp only [Act.put]
          clear z1 z2 z3 f1 f2 f3
          obtain ⟨g1, g2, g3⟩ := GG.out
          have g0 := HJY.out.1
          obtain ⟨V, hV⟩ : ∃ V, V = ((Y.setCell ⟨w.heap.size, 1, none⟩ (.slice none 0 0)).setCell ⟨w.heap.size, 2, none⟩ (.slice lD.KA q lD.kc)).setCell ⟨w.heap.size, 3, none⟩ (.slice lD.DA q lD.dc) := ⟨_, rfl⟩
          rw [← hV]
          have hi0 := box_ints (lf := D.leaf) ⟨lD.EA, D.es.length, lD.ec, rfl⟩ ⟨lD.KA, D.ks.length, lD.kc, rfl⟩ ⟨lD.DA, D.ds.length, lD.dc, rfl⟩
          have hi1 := box_ints (lf := D.leaf) ⟨none, 0, 0, rfl⟩ ⟨lD.KA, D.ks.length, lD.kc, rfl⟩ ⟨lD.DA, D.ds.length, lD.dc, rfl⟩
          have hi2 := box_ints (lf := D.leaf) ⟨none, 0, 0, rfl⟩ ⟨lD.KA, q, lD.kc, rfl⟩ ⟨lD.DA, D.ds.length, lD.dc, rfl⟩
          have hn2 := node_box (i := 3) (u := .slice lD.DA q lD.dc) g2 hi2 (node_box (i := 2) (u := .slice lD.KA q lD.kc) g1 hi1 (node_box (i := 1) (u := .slice none 0 0) g0 hi0 HJY.out.2.1))
          obtain ⟨E, hE⟩ : ∃ E : NodeD, E = ⟨false, [], D.ks.take q, D.ds.take q⟩ := ⟨_, rfl⟩
          obtain ⟨lE, hlE⟩ : ∃ lE : NdL, lE = ⟨none, 0, lD.KA, lD.kc, lD.DA, lD.dc⟩ := ⟨_, rfl⟩
          have hqk : (D.ks.take q).length = q := by rw [List.length_take, HQ.out]; omega
          have hqd : (D.ds.take q).length = q := by rw [List.length_take, HQ.out]; omega
          have GV : Hid (V.heap[w.heap.size]? = some (.cells #[.bool E.leaf, .slice lE.EA E.es.length lE.ec, .slice lE.KA E.ks.length lE.kc, .slice lE.DA E.ds.length lE.dc] 26 (0, 0))) := Lib.hid (by rw [hV, hE, hlE]; refine g3.trans ?_; dsimp only; rw [hqk, hqd, HJ.out.leaf]; rfl)
          have NV : Hid (NodeAt V E lE) := Lib.hid (by
            rw [← hV] at hn2
            rw [hE, hlE]
            exact { e := fun h => absurd rfl h, k := hn2.k.take q, d := hn2.d.take q, ec := Nat.le_refl _, kc := by show (D.ks.take q).length ≤ lD.kc; rw [hqk]; exact hq2, dc := by show (D.ds.take q).length ≤ lD.dc; rw [hqd]; exact hq3, em := Nat.zero_le _, km := hn2.km, dm := hn2.dm })
          have CE : Hid (cleanN E) := Lib.hid (by rw [hE]; exact ⟨rfl, by show (D.ks.take q).length = (D.ds.take q).length; rw [hqk, hqd]⟩)
          have hp4 : 2 ^ k ≤ 4 := by have : k ≤ 2 := by have := HM3.out; omega
                                     exact Nat.le_trans (Nat.pow_le_pow_right (by decide) this) (by decide)
          have ZE : Hid (E.size ≤ 10000000) := Lib.hid (by rw [hE]; show (D.ds.take q).length ≤ _; rw [hqd]; have h1 := HJ.out.ds; have h2 := Nat.mul_le_mul_left 2000000 hp4; have := HQ.out; omega)
          have LE : Hid (E.leaf = false) := Lib.hid (by rw [hE])
          have BV : Hid (Below w.heap.size w V) := Lib.hid (by rw [hV]; exact bel_cell (bel_cell (bel_cell HJY.out.2.2 (Nat.le_refl _)) (Nat.le_refl _)) (Nat.le_refl _))
          clear hV hn2 hi0 hi1 hi2 g0 g1 g2 g3 hE hlE hp4 hlt HJ HJY hqk hqd hq2 hq3 HQ
          have HFE := Lib.hid (fits_small CE.out (by have := ZE.out; omega))
          go_upto_region 10 with (first
            | (refine wpList_load_row rfl 26 (.tmp 2) rfl w.heap.size rfl 26 _ (0, 0) _ GV.out Try.underlying26 rfl (by kernel_rfl) ?_)
            | (go_at_call 10; refine (to_any E lE _ NV.out HFE.out.e HFE.out.k HFE.out.d).mono ?_; rintro e v1 ⟨l3, rfl, hn3, hb3⟩; have HN3 := Lib.hid hn3; have HB3 := Lib.hid hb3; clear hn3 hb3)
            | (go_at_call 21; refine (split_any E.size E l3 (Nat.le_refl _) CE.out (by have := ZE.out; omega) _ HN3.out).mono ?_; rintro e v2 ⟨A, c, ps, rfl, ho, hp, hs, hb4⟩; have HO := Lib.hid ho; have HP := Lib.hid hp; have HS := Lib.hid hs; have HB4 := Lib.hid (HB3.out.trans (hb4.mono HB3.out.size)); clear ho hp hs hb4))
          have GV2 := Lib.hid (row_stays GV.out HB4.out)
          have NV2 := Lib.hid (NV.out.below HB4.out)
          have BV2 : Hid (Below w.heap.size w v2) := Lib.hid (BV.out.trans (HB4.out.mono BV.out.size))
          clear GV NV BV HB4 HB3 HN3
          have d0 : v2.cell? ⟨w.heap.size, 0, none⟩ = some (.bool false) := by rw [← LE.out]; exact nd_cell GV2.out 0 _ rfl
          go_upto_region 12 with (refine wpList_store_row rfl 34 (.tmp 8) (.tmp 70) rfl v2.heap.size #[.bool false, .slice none 0 0, .slice none 0 0, .slice none 0 0] rfl rfl 34 #[.bool false, .slice none 0 0, .slice none 0 0, .slice none 0 0] (heap_alloc_new _ _) (by kernel_rfl) rfl (by simp [Value.oneCell']) ?_; rw [World.setRow_alloc_new])
          clear d0
          go_loopw [9] (fun i wr => ∃ (k : Nat) (O : NodeD) (lO : NdL), k ≤ ps.length ∧ i = .int .i64 k ∧ Hid (Below v2.heap.size v2 wr ∧ wr.heap[v2.heap.size]? = some (.cells #[.bool O.leaf, .slice lO.EA O.es.length lO.ec, .slice lO.KA O.ks.length lO.kc, .slice lO.DA O.ds.length lO.dc] 34 (0, 0)) ∧ NodeAt wr O lO ∧ O = ⟨false, [], (ps.take k).flatMap (fun p => p.1.ks), (ps.take k).flatMap (fun p => p.1.ds)⟩)) (fun i _ => ps.length - (intOf i).toNat)
          case atStart => exact ⟨0, ⟨false, [], [], []⟩, ⟨none, 0, none, 0, none, 0⟩, Nat.zero_le _, rfl, Lib.hid ⟨(Below.refl _ _).alloc (Nat.le_refl _) _, heap_alloc_new _ _, { e := fun h => absurd rfl h, k := fun h => absurd rfl h, d := fun h => absurd rfl h, ec := Nat.le_refl _, kc := Nat.le_refl _, dc := Nat.le_refl _, em := Nat.zero_le _, km := Nat.zero_le _, dm := Nat.zero_le _ }, by simp⟩⟩
          case round =>
            obtain ⟨k, O, lO, hk, rfl, HR⟩ := hrel
            have hpl : ps.length ≤ 10000000 := by have h1 := HS.out.cnt; rw [List.length_map] at h1; have := ZE.out; omega
            by_cases hlt : k < ps.length
            · obtain ⟨p, hpk⟩ : ∃ p, ps[k]? = some p := ⟨_, List.getElem?_eq_getElem hlt⟩
              have hpm : p ∈ ps := List.mem_of_getElem? hpk
              have hpd : p.1 ∈ ps.map Prod.fst := List.mem_map_of_mem hpm
              obtain ⟨gA, hA, _, hcA⟩ := row_cells HO.out (by intro e; have := congrArg List.length e; rw [flatV_len lenNdP] at this; simp at this; omega)
              subst hA
              have e0 := (HR.out.1.cell (World.block_lt_of_cell? _ _ (hcA (k * 4 + 0) _ (flat_get lenNdP ps k p 0 _ hpk rfl)))).trans (hcA (k * 4 + 0) _ (flat_get lenNdP ps k p 0 _ hpk rfl))
              have e1 := (HR.out.1.cell (World.block_lt_of_cell? _ _ (hcA (k * 4 + 1) _ (flat_get lenNdP ps k p 1 _ hpk rfl)))).trans (hcA (k * 4 + 1) _ (flat_get lenNdP ps k p 1 _ hpk rfl))
              have e2 := (HR.out.1.cell (World.block_lt_of_cell? _ _ (hcA (k * 4 + 2) _ (flat_get lenNdP ps k p 2 _ hpk rfl)))).trans (hcA (k * 4 + 2) _ (flat_get lenNdP ps k p 2 _ hpk rfl))
              have e3 := (HR.out.1.cell (World.block_lt_of_cell? _ _ (hcA (k * 4 + 3) _ (flat_get lenNdP ps k p 3 _ hpk rfl)))).trans (hcA (k * 4 + 3) _ (flat_get lenNdP ps k p 3 _ hpk rfl))
              rw [Nat.add_zero] at e0
              have E0 := Lib.hid e0
              have E1 := Lib.hid e1
              have E2 := Lib.hid e2
              have E3 := Lib.hid e3
              have HPK := Lib.hid hpk
              have HOP := Lib.hid ((HP.out p hpm).below HR.out.1)
              have HKD := Lib.hid (HS.out.kind p.1 hpd)
              obtain ⟨s, hs⟩ : ∃ s, p.1.size = s := ⟨_, rfl⟩
              have HSZ : Hid (∀ W', Calls Try.prog 15 #[.agg #[.bool p.1.leaf, .slice p.2.EA p.1.es.length p.2.ec, .slice p.2.KA p.1.ks.length p.2.kc, .slice p.2.DA p.1.ds.length p.2.dc]] W' fun e w' => e = .returned (.int .i64 (s : Int)) ∧ Below W'.heap.size W' w') := Lib.hid (fun W' => by have := size_any p.1 p.2 W'; rw [hs] at this; exact this)
              have hs1 : 1 ≤ s ∧ s ≤ 16 := by have h1 := HKD.out.2.2; rw [hs] at h1; rw [LE.out] at h1; exact h1
              have hs3 : 0 < k → 8 ≤ s := fun h0 => by
                have hbig : capN E.leaf < E.size := by
                  rcases Nat.lt_or_ge (capN E.leaf) E.size with h | h
                  · exact h
                  · exfalso
                    rcases Nat.eq_zero_or_pos E.size with h1 | h1
                    · have := HS.out.none h1
                      have h9 := congrArg List.length this
                      simp at h9
                      rw [h9] at hlt
                      simp at hlt
                    · have := HS.out.one h1 h
                      have h9 := congrArg List.length this
                      simp at h9
                      omega
                have h2 := HS.out.big hbig p.1 hpd
                rw [hs, LE.out] at h2
                exact h2
              clear hcA hpk hpm hpd hs
              go_upto_region 15 with (go_at_call 15; refine (HSZ.out _).mono ?_; rintro e x1 ⟨rfl, hb5⟩; have HB5 := Lib.hid hb5; clear hb5)
              clear e0 e1 e2 e3
              have HB5b := Lib.hid (HR.out.1.trans (HB5.out.mono HR.out.1.size))
              have c0 : x1.cell? ⟨w.heap.size, 0, none⟩ = some (.bool false) := by rw [← LE.out]; exact nd_cell (row_stays GV2.out HB5b.out) 0 _ rfl
              have r1 : decide ((s : Int) < 1) = false := by simp; omega
              have r2 : decide ((16 : Int) < (s : Int)) = false := by simp; omega
              have rr : (decide ((0 : Int) < (k : Int)) = false ∧ decide (0 < k) = false) ∨ (decide ((0 : Int) < (k : Int)) = true ∧ decide (0 < k) = true) ∧ decide ((s : Int) < 8) = false := by
                rcases Nat.eq_zero_or_pos k with h | h
                · left; constructor <;> simp <;> omega
                · right; have := hs3 h; exact ⟨by constructor <;> simp <;> omega, by simp; omega⟩
              clear hs1 hs3
              have HLJ : Hid ((⟨false, [], (ps.take (k + 1)).flatMap (fun p => p.1.ks), (ps.take (k + 1)).flatMap (fun p => p.1.ds)⟩ : NodeD) = joinD O p.1 ∧ O.es.length + p.1.es.length ≤ 1000000000 ∧ O.ks.length + p.1.ks.length ≤ 1000000000 ∧ O.ds.length + p.1.ds.length ≤ 1000000000) := Lib.hid (by
                have hO := HR.out.2.2.2
                have g1 := gat (·.es) ps _ HS.out.es k p HPK.out
                have g2 := gat (·.ks) ps _ HS.out.ks k p HPK.out
                have g3 := gat (·.ds) ps _ HS.out.ds k p HPK.out
                have hz := ZE.out
                have hE := clean_inner CE.out LE.out
                have h3 : E.ds.length ≤ 10000000 := by rw [hE.1] at hz; exact hz
                have h2 := hE.2
                have h1 : E.es.length = 0 := by rw [hE.1]; rfl
                have o1 : O.es.length = 0 := by rw [hO]; rfl
                have o2 : O.ks.length = ((ps.take k).flatMap (fun p => p.1.ks)).length := by rw [hO]
                have o3 : O.ds.length = ((ps.take k).flatMap (fun p => p.1.ds)).length := by rw [hO]
                refine ⟨?_, by omega, by omega, by omega⟩
                rw [hO]
                simp [joinD, g2.1, g3.1])
              obtain ⟨J, hJ⟩ : ∃ J : NodeD, J = ⟨false, [], (ps.take (k + 1)).flatMap (fun p => p.1.ks), (ps.take (k + 1)).flatMap (fun p => p.1.ds)⟩ := ⟨_, rfl⟩
              rw [← hJ] at HLJ
              have HJJ := Lib.hid hJ
              clear hJ
              clear HPK HSZ HKD
              rcases rr with ⟨r3, r5⟩ | ⟨⟨r3, r5⟩, r4⟩
              all_goals
                go_upto_region 17 with fail
                clear c0 r1 r2 r3 r5
                have f8 : Hid (∀ y : SubW x1.heap.size x1, y.at_.heap[v2.heap.size]? = some (.cells #[.bool O.leaf, .slice lO.EA O.es.length lO.ec, .slice lO.KA O.ks.length lO.kc, .slice lO.DA O.ds.length lO.dc] 34 (0, 0))) := Lib.hid (fun y => row_stays (row_stays HR.out.2.1 HB5.out) y.ok_)
                have k0 : ∀ y : SubW x1.heap.size x1, y.at_.cell? ⟨gA, k * 4, none⟩ = some (.bool p.1.leaf) := fun y => ((HB5.out.trans (y.ok_.mono HB5.out.size)).cell (World.block_lt_of_cell? _ _ E0.out)).trans E0.out
                have k1 : ∀ y : SubW x1.heap.size x1, y.at_.cell? ⟨gA, k * 4 + 1, none⟩ = some (.slice p.2.EA p.1.es.length p.2.ec) := fun y => ((HB5.out.trans (y.ok_.mono HB5.out.size)).cell (World.block_lt_of_cell? _ _ E1.out)).trans E1.out
                have k2 : ∀ y : SubW x1.heap.size x1, y.at_.cell? ⟨gA, k * 4 + 2, none⟩ = some (.slice p.2.KA p.1.ks.length p.2.kc) := fun y => ((HB5.out.trans (y.ok_.mono HB5.out.size)).cell (World.block_lt_of_cell? _ _ E2.out)).trans E2.out
                have k3 : ∀ y : SubW x1.heap.size x1, y.at_.cell? ⟨gA, k * 4 + 3, none⟩ = some (.slice p.2.DA p.1.ds.length p.2.dc) := fun y => ((HB5.out.trans (y.ok_.mono HB5.out.size)).cell (World.block_lt_of_cell? _ _ E3.out)).trans E3.out
                refine region_waysT 6 x1.heap.size (Nat.le_refl _) (.one [0, 1, 2, 3, 4] 5 (.done [])) (by kernel_rfl) (by kernel_rfl) ?_
                rintro wd hbd
                have BD := Lib.hid (HB5.out.trans (hbd.mono HB5.out.size))
                have BD1 := Lib.hid hbd
                clear hbd
                rw [wpWaysT_one]
                try simp only [List.map_cons, List.map_nil, opAt, List.getElem?_toArray, List.getElem?_cons_zero, List.getElem?_cons_succ, Option.getD_some]
                repeat (first
                  | (go_big_quiet_want; refine quiet_load_row 34 (.tmp 8) rfl v2.heap.size rfl 34 _ (0, 0) _ f8.out Try.underlying34 rfl (by kernel_rfl) ?_; simp only [Act.put, List.setIfInBounds_toArray, List.set_cons_zero, List.set_cons_succ]; go_big_quiet_on)
                  | go_big_quiet_step (fail))
                clear k0 k1 k2 k3
                refine wpQuiet_nil ?_
                go_wp2_with (go_at_call 22; refine (join_any O p.1 lO p.2 _ (HR.out.2.2.1.below BD.out) (HOP.out.at.below BD.out) HLJ.out.2.1 HLJ.out.2.2.1 HLJ.out.2.2.2).mono ?_; rw [← HLJ.out.1]; rintro e x2 ⟨⟨lJ, rfl, hnj⟩, hb6⟩; have HNJ := Lib.hid hnj; have HB61 := Lib.hid (BD1.out.trans (hb6.mono BD1.out.size)); have HB6 := Lib.hid (BD.out.trans (hb6.mono BD.out.size)); clear hnj hb6)
                refine ⟨⟨⟨_, HB61.out⟩, rfl⟩, ?_⟩
                rw [wpWaysT_done]
                simp only [List.map_nil, List.drop_succ_cons, List.drop_zero]
                refine wpQuiet_nil ?_
                have hold := row_stays HR.out.2.1 (HB6.out)
                have hbr := HR.out.1.trans (HB6.out.mono HR.out.1.size)
                go_wp2_with (refine wpList_store_row rfl 34 (.tmp 8) (.tmp 127) rfl v2.heap.size #[.bool J.leaf, .slice lJ.EA J.es.length lJ.ec, .slice lJ.KA J.ks.length lJ.kc, .slice lJ.DA J.ds.length lJ.dc] rfl rfl 34 _ hold (by kernel_rfl) rfl (by simp [Value.oneCell']) ?_)
                go_roundw
                case rel => exact ⟨k + 1, J, lJ, by omega, by go_num, Lib.hid ⟨below_setRow hbr (Nat.le_refl _) _, setRow_heap _ _ _ _ _ _ hold, NodeAt.off hold (box_ints ⟨_, _, _, rfl⟩ ⟨_, _, _, rfl⟩ ⟨_, _, _, rfl⟩) (fun b hb => setRow_other _ _ _ _ hb) HNJ.out, HJJ.out⟩⟩
                case measure => first | (simp [intOf]; done) | (simp [intOf]; omega)
            · obtain rfl : k = ps.length := by omega
              have hOE : O = E := by
                have hO := HR.out.2.2.2
                have g1 := gat_all (·.es) ps _ HS.out.es ps.length rfl
                have g2 := gat_all (·.ks) ps _ HS.out.ks ps.length rfl
                have g3 := gat_all (·.ds) ps _ HS.out.ds ps.length rfl
                rw [hO, g2, g3]
                exact (clean_inner CE.out LE.out).1.symm
              subst hOE
              go_upto_region 18 with fail
              have f8 : Hid (∀ y : SubW wr.heap.size wr, y.at_.heap[v2.heap.size]? = some (.cells #[.bool O.leaf, .slice lO.EA O.es.length lO.ec, .slice lO.KA O.ks.length lO.kc, .slice lO.DA O.ds.length lO.dc] 34 (0, 0))) := Lib.hid (fun y => row_stays HR.out.2.1 y.ok_)
              have f2 : Hid (∀ y : SubW wr.heap.size wr, y.at_.heap[w.heap.size]? = some (.cells #[.bool O.leaf, .slice lE.EA O.es.length lE.ec, .slice lE.KA O.ks.length lE.kc, .slice lE.DA O.ds.length lE.dc] 26 (0, 0))) := Lib.hid (fun y => row_stays (row_stays GV2.out HR.out.1) y.ok_)
              refine region_overB wr.heap.size (Nat.le_refl _) [([], 0), ([1, 2, 4], 3), ([], 5)] [6, 7] (by kernel_rfl) (by kernel_rfl) ?_
              rintro wd hbd
              rw [wpBl_cons]
              try simp only [List.map_cons, List.map_nil, opAt, List.getElem?_toArray, List.getElem?_cons_zero, List.getElem?_cons_succ, Option.getD_some]
              refine wpQuiet_nil ?_
              go_wp2_with (go_at_call 12; refine (ndputs_any _).mono ?_; rintro e x1 ⟨rfl, hb5⟩)
              have HB5 := Lib.hid (hbd.trans (hb5.mono hbd.size))
              clear hbd hb5
              refine ⟨⟨⟨_, HB5.out⟩, rfl⟩, ?_⟩
              rw [wpBl_cons]
              try simp only [List.map_cons, List.map_nil, opAt, List.getElem?_toArray, List.getElem?_cons_zero, List.getElem?_cons_succ, Option.getD_some]
              repeat (first
                | (go_big_quiet_want; refine quiet_load_row 34 (.tmp 8) rfl v2.heap.size rfl 34 _ (0, 0) _ f8.out Try.underlying34 rfl (by kernel_rfl) ?_; simp only [Act.put, List.setIfInBounds_toArray, List.set_cons_zero, List.set_cons_succ]; go_big_quiet_on)
                | (go_big_quiet_want; refine quiet_load_row 26 (.tmp 2) rfl w.heap.size rfl 26 _ (0, 0) _ f2.out Try.underlying26 rfl (by kernel_rfl) ?_; simp only [Act.put, List.setIfInBounds_toArray, List.set_cons_zero, List.set_cons_succ]; go_big_quiet_on)
                | go_big_quiet_step (fail))
              refine wpQuiet_nil ?_
              go_wp2_with (go_at_call 20; refine (from_any O lO _ (HR.out.2.2.1.below HB5.out) HFE.out.e HFE.out.k HFE.out.d).mono ?_; rintro e x2 ⟨l8, rfl, hn8, hb8⟩; have HN8 := Lib.hid hn8; have HB8 := Lib.hid (HB5.out.trans (hb8.mono HB5.out.size)); clear hn8 hb8)
              refine ⟨⟨⟨_, HB8.out⟩, rfl⟩, ?_⟩
              rw [wpBl_cons]
              try simp only [List.map_cons, List.map_nil, opAt, List.getElem?_toArray, List.getElem?_cons_zero, List.getElem?_cons_succ, Option.getD_some]
              refine wpQuiet_nil ?_
              go_wp2_with (go_at_call 19; refine (same_yes O l8 lE _ HN8.out ((NV2.out.below HR.out.1).below HB8.out)).mono ?_; rintro e x3 ⟨rfl, hb9⟩; have HB9 := Lib.hid (HB8.out.trans (hb9.mono HB8.out.size)); clear hb9)
              refine ⟨⟨⟨_, HB9.out⟩, rfl⟩, ?_⟩
              try simp only [Act.put, List.setIfInBounds_toArray, List.set_cons_zero, List.set_cons_succ]
              rw [wpBl_nil]
              try simp only [List.map_cons, List.map_nil, opAt, List.getElem?_toArray, List.getElem?_cons_zero, List.getElem?_cons_succ, Option.getD_some]
              repeat (go_big_quiet_step (fail))
              refine wpQuiet_nil ?_
              go_wp2_with fail
              go_ret
              exact ⟨rfl, (BV2.out.trans (HR.out.1.mono BV2.out.size)).trans (HB9.out.mono (by have := BV2.out.size; have := HR.out.1.size; omega))⟩
        · go_wp2_with fail
          refine ⟨⟨⟨_, BY.out⟩, rfl⟩, ?_⟩
          try simp only [Act.put, List.setIfInBounds_toArray, List.set_cons_zero, List.set_cons_succ]
          rw [wpWays_one4]
          try simp only [List.map_cons, List.map_nil, opAt, List.getElem?_toArray, List.getElem?_cons_zero, List.getElem?_cons_succ, Option.getD_some]
          repeat (go_big_quiet_step (fail))
          refine wpQuiet_nil ?_
          go_wp2_with fail
          refine ⟨⟨⟨_, BY.out⟩, rfl⟩, ?_⟩
          try simp only [Act.put, List.setIfInBounds_toArray, List.set_cons_zero, List.set_cons_succ]
          rw [wpWays_one4]
          try simp only [List.map_cons, List.map_nil, opAt, List.getElem?_toArray, List.getElem?_cons_zero, List.getElem?_cons_succ, Option.getD_some]
          repeat (go_big_quiet_step (fail))
          clear HSK HSD y2 y3
          refine wpQuiet_nil ?_
          go_wp2_with fail
          refine ⟨⟨⟨_, bel_cell BY.out (Nat.le_refl _)⟩, rfl⟩, ?_⟩
          try simp only [Act.put, List.setIfInBounds_toArray, List.set_cons_zero, List.set_cons_succ]
          rw [wpWays_one4]
          try simp only [List.map_cons, List.map_nil, opAt, List.getElem?_toArray, List.getElem?_cons_zero, List.getElem?_cons_succ, Option.getD_some]
          repeat (go_big_quiet_step (fail))
          refine wpQuiet_nil ?_
          go_wp2_with fail
          refine ⟨⟨⟨_, bel_cell (bel_cell BY.out (Nat.le_refl _)) (Nat.le_refl _)⟩, rfl⟩, ?_⟩
          try simp only [Act.put, List.setIfInBounds_toArray, List.set_cons_zero, List.set_cons_succ]
          rw [wpWays_one4]
          try simp only [List.map_cons, List.map_nil, opAt, List.getElem?_toArray, List.getElem?_cons_zero, List.getElem?_cons_succ, Option.getD_some]
          repeat (go_big_quiet_step (fail))
          refine wpQuiet_nil ?_
          go_wp2_with fail
          refine ⟨⟨⟨_, bel_cell (bel_cell (bel_cell BY.out (Nat.le_refl _)) (Nat.le_refl _)) (Nat.le_refl _)⟩, rfl⟩, ?_⟩
          try simp only [Act.put, List.setIfInBounds_toArray, List.set_cons_zero, List.set_cons_succ]
          rw [wpWays_done4]
          try simp only [List.map_nil]
          refine wpQuiet_nil ?_
          go_upto_region 9 with fail
          try simp only [Act.put]
          clear z1 z2 z3 f1 f2 f3
          obtain ⟨g1, g2, g3⟩ := GG.out
          have g0 := HJY.out.1
          obtain ⟨V, hV⟩ : ∃ V, V = ((Y.setCell ⟨w.heap.size, 1, none⟩ (.slice none 0 0)).setCell ⟨w.heap.size, 2, none⟩ (.slice lD.KA q lD.kc)).setCell ⟨w.heap.size, 3, none⟩ (.slice lD.DA q lD.dc) := ⟨_, rfl⟩
          rw [← hV]
          have hi0 := box_ints (lf := D.leaf) ⟨lD.EA, D.es.length, lD.ec, rfl⟩ ⟨lD.KA, D.ks.length, lD.kc, rfl⟩ ⟨lD.DA, D.ds.length, lD.dc, rfl⟩
          have hi1 := box_ints (lf := D.leaf) ⟨none, 0, 0, rfl⟩ ⟨lD.KA, D.ks.length, lD.kc, rfl⟩ ⟨lD.DA, D.ds.length, lD.dc, rfl⟩
          have hi2 := box_ints (lf := D.leaf) ⟨none, 0, 0, rfl⟩ ⟨lD.KA, q, lD.kc, rfl⟩ ⟨lD.DA, D.ds.length, lD.dc, rfl⟩
          have hn2 := node_box (i := 3) (u := .slice lD.DA q lD.dc) g2 hi2 (node_box (i := 2) (u := .slice lD.KA q lD.kc) g1 hi1 (node_box (i := 1) (u := .slice none 0 0) g0 hi0 HJY.out.2.1))
          obtain ⟨E, hE⟩ : ∃ E : NodeD, E = ⟨false, [], D.ks.take q, D.ds.take q⟩ := ⟨_, rfl⟩
          obtain ⟨lE, hlE⟩ : ∃ lE : NdL, lE = ⟨none, 0, lD.KA, lD.kc, lD.DA, lD.dc⟩ := ⟨_, rfl⟩
          have hqk : (D.ks.take q).length = q := by rw [List.length_take, HQ.out]; omega
          have hqd : (D.ds.take q).length = q := by rw [List.length_take, HQ.out]; omega
          have GV : Hid (V.heap[w.heap.size]? = some (.cells #[.bool E.leaf, .slice lE.EA E.es.length lE.ec, .slice lE.KA E.ks.length lE.kc, .slice lE.DA E.ds.length lE.dc] 26 (0, 0))) := Lib.hid (by rw [hV, hE, hlE]; refine g3.trans ?_; dsimp only; rw [hqk, hqd, HJ.out.leaf]; rfl)
          have NV : Hid (NodeAt V E lE) := Lib.hid (by
            rw [← hV] at hn2
            rw [hE, hlE]
            exact { e := fun h => absurd rfl h, k := hn2.k.take q, d := hn2.d.take q, ec := Nat.le_refl _, kc := by show (D.ks.take q).length ≤ lD.kc; rw [hqk]; exact hq2, dc := by show (D.ds.take q).length ≤ lD.dc; rw [hqd]; exact hq3, em := Nat.zero_le _, km := hn2.km, dm := hn2.dm })
          have CE : Hid (cleanN E) := Lib.hid (by rw [hE]; exact ⟨rfl, by show (D.ks.take q).length = (D.ds.take q).length; rw [hqk, hqd]⟩)
          have hp4 : 2 ^ k ≤ 4 := by have : k ≤ 2 := by have := HM3.out; omega
                                     exact Nat.le_trans (Nat.pow_le_pow_right (by decide) this) (by decide)
          have ZE : Hid (E.size ≤ 10000000) := Lib.hid (by rw [hE]; show (D.ds.take q).length ≤ _; rw [hqd]; have h1 := HJ.out.ds; have h2 := Nat.mul_le_mul_left 2000000 hp4; have := HQ.out; omega)
          have LE : Hid (E.leaf = false) := Lib.hid (by rw [hE])
          have BV : Hid (Below w.heap.size w V) := Lib.hid (by rw [hV]; exact bel_cell (bel_cell (bel_cell HJY.out.2.2 (Nat.le_refl _)) (Nat.le_refl _)) (Nat.le_refl _))
          clear hV hn2 hi0 hi1 hi2 g0 g1 g2 g3 hE hlE hp4 hlt HJ HJY hqk hqd hq2 hq3 HQ
          have HFE := Lib.hid (fits_small CE.out (by have := ZE.out; omega))
          go_upto_region 10 with (first
            | (refine wpList_load_row rfl 26 (.tmp 2) rfl w.heap.size rfl 26 _ (0, 0) _ GV.out Try.underlying26 rfl (by kernel_rfl) ?_)
            | (go_at_call 10; refine (to_any E lE _ NV.out HFE.out.e HFE.out.k HFE.out.d).mono ?_; rintro e v1 ⟨l3, rfl, hn3, hb3⟩; have HN3 := Lib.hid hn3; have HB3 := Lib.hid hb3; clear hn3 hb3)
            | (go_at_call 21; refine (split_any E.size E l3 (Nat.le_refl _) CE.out (by have := ZE.out; omega) _ HN3.out).mono ?_; rintro e v2 ⟨A, c, ps, rfl, ho, hp, hs, hb4⟩; have HO := Lib.hid ho; have HP := Lib.hid hp; have HS := Lib.hid hs; have HB4 := Lib.hid (HB3.out.trans (hb4.mono HB3.out.size)); clear ho hp hs hb4))
          have GV2 := Lib.hid (row_stays GV.out HB4.out)
          have NV2 := Lib.hid (NV.out.below HB4.out)
          have BV2 : Hid (Below w.heap.size w v2) := Lib.hid (BV.out.trans (HB4.out.mono BV.out.size))
          clear GV NV BV HB4 HB3 HN3
          have d0 : v2.cell? ⟨w.heap.size, 0, none⟩ = some (.bool false) := by rw [← LE.out]; exact nd_cell GV2.out 0 _ rfl
          go_upto_region 12 with (refine wpList_store_row rfl 34 (.tmp 8) (.tmp 70) rfl v2.heap.size #[.bool false, .slice none 0 0, .slice none 0 0, .slice none 0 0] rfl rfl 34 #[.bool false, .slice none 0 0, .slice none 0 0, .slice none 0 0] (heap_alloc_new _ _) (by kernel_rfl) rfl (by simp [Value.oneCell']) ?_; rw [World.setRow_alloc_new])
          clear d0
          go_loopw [9] (fun i wr => ∃ (k : Nat) (O : NodeD) (lO : NdL), k ≤ ps.length ∧ i = .int .i64 k ∧ Hid (Below v2.heap.size v2 wr ∧ wr.heap[v2.heap.size]? = some (.cells #[.bool O.leaf, .slice lO.EA O.es.length lO.ec, .slice lO.KA O.ks.length lO.kc, .slice lO.DA O.ds.length lO.dc] 34 (0, 0)) ∧ NodeAt wr O lO ∧ O = ⟨false, [], (ps.take k).flatMap (fun p => p.1.ks), (ps.take k).flatMap (fun p => p.1.ds)⟩)) (fun i _ => ps.length - (intOf i).toNat)
          case atStart => exact ⟨0, ⟨false, [], [], []⟩, ⟨none, 0, none, 0, none, 0⟩, Nat.zero_le _, rfl, Lib.hid ⟨(Below.refl _ _).alloc (Nat.le_refl _) _, heap_alloc_new _ _, { e := fun h => absurd rfl h, k := fun h => absurd rfl h, d := fun h => absurd rfl h, ec := Nat.le_refl _, kc := Nat.le_refl _, dc := Nat.le_refl _, em := Nat.zero_le _, km := Nat.zero_le _, dm := Nat.zero_le _ }, by simp⟩⟩
          case round =>
            obtain ⟨k, O, lO, hk, rfl, HR⟩ := hrel
            have hpl : ps.length ≤ 10000000 := by have h1 := HS.out.cnt; rw [List.length_map] at h1; have := ZE.out; omega
            by_cases hlt : k < ps.length
            · obtain ⟨p, hpk⟩ : ∃ p, ps[k]? = some p := ⟨_, List.getElem?_eq_getElem hlt⟩
              have hpm : p ∈ ps := List.mem_of_getElem? hpk
              have hpd : p.1 ∈ ps.map Prod.fst := List.mem_map_of_mem hpm
              obtain ⟨gA, hA, _, hcA⟩ := row_cells HO.out (by intro e; have := congrArg List.length e; rw [flatV_len lenNdP] at this; simp at this; omega)
              subst hA
              have e0 := (HR.out.1.cell (World.block_lt_of_cell? _ _ (hcA (k * 4 + 0) _ (flat_get lenNdP ps k p 0 _ hpk rfl)))).trans (hcA (k * 4 + 0) _ (flat_get lenNdP ps k p 0 _ hpk rfl))
              have e1 := (HR.out.1.cell (World.block_lt_of_cell? _ _ (hcA (k * 4 + 1) _ (flat_get lenNdP ps k p 1 _ hpk rfl)))).trans (hcA (k * 4 + 1) _ (flat_get lenNdP ps k p 1 _ hpk rfl))
              have e2 := (HR.out.1.cell (World.block_lt_of_cell? _ _ (hcA (k * 4 + 2) _ (flat_get lenNdP ps k p 2 _ hpk rfl)))).trans (hcA (k * 4 + 2) _ (flat_get lenNdP ps k p 2 _ hpk rfl))
              have e3 := (HR.out.1.cell (World.block_lt_of_cell? _ _ (hcA (k * 4 + 3) _ (flat_get lenNdP ps k p 3 _ hpk rfl)))).trans (hcA (k * 4 + 3) _ (flat_get lenNdP ps k p 3 _ hpk rfl))
              rw [Nat.add_zero] at e0
              have E0 := Lib.hid e0
              have E1 := Lib.hid e1
              have E2 := Lib.hid e2
              have E3 := Lib.hid e3
              have HPK := Lib.hid hpk
              have HOP := Lib.hid ((HP.out p hpm).below HR.out.1)
              have HKD := Lib.hid (HS.out.kind p.1 hpd)
              obtain ⟨s, hs⟩ : ∃ s, p.1.size = s := ⟨_, rfl⟩
              have HSZ : Hid (∀ W', Calls Try.prog 15 #[.agg #[.bool p.1.leaf, .slice p.2.EA p.1.es.length p.2.ec, .slice p.2.KA p.1.ks.length p.2.kc, .slice p.2.DA p.1.ds.length p.2.dc]] W' fun e w' => e = .returned (.int .i64 (s : Int)) ∧ Below W'.heap.size W' w') := Lib.hid (fun W' => by have := size_any p.1 p.2 W'; rw [hs] at this; exact this)
              have hs1 : 1 ≤ s ∧ s ≤ 16 := by have h1 := HKD.out.2.2; rw [hs] at h1; rw [LE.out] at h1; exact h1
              have hs3 : 0 < k → 8 ≤ s := fun h0 => by
                have hbig : capN E.leaf < E.size := by
                  rcases Nat.lt_or_ge (capN E.leaf) E.size with h | h
                  · exact h
                  · exfalso
                    rcases Nat.eq_zero_or_pos E.size with h1 | h1
                    · have := HS.out.none h1
                      have h9 := congrArg List.length this
                      simp at h9
                      rw [h9] at hlt
                      simp at hlt
                    · have := HS.out.one h1 h
                      have h9 := congrArg List.length this
                      simp at h9
                      omega
                have h2 := HS.out.big hbig p.1 hpd
                rw [hs, LE.out] at h2
                exact h2
              clear hcA hpk hpm hpd hs
              go_upto_region 15 with (go_at_call 15; refine (HSZ.out _).mono ?_; rintro e x1 ⟨rfl, hb5⟩; have HB5 := Lib.hid hb5; clear hb5)
              clear e0 e1 e2 e3
              have HB5b := Lib.hid (HR.out.1.trans (HB5.out.mono HR.out.1.size))
              have c0 : x1.cell? ⟨w.heap.size, 0, none⟩ = some (.bool false) := by rw [← LE.out]; exact nd_cell (row_stays GV2.out HB5b.out) 0 _ rfl
              have r1 : decide ((s : Int) < 1) = false := by simp; omega
              have r2 : decide ((16 : Int) < (s : Int)) = false := by simp; omega
              have rr : (decide ((0 : Int) < (k : Int)) = false ∧ decide (0 < k) = false) ∨ (decide ((0 : Int) < (k : Int)) = true ∧ decide (0 < k) = true) ∧ decide ((s : Int) < 8) = false := by
                rcases Nat.eq_zero_or_pos k with h | h
                · left; constructor <;> simp <;> omega
                · right; have := hs3 h; exact ⟨by constructor <;> simp <;> omega, by simp; omega⟩
              clear hs1 hs3
              have HLJ : Hid ((⟨false, [], (ps.take (k + 1)).flatMap (fun p => p.1.ks), (ps.take (k + 1)).flatMap (fun p => p.1.ds)⟩ : NodeD) = joinD O p.1 ∧ O.es.length + p.1.es.length ≤ 1000000000 ∧ O.ks.length + p.1.ks.length ≤ 1000000000 ∧ O.ds.length + p.1.ds.length ≤ 1000000000) := Lib.hid (by
                have hO := HR.out.2.2.2
                have g1 := gat (·.es) ps _ HS.out.es k p HPK.out
                have g2 := gat (·.ks) ps _ HS.out.ks k p HPK.out
                have g3 := gat (·.ds) ps _ HS.out.ds k p HPK.out
                have hz := ZE.out
                have hE := clean_inner CE.out LE.out
                have h3 : E.ds.length ≤ 10000000 := by rw [hE.1] at hz; exact hz
                have h2 := hE.2
                have h1 : E.es.length = 0 := by rw [hE.1]; rfl
                have o1 : O.es.length = 0 := by rw [hO]; rfl
                have o2 : O.ks.length = ((ps.take k).flatMap (fun p => p.1.ks)).length := by rw [hO]
                have o3 : O.ds.length = ((ps.take k).flatMap (fun p => p.1.ds)).length := by rw [hO]
                refine ⟨?_, by omega, by omega, by omega⟩
                rw [hO]
                simp [joinD, g2.1, g3.1])
              obtain ⟨J, hJ⟩ : ∃ J : NodeD, J = ⟨false, [], (ps.take (k + 1)).flatMap (fun p => p.1.ks), (ps.take (k + 1)).flatMap (fun p => p.1.ds)⟩ := ⟨_, rfl⟩
              rw [← hJ] at HLJ
              have HJJ := Lib.hid hJ
              clear hJ
              clear HPK HSZ HKD
              rcases rr with ⟨r3, r5⟩ | ⟨⟨r3, r5⟩, r4⟩
              all_goals
                go_upto_region 17 with fail
                clear c0 r1 r2 r3 r5
                have f8 : Hid (∀ y : SubW x1.heap.size x1, y.at_.heap[v2.heap.size]? = some (.cells #[.bool O.leaf, .slice lO.EA O.es.length lO.ec, .slice lO.KA O.ks.length lO.kc, .slice lO.DA O.ds.length lO.dc] 34 (0, 0))) := Lib.hid (fun y => row_stays (row_stays HR.out.2.1 HB5.out) y.ok_)
                have k0 : ∀ y : SubW x1.heap.size x1, y.at_.cell? ⟨gA, k * 4, none⟩ = some (.bool p.1.leaf) := fun y => ((HB5.out.trans (y.ok_.mono HB5.out.size)).cell (World.block_lt_of_cell? _ _ E0.out)).trans E0.out
                have k1 : ∀ y : SubW x1.heap.size x1, y.at_.cell? ⟨gA, k * 4 + 1, none⟩ = some (.slice p.2.EA p.1.es.length p.2.ec) := fun y => ((HB5.out.trans (y.ok_.mono HB5.out.size)).cell (World.block_lt_of_cell? _ _ E1.out)).trans E1.out
                have k2 : ∀ y : SubW x1.heap.size x1, y.at_.cell? ⟨gA, k * 4 + 2, none⟩ = some (.slice p.2.KA p.1.ks.length p.2.kc) := fun y => ((HB5.out.trans (y.ok_.mono HB5.out.size)).cell (World.block_lt_of_cell? _ _ E2.out)).trans E2.out
                have k3 : ∀ y : SubW x1.heap.size x1, y.at_.cell? ⟨gA, k * 4 + 3, none⟩ = some (.slice p.2.DA p.1.ds.length p.2.dc) := fun y => ((HB5.out.trans (y.ok_.mono HB5.out.size)).cell (World.block_lt_of_cell? _ _ E3.out)).trans E3.out
                refine region_waysT 6 x1.heap.size (Nat.le_refl _) (.one [0, 1, 2, 3, 4] 5 (.done [])) (by kernel_rfl) (by kernel_rfl) ?_
                rintro wd hbd
                have BD := Lib.hid (HB5.out.trans (hbd.mono HB5.out.size))
                have BD1 := Lib.hid hbd
                clear hbd
                rw [wpWaysT_one]
                try simp only [List.map_cons, List.map_nil, opAt, List.getElem?_toArray, List.getElem?_cons_zero, List.getElem?_cons_succ, Option.getD_some]
                repeat (first
                  | (go_big_quiet_want; refine quiet_load_row 34 (.tmp 8) rfl v2.heap.size rfl 34 _ (0, 0) _ f8.out Try.underlying34 rfl (by kernel_rfl) ?_; simp only [Act.put, List.setIfInBounds_toArray, List.set_cons_zero, List.set_cons_succ]; go_big_quiet_on)
                  | go_big_quiet_step (fail))
                clear k0 k1 k2 k3
                refine wpQuiet_nil ?_
                go_wp2_with (go_at_call 22; refine (join_any O p.1 lO p.2 _ (HR.out.2.2.1.below BD.out) (HOP.out.at.below BD.out) HLJ.out.2.1 HLJ.out.2.2.1 HLJ.out.2.2.2).mono ?_; rw [← HLJ.out.1]; rintro e x2 ⟨⟨lJ, rfl, hnj⟩, hb6⟩; have HNJ := Lib.hid hnj; have HB61 := Lib.hid (BD1.out.trans (hb6.mono BD1.out.size)); have HB6 := Lib.hid (BD.out.trans (hb6.mono BD.out.size)); clear hnj hb6)
                refine ⟨⟨⟨_, HB61.out⟩, rfl⟩, ?_⟩
                rw [wpWaysT_done]
                simp only [List.map_nil, List.drop_succ_cons, List.drop_zero]
                refine wpQuiet_nil ?_
                have hold := row_stays HR.out.2.1 (HB6.out)
                have hbr := HR.out.1.trans (HB6.out.mono HR.out.1.size)
                go_wp2_with (refine wpList_store_row rfl 34 (.tmp 8) (.tmp 127) rfl v2.heap.size #[.bool J.leaf, .slice lJ.EA J.es.length lJ.ec, .slice lJ.KA J.ks.length lJ.kc, .slice lJ.DA J.ds.length lJ.dc] rfl rfl 34 _ hold (by kernel_rfl) rfl (by simp [Value.oneCell']) ?_)
                go_roundw
                case rel => exact ⟨k + 1, J, lJ, by omega, by go_num, Lib.hid ⟨below_setRow hbr (Nat.le_refl _) _, setRow_heap _ _ _ _ _ _ hold, NodeAt.off hold (box_ints ⟨_, _, _, rfl⟩ ⟨_, _, _, rfl⟩ ⟨_, _, _, rfl⟩) (fun b hb => setRow_other _ _ _ _ hb) HNJ.out, HJJ.out⟩⟩
                case measure => first | (simp [intOf]; done) | (simp [intOf]; omega)
            · obtain rfl : k = ps.length := by omega
              have hOE : O = E := by
                have hO := HR.out.2.2.2
                have g1 := gat_all (·.es) ps _ HS.out.es ps.length rfl
                have g2 := gat_all (·.ks) ps _ HS.out.ks ps.length rfl
                have g3 := gat_all (·.ds) ps _ HS.out.ds ps.length rfl
                rw [hO, g2, g3]
                exact (clean_inner CE.out LE.out).1.symm
              subst hOE
              go_upto_region 18 with fail
              have f8 : Hid (∀ y : SubW wr.heap.size wr, y.at_.heap[v2.heap.size]? = some (.cells #[.bool O.leaf, .slice lO.EA O.es.length lO.ec, .slice lO.KA O.ks.length lO.kc, .slice lO.DA O.ds.length lO.dc] 34 (0, 0))) := Lib.hid (fun y => row_stays HR.out.2.1 y.ok_)
              have f2 : Hid (∀ y : SubW wr.heap.size wr, y.at_.heap[w.heap.size]? = some (.cells #[.bool O.leaf, .slice lE.EA O.es.length lE.ec, .slice lE.KA O.ks.length lE.kc, .slice lE.DA O.ds.length lE.dc] 26 (0, 0))) := Lib.hid (fun y => row_stays (row_stays GV2.out HR.out.1) y.ok_)
              refine region_overB wr.heap.size (Nat.le_refl _) [([], 0), ([1, 2, 4], 3), ([], 5)] [6, 7] (by kernel_rfl) (by kernel_rfl) ?_
              rintro wd hbd
              rw [wpBl_cons]
              try simp only [List.map_cons, List.map_nil, opAt, List.getElem?_toArray, List.getElem?_cons_zero, List.getElem?_cons_succ, Option.getD_some]
              refine wpQuiet_nil ?_
              go_wp2_with (go_at_call 12; refine (ndputs_any _).mono ?_; rintro e x1 ⟨rfl, hb5⟩)
              have HB5 := Lib.hid (hbd.trans (hb5.mono hbd.size))
              clear hbd hb5
              refine ⟨⟨⟨_, HB5.out⟩, rfl⟩, ?_⟩
              rw [wpBl_cons]
              try simp only [List.map_cons, List.map_nil, opAt, List.getElem?_toArray, List.getElem?_cons_zero, List.getElem?_cons_succ, Option.getD_some]
              repeat (first
                | (go_big_quiet_want; refine quiet_load_row 34 (.tmp 8) rfl v2.heap.size rfl 34 _ (0, 0) _ f8.out Try.underlying34 rfl (by kernel_rfl) ?_; simp only [Act.put, List.setIfInBounds_toArray, List.set_cons_zero, List.set_cons_succ]; go_big_quiet_on)
                | (go_big_quiet_want; refine quiet_load_row 26 (.tmp 2) rfl w.heap.size rfl 26 _ (0, 0) _ f2.out Try.underlying26 rfl (by kernel_rfl) ?_; simp only [Act.put, List.setIfInBounds_toArray, List.set_cons_zero, List.set_cons_succ]; go_big_quiet_on)
                | go_big_quiet_step (fail))
              refine wpQuiet_nil ?_
              go_wp2_with (go_at_call 20; refine (from_any O lO _ (HR.out.2.2.1.below HB5.out) HFE.out.e HFE.out.k HFE.out.d).mono ?_; rintro e x2 ⟨l8, rfl, hn8, hb8⟩; have HN8 := Lib.hid hn8; have HB8 := Lib.hid (HB5.out.trans (hb8.mono HB5.out.size)); clear hn8 hb8)
              refine ⟨⟨⟨_, HB8.out⟩, rfl⟩, ?_⟩
              rw [wpBl_cons]
              try simp only [List.map_cons, List.map_nil, opAt, List.getElem?_toArray, List.getElem?_cons_zero, List.getElem?_cons_succ, Option.getD_some]
              refine wpQuiet_nil ?_
              go_wp2_with (go_at_call 19; refine (same_yes O l8 lE _ HN8.out ((NV2.out.below HR.out.1).below HB8.out)).mono ?_; rintro e x3 ⟨rfl, hb9⟩; have HB9 := Lib.hid (HB8.out.trans (hb9.mono HB8.out.size)); clear hb9)
              refine ⟨⟨⟨_, HB9.out⟩, rfl⟩, ?_⟩
              try simp only [Act.put, List.setIfInBounds_toArray, List.set_cons_zero, List.set_cons_succ]
              rw [wpBl_nil]
              try simp only [List.map_cons, List.map_nil, opAt, List.getElem?_toArray, List.getElem?_cons_zero, List.getElem?_cons_succ, Option.getD_some]
              repeat (go_big_quiet_step (fail))
              refine wpQuiet_nil ?_
              go_wp2_with fail
              go_ret
              exact ⟨rfl, (BV2.out.trans (HR.out.1.mono BV2.out.size)).trans (HB9.out.mono (by have := BV2.out.size; have := HR.out.1.size; omega))⟩
      · as_aux_lemma =>
        have g0 := HJ.out.box
        have z2 := nd_cell g0 2 _ rfl
        simp only [List.getElem_toArray, List.getElem_cons_zero, List.getElem_cons_succ] at z2
        have f2 : wr.frozen? ⟨w.heap.size, 2, none⟩ = false := nd_frozen g0
        have g1 := heap_setCell_same wr w.heap.size 2 _ _ (.slice none 0 0) g0
        have z3 := nd_cell g1 3 (.slice lD.DA D.ds.length lD.dc) rfl
        have f3 : (wr.setCell ⟨w.heap.size, 2, none⟩ (.slice none 0 0)).frozen? ⟨w.heap.size, 3, none⟩ = false := nd_frozen g1
        have g2 := heap_setCell_same _ w.heap.size 3 _ _ (.slice none 0 0) g1
        have hlt := HJ.out.lt
        go_upto_region 9 with fail
        try simp only [Act.put]
        clear z2 z3 f2 f3 c0
        obtain ⟨V, hV⟩ : ∃ V, V = (wr.setCell ⟨w.heap.size, 2, none⟩ (.slice none 0 0)).setCell ⟨w.heap.size, 3, none⟩ (.slice none 0 0) := ⟨_, rfl⟩
        rw [← hV]
        have hi0 := box_ints (lf := D.leaf) ⟨lD.EA, D.es.length, lD.ec, rfl⟩ ⟨lD.KA, D.ks.length, lD.kc, rfl⟩ ⟨lD.DA, D.ds.length, lD.dc, rfl⟩
        have hi1 := box_ints (lf := D.leaf) ⟨lD.EA, D.es.length, lD.ec, rfl⟩ ⟨none, 0, 0, rfl⟩ ⟨lD.DA, D.ds.length, lD.dc, rfl⟩
        have hn2 := node_box (i := 3) (u := .slice none 0 0) g1 hi1 (node_box (i := 2) (u := .slice none 0 0) g0 hi0 HJ.out.at_)
        obtain ⟨E, hE⟩ : ∃ E : NodeD, E = ⟨true, D.es, [], []⟩ := ⟨_, rfl⟩
        obtain ⟨lE, hlE⟩ : ∃ lE : NdL, lE = ⟨lD.EA, lD.ec, none, 0, none, 0⟩ := ⟨_, rfl⟩
        have GV : Hid (V.heap[w.heap.size]? = some (.cells #[.bool E.leaf, .slice lE.EA E.es.length lE.ec, .slice lE.KA E.ks.length lE.kc, .slice lE.DA E.ds.length lE.dc] 26 (0, 0))) := Lib.hid (by rw [hV, hE, hlE]; refine g2.trans ?_; rw [HJ.out.leaf]; rfl)
        have NV : Hid (NodeAt V E lE) := Lib.hid (by
          rw [← hV] at hn2
          rw [hE, hlE]
          exact { e := hn2.e, k := fun h => absurd rfl h, d := fun h => absurd rfl h, ec := hn2.ec, kc := Nat.le_refl _, dc := Nat.le_refl _, em := hn2.em, km := Nat.zero_le _, dm := Nat.zero_le _ })
        have CE : Hid (cleanN E) := Lib.hid (by rw [hE]; exact ⟨rfl, rfl⟩)
        have hp4 : 2 ^ k ≤ 4 := by have : k ≤ 2 := by have := HM3.out; omega
                                   exact Nat.le_trans (Nat.pow_le_pow_right (by decide) this) (by decide)
        have ZE : Hid (E.size ≤ 10000000) := Lib.hid (by rw [hE]; show D.es.length ≤ _; have h1 := HJ.out.es; have h2 := Nat.mul_le_mul_left 2000000 hp4; omega)
        have LE : Hid (E.leaf = true) := Lib.hid (by rw [hE])
        have BV : Hid (Below w.heap.size w V) := Lib.hid (by rw [hV]; exact bel_cell (bel_cell HJ.out.bel (Nat.le_refl _)) (Nat.le_refl _))
        clear hV hn2 hi0 hi1 g0 g1 g2 hE hlE hp4 hlt HJ
        have HFE := Lib.hid (fits_small CE.out (by have := ZE.out; omega))
        go_upto_region 10 with (first
          | (refine wpList_load_row rfl 26 (.tmp 2) rfl w.heap.size rfl 26 _ (0, 0) _ GV.out Try.underlying26 rfl (by kernel_rfl) ?_)
          | (go_at_call 10; refine (to_any E lE _ NV.out HFE.out.e HFE.out.k HFE.out.d).mono ?_; rintro e v1 ⟨l3, rfl, hn3, hb3⟩; have HN3 := Lib.hid hn3; have HB3 := Lib.hid hb3; clear hn3 hb3)
          | (go_at_call 21; refine (split_any E.size E l3 (Nat.le_refl _) CE.out (by have := ZE.out; omega) _ HN3.out).mono ?_; rintro e v2 ⟨A, c, ps, rfl, ho, hp, hs, hb4⟩; have HO := Lib.hid ho; have HP := Lib.hid hp; have HS := Lib.hid hs; have HB4 := Lib.hid (HB3.out.trans (hb4.mono HB3.out.size)); clear ho hp hs hb4))
        have GV2 := Lib.hid (row_stays GV.out HB4.out)
        have NV2 := Lib.hid (NV.out.below HB4.out)
        have BV2 : Hid (Below w.heap.size w v2) := Lib.hid (BV.out.trans (HB4.out.mono BV.out.size))
        clear GV NV BV HB4 HB3 HN3
        have d0 : v2.cell? ⟨w.heap.size, 0, none⟩ = some (.bool true) := by rw [← LE.out]; exact nd_cell GV2.out 0 _ rfl
        go_upto_region 12 with (refine wpList_store_row rfl 34 (.tmp 8) (.tmp 70) rfl v2.heap.size #[.bool true, .slice none 0 0, .slice none 0 0, .slice none 0 0] rfl rfl 34 #[.bool false, .slice none 0 0, .slice none 0 0, .slice none 0 0] (heap_alloc_new _ _) (by kernel_rfl) rfl (by simp [Value.oneCell']) ?_; rw [World.setRow_alloc_new])
        clear d0
        go_loopw [9] (fun i wr => ∃ (k : Nat) (O : NodeD) (lO : NdL), k ≤ ps.length ∧ i = .int .i64 k ∧ Hid (Below v2.heap.size v2 wr ∧ wr.heap[v2.heap.size]? = some (.cells #[.bool O.leaf, .slice lO.EA O.es.length lO.ec, .slice lO.KA O.ks.length lO.kc, .slice lO.DA O.ds.length lO.dc] 34 (0, 0)) ∧ NodeAt wr O lO ∧ O = ⟨true, (ps.take k).flatMap (fun p => p.1.es), [], []⟩)) (fun i _ => ps.length - (intOf i).toNat)
        case atStart => exact ⟨0, ⟨true, [], [], []⟩, ⟨none, 0, none, 0, none, 0⟩, Nat.zero_le _, rfl, Lib.hid ⟨(Below.refl _ _).alloc (Nat.le_refl _) _, heap_alloc_new _ _, { e := fun h => absurd rfl h, k := fun h => absurd rfl h, d := fun h => absurd rfl h, ec := Nat.le_refl _, kc := Nat.le_refl _, dc := Nat.le_refl _, em := Nat.zero_le _, km := Nat.zero_le _, dm := Nat.zero_le _ }, by simp⟩⟩
        case round =>
          obtain ⟨k, O, lO, hk, rfl, HR⟩ := hrel
          have hpl : ps.length ≤ 10000000 := by have h1 := HS.out.cnt; rw [List.length_map] at h1; have := ZE.out; omega
          by_cases hlt : k < ps.length
          · obtain ⟨p, hpk⟩ : ∃ p, ps[k]? = some p := ⟨_, List.getElem?_eq_getElem hlt⟩
            have hpm : p ∈ ps := List.mem_of_getElem? hpk
            have hpd : p.1 ∈ ps.map Prod.fst := List.mem_map_of_mem hpm
            obtain ⟨gA, hA, _, hcA⟩ := row_cells HO.out (by intro e; have := congrArg List.length e; rw [flatV_len lenNdP] at this; simp at this; omega)
            subst hA
            have e0 := (HR.out.1.cell (World.block_lt_of_cell? _ _ (hcA (k * 4 + 0) _ (flat_get lenNdP ps k p 0 _ hpk rfl)))).trans (hcA (k * 4 + 0) _ (flat_get lenNdP ps k p 0 _ hpk rfl))
            have e1 := (HR.out.1.cell (World.block_lt_of_cell? _ _ (hcA (k * 4 + 1) _ (flat_get lenNdP ps k p 1 _ hpk rfl)))).trans (hcA (k * 4 + 1) _ (flat_get lenNdP ps k p 1 _ hpk rfl))
            have e2 := (HR.out.1.cell (World.block_lt_of_cell? _ _ (hcA (k * 4 + 2) _ (flat_get lenNdP ps k p 2 _ hpk rfl)))).trans (hcA (k * 4 + 2) _ (flat_get lenNdP ps k p 2 _ hpk rfl))
            have e3 := (HR.out.1.cell (World.block_lt_of_cell? _ _ (hcA (k * 4 + 3) _ (flat_get lenNdP ps k p 3 _ hpk rfl)))).trans (hcA (k * 4 + 3) _ (flat_get lenNdP ps k p 3 _ hpk rfl))
            rw [Nat.add_zero] at e0
            have E0 := Lib.hid e0
            have E1 := Lib.hid e1
            have E2 := Lib.hid e2
            have E3 := Lib.hid e3
            have HPK := Lib.hid hpk
            have HOP := Lib.hid ((HP.out p hpm).below HR.out.1)
            have HKD := Lib.hid (HS.out.kind p.1 hpd)
            obtain ⟨s, hs⟩ : ∃ s, p.1.size = s := ⟨_, rfl⟩
            have HSZ : Hid (∀ W', Calls Try.prog 15 #[.agg #[.bool p.1.leaf, .slice p.2.EA p.1.es.length p.2.ec, .slice p.2.KA p.1.ks.length p.2.kc, .slice p.2.DA p.1.ds.length p.2.dc]] W' fun e w' => e = .returned (.int .i64 (s : Int)) ∧ Below W'.heap.size W' w') := Lib.hid (fun W' => by have := size_any p.1 p.2 W'; rw [hs] at this; exact this)
            have hs1 : 1 ≤ s ∧ s ≤ 7 := by have h1 := HKD.out.2.2; rw [hs] at h1; rw [LE.out] at h1; exact h1
            have hs3 : 0 < k → 3 ≤ s := fun h0 => by
              have hbig : capN E.leaf < E.size := by
                rcases Nat.lt_or_ge (capN E.leaf) E.size with h | h
                · exact h
                · exfalso
                  rcases Nat.eq_zero_or_pos E.size with h1 | h1
                  · have := HS.out.none h1
                    have h9 := congrArg List.length this
                    simp at h9
                    rw [h9] at hlt
                    simp at hlt
                  · have := HS.out.one h1 h
                    have h9 := congrArg List.length this
                    simp at h9
                    omega
              have h2 := HS.out.big hbig p.1 hpd
              rw [hs, LE.out] at h2
              exact h2
            clear hcA hpk hpm hpd hs
            go_upto_region 15 with (go_at_call 15; refine (HSZ.out _).mono ?_; rintro e x1 ⟨rfl, hb5⟩; have HB5 := Lib.hid hb5; clear hb5)
            clear e0 e1 e2 e3
            have HB5b := Lib.hid (HR.out.1.trans (HB5.out.mono HR.out.1.size))
            have c0 : x1.cell? ⟨w.heap.size, 0, none⟩ = some (.bool true) := by rw [← LE.out]; exact nd_cell (row_stays GV2.out HB5b.out) 0 _ rfl
            have r1 : decide ((s : Int) < 1) = false := by simp; omega
            have r2 : decide ((7 : Int) < (s : Int)) = false := by simp; omega
            have rr : (decide ((0 : Int) < (k : Int)) = false ∧ decide (0 < k) = false) ∨ (decide ((0 : Int) < (k : Int)) = true ∧ decide (0 < k) = true) ∧ decide ((s : Int) < 3) = false := by
              rcases Nat.eq_zero_or_pos k with h | h
              · left; constructor <;> simp <;> omega
              · right; have := hs3 h; exact ⟨by constructor <;> simp <;> omega, by simp; omega⟩
            clear hs1 hs3
            have HLJ : Hid ((⟨true, (ps.take (k + 1)).flatMap (fun p => p.1.es), [], []⟩ : NodeD) = joinD O p.1 ∧ O.es.length + p.1.es.length ≤ 1000000000 ∧ O.ks.length + p.1.ks.length ≤ 1000000000 ∧ O.ds.length + p.1.ds.length ≤ 1000000000) := Lib.hid (by
              have hO := HR.out.2.2.2
              have g1 := gat (·.es) ps _ HS.out.es k p HPK.out
              have g2 := gat (·.ks) ps _ HS.out.ks k p HPK.out
              have g3 := gat (·.ds) ps _ HS.out.ds k p HPK.out
              have hz := ZE.out
              have hE := clean_leaf CE.out LE.out
              have h1 : E.es.length ≤ 10000000 := by rw [hE] at hz; exact hz
              have h2 : E.ks.length = 0 := by rw [hE]; rfl
              have h3 : E.ds.length = 0 := by rw [hE]; rfl
              have o1 : O.es.length = ((ps.take k).flatMap (fun p => p.1.es)).length := by rw [hO]
              have o2 : O.ks.length = 0 := by rw [hO]; rfl
              have o3 : O.ds.length = 0 := by rw [hO]; rfl
              refine ⟨?_, by omega, by omega, by omega⟩
              rw [hO]
              simp [joinD, g1.1])
            obtain ⟨J, hJ⟩ : ∃ J : NodeD, J = ⟨true, (ps.take (k + 1)).flatMap (fun p => p.1.es), [], []⟩ := ⟨_, rfl⟩
            rw [← hJ] at HLJ
            have HJJ := Lib.hid hJ
            clear hJ
            clear HPK HSZ HKD
            rcases rr with ⟨r3, r5⟩ | ⟨⟨r3, r5⟩, r4⟩
            all_goals
              go_upto_region 17 with fail
              clear c0 r1 r2 r3 r5
              have f8 : Hid (∀ y : SubW x1.heap.size x1, y.at_.heap[v2.heap.size]? = some (.cells #[.bool O.leaf, .slice lO.EA O.es.length lO.ec, .slice lO.KA O.ks.length lO.kc, .slice lO.DA O.ds.length lO.dc] 34 (0, 0))) := Lib.hid (fun y => row_stays (row_stays HR.out.2.1 HB5.out) y.ok_)
              have k0 : ∀ y : SubW x1.heap.size x1, y.at_.cell? ⟨gA, k * 4, none⟩ = some (.bool p.1.leaf) := fun y => ((HB5.out.trans (y.ok_.mono HB5.out.size)).cell (World.block_lt_of_cell? _ _ E0.out)).trans E0.out
              have k1 : ∀ y : SubW x1.heap.size x1, y.at_.cell? ⟨gA, k * 4 + 1, none⟩ = some (.slice p.2.EA p.1.es.length p.2.ec) := fun y => ((HB5.out.trans (y.ok_.mono HB5.out.size)).cell (World.block_lt_of_cell? _ _ E1.out)).trans E1.out
              have k2 : ∀ y : SubW x1.heap.size x1, y.at_.cell? ⟨gA, k * 4 + 2, none⟩ = some (.slice p.2.KA p.1.ks.length p.2.kc) := fun y => ((HB5.out.trans (y.ok_.mono HB5.out.size)).cell (World.block_lt_of_cell? _ _ E2.out)).trans E2.out
              have k3 : ∀ y : SubW x1.heap.size x1, y.at_.cell? ⟨gA, k * 4 + 3, none⟩ = some (.slice p.2.DA p.1.ds.length p.2.dc) := fun y => ((HB5.out.trans (y.ok_.mono HB5.out.size)).cell (World.block_lt_of_cell? _ _ E3.out)).trans E3.out
              refine region_waysT 6 x1.heap.size (Nat.le_refl _) (.one [0, 1, 2, 3, 4] 5 (.done [])) (by kernel_rfl) (by kernel_rfl) ?_
              rintro wd hbd
              have BD := Lib.hid (HB5.out.trans (hbd.mono HB5.out.size))
              have BD1 := Lib.hid hbd
              clear hbd
              rw [wpWaysT_one]
              try simp only [List.map_cons, List.map_nil, opAt, List.getElem?_toArray, List.getElem?_cons_zero, List.getElem?_cons_succ, Option.getD_some]
              repeat (first
                | (go_big_quiet_want; refine quiet_load_row 34 (.tmp 8) rfl v2.heap.size rfl 34 _ (0, 0) _ f8.out Try.underlying34 rfl (by kernel_rfl) ?_; simp only [Act.put, List.setIfInBounds_toArray, List.set_cons_zero, List.set_cons_succ]; go_big_quiet_on)
                | go_big_quiet_step (fail))
              clear k0 k1 k2 k3
              refine wpQuiet_nil ?_
              go_wp2_with (go_at_call 22; refine (join_any O p.1 lO p.2 _ (HR.out.2.2.1.below BD.out) (HOP.out.at.below BD.out) HLJ.out.2.1 HLJ.out.2.2.1 HLJ.out.2.2.2).mono ?_; rw [← HLJ.out.1]; rintro e x2 ⟨⟨lJ, rfl, hnj⟩, hb6⟩; have HNJ := Lib.hid hnj; have HB61 := Lib.hid (BD1.out.trans (hb6.mono BD1.out.size)); have HB6 := Lib.hid (BD.out.trans (hb6.mono BD.out.size)); clear hnj hb6)
              refine ⟨⟨⟨_, HB61.out⟩, rfl⟩, ?_⟩
              rw [wpWaysT_done]
              simp only [List.map_nil, List.drop_succ_cons, List.drop_zero]
              refine wpQuiet_nil ?_
              have hold := row_stays HR.out.2.1 (HB6.out)
              have hbr := HR.out.1.trans (HB6.out.mono HR.out.1.size)
              go_wp2_with (refine wpList_store_row rfl 34 (.tmp 8) (.tmp 127) rfl v2.heap.size #[.bool J.leaf, .slice lJ.EA J.es.length lJ.ec, .slice lJ.KA J.ks.length lJ.kc, .slice lJ.DA J.ds.length lJ.dc] rfl rfl 34 _ hold (by kernel_rfl) rfl (by simp [Value.oneCell']) ?_)
              go_roundw
              case rel => exact ⟨k + 1, J, lJ, by omega, by go_num, Lib.hid ⟨below_setRow hbr (Nat.le_refl _) _, setRow_heap _ _ _ _ _ _ hold, NodeAt.off hold (box_ints ⟨_, _, _, rfl⟩ ⟨_, _, _, rfl⟩ ⟨_, _, _, rfl⟩) (fun b hb => setRow_other _ _ _ _ hb) HNJ.out, HJJ.out⟩⟩
              case measure => first | (simp [intOf]; done) | (simp [intOf]; omega)
          · obtain rfl : k = ps.length := by omega
            have hOE : O = E := by
              have hO := HR.out.2.2.2
              have g1 := gat_all (·.es) ps _ HS.out.es ps.length rfl
              have g2 := gat_all (·.ks) ps _ HS.out.ks ps.length rfl
              have g3 := gat_all (·.ds) ps _ HS.out.ds ps.length rfl
              rw [hO, g1]
              exact (clean_leaf CE.out LE.out).symm
            subst hOE
            go_upto_region 18 with fail
            have f8 : Hid (∀ y : SubW wr.heap.size wr, y.at_.heap[v2.heap.size]? = some (.cells #[.bool O.leaf, .slice lO.EA O.es.length lO.ec, .slice lO.KA O.ks.length lO.kc, .slice lO.DA O.ds.length lO.dc] 34 (0, 0))) := Lib.hid (fun y => row_stays HR.out.2.1 y.ok_)
            have f2 : Hid (∀ y : SubW wr.heap.size wr, y.at_.heap[w.heap.size]? = some (.cells #[.bool O.leaf, .slice lE.EA O.es.length lE.ec, .slice lE.KA O.ks.length lE.kc, .slice lE.DA O.ds.length lE.dc] 26 (0, 0))) := Lib.hid (fun y => row_stays (row_stays GV2.out HR.out.1) y.ok_)
            refine region_overB wr.heap.size (Nat.le_refl _) [([], 0), ([1, 2, 4], 3), ([], 5)] [6, 7] (by kernel_rfl) (by kernel_rfl) ?_
            rintro wd hbd
            rw [wpBl_cons]
            try simp only [List.map_cons, List.map_nil, opAt, List.getElem?_toArray, List.getElem?_cons_zero, List.getElem?_cons_succ, Option.getD_some]
            refine wpQuiet_nil ?_
            go_wp2_with (go_at_call 12; refine (ndputs_any _).mono ?_; rintro e x1 ⟨rfl, hb5⟩)
            have HB5 := Lib.hid (hbd.trans (hb5.mono hbd.size))
            clear hbd hb5
            refine ⟨⟨⟨_, HB5.out⟩, rfl⟩, ?_⟩
            rw [wpBl_cons]
            try simp only [List.map_cons, List.map_nil, opAt, List.getElem?_toArray, List.getElem?_cons_zero, List.getElem?_cons_succ, Option.getD_some]
            repeat (first
              | (go_big_quiet_want; refine quiet_load_row 34 (.tmp 8) rfl v2.heap.size rfl 34 _ (0, 0) _ f8.out Try.underlying34 rfl (by kernel_rfl) ?_; simp only [Act.put, List.setIfInBounds_toArray, List.set_cons_zero, List.set_cons_succ]; go_big_quiet_on)
              | (go_big_quiet_want; refine quiet_load_row 26 (.tmp 2) rfl w.heap.size rfl 26 _ (0, 0) _ f2.out Try.underlying26 rfl (by kernel_rfl) ?_; simp only [Act.put, List.setIfInBounds_toArray, List.set_cons_zero, List.set_cons_succ]; go_big_quiet_on)
              | go_big_quiet_step (fail))
            refine wpQuiet_nil ?_
            go_wp2_with (go_at_call 20; refine (from_any O lO _ (HR.out.2.2.1.below HB5.out) HFE.out.e HFE.out.k HFE.out.d).mono ?_; rintro e x2 ⟨l8, rfl, hn8, hb8⟩; have HN8 := Lib.hid hn8; have HB8 := Lib.hid (HB5.out.trans (hb8.mono HB5.out.size)); clear hn8 hb8)
            refine ⟨⟨⟨_, HB8.out⟩, rfl⟩, ?_⟩
            rw [wpBl_cons]
            try simp only [List.map_cons, List.map_nil, opAt, List.getElem?_toArray, List.getElem?_cons_zero, List.getElem?_cons_succ, Option.getD_some]
            refine wpQuiet_nil ?_
            go_wp2_with (go_at_call 19; refine (same_yes O l8 lE _ HN8.out ((NV2.out.below HR.out.1).below HB8.out)).mono ?_; rintro e x3 ⟨rfl, hb9⟩; have HB9 := Lib.hid (HB8.out.trans (hb9.mono HB8.out.size)); clear hb9)
            refine ⟨⟨⟨_, HB9.out⟩, rfl⟩, ?_⟩
            try simp only [Act.put, List.setIfInBounds_toArray, List.set_cons_zero, List.set_cons_succ]
            rw [wpBl_nil]
            try simp only [List.map_cons, List.map_nil, opAt, List.getElem?_toArray, List.getElem?_cons_zero, List.getElem?_cons_succ, Option.getD_some]
            repeat (go_big_quiet_step (fail))
            refine wpQuiet_nil ?_
            go_wp2_with fail
            go_ret
            exact ⟨rfl, (BV2.out.trans (HR.out.1.mono BV2.out.size)).trans (HB9.out.mono (by have := BV2.out.size; have := HR.out.1.size; omega))⟩
end Go.Proofs.Ytgkddhncfaeidaa
