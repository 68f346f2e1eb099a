/- Package node's Get at the example. -/
import Derived.Test.YtgkddhncfaeidaaNdG
import Derived.Deep.DeepCutAuto
namespace Go.Proofs.Ytgkddhncfaeidaa
open Go.RowKit CrcM PageM
set_option linter.unusedVariables false

theorem results_cell_tmp' {P : Program} {fn : Func} {p u : Tmp} {ty : TypeId} (h : fn.results = #[.cell p ty, .tmp u]) (tmps : Array Value) (w : World) (g : Nat) (t : TypeId) (cs : Array Value) (fr : Nat × Nat) (d : TypeDesc)
    (hp : tmps.getD p undef = .pointer (some ⟨g, 0, none⟩)) (hg : w.heap[g]? = some (.cells cs t fr))
    (hu : P.underlying ty = some d) (hd : (match d with | .struct _ | .array _ _ => true | _ => false) = true) (hi : (P.info? ty).map (·.size) = some cs.size) :
    (results fn tmps).run P w = .ok (.tuple #[.agg cs, tmps.getD u undef]) w := by
  have hp' : tmps[p]?.getD undef = .pointer (some ⟨g, 0, none⟩) := by simpa using hp
  simp [results, h, hp', asAddr, run_loadVar_row w g t ty cs fr d hg hu hd hi]

/-- What stands behind so many steps of Get: the node that grows, and the cursor. -/
structure GetSt (w wr : World) (ks kids cur : Value) : Prop where
  below : Below w.heap.size w wr
  node : wr.heap[w.heap.size + 1]? = some (.cells #[.bool false, .slice none 0 0, ks, kids] 34 (0, 0))
  cur : wr.heap[w.heap.size + 1 + 1]? = some (.cells #[cur] 95 (0, 0))
  res : wr.heap[w.heap.size]? = some (.cells #[.bool false, .slice none 0 0, .slice none 0 0, .slice none 0 0] 34 (0, 0))
  size : w.heap.size + 1 + 1 < wr.heap.size

theorem GetSt.mono {w wr w' : World} {ks kids cur : Value} (h : GetSt w wr ks kids cur) {B : Nat} (hb : Below B wr w') (hB : w.heap.size + 1 + 1 < B) : GetSt w w' ks kids cur :=
  ⟨h.below.trans (hb.mono (by omega)), (hb.block _ (by omega)).trans h.node, (hb.block _ hB).trans h.cur, (hb.block _ (by omega)).trans h.res, by have := hb.size; have := h.size; omega⟩

theorem below_setC {B : Nat} {a w : World} (h : Below B a w) {g i : Nat} {v : Value} (hg : B ≤ g) : Below B a (w.setCell ⟨g, i, none⟩ v) :=
  h.trans ⟨rfl, rfl, rfl, by simp, fun k hk => Below.heap_setCell w ⟨g, i, none⟩ v k (fun e => by simp at e; omega)⟩
theorem cell_setC {w : World} {g i b j : Nat} {v : Value} (hne : b ≠ g) : (w.setCell ⟨g, i, none⟩ v).cell? ⟨b, j, none⟩ = w.cell? ⟨b, j, none⟩ := World.cell?_of_block (a := ⟨b, j, none⟩) (Below.heap_setCell w ⟨g, i, none⟩ v b (fun e => hne e))
theorem GetSt.set2 {w wr : World} {ks kids cur : Value} (h : GetSt w wr ks kids cur) (v : Value) : GetSt w (wr.setCell ⟨w.heap.size + 1, 2, none⟩ v) v kids cur :=
  ⟨below_setC h.below (by omega), (heap_setCell_same _ _ _ _ _ _ h.node).trans rfl, (Below.heap_setCell wr ⟨w.heap.size + 1, 2, none⟩ v _ (by simp)).trans h.cur, (Below.heap_setCell wr ⟨w.heap.size + 1, 2, none⟩ v _ (by simp)).trans h.res, by simpa using h.size⟩
theorem GetSt.set3 {w wr : World} {ks kids cur : Value} (h : GetSt w wr ks kids cur) (v : Value) : GetSt w (wr.setCell ⟨w.heap.size + 1, 3, none⟩ v) ks v cur :=
  ⟨below_setC h.below (by omega), (heap_setCell_same _ _ _ _ _ _ h.node).trans rfl, (Below.heap_setCell wr ⟨w.heap.size + 1, 3, none⟩ v _ (by simp)).trans h.cur, (Below.heap_setCell wr ⟨w.heap.size + 1, 3, none⟩ v _ (by simp)).trans h.res, by simpa using h.size⟩

theorem own_one {w : World} {base sz : Nat} {v : Value} {E : TypeId} {us : List Value} (h : w.ownsRow base E sz v 1 us) : ∃ g cap, v = .slice (some ⟨g, 0, none⟩) 1 cap ∧ base ≤ g ∧ g < w.heap.size ∧ 1 ≤ cap ∧ cap ≤ maxLen ∧ w.ownsRow base E sz (.slice (some ⟨g, 0, none⟩) 1 cap) 1 us := by
  rcases h.2 with ⟨_, h1⟩ | ⟨g, cap, cur, hv, hb, hh, hn, hm, hs, ht⟩
  · omega
  · subst hv
    exact ⟨g, cap, rfl, hb, (Array.getElem?_eq_some_iff.1 hh).1, hn, hm, h⟩

theorem infoNKey : (Try.prog.info? 46).map (fun i => (i.zero, i.size, i.bytes)) = some (some (.agg #[.int .i64 0, .int .i64 0]), 2, 16) := by kernel_rfl
theorem infoNInt : (Try.prog.info? 3).map (fun i => (i.zero, i.size, i.bytes)) = some (some (.int .i64 0), 1, 8) := by kernel_rfl

set_option maxHeartbeats 1000000 in
set_option maxRecDepth 100000 in
theorem get_ex (g c : Nat) (w : World) (hx : BytesAt w (some ⟨g, 0, none⟩) ndB) (hc : 15 ≤ c) (hcm : c ≤ maxLen) :
    Calls Try.prog 17 #[.bool false, .slice (some ⟨g, 0, none⟩) 15 c] w fun e w' => ∃ gk ck gd cd, e = .returned (.tuple #[.agg #[.bool false, .slice none 0 0, .slice (some ⟨gk, 0, none⟩) 1 ck, .slice (some ⟨gd, 0, none⟩) 1 cd], .int .i64 0]) ∧ NdAt w' gk gd ∧ Below w.heap.size w w' := by
  have hcm2 := hcm
  unfold maxLen at hcm2
  obtain ⟨b, off, hbo, hcl⟩ := hx (by decide)
  injection hbo with hbo
  injection hbo with e1 e2 e3
  subst e1 e2
  have c0 : w.cell? ⟨g, 0, none⟩ = some (.int .u8 1) := hcl 0 (by decide)
  have hgl := World.block_lt_of_cell? _ _ c0
  have hx14 : BytesAt w (some ⟨g, 1, none⟩) xs14 := hx.cut 1 _ (fun _ => rfl)
  obtain ⟨ik, hik, hk0, hk1, hk2⟩ := info_parts infoNKey
  obtain ⟨ii, hii, hi0, hi1, hi2⟩ := info_parts infoNInt
  have hc1 : ¬ c = 1 := by omega
  have HX14 := Lib.hid hx14
  clear hcl hx hx14
  have hb1 : Below w.heap.size w (w.alloc (.cells #[.bool false, .slice none 0 0, .slice none 0 0, .slice none 0 0] 34)) := (Below.refl _ _).alloc (Nat.le_refl _) _
  have hb2 : Below w.heap.size w ((w.alloc (.cells #[.bool false, .slice none 0 0, .slice none 0 0, .slice none 0 0] 34)).alloc (.cells #[.bool false, .slice none 0 0, .slice none 0 0, .slice none 0 0] 34)) := hb1.alloc (by simp) _
  have hb3 : Below w.heap.size w (((w.alloc (.cells #[.bool false, .slice none 0 0, .slice none 0 0, .slice none 0 0] 34)).alloc (.cells #[.bool false, .slice none 0 0, .slice none 0 0, .slice none 0 0] 34)).alloc (.cells #[.slice (some ⟨g, 1, none⟩) 14 (c - 1)] 95)) := hb2.alloc (by simp; omega) _
  have d0 := (hb3.cell (p := ⟨g, 0, none⟩) hgl).trans c0
  go_enter Try.func17, Try.ntmps17
  go_wp2_with (first
    | (refine wpList_store_row rfl 34 (.tmp 7) (.tmp 27) rfl (w.heap.size + 1) _ rfl rfl 34 Try.zeroCells34 (heap_alloc2_new _ _ _) (by kernel_rfl) (by kernel_rfl) (by kernel_rfl) ?_))
  have hst : GetSt w (((w.alloc (.cells #[.bool false, .slice none 0 0, .slice none 0 0, .slice none 0 0] 34)).alloc (.cells #[.bool false, .slice none 0 0, .slice none 0 0, .slice none 0 0] 34)).alloc (.cells #[.slice (some ⟨g, 1, none⟩) 14 (c - 1)] 95)) (.slice none 0 0) (.slice none 0 0) (.slice (some ⟨g, 1, none⟩) 14 (c - 1)) := by
    refine ⟨hb3, ?_, ?_, ?_, by simp⟩
    · exact (Below.heap_alloc _ _ _ (by simp)).trans (heap_alloc2_new _ _ _)
    · have := heap_alloc_new ((w.alloc (.cells #[.bool false, .slice none 0 0, .slice none 0 0, .slice none 0 0] 34)).alloc (.cells #[.bool false, .slice none 0 0, .slice none 0 0, .slice none 0 0] 34)) (.cells #[.slice (some ⟨g, 1, none⟩) 14 (c - 1)] 95)
      simpa using this
    · exact (Below.heap_alloc _ _ _ (by simp; omega)).trans (heap_alloc2_old _ _ _)
  generalize ((w.alloc (.cells #[.bool false, .slice none 0 0, .slice none 0 0, .slice none 0 0] 34)).alloc (.cells #[.bool false, .slice none 0 0, .slice none 0 0, .slice none 0 0] 34)).alloc (.cells #[.slice (some ⟨g, 1, none⟩) 14 (c - 1)] 95) = W at *
  clear hb1 hb2 hb3 d0 c0
  go_loopw [33] (fun i wx => (i = .int .u8 0 ∧ wx = W) ∨ (i = .int .u8 1 ∧ ∃ gk ck gd cd cur, w.heap.size < gk ∧ w.heap.size < gd ∧ GetSt w wx (.slice (some ⟨gk, 0, none⟩) 1 ck) (.slice (some ⟨gd, 0, none⟩) 1 cd) cur ∧ wx.cell? ⟨gk, 0, none⟩ = some (.int .i64 1) ∧ wx.cell? ⟨gk, 1, none⟩ = some (.int .i64 2) ∧ wx.cell? ⟨gd, 0, none⟩ = some (.int .i64 5) ∧ 1 ≤ cd ∧ cd ≤ maxLen)) (fun i _ => 1 - (intOf i).toNat)
  case atStart => exact .inl ⟨rfl, rfl⟩
  case round =>
    rcases hrel with ⟨rfl, rfl⟩ | ⟨rfl, gk, ck, gd, cd, cur, hgk, hgd, hs, hq0, hq1, hq2, hcd1, hcdm⟩
    · go_upto_region 12 with fail
      go_cut [] from 42 to 47 (fun wx => ∃ gk ck, w.heap.size + 1 + 1 < gk ∧ GetSt w wx (.slice (some ⟨gk, 0, none⟩) 1 ck) (.slice none 0 0) (.slice (some ⟨g, 13, none⟩) 2 (c - 13)) ∧ wx.cell? ⟨gk, 0, none⟩ = some (.int .i64 1) ∧ wx.cell? ⟨gk, 1, none⟩ = some (.int .i64 2))
      case first =>
        refine region_ways w.heap.size hst.below.size (.two [0] 1 (.one [] 2 (.one [] 3 (.one [] 4 (.one [5] 6 (.done []))))) 2 (.two [] 1 (.one [] 3 (.one [] 4 (.one [5] 6 (.done [])))) 3 (.one [] 1 (.one [] 4 (.one [5] 6 (.done [])))))) (by kernel_rfl) (by kernel_rfl) ?_
        rintro w0 hbd
        have s0 := hst.mono hbd hst.size
        have b0 : Below w.heap.size wr w0 := hbd.mono hst.below.size
        rw [wpWays_two]
        try simp only [List.map_cons, List.map_nil, opAt, List.getElem?_toArray, List.getElem?_cons_zero, List.getElem?_cons_succ, Option.getD_some]
        repeat (go_big_quiet_step (fail))
        refine wpQuiet_nil ⟨?_, ?_⟩
        · have kc0 := nd_cell s0.node 2 _ rfl
          go_wp2_with fail
          refine ⟨⟨⟨_, b0⟩, rfl⟩, ?_⟩
          try simp only [Act.put, List.setIfInBounds_toArray, List.set_cons_zero, List.set_cons_succ]
          rw [wpWays_one]
          try simp only [List.map_nil, opAt, List.getElem?_toArray, List.getElem?_cons_zero, List.getElem?_cons_succ, Option.getD_some]
          repeat (go_big_quiet_step (fail))
          refine wpQuiet_nil ?_
          go_wp2_with (go_at_call 45; (with_reducible refine (key_ex (w.heap.size + 1 + 1) g c _ s0.cur (HX14.out.below s0.below) (by omega) hc hcm).mono ?_); rintro e w1 ⟨rfl, hr1, hg1⟩)
          have s1 : GetSt w w1 (.slice none 0 0) (.slice none 0 0) (.slice (some ⟨g, 13, none⟩) 2 (c - 13)) := ⟨s0.below.grown hg1 s0.below.size (fun k hk => by injection hk with hk; omega), (hg1.block _ (by have := s0.size; omega) (by intro e; injection e with e; omega)).trans s0.node, hr1, (hg1.block _ (by have := s0.size; omega) (by intro e; injection e with e; omega)).trans s0.res, by have := s0.size; have := hg1.size; omega⟩
          have b1 : Below w.heap.size wr w1 := b0.grown hg1 (by have := b0.size; have := hst.below.size; omega) (fun k hk => by injection hk with hk; omega)
          refine ⟨⟨⟨_, b1⟩, rfl⟩, ?_⟩
          try simp only [Act.put, List.setIfInBounds_toArray, List.set_cons_zero, List.set_cons_succ]
          rw [wpWays_one]
          try simp only [List.map_nil, opAt, List.getElem?_toArray, List.getElem?_cons_zero, List.getElem?_cons_succ, Option.getD_some]
          repeat (go_big_quiet_step (fail))
          refine wpQuiet_nil ?_
          go_wp2_with fail
          have s2 : GetSt w (w1.alloc (.cells #[.int .i64 1, .int .i64 2] 46)) (.slice none 0 0) (.slice none 0 0) (.slice (some ⟨g, 13, none⟩) 2 (c - 13)) := s1.mono ((Below.refl _ _).alloc (Nat.le_refl _) _) s1.size
          have b2 : Below w.heap.size wr (w1.alloc (.cells #[.int .i64 1, .int .i64 2] 46)) := b1.alloc (by have := b1.size; have := hst.below.size; omega) _
          refine ⟨⟨⟨_, b2⟩, rfl⟩, ?_⟩
          try simp only [Act.put, List.setIfInBounds_toArray, List.set_cons_zero, List.set_cons_succ]
          rw [wpWays_one]
          try simp only [List.map_nil, opAt, List.getElem?_toArray, List.getElem?_cons_zero, List.getElem?_cons_succ, Option.getD_some]
          repeat (go_big_quiet_step (fail))
          refine wpQuiet_nil ?_
          have hnews : ∀ (j : Nat) (u : Value), ([.int .i64 1, .int .i64 2] : List Value)[j]? = some u → (w1.alloc (.cells #[.int .i64 1, .int .i64 2] 46)).cell? ((⟨w1.heap.size, 0, none⟩ : Addr).add j) = some u := by
            intro j u hj
            rw [Addr.add_mid]
            match j, hj with
            | 0, hj => simp at hj; subst hj; rw [World.cell?_alloc_new]; rfl
            | 1, hj => simp at hj; subst hj; rw [World.cell?_alloc_new]; rfl
          have hone : ∀ u ∈ ([.int .i64 1, .int .i64 2] : List Value), u.oneCell' = true := by
            intro u hu
            simp at hu
            rcases hu with rfl | rfl <;> rfl
          go_wp2_with (at_builtin; refine wpList_append_own_at _ rfl (.tmp 43) (.tmp 45) 32 rfl (w.heap.size + 1 + 1 + 1) 46 ik _ 2 16 Try.underlying32 hik hk0 hk1 hk2 rfl (by omega) _ 0 [] rfl (World.ownsRow_nil _ _ _ _) ⟨w1.heap.size, 0, none⟩ 1 1 [.int .i64 1, .int .i64 2] rfl rfl hnews hone (by unfold maxLen; omega) (by omega) (by have := s2.size; omega) ?_; intro v2 w3 ho2 hg3 _ _; obtain ⟨gk, ck, rfl, hgk, hgl2, hck1, hckm, ho3⟩ := own_one ho2)
          have g3 : Below (w1.alloc (.cells #[.int .i64 1, .int .i64 2] 46)).heap.size (w1.alloc (.cells #[.int .i64 1, .int .i64 2] 46)) w3 := (Below.refl _ _).grown hg3 (Nat.le_refl _) (fun k hk => by cases hk)
          have s3 := s2.mono g3 s2.size
          have b3 : Below w.heap.size wr w3 := b2.trans (g3.mono (by have := s2.size; omega))
          have q0 : w3.cell? ⟨gk, 0, none⟩ = some (.int .i64 1) := World.ownsRow.cellAt (g := gk) ho3 0 (by decide)
          have q1 : w3.cell? ⟨gk, 1, none⟩ = some (.int .i64 2) := World.ownsRow.cellAt (g := gk) ho3 1 (by decide)
          refine ⟨⟨⟨_, b3⟩, rfl⟩, ?_⟩
          try simp only [Act.put, List.setIfInBounds_toArray, List.set_cons_zero, List.set_cons_succ]
          rw [wpWays_one]
          try simp only [List.map_cons, List.map_nil, opAt, List.getElem?_toArray, List.getElem?_cons_zero, List.getElem?_cons_succ, Option.getD_some]
          repeat (go_big_quiet_step (fail))
          refine wpQuiet_nil ?_
          have f3 : w3.frozen? ⟨w.heap.size + 1, 2, none⟩ = false := by simp [World.frozen?, s3.node]
          have kk3 := nd_cell s3.node 2 _ rfl
          go_wp2_with fail
          have hgN : gk ≠ w.heap.size + 1 := by omega
          have s9 := s3.set2 (.slice (some ⟨gk, 0, none⟩) 1 ck)
          have b9 : Below w.heap.size wr (w3.setCell ⟨w.heap.size + 1, 2, none⟩ (.slice (some ⟨gk, 0, none⟩) 1 ck)) := below_setC b3 (by omega)
          refine ⟨⟨⟨_, b9⟩, rfl⟩, ?_⟩
          try simp only [Act.put, List.setIfInBounds_toArray, List.set_cons_zero, List.set_cons_succ]
          rw [wpWays_done]
          try simp only [List.map_nil]
          refine wpQuiet_nil ?_
          go_wp2_with fail
          go_meet
          exact ⟨gk, ck, by omega, s9, (cell_setC hgN).trans q0, (cell_setC hgN).trans q1⟩
        · go_wp2_with (go_at_call 45; (with_reducible refine (key_ex (w.heap.size + 1 + 1) g c _ s0.cur (HX14.out.below s0.below) (by omega) hc hcm).mono ?_); rintro e w1 ⟨rfl, hr1, hg1⟩)
          have s1 : GetSt w w1 (.slice none 0 0) (.slice none 0 0) (.slice (some ⟨g, 13, none⟩) 2 (c - 13)) := ⟨s0.below.grown hg1 s0.below.size (fun k hk => by injection hk with hk; omega), (hg1.block _ (by have := s0.size; omega) (by intro e; injection e with e; omega)).trans s0.node, hr1, (hg1.block _ (by have := s0.size; omega) (by intro e; injection e with e; omega)).trans s0.res, by have := s0.size; have := hg1.size; omega⟩
          have b1 : Below w.heap.size wr w1 := b0.grown hg1 (by have := b0.size; have := hst.below.size; omega) (fun k hk => by injection hk with hk; omega)
          refine ⟨⟨⟨_, b1⟩, rfl⟩, ?_⟩
          try simp only [Act.put, List.setIfInBounds_toArray, List.set_cons_zero, List.set_cons_succ]
          rw [wpWays_two]
          try simp only [List.map_nil, opAt, List.getElem?_toArray, List.getElem?_cons_zero, List.getElem?_cons_succ, Option.getD_some]
          repeat (go_big_quiet_step (fail))
          refine wpQuiet_nil ⟨?_, ?_⟩
          · have kc1 := nd_cell s1.node 2 _ rfl
            go_wp2_with fail
            refine ⟨⟨⟨_, b1⟩, rfl⟩, ?_⟩
            try simp only [Act.put, List.setIfInBounds_toArray, List.set_cons_zero, List.set_cons_succ]
            rw [wpWays_one]
            try simp only [List.map_nil, opAt, List.getElem?_toArray, List.getElem?_cons_zero, List.getElem?_cons_succ, Option.getD_some]
            repeat (go_big_quiet_step (fail))
            refine wpQuiet_nil ?_
            go_wp2_with fail
            have s2 : GetSt w (w1.alloc (.cells #[.int .i64 1, .int .i64 2] 46)) (.slice none 0 0) (.slice none 0 0) (.slice (some ⟨g, 13, none⟩) 2 (c - 13)) := s1.mono ((Below.refl _ _).alloc (Nat.le_refl _) _) s1.size
            have b2 : Below w.heap.size wr (w1.alloc (.cells #[.int .i64 1, .int .i64 2] 46)) := b1.alloc (by have := b1.size; have := hst.below.size; omega) _
            refine ⟨⟨⟨_, b2⟩, rfl⟩, ?_⟩
            try simp only [Act.put, List.setIfInBounds_toArray, List.set_cons_zero, List.set_cons_succ]
            rw [wpWays_one]
            try simp only [List.map_nil, opAt, List.getElem?_toArray, List.getElem?_cons_zero, List.getElem?_cons_succ, Option.getD_some]
            repeat (go_big_quiet_step (fail))
            refine wpQuiet_nil ?_
            have hnews : ∀ (j : Nat) (u : Value), ([.int .i64 1, .int .i64 2] : List Value)[j]? = some u → (w1.alloc (.cells #[.int .i64 1, .int .i64 2] 46)).cell? ((⟨w1.heap.size, 0, none⟩ : Addr).add j) = some u := by
              intro j u hj
              rw [Addr.add_mid]
              match j, hj with
              | 0, hj => simp at hj; subst hj; rw [World.cell?_alloc_new]; rfl
              | 1, hj => simp at hj; subst hj; rw [World.cell?_alloc_new]; rfl
            have hone : ∀ u ∈ ([.int .i64 1, .int .i64 2] : List Value), u.oneCell' = true := by
              intro u hu
              simp at hu
              rcases hu with rfl | rfl <;> rfl
            go_wp2_with (at_builtin; refine wpList_append_own_at _ rfl (.tmp 43) (.tmp 45) 32 rfl (w.heap.size + 1 + 1 + 1) 46 ik _ 2 16 Try.underlying32 hik hk0 hk1 hk2 rfl (by omega) _ 0 [] rfl (World.ownsRow_nil _ _ _ _) ⟨w1.heap.size, 0, none⟩ 1 1 [.int .i64 1, .int .i64 2] rfl rfl hnews hone (by unfold maxLen; omega) (by omega) (by have := s2.size; omega) ?_; intro v2 w3 ho2 hg3 _ _; obtain ⟨gk, ck, rfl, hgk, hgl2, hck1, hckm, ho3⟩ := own_one ho2)
            have g3 : Below (w1.alloc (.cells #[.int .i64 1, .int .i64 2] 46)).heap.size (w1.alloc (.cells #[.int .i64 1, .int .i64 2] 46)) w3 := (Below.refl _ _).grown hg3 (Nat.le_refl _) (fun k hk => by cases hk)
            have s3 := s2.mono g3 s2.size
            have b3 : Below w.heap.size wr w3 := b2.trans (g3.mono (by have := s2.size; omega))
            have q0 : w3.cell? ⟨gk, 0, none⟩ = some (.int .i64 1) := World.ownsRow.cellAt (g := gk) ho3 0 (by decide)
            have q1 : w3.cell? ⟨gk, 1, none⟩ = some (.int .i64 2) := World.ownsRow.cellAt (g := gk) ho3 1 (by decide)
            refine ⟨⟨⟨_, b3⟩, rfl⟩, ?_⟩
            try simp only [Act.put, List.setIfInBounds_toArray, List.set_cons_zero, List.set_cons_succ]
            rw [wpWays_one]
            try simp only [List.map_cons, List.map_nil, opAt, List.getElem?_toArray, List.getElem?_cons_zero, List.getElem?_cons_succ, Option.getD_some]
            repeat (go_big_quiet_step (fail))
            refine wpQuiet_nil ?_
            have f3 : w3.frozen? ⟨w.heap.size + 1, 2, none⟩ = false := by simp [World.frozen?, s3.node]
            have kk3 := nd_cell s3.node 2 _ rfl
            go_wp2_with fail
            have hgN : gk ≠ w.heap.size + 1 := by omega
            have s9 := s3.set2 (.slice (some ⟨gk, 0, none⟩) 1 ck)
            have b9 : Below w.heap.size wr (w3.setCell ⟨w.heap.size + 1, 2, none⟩ (.slice (some ⟨gk, 0, none⟩) 1 ck)) := below_setC b3 (by omega)
            refine ⟨⟨⟨_, b9⟩, rfl⟩, ?_⟩
            try simp only [Act.put, List.setIfInBounds_toArray, List.set_cons_zero, List.set_cons_succ]
            rw [wpWays_done]
            try simp only [List.map_nil]
            refine wpQuiet_nil ?_
            go_wp2_with fail
            go_meet
            exact ⟨gk, ck, by omega, s9, (cell_setC hgN).trans q0, (cell_setC hgN).trans q1⟩
          · go_wp2_with fail
            have s2 : GetSt w (w1.alloc (.cells #[.int .i64 1, .int .i64 2] 46)) (.slice none 0 0) (.slice none 0 0) (.slice (some ⟨g, 13, none⟩) 2 (c - 13)) := s1.mono ((Below.refl _ _).alloc (Nat.le_refl _) _) s1.size
            have b2 : Below w.heap.size wr (w1.alloc (.cells #[.int .i64 1, .int .i64 2] 46)) := b1.alloc (by have := b1.size; have := hst.below.size; omega) _
            refine ⟨⟨⟨_, b2⟩, rfl⟩, ?_⟩
            try simp only [Act.put, List.setIfInBounds_toArray, List.set_cons_zero, List.set_cons_succ]
            rw [wpWays_one]
            try simp only [List.map_nil, opAt, List.getElem?_toArray, List.getElem?_cons_zero, List.getElem?_cons_succ, Option.getD_some]
            repeat (go_big_quiet_step (fail))
            refine wpQuiet_nil ?_
            have kc2 := nd_cell s2.node 2 _ rfl
            go_wp2_with fail
            refine ⟨⟨⟨_, b2⟩, rfl⟩, ?_⟩
            try simp only [Act.put, List.setIfInBounds_toArray, List.set_cons_zero, List.set_cons_succ]
            rw [wpWays_one]
            try simp only [List.map_nil, opAt, List.getElem?_toArray, List.getElem?_cons_zero, List.getElem?_cons_succ, Option.getD_some]
            repeat (go_big_quiet_step (fail))
            refine wpQuiet_nil ?_
            have hnews : ∀ (j : Nat) (u : Value), ([.int .i64 1, .int .i64 2] : List Value)[j]? = some u → (w1.alloc (.cells #[.int .i64 1, .int .i64 2] 46)).cell? ((⟨w1.heap.size, 0, none⟩ : Addr).add j) = some u := by
              intro j u hj
              rw [Addr.add_mid]
              match j, hj with
              | 0, hj => simp at hj; subst hj; rw [World.cell?_alloc_new]; rfl
              | 1, hj => simp at hj; subst hj; rw [World.cell?_alloc_new]; rfl
            have hone : ∀ u ∈ ([.int .i64 1, .int .i64 2] : List Value), u.oneCell' = true := by
              intro u hu
              simp at hu
              rcases hu with rfl | rfl <;> rfl
            go_wp2_with (at_builtin; refine wpList_append_own_at _ rfl (.tmp 43) (.tmp 45) 32 rfl (w.heap.size + 1 + 1 + 1) 46 ik _ 2 16 Try.underlying32 hik hk0 hk1 hk2 rfl (by omega) _ 0 [] rfl (World.ownsRow_nil _ _ _ _) ⟨w1.heap.size, 0, none⟩ 1 1 [.int .i64 1, .int .i64 2] rfl rfl hnews hone (by unfold maxLen; omega) (by omega) (by have := s2.size; omega) ?_; intro v2 w3 ho2 hg3 _ _; obtain ⟨gk, ck, rfl, hgk, hgl2, hck1, hckm, ho3⟩ := own_one ho2)
            have g3 : Below (w1.alloc (.cells #[.int .i64 1, .int .i64 2] 46)).heap.size (w1.alloc (.cells #[.int .i64 1, .int .i64 2] 46)) w3 := (Below.refl _ _).grown hg3 (Nat.le_refl _) (fun k hk => by cases hk)
            have s3 := s2.mono g3 s2.size
            have b3 : Below w.heap.size wr w3 := b2.trans (g3.mono (by have := s2.size; omega))
            have q0 : w3.cell? ⟨gk, 0, none⟩ = some (.int .i64 1) := World.ownsRow.cellAt (g := gk) ho3 0 (by decide)
            have q1 : w3.cell? ⟨gk, 1, none⟩ = some (.int .i64 2) := World.ownsRow.cellAt (g := gk) ho3 1 (by decide)
            refine ⟨⟨⟨_, b3⟩, rfl⟩, ?_⟩
            try simp only [Act.put, List.setIfInBounds_toArray, List.set_cons_zero, List.set_cons_succ]
            rw [wpWays_one]
            try simp only [List.map_cons, List.map_nil, opAt, List.getElem?_toArray, List.getElem?_cons_zero, List.getElem?_cons_succ, Option.getD_some]
            repeat (go_big_quiet_step (fail))
            refine wpQuiet_nil ?_
            have f3 : w3.frozen? ⟨w.heap.size + 1, 2, none⟩ = false := by simp [World.frozen?, s3.node]
            have kk3 := nd_cell s3.node 2 _ rfl
            go_wp2_with fail
            have hgN : gk ≠ w.heap.size + 1 := by omega
            have s9 := s3.set2 (.slice (some ⟨gk, 0, none⟩) 1 ck)
            have b9 : Below w.heap.size wr (w3.setCell ⟨w.heap.size + 1, 2, none⟩ (.slice (some ⟨gk, 0, none⟩) 1 ck)) := below_setC b3 (by omega)
            refine ⟨⟨⟨_, b9⟩, rfl⟩, ?_⟩
            try simp only [Act.put, List.setIfInBounds_toArray, List.set_cons_zero, List.set_cons_succ]
            rw [wpWays_done]
            try simp only [List.map_nil]
            refine wpQuiet_nil ?_
            go_wp2_with fail
            go_meet
            exact ⟨gk, ck, by omega, s9, (cell_setC hgN).trans q0, (cell_setC hgN).trans q1⟩
      case rest =>
        obtain ⟨gk0, ck0, hgk0, hst2, hq0, hq1⟩ := hcut
        have HX13 := Lib.hid (HX14.out.cut 12 (some ⟨g, 13, none⟩) (fun _ => rfl))
        clear hst
        have hst := hst2
        clear hst2
        go_upto_region 13 with fail
        refine region_ways w.heap.size hst.below.size (.two [0] 1 (.one [] 2 (.one [3] 4 (.one [] 5 (.one [6] 7 (.done []))))) 2 (.two [3] 1 (.one [] 4 (.one [] 5 (.one [6] 7 (.done [])))) 4 (.one [] 1 (.one [] 5 (.one [6] 7 (.done [])))))) (by kernel_rfl) (by kernel_rfl) ?_
        rintro w0 hbd
        have s0 := hst.mono hbd hst.size
        have b0 : Below w.heap.size wc w0 := hbd.mono hst.below.size
        have r00 : w0.cell? ⟨gk0, 0, none⟩ = some (.int .i64 1) := (hbd.cell (p := ⟨gk0, 0, none⟩) (World.block_lt_of_cell? _ _ hq0)).trans hq0
        have r10 : w0.cell? ⟨gk0, 1, none⟩ = some (.int .i64 2) := (hbd.cell (p := ⟨gk0, 1, none⟩) (World.block_lt_of_cell? _ _ hq1)).trans hq1
        rw [wpWays_two]
        try simp only [List.map_cons, List.map_nil, opAt, List.getElem?_toArray, List.getElem?_cons_zero, List.getElem?_cons_succ, Option.getD_some]
        repeat (go_big_quiet_step (fail))
        refine wpQuiet_nil ⟨?_, ?_⟩
        · have kc0 := nd_cell s0.node 3 _ rfl
          go_wp2_with fail
          refine ⟨⟨⟨_, b0⟩, rfl⟩, ?_⟩
          try simp only [Act.put, List.setIfInBounds_toArray, List.set_cons_zero, List.set_cons_succ]
          rw [wpWays_one]
          try simp only [List.map_nil, opAt, List.getElem?_toArray, List.getElem?_cons_zero, List.getElem?_cons_succ, Option.getD_some]
          repeat (go_big_quiet_step (fail))
          refine wpQuiet_nil ?_
          go_wp2_with (go_at_call 46; (with_reducible refine (high2_ex (w.heap.size + 1 + 1) g c _ s0.cur (HX13.out.below s0.below) hc hcm).mono ?_); rintro e w1 ⟨rfl, ⟨cu1, hr1⟩, hg1⟩)
          have s1 : GetSt w w1 (.slice (some ⟨gk0, 0, none⟩) 1 ck0) (.slice none 0 0) cu1 := ⟨s0.below.grown hg1 s0.below.size (fun k hk => by injection hk with hk; omega), (hg1.block _ (by have := s0.size; omega) (by intro e; injection e with e; omega)).trans s0.node, hr1, (hg1.block _ (by have := s0.size; omega) (by intro e; injection e with e; omega)).trans s0.res, by have := s0.size; have := hg1.size; omega⟩
          have b1 : Below w.heap.size wc w1 := b0.grown hg1 (by have := b0.size; have := hst.below.size; omega) (fun k hk => by injection hk with hk; omega)
          have r01 : w1.cell? ⟨gk0, 0, none⟩ = some (.int .i64 1) := (World.cell?_of_block (a := ⟨gk0, 0, none⟩) (hg1.block gk0 (World.block_lt_of_cell? _ _ r00) (by intro e; injection e with e; omega))).trans r00
          have r11 : w1.cell? ⟨gk0, 1, none⟩ = some (.int .i64 2) := (World.cell?_of_block (a := ⟨gk0, 1, none⟩) (hg1.block gk0 (World.block_lt_of_cell? _ _ r10) (by intro e; injection e with e; omega))).trans r10
          refine ⟨⟨⟨_, b1⟩, rfl⟩, ?_⟩
          try simp only [Act.put, List.setIfInBounds_toArray, List.set_cons_zero, List.set_cons_succ]
          rw [wpWays_one]
          try simp only [List.map_cons, List.map_nil, opAt, List.getElem?_toArray, List.getElem?_cons_zero, List.getElem?_cons_succ, Option.getD_some]
          repeat (go_big_quiet_step (fail))
          refine wpQuiet_nil ?_
          go_wp2_with fail
          have s2 : GetSt w (w1.alloc (.cells #[.int .i64 5] 3)) (.slice (some ⟨gk0, 0, none⟩) 1 ck0) (.slice none 0 0) cu1 := s1.mono ((Below.refl _ _).alloc (Nat.le_refl _) _) s1.size
          have b2 : Below w.heap.size wc (w1.alloc (.cells #[.int .i64 5] 3)) := b1.alloc (by have := b1.size; have := hst.below.size; omega) _
          have r02 : (w1.alloc (.cells #[.int .i64 5] 3)).cell? ⟨gk0, 0, none⟩ = some (.int .i64 1) := (((Below.refl _ _).alloc (Nat.le_refl _) _ : Below w1.heap.size w1 (w1.alloc (.cells #[.int .i64 5] 3))).cell (p := ⟨gk0, 0, none⟩) (World.block_lt_of_cell? _ _ r01)).trans r01
          have r12 : (w1.alloc (.cells #[.int .i64 5] 3)).cell? ⟨gk0, 1, none⟩ = some (.int .i64 2) := (((Below.refl _ _).alloc (Nat.le_refl _) _ : Below w1.heap.size w1 (w1.alloc (.cells #[.int .i64 5] 3))).cell (p := ⟨gk0, 1, none⟩) (World.block_lt_of_cell? _ _ r11)).trans r11
          refine ⟨⟨⟨_, b2⟩, rfl⟩, ?_⟩
          try simp only [Act.put, List.setIfInBounds_toArray, List.set_cons_zero, List.set_cons_succ]
          rw [wpWays_one]
          try simp only [List.map_nil, opAt, List.getElem?_toArray, List.getElem?_cons_zero, List.getElem?_cons_succ, Option.getD_some]
          repeat (go_big_quiet_step (fail))
          refine wpQuiet_nil ?_
          have hnews : ∀ (j : Nat) (u : Value), ([.int .i64 5] : List Value)[j]? = some u → (w1.alloc (.cells #[.int .i64 5] 3)).cell? ((⟨w1.heap.size, 0, none⟩ : Addr).add j) = some u := by
            intro j u hj
            rw [Addr.add_mid]
            match j, hj with
            | 0, hj => simp at hj; subst hj; rw [World.cell?_alloc_new]; rfl
          have hone : ∀ u ∈ ([.int .i64 5] : List Value), u.oneCell' = true := by
            intro u hu
            simp at hu
            subst hu; rfl
          go_wp2_with (at_builtin; refine wpList_append_own_at _ rfl (.tmp 49) (.tmp 52) 24 rfl (w.heap.size + 1 + 1 + 1) 3 ii _ 1 8 Try.underlying24 hii hi0 hi1 hi2 rfl (by omega) _ 0 [] rfl (World.ownsRow_nil _ _ _ _) ⟨w1.heap.size, 0, none⟩ 1 1 [.int .i64 5] rfl rfl hnews hone (by unfold maxLen; omega) (by omega) (by have := s2.size; omega) ?_; intro v2 w3 ho2 hg3 _ _; obtain ⟨gk, ck, rfl, hgk, hgl2, hck1, hckm, ho3⟩ := own_one ho2)
          have g3 : Below (w1.alloc (.cells #[.int .i64 5] 3)).heap.size (w1.alloc (.cells #[.int .i64 5] 3)) w3 := (Below.refl _ _).grown hg3 (Nat.le_refl _) (fun k hk => by cases hk)
          have s3 := s2.mono g3 s2.size
          have b3 : Below w.heap.size wc w3 := b2.trans (g3.mono (by have := s2.size; omega))
          have r03 : w3.cell? ⟨gk0, 0, none⟩ = some (.int .i64 1) := (g3.cell (p := ⟨gk0, 0, none⟩) (World.block_lt_of_cell? _ _ r02)).trans r02
          have r13 : w3.cell? ⟨gk0, 1, none⟩ = some (.int .i64 2) := (g3.cell (p := ⟨gk0, 1, none⟩) (World.block_lt_of_cell? _ _ r12)).trans r12
          have q0 : w3.cell? ⟨gk, 0, none⟩ = some (.int .i64 5) := World.ownsRow.cellAt (g := gk) ho3 0 (by decide)
          refine ⟨⟨⟨_, b3⟩, rfl⟩, ?_⟩
          try simp only [Act.put, List.setIfInBounds_toArray, List.set_cons_zero, List.set_cons_succ]
          rw [wpWays_one]
          try simp only [List.map_cons, List.map_nil, opAt, List.getElem?_toArray, List.getElem?_cons_zero, List.getElem?_cons_succ, Option.getD_some]
          repeat (go_big_quiet_step (fail))
          refine wpQuiet_nil ?_
          have f3 : w3.frozen? ⟨w.heap.size + 1, 3, none⟩ = false := by simp [World.frozen?, s3.node]
          have kk3 := nd_cell s3.node 3 _ rfl
          go_wp2_with fail
          have hgN : gk ≠ w.heap.size + 1 := by omega
          have s9 := s3.set3 (.slice (some ⟨gk, 0, none⟩) 1 ck)
          have b9 : Below w.heap.size wc (w3.setCell ⟨w.heap.size + 1, 3, none⟩ (.slice (some ⟨gk, 0, none⟩) 1 ck)) := below_setC b3 (by omega)
          refine ⟨⟨⟨_, b9⟩, rfl⟩, ?_⟩
          try simp only [Act.put, List.setIfInBounds_toArray, List.set_cons_zero, List.set_cons_succ]
          rw [wpWays_done]
          try simp only [List.map_nil]
          refine wpQuiet_nil ?_
          go_wp2_with fail
          go_roundw
          case rel => exact .inr ⟨rfl, gk0, ck0, gk, ck, _, by omega, by omega, s9, (cell_setC (by omega)).trans r03, (cell_setC (by omega)).trans r13, (cell_setC hgN).trans q0, hck1, hckm⟩
          case measure => simp [intOf]
        · go_wp2_with (go_at_call 46; (with_reducible refine (high2_ex (w.heap.size + 1 + 1) g c _ s0.cur (HX13.out.below s0.below) hc hcm).mono ?_); rintro e w1 ⟨rfl, ⟨cu1, hr1⟩, hg1⟩)
          have s1 : GetSt w w1 (.slice (some ⟨gk0, 0, none⟩) 1 ck0) (.slice none 0 0) cu1 := ⟨s0.below.grown hg1 s0.below.size (fun k hk => by injection hk with hk; omega), (hg1.block _ (by have := s0.size; omega) (by intro e; injection e with e; omega)).trans s0.node, hr1, (hg1.block _ (by have := s0.size; omega) (by intro e; injection e with e; omega)).trans s0.res, by have := s0.size; have := hg1.size; omega⟩
          have b1 : Below w.heap.size wc w1 := b0.grown hg1 (by have := b0.size; have := hst.below.size; omega) (fun k hk => by injection hk with hk; omega)
          have r01 : w1.cell? ⟨gk0, 0, none⟩ = some (.int .i64 1) := (World.cell?_of_block (a := ⟨gk0, 0, none⟩) (hg1.block gk0 (World.block_lt_of_cell? _ _ r00) (by intro e; injection e with e; omega))).trans r00
          have r11 : w1.cell? ⟨gk0, 1, none⟩ = some (.int .i64 2) := (World.cell?_of_block (a := ⟨gk0, 1, none⟩) (hg1.block gk0 (World.block_lt_of_cell? _ _ r10) (by intro e; injection e with e; omega))).trans r10
          refine ⟨⟨⟨_, b1⟩, rfl⟩, ?_⟩
          try simp only [Act.put, List.setIfInBounds_toArray, List.set_cons_zero, List.set_cons_succ]
          rw [wpWays_two]
          try simp only [List.map_cons, List.map_nil, opAt, List.getElem?_toArray, List.getElem?_cons_zero, List.getElem?_cons_succ, Option.getD_some]
          repeat (go_big_quiet_step (fail))
          refine wpQuiet_nil ⟨?_, ?_⟩
          · have kc1 := nd_cell s1.node 3 _ rfl
            go_wp2_with fail
            refine ⟨⟨⟨_, b1⟩, rfl⟩, ?_⟩
            try simp only [Act.put, List.setIfInBounds_toArray, List.set_cons_zero, List.set_cons_succ]
            rw [wpWays_one]
            try simp only [List.map_nil, opAt, List.getElem?_toArray, List.getElem?_cons_zero, List.getElem?_cons_succ, Option.getD_some]
            repeat (go_big_quiet_step (fail))
            refine wpQuiet_nil ?_
            go_wp2_with fail
            have s2 : GetSt w (w1.alloc (.cells #[.int .i64 5] 3)) (.slice (some ⟨gk0, 0, none⟩) 1 ck0) (.slice none 0 0) cu1 := s1.mono ((Below.refl _ _).alloc (Nat.le_refl _) _) s1.size
            have b2 : Below w.heap.size wc (w1.alloc (.cells #[.int .i64 5] 3)) := b1.alloc (by have := b1.size; have := hst.below.size; omega) _
            have r02 : (w1.alloc (.cells #[.int .i64 5] 3)).cell? ⟨gk0, 0, none⟩ = some (.int .i64 1) := (((Below.refl _ _).alloc (Nat.le_refl _) _ : Below w1.heap.size w1 (w1.alloc (.cells #[.int .i64 5] 3))).cell (p := ⟨gk0, 0, none⟩) (World.block_lt_of_cell? _ _ r01)).trans r01
            have r12 : (w1.alloc (.cells #[.int .i64 5] 3)).cell? ⟨gk0, 1, none⟩ = some (.int .i64 2) := (((Below.refl _ _).alloc (Nat.le_refl _) _ : Below w1.heap.size w1 (w1.alloc (.cells #[.int .i64 5] 3))).cell (p := ⟨gk0, 1, none⟩) (World.block_lt_of_cell? _ _ r11)).trans r11
            refine ⟨⟨⟨_, b2⟩, rfl⟩, ?_⟩
            try simp only [Act.put, List.setIfInBounds_toArray, List.set_cons_zero, List.set_cons_succ]
            rw [wpWays_one]
            try simp only [List.map_nil, opAt, List.getElem?_toArray, List.getElem?_cons_zero, List.getElem?_cons_succ, Option.getD_some]
            repeat (go_big_quiet_step (fail))
            refine wpQuiet_nil ?_
            have hnews : ∀ (j : Nat) (u : Value), ([.int .i64 5] : List Value)[j]? = some u → (w1.alloc (.cells #[.int .i64 5] 3)).cell? ((⟨w1.heap.size, 0, none⟩ : Addr).add j) = some u := by
              intro j u hj
              rw [Addr.add_mid]
              match j, hj with
              | 0, hj => simp at hj; subst hj; rw [World.cell?_alloc_new]; rfl
            have hone : ∀ u ∈ ([.int .i64 5] : List Value), u.oneCell' = true := by
              intro u hu
              simp at hu
              subst hu; rfl
            go_wp2_with (at_builtin; refine wpList_append_own_at _ rfl (.tmp 49) (.tmp 52) 24 rfl (w.heap.size + 1 + 1 + 1) 3 ii _ 1 8 Try.underlying24 hii hi0 hi1 hi2 rfl (by omega) _ 0 [] rfl (World.ownsRow_nil _ _ _ _) ⟨w1.heap.size, 0, none⟩ 1 1 [.int .i64 5] rfl rfl hnews hone (by unfold maxLen; omega) (by omega) (by have := s2.size; omega) ?_; intro v2 w3 ho2 hg3 _ _; obtain ⟨gk, ck, rfl, hgk, hgl2, hck1, hckm, ho3⟩ := own_one ho2)
            have g3 : Below (w1.alloc (.cells #[.int .i64 5] 3)).heap.size (w1.alloc (.cells #[.int .i64 5] 3)) w3 := (Below.refl _ _).grown hg3 (Nat.le_refl _) (fun k hk => by cases hk)
            have s3 := s2.mono g3 s2.size
            have b3 : Below w.heap.size wc w3 := b2.trans (g3.mono (by have := s2.size; omega))
            have r03 : w3.cell? ⟨gk0, 0, none⟩ = some (.int .i64 1) := (g3.cell (p := ⟨gk0, 0, none⟩) (World.block_lt_of_cell? _ _ r02)).trans r02
            have r13 : w3.cell? ⟨gk0, 1, none⟩ = some (.int .i64 2) := (g3.cell (p := ⟨gk0, 1, none⟩) (World.block_lt_of_cell? _ _ r12)).trans r12
            have q0 : w3.cell? ⟨gk, 0, none⟩ = some (.int .i64 5) := World.ownsRow.cellAt (g := gk) ho3 0 (by decide)
            refine ⟨⟨⟨_, b3⟩, rfl⟩, ?_⟩
            try simp only [Act.put, List.setIfInBounds_toArray, List.set_cons_zero, List.set_cons_succ]
            rw [wpWays_one]
            try simp only [List.map_cons, List.map_nil, opAt, List.getElem?_toArray, List.getElem?_cons_zero, List.getElem?_cons_succ, Option.getD_some]
            repeat (go_big_quiet_step (fail))
            refine wpQuiet_nil ?_
            have f3 : w3.frozen? ⟨w.heap.size + 1, 3, none⟩ = false := by simp [World.frozen?, s3.node]
            have kk3 := nd_cell s3.node 3 _ rfl
            go_wp2_with fail
            have hgN : gk ≠ w.heap.size + 1 := by omega
            have s9 := s3.set3 (.slice (some ⟨gk, 0, none⟩) 1 ck)
            have b9 : Below w.heap.size wc (w3.setCell ⟨w.heap.size + 1, 3, none⟩ (.slice (some ⟨gk, 0, none⟩) 1 ck)) := below_setC b3 (by omega)
            refine ⟨⟨⟨_, b9⟩, rfl⟩, ?_⟩
            try simp only [Act.put, List.setIfInBounds_toArray, List.set_cons_zero, List.set_cons_succ]
            rw [wpWays_done]
            try simp only [List.map_nil]
            refine wpQuiet_nil ?_
            go_wp2_with fail
            go_roundw
            case rel => exact .inr ⟨rfl, gk0, ck0, gk, ck, _, by omega, by omega, s9, (cell_setC (by omega)).trans r03, (cell_setC (by omega)).trans r13, (cell_setC hgN).trans q0, hck1, hckm⟩
            case measure => simp [intOf]
          · go_wp2_with fail
            have s2 : GetSt w (w1.alloc (.cells #[.int .i64 5] 3)) (.slice (some ⟨gk0, 0, none⟩) 1 ck0) (.slice none 0 0) cu1 := s1.mono ((Below.refl _ _).alloc (Nat.le_refl _) _) s1.size
            have b2 : Below w.heap.size wc (w1.alloc (.cells #[.int .i64 5] 3)) := b1.alloc (by have := b1.size; have := hst.below.size; omega) _
            have r02 : (w1.alloc (.cells #[.int .i64 5] 3)).cell? ⟨gk0, 0, none⟩ = some (.int .i64 1) := (((Below.refl _ _).alloc (Nat.le_refl _) _ : Below w1.heap.size w1 (w1.alloc (.cells #[.int .i64 5] 3))).cell (p := ⟨gk0, 0, none⟩) (World.block_lt_of_cell? _ _ r01)).trans r01
            have r12 : (w1.alloc (.cells #[.int .i64 5] 3)).cell? ⟨gk0, 1, none⟩ = some (.int .i64 2) := (((Below.refl _ _).alloc (Nat.le_refl _) _ : Below w1.heap.size w1 (w1.alloc (.cells #[.int .i64 5] 3))).cell (p := ⟨gk0, 1, none⟩) (World.block_lt_of_cell? _ _ r11)).trans r11
            refine ⟨⟨⟨_, b2⟩, rfl⟩, ?_⟩
            try simp only [Act.put, List.setIfInBounds_toArray, List.set_cons_zero, List.set_cons_succ]
            rw [wpWays_one]
            try simp only [List.map_nil, opAt, List.getElem?_toArray, List.getElem?_cons_zero, List.getElem?_cons_succ, Option.getD_some]
            repeat (go_big_quiet_step (fail))
            refine wpQuiet_nil ?_
            have kc2 := nd_cell s2.node 3 _ rfl
            go_wp2_with fail
            refine ⟨⟨⟨_, b2⟩, rfl⟩, ?_⟩
            try simp only [Act.put, List.setIfInBounds_toArray, List.set_cons_zero, List.set_cons_succ]
            rw [wpWays_one]
            try simp only [List.map_nil, opAt, List.getElem?_toArray, List.getElem?_cons_zero, List.getElem?_cons_succ, Option.getD_some]
            repeat (go_big_quiet_step (fail))
            refine wpQuiet_nil ?_
            have hnews : ∀ (j : Nat) (u : Value), ([.int .i64 5] : List Value)[j]? = some u → (w1.alloc (.cells #[.int .i64 5] 3)).cell? ((⟨w1.heap.size, 0, none⟩ : Addr).add j) = some u := by
              intro j u hj
              rw [Addr.add_mid]
              match j, hj with
              | 0, hj => simp at hj; subst hj; rw [World.cell?_alloc_new]; rfl
            have hone : ∀ u ∈ ([.int .i64 5] : List Value), u.oneCell' = true := by
              intro u hu
              simp at hu
              subst hu; rfl
            go_wp2_with (at_builtin; refine wpList_append_own_at _ rfl (.tmp 49) (.tmp 52) 24 rfl (w.heap.size + 1 + 1 + 1) 3 ii _ 1 8 Try.underlying24 hii hi0 hi1 hi2 rfl (by omega) _ 0 [] rfl (World.ownsRow_nil _ _ _ _) ⟨w1.heap.size, 0, none⟩ 1 1 [.int .i64 5] rfl rfl hnews hone (by unfold maxLen; omega) (by omega) (by have := s2.size; omega) ?_; intro v2 w3 ho2 hg3 _ _; obtain ⟨gk, ck, rfl, hgk, hgl2, hck1, hckm, ho3⟩ := own_one ho2)
            have g3 : Below (w1.alloc (.cells #[.int .i64 5] 3)).heap.size (w1.alloc (.cells #[.int .i64 5] 3)) w3 := (Below.refl _ _).grown hg3 (Nat.le_refl _) (fun k hk => by cases hk)
            have s3 := s2.mono g3 s2.size
            have b3 : Below w.heap.size wc w3 := b2.trans (g3.mono (by have := s2.size; omega))
            have r03 : w3.cell? ⟨gk0, 0, none⟩ = some (.int .i64 1) := (g3.cell (p := ⟨gk0, 0, none⟩) (World.block_lt_of_cell? _ _ r02)).trans r02
            have r13 : w3.cell? ⟨gk0, 1, none⟩ = some (.int .i64 2) := (g3.cell (p := ⟨gk0, 1, none⟩) (World.block_lt_of_cell? _ _ r12)).trans r12
            have q0 : w3.cell? ⟨gk, 0, none⟩ = some (.int .i64 5) := World.ownsRow.cellAt (g := gk) ho3 0 (by decide)
            refine ⟨⟨⟨_, b3⟩, rfl⟩, ?_⟩
            try simp only [Act.put, List.setIfInBounds_toArray, List.set_cons_zero, List.set_cons_succ]
            rw [wpWays_one]
            try simp only [List.map_cons, List.map_nil, opAt, List.getElem?_toArray, List.getElem?_cons_zero, List.getElem?_cons_succ, Option.getD_some]
            repeat (go_big_quiet_step (fail))
            refine wpQuiet_nil ?_
            have f3 : w3.frozen? ⟨w.heap.size + 1, 3, none⟩ = false := by simp [World.frozen?, s3.node]
            have kk3 := nd_cell s3.node 3 _ rfl
            go_wp2_with fail
            have hgN : gk ≠ w.heap.size + 1 := by omega
            have s9 := s3.set3 (.slice (some ⟨gk, 0, none⟩) 1 ck)
            have b9 : Below w.heap.size wc (w3.setCell ⟨w.heap.size + 1, 3, none⟩ (.slice (some ⟨gk, 0, none⟩) 1 ck)) := below_setC b3 (by omega)
            refine ⟨⟨⟨_, b9⟩, rfl⟩, ?_⟩
            try simp only [Act.put, List.setIfInBounds_toArray, List.set_cons_zero, List.set_cons_succ]
            rw [wpWays_done]
            try simp only [List.map_nil]
            refine wpQuiet_nil ?_
            go_wp2_with fail
            go_roundw
            case rel => exact .inr ⟨rfl, gk0, ck0, gk, ck, _, by omega, by omega, s9, (cell_setC (by omega)).trans r03, (cell_setC (by omega)).trans r13, (cell_setC hgN).trans q0, hck1, hckm⟩
            case measure => simp [intOf]
    · have hnd : NdAt wr gk gd := ⟨hq0, hq1, hq2⟩
      have kn := hs.node
      have hsz := hs.size
      go_wp2_with (first
        | (refine wpList_load_row rfl 34 (.tmp 7) rfl (w.heap.size + 1) rfl 34 _ (0, 0) _ kn Try.underlying34 rfl (by kernel_rfl) ?_)
        | (go_at_call 13; refine (right_ex none gk ck gd cd _ hnd hcdm hcd1).mono ?_; rintro e w1 ⟨rfl, hb1⟩; have kn1 := (hb1.block (w.heap.size + 1) (by omega)).trans kn; have kr1 := (hb1.block w.heap.size (by omega)).trans hs.res)
        | (refine wpList_load_row rfl 34 (.tmp 7) rfl (w.heap.size + 1) rfl 34 _ (0, 0) _ kn1 Try.underlying34 rfl (by kernel_rfl) ?_)
        | (refine wpList_store_row rfl 34 (.tmp 4) (.tmp 60) rfl w.heap.size _ rfl rfl 34 _ kr1 (by kernel_rfl) (by kernel_rfl) (by kernel_rfl) ?_))
      refine bodyPost_ret (v := .tuple #[.agg #[.bool false, .slice none 0 0, .slice (some ⟨gk, 0, none⟩) 1 ck, .slice (some ⟨gd, 0, none⟩) 1 cd], .int .i64 0]) (results_cell_tmp' (p := 4) (u := 5) (ty := 34) rfl _ _ w.heap.size 34 #[.bool false, .slice none 0 0, .slice (some ⟨gk, 0, none⟩) 1 ck, .slice (some ⟨gd, 0, none⟩) 1 cd] (0, 0) _ rfl (setRow_heap _ _ _ _ _ _ kr1) Try.underlying34 rfl (by kernel_rfl)) rfl ?_
      have hb2 : Below w.heap.size w w1 := hs.below.trans (hb1.mono (by omega))
      have hn1 := hnd.below hb1
      refine ⟨gk, ck, gd, cd, rfl, ⟨(World.cell?_of_block (a := ⟨gk, 0, none⟩) (setRow_other _ _ gk _ (Nat.ne_of_gt hgk))).trans hn1.1, (World.cell?_of_block (a := ⟨gk, 1, none⟩) (setRow_other _ _ gk _ (Nat.ne_of_gt hgk))).trans hn1.2.1, (World.cell?_of_block (a := ⟨gd, 0, none⟩) (setRow_other _ _ gd _ (Nat.ne_of_gt hgd))).trans hn1.2.2⟩, hb2.trans ⟨rfl, rfl, rfl, by simp, fun k hk => setRow_other _ _ _ _ (by omega)⟩⟩
end Go.Proofs.Ytgkddhncfaeidaa
