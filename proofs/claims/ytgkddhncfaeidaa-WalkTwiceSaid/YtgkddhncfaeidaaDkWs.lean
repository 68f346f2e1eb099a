/- Write of a disk, with what it changes block by block. -/
import Derived.Test.YtgkddhncfaeidaaPart05
set_option linter.unusedSimpArgs false
set_option linter.unusedVariables false
namespace Go.Proofs.Ytgkddhncfaeidaa
open Go.RowKit
set_option linter.unusedVariables false

/-- Blocks outside X are as they were. -/
structure OuterX (X : Nat → Prop) (w w' : World) : Prop where
  os : w'.os = w.os
  tape : w'.tape = w.tape
  output : w'.output = w.output
  size : w.heap.size ≤ w'.heap.size
  block : ∀ k, k < w.heap.size → ¬ X k → w'.heap[k]? = w.heap[k]?
theorem OuterX.refl (X : Nat → Prop) (w : World) : OuterX X w w := ⟨rfl, rfl, rfl, Nat.le_refl _, fun _ _ _ => rfl⟩
theorem OuterX.grown {X : Nat → Prop} {w w1 w2 : World} {r : Option Nat} (h : OuterX X w w1) (hg : w1.grownBy w2 r) (hr : ∀ k, r = some k → X k ∨ w.heap.size ≤ k) : OuterX X w w2 := by
  refine ⟨hg.os.trans h.os, hg.tape.trans h.tape, hg.output.trans h.output, Nat.le_trans h.size hg.size, fun k hk hko => ?_⟩
  refine (hg.block k (Nat.lt_of_lt_of_le hk h.size) (fun e => ?_)).trans (h.block k hk hko)
  rcases hr k e.symm with h1 | h1
  · exact hko h1
  · omega
theorem OuterX.alloc {X : Nat → Prop} {w w1 : World} (h : OuterX X w w1) (o : Obj) : OuterX X w (w1.alloc o) :=
  h.grown (grown_alloc w1 o none) (fun k e => by cases e)
theorem OuterX.then {X : Nat → Prop} {B' : Nat} {w w1 w2 : World} (h : OuterX X w w1) (hb : Below B' w1 w2) (hB : w.heap.size ≤ B') : OuterX X w w2 :=
  ⟨hb.os.trans h.os, hb.tape.trans h.tape, hb.output.trans h.output, Nat.le_trans h.size hb.size, fun k hk hko => (hb.block k (by omega)).trans (h.block k hk hko)⟩
theorem bytes_outerX {X : Nat → Prop} {w w' : World} {A : Option Addr} {xs : List UInt8} (h : BytesAt w A xs) (hg : OuterX X w w') (hne : ∀ a, A = some a → ¬ X a.block) : BytesAt w' A xs := fun hx => by
  obtain ⟨b, off, rfl, hc⟩ := h hx
  exact ⟨b, off, rfl, fun k hk => (World.cell?_of_block (a := ⟨b, off + k, none⟩) (hg.block b (World.block_lt_of_cell? _ _ (hc k hk)) (hne _ rfl))).trans (hc k hk)⟩
/-- The blocks of a disk that a Write changes. -/
def DkX (g gn : Nat) (rw : Value) (k : Nat) : Prop := k = g ∨ k = gn ∨ rw.ownBlock = some k

section
variable {w w' : World} {B N g gs gn L cs cn : Nat} {rw : Value} {st nw : List UInt8} {ws : List (Nat × List UInt8)} {on : Bool} {left : Int}

set_option maxHeartbeats 2000000 in
set_option maxRecDepth 100000 in
theorem write_any (h : Dk w B N g gs gn rw L cs cn st nw ws true left) (hne : left ≠ 0) (hl1 : -1 ≤ left) (hlm : left ≤ 9223372036854775807) (i : Nat) (hi : 64 * i + 64 ≤ L) (A : Option Addr) (c : Nat) (bs : List UInt8) (hx : BytesAt w A bs) (hbl : bs.length = 64)
    (hA : ∀ a, A = some a → ¬ DkX g gn rw a.block) (l' : Int) (hl' : stepped left = l') (hws : ws.length ≤ 1000) :
    Calls Try.prog 118 #[.pointer (some ⟨g, 0, none⟩), .int .i64 (i : Int), .slice A 64 c] w fun e w' => e = .returned (.int .i64 0) ∧
      (∃ rw', Dk w' B w'.heap.size g gs gn rw' L cs cn st (putAt nw i bs) (ws ++ [(i, bs)]) true l' ∧ Moved w rw.ownBlock rw'.ownBlock) ∧ OuterX (DkX g gn rw) w w' := by
  have H := Lib.hid h
  have hl := h.hi
  have HX := Lib.hid hx
  have HBL := Lib.hid hbl
  have HL := Lib.hid hl'
  clear h hx hbl hl'
  go_enter Try.func118, Try.ntmps118
  go_upto_region 9 with (first
    | (go_at_call 124; refine (refused_on H.out).mono ?_; rintro e w1 ⟨rfl, rfl⟩)
    | (go_at_call 125; refine (has_yes H.out _ i rfl hi).mono ?_; rintro e w1 ⟨rfl, rfl⟩)
    | (go_at_call 126; refine (step_yes H.out hne hl1 hlm l' HL.out).mono ?_; rintro e w1 ⟨rfl, h1, hg1, hz1⟩; have H1 := Lib.hid h1; have HZ1 := Lib.hid hz1; clear h1 hz1)
    | (refine wpList_store_row rfl 211 (.tmp 8) (.tmp 27) rfl w1.heap.size (Try.zeroCells211.setIfInBounds 0 (.int .i64 (i : Int))) rfl rfl 211 Try.zeroCells211 (heap_alloc_new _ _) (by kernel_rfl) (by kernel_rfl) (by kernel_rfl) ?_; rw [World.setRow_alloc_new]))
  have HN := H.out.NN
  have hgB := H.out.gB
  have hgN := H.out.gN
  have o1 : OuterX (DkX g gn rw) w w1 := (OuterX.refl (DkX g gn rw) w).grown hg1 (fun k hk => by injection hk with hk; subst hk; exact .inl (by unfold DkX; simp))
  have o2 := o1.alloc (.cells (Try.zeroCells211.setIfInBounds 0 (.int .i64 (i : Int))) 211)
  have hx2 := bytes_outerX HX.out o2 hA
  have H2 := Lib.hid (H1.out.below ((Below.refl w1.heap.size w1).alloc (Nat.le_refl _) (.cells (Try.zeroCells211.setIfInBounds 0 (.int .i64 (i : Int))) 211)))
  have hq2 : (w1.alloc (.cells (Try.zeroCells211.setIfInBounds 0 (.int .i64 (i : Int))) 211)).heap[w1.heap.size]? = some (.cells ((Value.int .i64 (i : Int)) :: List.replicate 64 (.int .u8 0)).toArray 211 (0, 0)) := heap_alloc_new _ _
  have hs2 : (w1.alloc (.cells (Try.zeroCells211.setIfInBounds 0 (.int .i64 (i : Int))) 211)).heap.size = w1.heap.size + 1 := by simp
  generalize w1.alloc (.cells (Try.zeroCells211.setIfInBounds 0 (.int .i64 (i : Int))) 211) = w2 at *
  have HQ2 := Lib.hid hq2
  have HX2 := Lib.hid hx2
  have HS2 := Lib.hid hs2
  have O2 := Lib.hid o2
  clear hq2 hx2 hs2 o1 o2 hg1
  generalize hq : w1.heap.size = q at *
  have HQ := Lib.hid hq
  clear hq
  have hbne : bs ≠ [] := by intro e; have := HBL.out; subst e; simp at this
  obtain ⟨ad, rfl, hcell⟩ := byteV_cells HX2.out hbne
  have m1 : (bs.map bv).length = Nat.min 64 64 := by rw [List.length_map, HBL.out]; rfl
  have m2 : 1 + (bs.map bv).length ≤ (Value.int .i64 (i : Int) :: List.replicate 64 (Value.int .u8 0)).length := by rw [List.length_map, HBL.out]; simp
  have m3 : (Try.prog.info? 5).map (·.size) = some 1 := by kernel_rfl
  have M1 := Lib.hid m1
  have M2 := Lib.hid m2
  have M3 := Lib.hid m3
  have M4 := Lib.hid hcell
  clear m1 m2 m3 hcell
  go_upto_region 10 with ((with_reducible refine wpList_copy_splice rfl (.tmp 29) (.tmp 30) 27 27 rfl 5 Try.underlying27 M3.out (some ⟨q, 1, none⟩) (some ad) 64 64 64 c rfl rfl q 1 (.int .i64 (i : Int) :: List.replicate 64 (.int .u8 0)) 211 HQ2.out (bs.map bv) M1.out (fun _ => ⟨rfl, ad, rfl, M4.out⟩) M2.out (bv_one bs) q w2 (Below.refl _ _) (Nat.le_refl _) ?_); intro w3 hq3 hb3)
  have hwq : w.heap.size ≤ q := by have := HQ.out; have := HZ1.out; omega
  have H3 := Lib.hid (H2.out.keep (w' := w3) hb3.size (fun k _ hk => hb3.block k (by omega)))
  have O3 := Lib.hid (O2.out.then hb3 hwq)
  have HX3 := Lib.hid (bytes_outerX HX.out O3.out hA)
  have hq4 := hq3.out
  rw [splice_wr i bs HBL.out] at hq4
  have hC65 : (wrC (i, bs)).toArray.size = 65 := by simp [wrC, HBL.out]
  have hC1 : ∀ u ∈ (wrC (i, bs)).toArray.toList, u.oneCell' = true := by simpa using wrC_one (i, bs)
  have hCl : (wrC (i, bs)).toArray.toList = wrC (i, bs) := by simp
  generalize (wrC (i, bs)).toArray = C at *
  have HQ4 := Lib.hid hq4
  have HC65 := Lib.hid hC65
  have HC1 := Lib.hid hC1
  have HCL := Lib.hid hCl
  clear hq3 hq4 hC65 hC1 hCl M1 M2 M4 HQ2 hb3 H2 O2 H1
  have hsC : Hid ((Try.prog.info? 211).map (·.size) = some C.size) := Lib.hid (by rw [HC65.out]; kernel_rfl)
  obtain ⟨iw, hiw, hiz, his, hib⟩ := info_parts infoWr
  have hfill : Hid (Instr.fill (fun i => some (i * iw.size, iw.size)) ((Array.range (1 * iw.size)).map ((Value.agg (.int .i64 0 :: List.replicate 64 (.int .u8 0)).toArray).cells[· % (Value.agg (.int .i64 0 :: List.replicate 64 (.int .u8 0)).toArray).cells.size]!)) [(0, .agg C)] = some C) := Lib.hid (by rw [his]; exact fill_wr C _ HC65.out (by simp))
  simp only [Act.put, List.setIfInBounds_toArray, List.set_cons_zero, List.set_cons_succ]
  go_cut [] from 32 to 41 (fun wx => ∃ rw', Dk wx B wx.heap.size g gs gn rw' L cs cn st nw (ws ++ [(i, bs)]) true l' ∧ OuterX (DkX g gn rw) w wx ∧ Moved w rw.ownBlock rw'.ownBlock)
  case first =>
    refine region_ways4 B (by have := O3.out.size; omega) (.two [0, 1, 2, 3] 4 (.one [] 5 (.one [] 6 (.one [] 7 (.one [8, 9] 10 (.done []))))) 5 (.two [] 4 (.one [] 6 (.one [] 7 (.one [8, 9] 10 (.done [])))) 6 (.one [] 4 (.one [] 7 (.one [8, 9] 10 (.done [])))))) (by kernel_rfl) (by kernel_rfl) ?_
    rintro w0 hbd
    have hb3s := O3.out.size
    have s0 := H3.out.below hbd
    have b0 : Below B w3 w0 := hbd.mono (by omega)
    have o0 := O3.out.then hbd hb3s
    have hq0 := (hbd.block q (Array.getElem?_eq_some_iff.1 HQ4.out).1).trans HQ4.out
    try simp only [Act.put, List.setIfInBounds_toArray, List.set_cons_zero, List.set_cons_succ]
    rw [wpWays_two4]
    try simp only [List.map_cons, List.map_nil, opAt, List.getElem?_toArray, List.getElem?_cons_zero, List.getElem?_cons_succ, Option.getD_some]
    repeat (go_big_quiet_step (fail))
    refine wpQuiet_nil ⟨?_, ?_⟩
    · have k4 := blk_cell s0.head 2 _ rfl
      go_wp2_with fail
      refine ⟨⟨⟨_, b0⟩, rfl⟩, ?_⟩
      try simp only [Act.put, List.setIfInBounds_toArray, List.set_cons_zero, List.set_cons_succ]
      clear k4
      rw [wpWays_one4]
      try simp only [List.map_nil, opAt, List.getElem?_toArray, List.getElem?_cons_zero, List.getElem?_cons_succ, Option.getD_some]
      refine wpQuiet_nil ?_
      go_wp2_with (refine wpList_load_row rfl 211 (.tmp 8) rfl q rfl 211 C (0, 0) _ hq0 Try.underlying211 rfl hsC.out ?_)
      refine ⟨⟨⟨_, b0⟩, rfl⟩, ?_⟩
      try simp only [Act.put, List.setIfInBounds_toArray, List.set_cons_zero, List.set_cons_succ]
      rw [wpWays_one4]
      try simp only [List.map_nil, opAt, List.getElem?_toArray, List.getElem?_cons_zero, List.getElem?_cons_succ, Option.getD_some]
      refine wpQuiet_nil ?_
      go_wp2_with (refine wpList_buildSlice rfl 157 211 1 _ rfl C iw _ Try.underlying157 hiw hiz (by rw [his]; decide) (by rw [his]; decide) (by rw [Array.toList_map]; exact hfill.out) ?_)
      have s1 := s0.below ((Below.refl _ _).alloc (Nat.le_refl _) (.cells C 211))
      have b1 : Below B w3 (w0.alloc (.cells C 211)) := b0.alloc (by have := b0.size; omega) _
      have o1 := o0.alloc (.cells C 211)
      refine ⟨⟨⟨_, b1⟩, rfl⟩, ?_⟩
      try simp only [Act.put, List.setIfInBounds_toArray, List.set_cons_zero, List.set_cons_succ]
      rw [wpWays_one4]
      try simp only [List.map_nil, opAt, List.getElem?_toArray, List.getElem?_cons_zero, List.getElem?_cons_succ, Option.getD_some]
      refine wpQuiet_nil ?_
      have hnews : ∀ (j : Nat) (u : Value), C.toList[j]? = some u → (w0.alloc (.cells C 211)).cell? ((⟨w0.heap.size, 0, none⟩ : Addr).add j) = some u := by
        intro j u hj
        rw [Addr.add_mid, World.cell?_alloc_new]
        simpa using hj
      go_wp2_with (at_builtin; refine wpList_append_own_at _ rfl (.tmp 36) (.tmp 38) 157 rfl B 211 iw _ 65 72 Try.underlying157 hiw hiz his hib rfl (by omega) _ ws.length (ws.flatMap wrC) rfl s1.wait ⟨w0.heap.size, 0, none⟩ 1 1 C.toList rfl (by rw [Array.length_toList, HC65.out]) hnews HC1.out (by unfold maxLen; omega) (by omega) (by have := b1.size; omega) ?_; intro rw2 w4 ho4 hg4 _ how4; obtain ⟨A2, c2, rfl⟩ := own_form ho4)
      have hwk : ∀ k, rw.ownBlock = some k → B ≤ k ∧ k < N := fun k hk => ⟨s1.blk k hk, s1.wN k hk⟩
      have b4 : Below B w3 w4 := b1.grown hg4 (by have := b1.size; omega) (fun k hk => (hwk k hk).1)
      have o4 := o1.grown hg4 (fun k hk => .inl (Or.inr (Or.inr hk)))
      have s4 := s1.more hg4 (by rw [HCL.out] at ho4; exact ho4) how4 HBL.out hi
      refine ⟨⟨⟨_, b4⟩, rfl⟩, ?_⟩
      try simp only [Act.put, List.setIfInBounds_toArray, List.set_cons_zero, List.set_cons_succ]
      rw [wpWays_one4]
      try simp only [List.map_cons, List.map_nil, opAt, List.getElem?_toArray, List.getElem?_cons_zero, List.getElem?_cons_succ, Option.getD_some]
      repeat (go_big_quiet_step (fail))
      refine wpQuiet_nil ?_
      have f4 : w4.frozen? ⟨g, 2, none⟩ = false := by simp [World.frozen?, s4.1]
      have k4 := blk_cell s4.1 2 _ rfl
      go_wp2_with fail
      have b5 : Below B w3 (w4.setCell ⟨g, 2, none⟩ (.slice A2 (ws.length + 1) c2)) := b4.trans (below_setC' (by have := b4.size; omega) hgB)
      refine ⟨⟨⟨_, b5⟩, rfl⟩, ?_⟩
      try simp only [Act.put, List.setIfInBounds_toArray, List.set_cons_zero, List.set_cons_succ]
      rw [wpWays_done4]
      try simp only [List.map_nil]
      refine wpQuiet_nil ?_
      go_wp2_with fail
      go_meet
      exact ⟨.slice A2 (ws.length + 1) c2, s4.2, o4.grown (grown_setC (World.grownBy.refl w4 _) 2 _) (fun k hk => by injection hk with hk; subst hk; exact .inl (by unfold DkX; simp)), by rcases how4 with e | e; exact .inl e; exact .inr ⟨_, e, by have := o1.size; exact this⟩⟩
    · go_wp2_with (refine wpList_load_row rfl 211 (.tmp 8) rfl q rfl 211 C (0, 0) _ hq0 Try.underlying211 rfl hsC.out ?_)
      refine ⟨⟨⟨_, b0⟩, rfl⟩, ?_⟩
      try simp only [Act.put, List.setIfInBounds_toArray, List.set_cons_zero, List.set_cons_succ]
      rw [wpWays_two4]
      try simp only [List.map_nil, opAt, List.getElem?_toArray, List.getElem?_cons_zero, List.getElem?_cons_succ, Option.getD_some]
      refine wpQuiet_nil ⟨?_, ?_⟩
      · have k4 := blk_cell s0.head 2 _ rfl
        go_wp2_with fail
        refine ⟨⟨⟨_, b0⟩, rfl⟩, ?_⟩
        try simp only [Act.put, List.setIfInBounds_toArray, List.set_cons_zero, List.set_cons_succ]
        clear k4
        rw [wpWays_one4]
        try simp only [List.map_nil, opAt, List.getElem?_toArray, List.getElem?_cons_zero, List.getElem?_cons_succ, Option.getD_some]
        refine wpQuiet_nil ?_
        go_wp2_with (refine wpList_buildSlice rfl 157 211 1 _ rfl C iw _ Try.underlying157 hiw hiz (by rw [his]; decide) (by rw [his]; decide) (by rw [Array.toList_map]; exact hfill.out) ?_)
        have s1 := s0.below ((Below.refl _ _).alloc (Nat.le_refl _) (.cells C 211))
        have b1 : Below B w3 (w0.alloc (.cells C 211)) := b0.alloc (by have := b0.size; omega) _
        have o1 := o0.alloc (.cells C 211)
        refine ⟨⟨⟨_, b1⟩, rfl⟩, ?_⟩
        try simp only [Act.put, List.setIfInBounds_toArray, List.set_cons_zero, List.set_cons_succ]
        rw [wpWays_one4]
        try simp only [List.map_nil, opAt, List.getElem?_toArray, List.getElem?_cons_zero, List.getElem?_cons_succ, Option.getD_some]
        refine wpQuiet_nil ?_
        have hnews : ∀ (j : Nat) (u : Value), C.toList[j]? = some u → (w0.alloc (.cells C 211)).cell? ((⟨w0.heap.size, 0, none⟩ : Addr).add j) = some u := by
          intro j u hj
          rw [Addr.add_mid, World.cell?_alloc_new]
          simpa using hj
        go_wp2_with (at_builtin; refine wpList_append_own_at _ rfl (.tmp 36) (.tmp 38) 157 rfl B 211 iw _ 65 72 Try.underlying157 hiw hiz his hib rfl (by omega) _ ws.length (ws.flatMap wrC) rfl s1.wait ⟨w0.heap.size, 0, none⟩ 1 1 C.toList rfl (by rw [Array.length_toList, HC65.out]) hnews HC1.out (by unfold maxLen; omega) (by omega) (by have := b1.size; omega) ?_; intro rw2 w4 ho4 hg4 _ how4; obtain ⟨A2, c2, rfl⟩ := own_form ho4)
        have hwk : ∀ k, rw.ownBlock = some k → B ≤ k ∧ k < N := fun k hk => ⟨s1.blk k hk, s1.wN k hk⟩
        have b4 : Below B w3 w4 := b1.grown hg4 (by have := b1.size; omega) (fun k hk => (hwk k hk).1)
        have o4 := o1.grown hg4 (fun k hk => .inl (Or.inr (Or.inr hk)))
        have s4 := s1.more hg4 (by rw [HCL.out] at ho4; exact ho4) how4 HBL.out hi
        refine ⟨⟨⟨_, b4⟩, rfl⟩, ?_⟩
        try simp only [Act.put, List.setIfInBounds_toArray, List.set_cons_zero, List.set_cons_succ]
        rw [wpWays_one4]
        try simp only [List.map_cons, List.map_nil, opAt, List.getElem?_toArray, List.getElem?_cons_zero, List.getElem?_cons_succ, Option.getD_some]
        repeat (go_big_quiet_step (fail))
        refine wpQuiet_nil ?_
        have f4 : w4.frozen? ⟨g, 2, none⟩ = false := by simp [World.frozen?, s4.1]
        have k4 := blk_cell s4.1 2 _ rfl
        go_wp2_with fail
        have b5 : Below B w3 (w4.setCell ⟨g, 2, none⟩ (.slice A2 (ws.length + 1) c2)) := b4.trans (below_setC' (by have := b4.size; omega) hgB)
        refine ⟨⟨⟨_, b5⟩, rfl⟩, ?_⟩
        try simp only [Act.put, List.setIfInBounds_toArray, List.set_cons_zero, List.set_cons_succ]
        rw [wpWays_done4]
        try simp only [List.map_nil]
        refine wpQuiet_nil ?_
        go_wp2_with fail
        go_meet
        exact ⟨.slice A2 (ws.length + 1) c2, s4.2, o4.grown (grown_setC (World.grownBy.refl w4 _) 2 _) (fun k hk => by injection hk with hk; subst hk; exact .inl (by unfold DkX; simp)), by rcases how4 with e | e; exact .inl e; exact .inr ⟨_, e, by have := o1.size; exact this⟩⟩
      · go_wp2_with (refine wpList_buildSlice rfl 157 211 1 _ rfl C iw _ Try.underlying157 hiw hiz (by rw [his]; decide) (by rw [his]; decide) (by rw [Array.toList_map]; exact hfill.out) ?_)
        have s1 := s0.below ((Below.refl _ _).alloc (Nat.le_refl _) (.cells C 211))
        have b1 : Below B w3 (w0.alloc (.cells C 211)) := b0.alloc (by have := b0.size; omega) _
        have o1 := o0.alloc (.cells C 211)
        refine ⟨⟨⟨_, b1⟩, rfl⟩, ?_⟩
        try simp only [Act.put, List.setIfInBounds_toArray, List.set_cons_zero, List.set_cons_succ]
        rw [wpWays_one4]
        try simp only [List.map_nil, opAt, List.getElem?_toArray, List.getElem?_cons_zero, List.getElem?_cons_succ, Option.getD_some]
        refine wpQuiet_nil ?_
        have k4 := blk_cell s1.head 2 _ rfl
        go_wp2_with fail
        refine ⟨⟨⟨_, b1⟩, rfl⟩, ?_⟩
        try simp only [Act.put, List.setIfInBounds_toArray, List.set_cons_zero, List.set_cons_succ]
        clear k4
        rw [wpWays_one4]
        try simp only [List.map_nil, opAt, List.getElem?_toArray, List.getElem?_cons_zero, List.getElem?_cons_succ, Option.getD_some]
        refine wpQuiet_nil ?_
        have hnews : ∀ (j : Nat) (u : Value), C.toList[j]? = some u → (w0.alloc (.cells C 211)).cell? ((⟨w0.heap.size, 0, none⟩ : Addr).add j) = some u := by
          intro j u hj
          rw [Addr.add_mid, World.cell?_alloc_new]
          simpa using hj
        go_wp2_with (at_builtin; refine wpList_append_own_at _ rfl (.tmp 36) (.tmp 38) 157 rfl B 211 iw _ 65 72 Try.underlying157 hiw hiz his hib rfl (by omega) _ ws.length (ws.flatMap wrC) rfl s1.wait ⟨w0.heap.size, 0, none⟩ 1 1 C.toList rfl (by rw [Array.length_toList, HC65.out]) hnews HC1.out (by unfold maxLen; omega) (by omega) (by have := b1.size; omega) ?_; intro rw2 w4 ho4 hg4 _ how4; obtain ⟨A2, c2, rfl⟩ := own_form ho4)
        have hwk : ∀ k, rw.ownBlock = some k → B ≤ k ∧ k < N := fun k hk => ⟨s1.blk k hk, s1.wN k hk⟩
        have b4 : Below B w3 w4 := b1.grown hg4 (by have := b1.size; omega) (fun k hk => (hwk k hk).1)
        have o4 := o1.grown hg4 (fun k hk => .inl (Or.inr (Or.inr hk)))
        have s4 := s1.more hg4 (by rw [HCL.out] at ho4; exact ho4) how4 HBL.out hi
        refine ⟨⟨⟨_, b4⟩, rfl⟩, ?_⟩
        try simp only [Act.put, List.setIfInBounds_toArray, List.set_cons_zero, List.set_cons_succ]
        rw [wpWays_one4]
        try simp only [List.map_cons, List.map_nil, opAt, List.getElem?_toArray, List.getElem?_cons_zero, List.getElem?_cons_succ, Option.getD_some]
        repeat (go_big_quiet_step (fail))
        refine wpQuiet_nil ?_
        have f4 : w4.frozen? ⟨g, 2, none⟩ = false := by simp [World.frozen?, s4.1]
        have k4 := blk_cell s4.1 2 _ rfl
        go_wp2_with fail
        have b5 : Below B w3 (w4.setCell ⟨g, 2, none⟩ (.slice A2 (ws.length + 1) c2)) := b4.trans (below_setC' (by have := b4.size; omega) hgB)
        refine ⟨⟨⟨_, b5⟩, rfl⟩, ?_⟩
        try simp only [Act.put, List.setIfInBounds_toArray, List.set_cons_zero, List.set_cons_succ]
        rw [wpWays_done4]
        try simp only [List.map_nil]
        refine wpQuiet_nil ?_
        go_wp2_with fail
        go_meet
        exact ⟨.slice A2 (ws.length + 1) c2, s4.2, o4.grown (grown_setC (World.grownBy.refl w4 _) 2 _) (fun k hk => by injection hk with hk; subst hk; exact .inl (by unfold DkX; simp)), by rcases how4 with e | e; exact .inl e; exact .inr ⟨_, e, by have := o1.size; exact this⟩⟩
  case rest =>
    obtain ⟨rw', s5, o5, mv5⟩ := hcut
    have HX5 := Lib.hid (bytes_outerX HX.out o5 hA)
    have S5 := Lib.hid s5
    have O5 := Lib.hid o5
    clear s5 o5
    have c1 := blk_cell S5.out.head 1 _ rfl
    obtain ⟨hB5, hcn, hcm, _⟩ := S5.out.now.parts
    rw [S5.out.lnw] at hcn
    have hnow : Hid (OwnB wc B gn cn 5 (nw.take (64 * i) ++ nw.drop (64 * i))) := Lib.hid (by rw [List.take_append_drop]; exact S5.out.now)
    have hpre : Hid (64 * i = (nw.take (64 * i)).length) := Lib.hid (by rw [List.length_take, S5.out.lnw]; omega)
    have hfit : Hid (64 ≤ (nw.drop (64 * i)).length) := Lib.hid (by rw [List.length_drop, S5.out.lnw]; omega)
    go_wp2_with (first
      | (go_at_call 127; (with_reducible refine (sector_any gn cn i hi hl hcn hcm _ rfl).mono ?_); rintro e w1 ⟨rfl, rfl⟩)
      | ((with_reducible refine wpList_copy_bytes rfl (.tmp 47) (.tmp 48) 27 27 rfl 5 Try.underlying27 M3.out B gn cn (64 * i) 64 (cn - 64 * i) (some ad) 64 c (nw.take (64 * i)) (nw.drop (64 * i)) bs rfl rfl hpre.out hnow.out HX5.out HBL.out (Nat.le_refl _) hfit.out ?_); intro w6 ho6 hg6))
    go_ret
    have hgn := S5.out.now.parts.1
    have hnN := H.out.nN
    have o6 : OuterX (DkX g gn rw) w w6 := O5.out.grown hg6 (fun k hk => by injection hk with hk; subst hk; exact .inl (by unfold DkX; simp))
    refine ⟨rfl, ⟨rw', S5.out.setNow hg6 ho6 ?_, mv5⟩, o6⟩
    rw [length_putAt (by rw [S5.out.lnw]; exact hi) HBL.out]
    exact S5.out.lnw
end
end Go.Proofs.Ytgkddhncfaeidaa
