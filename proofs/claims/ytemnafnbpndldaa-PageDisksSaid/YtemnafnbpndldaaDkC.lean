/- Power goes: Crash of a disk. -/
import Derived.Test.YtemnafnbpndldaaDkK
namespace Go.Proofs.Ytemnafnbpndldaa
open Go.RowKit
set_option linter.unusedVariables false

/-- One write that waits, and its fate. -/
def crash1 (S : List UInt8) (p : Nat × List UInt8) : Option (Bool × Nat) → List UInt8
  | some (true, a) => S.take (64 * p.1) ++ keepN a ((S.drop (64 * p.1)).take 64) p.2 8 ++ (S.drop (64 * p.1)).drop 64
  | _ => S
/-- Behind k writes that waited. -/
def crashN (S : List UInt8) (ws : List (Nat × List UInt8)) (fs : List (Bool × Nat)) : Nat → List UInt8
  | 0 => S
  | k + 1 => match ws[k]? with
    | some p => crash1 (crashN S ws fs k) p fs[k]?
    | none => crashN S ws fs k

theorem crashN_succ {S : List UInt8} {ws : List (Nat × List UInt8)} {fs : List (Bool × Nat)} {k : Nat} {p : Nat × List UInt8} (hp : ws[k]? = some p) : crashN S ws fs (k + 1) = crash1 (crashN S ws fs k) p fs[k]? := by
  show (match ws[k]? with | some p => crash1 (crashN S ws fs k) p fs[k]? | none => crashN S ws fs k) = _
  rw [hp]

theorem length_crash1 {S : List UInt8} {p : Nat × List UInt8} {f : Option (Bool × Nat)} (hp : p.2.length = 64) (hi : 64 * p.1 + 64 ≤ S.length) : (crash1 S p f).length = S.length := by
  unfold crash1
  split
  · simp only [List.length_append, List.length_take, List.length_drop]
    rw [length_keepN _ _ _ (by simp; omega) hp 8 (by omega)]
    omega
  · rfl
theorem length_crashN {S : List UInt8} {ws : List (Nat × List UInt8)} {fs : List (Bool × Nat)} (h : ∀ p ∈ ws, p.2.length = 64 ∧ 64 * p.1 + 64 ≤ S.length) : ∀ k, (crashN S ws fs k).length = S.length
  | 0 => rfl
  | k + 1 => by
    have ih := length_crashN (fs := fs) h k
    unfold crashN
    split
    · rename_i p hp
      have := h p (List.mem_of_getElem? hp)
      rw [length_crash1 this.1 (by rw [ih]; exact this.2), ih]
    · exact ih

theorem flat_wr : ∀ (ws : List (Nat × List UInt8)), (∀ p ∈ ws, p.2.length = 64) → ∀ (k : Nat) (p : Nat × List UInt8), ws[k]? = some p → ∀ j, j < 65 → (ws.flatMap wrC)[k * 65 + j]? = (wrC p)[j]?
  | [], _, k, p, hk, j, hj => by simp at hk
  | q :: r, h, k, p, hk, j, hj => by
    have hq : (wrC q).length = 65 := by simp [wrC, h q (by simp)]
    rw [List.flatMap_cons]
    cases k with
    | zero =>
      simp at hk
      subst hk
      rw [List.getElem?_append_left (by omega), Nat.zero_mul, Nat.zero_add]
    | succ k =>
      rw [List.getElem?_append_right (by omega), hq, show (k + 1) * 65 + j - 65 = k * 65 + j by omega]
      exact flat_wr r (fun p hp => h p (by simp [hp])) k p (by simpa using hk) j hj

theorem cell_outer {B N : Nat} {w w' : World} {b i : Nat} {v : Value} (h : w.cell? ⟨b, i, none⟩ = some v) (ho : Outer B N w w') (hb : b < B ∨ N ≤ b) : w'.cell? ⟨b, i, none⟩ = some v :=
  (World.cell?_of_block (a := ⟨b, i, none⟩) (ho.block b (World.block_lt_of_cell? _ _ h) hb)).trans h

section
variable {w w' : World} {B N g gs gn L cs cn : Nat} {rw : Value} {st nw : List UInt8} {ws : List (Nat × List UInt8)} {on : Bool} {left : Int}

/-- The k-th write that waits, in memory. -/
theorem Dk.wr (h : Dk w B N g gs gn rw L cs cn st nw ws on left) (k : Nat) (p : Nat × List UInt8) (hp : ws[k]? = some p) : ∃ gw c, rw = .slice (some ⟨gw, 0, none⟩) ws.length c ∧ ws.length ≤ c ∧ c ≤ maxLen ∧ gw < w.heap.size ∧ w.rangeAt gw (k * 65) (wrC p) := by
  obtain ⟨hk, _⟩ := List.getElem?_eq_some_iff.1 hp
  rcases h.wait.2 with ⟨h0, h1⟩ | ⟨g', cap', cur, hv, hb, hh, hn, hm, _⟩
  · omega
  · subst hv
    refine ⟨g', cap', rfl, hn, hm, (Array.getElem?_eq_some_iff.1 hh).1, fun j v hj => ?_⟩
    obtain ⟨hj1, _⟩ := List.getElem?_eq_some_iff.1 hj
    have h65 : (wrC p).length = 65 := by simp [wrC, (h.fit p (List.mem_of_getElem? hp)).1]
    rw [World.ownsRow.cellAt (g := g') h.wait (k * 65 + j) (by omega), flat_wr ws (fun p hp => (h.fit p hp).1) k p hp j (by omega), hj]

theorem Dk.setStay {st2 : List UInt8} (h : Dk w B N g gs gn rw L cs cn st nw ws on left) (hg : w.grownBy w' (some gs)) (ho : OwnB w' B gs cs 5 st2) (hl : st2.length = L) :
    Dk w' B N g gs gn rw L cs cn st2 nw ws on left := by
  obtain ⟨_, _, _, c2, hh2, _⟩ := h.stay.parts
  have gnn : g ≠ gs := by
    intro e
    rw [← e, h.head] at hh2
    simp at hh2
  have hs := hg.size
  have hN := h.NN
  exact { h with
    head := (hg.block g (Array.getElem?_eq_some_iff.1 h.head).1 (fun e => gnn (by injection e))).trans h.head
    now := h.now.keep (hg.block gn h.now.lt (fun e => h.ne (by injection e with e; exact e.symm)))
    stay := ho
    wait := by
      rcases h.wait.2 with ⟨h0, h1⟩ | ⟨g', cap', cur, hv, hb, hh, hr⟩
      · exact ⟨h.wait.1, .inl ⟨h0, h1⟩⟩
      · refine ⟨h.wait.1, .inr ⟨g', cap', cur, hv, hb, (hg.block g' (Array.getElem?_eq_some_iff.1 hh).1 ?_).trans hh, hr⟩⟩
        intro e
        injection e with e
        rw [e, hh2] at hh
        simp at hh
    lst := hl
    NN := by omega }

theorem Dk.reset (h : Dk w B N g gs gn rw L cs cn st nw ws on left) :
    Dk (((w.setCell ⟨g, 2, none⟩ (.slice none 0 0)).setCell ⟨g, 3, none⟩ (.bool true)).setCell ⟨g, 4, none⟩ (.int .i64 (-1))) B N g gs gn (.slice none 0 0) L cs cn st nw [] true (-1) := by
  have hk : ∀ k, k ≠ g → (((w.setCell ⟨g, 2, none⟩ (.slice none 0 0)).setCell ⟨g, 3, none⟩ (.bool true)).setCell ⟨g, 4, none⟩ (.int .i64 (-1))).heap[k]? = w.heap[k]? := fun k hk =>
    (Below.heap_setCell _ ⟨g, 4, none⟩ _ k hk).trans ((Below.heap_setCell _ ⟨g, 3, none⟩ _ k hk).trans (Below.heap_setCell w ⟨g, 2, none⟩ _ k hk))
  have hgs : gs ≠ g := by
    intro e
    obtain ⟨_, _, _, cur, hh, _⟩ := h.stay.parts
    rw [e, h.head] at hh
    simp at hh
  have hgn : gn ≠ g := by
    intro e
    obtain ⟨_, _, _, cur, hh, _⟩ := h.now.parts
    rw [e, h.head] at hh
    simp at hh
  exact { h with
    head := (heap_setCell_same _ g 4 _ _ _ ((heap_setCell_same _ g 3 _ _ _ ((heap_setCell_same w g 2 _ _ _ h.head).trans rfl)).trans rfl)).trans rfl
    stay := h.stay.keep (hk gs hgs)
    now := h.now.keep (hk gn hgn)
    wait := World.ownsRow_nil _ _ _ _
    wN := fun k hk => by cases hk
    NN := by simpa using h.NN
    fit := fun p hp => by cases hp }
theorem Dk.wider (h : Dk w B N g gs gn rw L cs cn st nw ws on left) {N' : Nat} (h1 : N ≤ N') (h2 : N' ≤ w.heap.size) : Dk w B N' g gs gn rw L cs cn st nw ws on left :=
  { h with gN := by have := h.gN; omega, sN := by have := h.sN; omega, nN := by have := h.nN; omega, wN := fun k hk => by have := h.wN k hk; omega, NN := h2 }

set_option maxHeartbeats 2000000 in
set_option maxRecDepth 100000 in
theorem crash_any (h : Dk w B N g gs gn rw L cs cn st nw ws on left) (hws : ws.length ≤ 1000) (A : Option Addr) (nf c : Nat) (fs : List (Bool × Nat)) (hnf : fs.length = nf) (hnfm : nf ≤ 1000) (hnc : nf ≤ c) (hcm : c ≤ maxLen)
    (hf : ∀ (j : Nat) (p : Bool × Nat), fs[j]? = some p → ∃ b off, A = some ⟨b, off, none⟩ ∧ w.cell? ⟨b, off + j * 2, none⟩ = some (.bool p.1) ∧ w.cell? ⟨b, off + j * 2 + 1, none⟩ = some (.int .u8 (p.2 : Int)) ∧ p.2 < 256)
    (hA : ∀ a, A = some a → a.block < B ∨ N ≤ a.block) :
    Calls Try.prog 11 #[.pointer (some ⟨g, 0, none⟩), .slice A nf c] w fun e w' => e = .returned (.tuple #[]) ∧
      Dk w' B w'.heap.size g gs gn (.slice none 0 0) L cs cn (crashN st ws fs ws.length) (crashN st ws fs ws.length) [] true (-1) ∧ Outer B N w w' := by
  obtain ⟨Aw, cw, hrw⟩ := h.rows
  unfold maxLen at hcm
  have H := Lib.hid h
  have HF := Lib.hid hf
  have HNF := Lib.hid hnf
  have c2 := blk_cell h.head 2 _ rfl
  rw [hrw] at c2
  have HRW := Lib.hid hrw
  clear h hf hnf hrw
  obtain ⟨n, hn⟩ : ∃ n, n = ws.length := ⟨_, rfl⟩
  rw [← hn] at c2 hws
  have HN := Lib.hid hn
  clear hn
  go_enter Try.func11, Try.ntmps11
  go_wp2_with fail
  go_loopw [13] (fun i wr => ∃ k : Nat, k ≤ n ∧ i = .int .i64 k ∧ Hid (Dk wr B N g gs gn rw L cs cn (crashN st ws fs k) nw ws on left) ∧ Hid (Outer B N w wr)) (fun i _ => n - (intOf i).toNat)
  case atStart => exact ⟨0, by omega, rfl, H, Lib.hid (Outer.refl B N w)⟩
  case round =>
    obtain ⟨k, hk, rfl, hr, hO⟩ := hrel
    by_cases hlt : k < n
    · obtain ⟨p, hp⟩ : ∃ p, ws[k]? = some p := ⟨_, List.getElem?_eq_getElem (by have := HN.out; omega)⟩
      obtain ⟨gw, cw', hv, hnc2, hcm2, hgw, hrange⟩ := hr.out.wr k p hp
      have hv2 := HRW.out
      rw [hv] at hv2
      injection hv2 with hv2 _ hv3
      subst hv2 hv3
      have hfit := hr.out.fit p (List.mem_of_getElem? hp)
      have h65 : (wrC p).length = 65 := by simp [wrC, hfit.1]
      unfold maxLen at hcm2
      have hncw : n ≤ cw' := by have := HN.out; omega
      have HP := Lib.hid hp
      have HFIT := Lib.hid hfit
      have hone := wrC_one p
      obtain ⟨C, hC⟩ : ∃ C, C = wrC p := ⟨_, rfl⟩
      rw [← hC] at hrange h65 hone
      have HC := Lib.hid hC
      have HR := Lib.hid hrange
      have s1 : Hid ((Try.prog.info? 106).map (·.size) = some C.length) := Lib.hid (by rw [h65]; kernel_rfl)
      have s2 : Hid ((Try.prog.info? 106).map (·.size) = some C.toArray.size) := Lib.hid (by rw [List.size_toArray, h65]; kernel_rfl)
      have s3 : Hid (Try.zeroCells106.size = C.toArray.size) := Lib.hid (by rw [show C.toArray.size = 65 by rw [List.size_toArray]; exact h65]; kernel_rfl)
      have s4 : Hid (C.toArray.all (·.oneCell') = true) := Lib.hid (by simpa using hone)
      clear hp hfit hC hrange h65 hone hv
      go_upto_region 4 with (first
        | (with_reducible refine wpList_load_mid rfl 106 _ rfl gw (k * 65) rfl C _ HR.out Try.underlying106 rfl s1.out ?_)
        | (refine wpList_store_row rfl 106 (.tmp 5) (.tmp 17) rfl wr.heap.size C.toArray rfl rfl 106 Try.zeroCells106 (heap_alloc_new _ _) s2.out s3.out s4.out ?_; rw [World.setRow_alloc_new]))
      have H1 := Lib.hid (hr.out.below ((Below.refl wr.heap.size wr).alloc (Nat.le_refl _) (.cells C.toArray 106)))
      have O1 := Lib.hid (hO.out.alloc (.cells C.toArray 106))
      have hq : (wr.alloc (.cells C.toArray 106)).heap[wr.heap.size]? = some (.cells C.toArray 106 (0, 0)) := heap_alloc_new _ _
      have hNq : N ≤ wr.heap.size := hr.out.NN
      generalize wr.alloc (.cells C.toArray 106) = W1 at *
      generalize wr.heap.size = q at *
      have HQ := Lib.hid hq
      clear hq c2 s1 s2 s3 s4 HR
      cases hfk : fs[k]? with
      | none =>
        have hkn : nf ≤ k := by have := List.getElem?_eq_none_iff.1 hfk; have := HNF.out; omega
        have hcr : crashN st ws fs (k + 1) = crashN st ws fs k := by rw [crashN_succ HP.out, hfk]; rfl
        have HCR := Lib.hid hcr
        clear hfk hcr
        go_wp2_with fail
        go_roundw
        case rel => exact ⟨k + 1, by omega, by go_num, by rw [HCR.out]; exact H1, O1⟩
        case measure => simp [intOf]; omega
      | some f =>
        obtain ⟨bb, a⟩ := f
        obtain ⟨b, off, rfl, f1, f2, ha⟩ := HF.out k (bb, a) hfk
        have hkn : k < nf := by have := (List.getElem?_eq_some_iff.1 hfk).1; have := HNF.out; omega
        have hbo := hA _ rfl
        have e1 := cell_outer f1 O1.out hbo
        have e2 := cell_outer f2 O1.out hbo
        cases bb with
        | false =>
          have hcr : crashN st ws fs (k + 1) = crashN st ws fs k := by rw [crashN_succ HP.out, hfk]; rfl
          have HCR := Lib.hid hcr
          clear hfk hcr f1 f2
          go_wp2_with fail
          go_roundw
          case rel => exact ⟨k + 1, by omega, by go_num, by rw [HCR.out]; exact H1, O1⟩
          case measure => simp [intOf]; omega
        | true =>
          have hcr : crashN st ws fs (k + 1) = (crashN st ws fs k).take (64 * p.1) ++ keepN a (((crashN st ws fs k).drop (64 * p.1)).take 64) p.2 8 ++ ((crashN st ws fs k).drop (64 * p.1)).drop 64 := by rw [crashN_succ HP.out, hfk]; rfl
          have HCR := Lib.hid hcr
          clear hfk hcr f1 f2
          go_upto_region 5 with fail
          have e0 := blk_cell H1.out.head 0 _ rfl
          have e3 : W1.cell? ⟨q, 0, none⟩ = some (.int .i64 (p.1 : Int)) := blk_cell HQ.out 0 _ (by rw [HC.out]; rfl)
          have l0 := World.block_lt_of_cell? _ _ e0
          have l2 := World.block_lt_of_cell? _ _ e2
          have l3 := World.block_lt_of_cell? _ _ e3
          have g0 : ∀ y : SubW W1.heap.size W1, y.at_.cell? ⟨g, 0, none⟩ = some _ := fun y => (World.cell?_of_block (a := ⟨g, 0, none⟩) (y.ok_.block _ l0)).trans e0
          have g2 : ∀ y : SubW W1.heap.size W1, y.at_.cell? ⟨b, off + k * 2 + 1, none⟩ = some _ := fun y => (World.cell?_of_block (a := ⟨b, off + k * 2 + 1, none⟩) (y.ok_.block _ l2)).trans e2
          have g3 : ∀ y : SubW W1.heap.size W1, y.at_.cell? ⟨q, 0, none⟩ = some _ := fun y => (World.cell?_of_block (a := ⟨q, 0, none⟩) (y.ok_.block _ l3)).trans e3
          obtain ⟨hBs, hcs, hcsm, _⟩ := H1.out.stay.parts
          rw [H1.out.lst] at hcs
          have hLh := H1.out.hi
          have hfi : 64 * p.1 + 64 ≤ L := HFIT.out.2
          refine region_below_tail 14 W1.heap.size W1 (Below.refl _ _) (by kernel_rfl) (by kernel_rfl) ?_
          simp only [List.take_succ_cons, List.take_zero, List.drop_succ_cons, List.drop_zero]
          repeat (go_big_quiet_step ((go_at_call 51; exact calls_sub (Nat.le_refl _) ((sector_any gs cs p.1 hfi hLh hcs hcsm _ rfl).mono fun e w' ⟨h1, h2⟩ => ⟨h1, h2 ▸ Below.refl _ _⟩))))
          refine wpQuiet_nil ?_
          rintro w' ⟨y, rfl⟩
          clear g0 g2 g3
          have hS : (crashN st ws fs k).length = L := H1.out.lst
          have hoy : OwnB y.at_ B gs cs 5 ((crashN st ws fs k).take (64 * p.1) ++ ((crashN st ws fs k).drop (64 * p.1)).take 64 ++ ((crashN st ws fs k).drop (64 * p.1)).drop 64) := by
            rw [List.append_assoc, List.take_append_drop, List.take_append_drop]
            exact H1.out.stay.keep (y.ok_.block gs H1.out.stay.lt)
          have hpre : 64 * p.1 = ((crashN st ws fs k).take (64 * p.1)).length := by rw [List.length_take, hS]; omega
          have hmid : (((crashN st ws fs k).drop (64 * p.1)).take 64).length = 64 := by rw [List.length_take, List.length_drop, hS]; omega
          have hqy : y.at_.heap[q]? = some (.cells C.toArray 106 (0, 0)) := (y.ok_.block q l3).trans HQ.out
          have hxq : BytesAt y.at_ (some ⟨q, 1, none⟩) p.2 := fun _ => ⟨q, 1, rfl, fun j hj => by
            refine blk_cell hqy (1 + j) _ ?_
            rw [HC.out, Nat.add_comm 1 j]
            simp [wrC, hj, bv]⟩
          have hqg : q ≠ gs := by have := H1.out.sN; omega
          have m1 : 64 ≤ cs - 64 * p.1 := by omega
          have m2 : cs - 64 * p.1 ≤ maxLen := by omega
          have K1 := Lib.hid hoy
          have K2 := Lib.hid hpre
          have K3 := Lib.hid hmid
          have K4 := Lib.hid hxq
          have K5 := Lib.hid hS
          clear hoy hpre hmid hxq hS hqy
          go_wp2_with (go_at_call 50; (with_reducible refine (keep_any B gs cs (cs - 64 * p.1) (64 * p.1) _ _ _ p.2 q 0 a ha y.at_ K2.out K1.out K3.out HFIT.out.1 K4.out hqg m1 m2).mono ?_); rintro e w6 ⟨rfl, ho6, hg6⟩)
          go_roundw
          case rel =>
            refine ⟨k + 1, by omega, by go_num, Lib.hid ?_, Lib.hid ?_⟩
            · rw [HCR.out]
              refine (H1.out.below y.ok_).setStay hg6 ho6 ?_
              simp only [List.length_append, List.length_take, List.length_drop, K5.out]
              rw [length_keepN _ _ _ K3.out HFIT.out.1 8 (by omega)]
              omega
            · exact (O1.out.then y.ok_ O1.out.size).grown hg6 (fun k hk => by injection hk with hk; have := H1.out.stay.parts.1; have := H1.out.sN; omega)
          case measure => simp [intOf]; omega
    · obtain rfl : k = n := by omega
      have hloopend := hlt
      go_upto_region 7 with fail
      have e0 := blk_cell hr.out.head 0 _ rfl
      have e1 := blk_cell hr.out.head 1 _ rfl
      have l0 := World.block_lt_of_cell? _ _ e0
      have g0 : ∀ y : SubW wr.heap.size wr, y.at_.cell? ⟨g, 0, none⟩ = some _ := fun y => (World.cell?_of_block (a := ⟨g, 0, none⟩) (y.ok_.block _ l0)).trans e0
      have g1 : ∀ y : SubW wr.heap.size wr, y.at_.cell? ⟨g, 1, none⟩ = some _ := fun y => (World.cell?_of_block (a := ⟨g, 1, none⟩) (y.ok_.block _ l0)).trans e1
      refine region_below_tail 8 wr.heap.size wr (Below.refl _ _) (by kernel_rfl) (by kernel_rfl) ?_
      simp only [List.take_succ_cons, List.take_zero, List.drop_succ_cons, List.drop_zero]
      repeat (go_big_quiet_step (fail))
      refine wpQuiet_nil ?_
      rintro w' ⟨y, rfl⟩
      clear g0 g1
      have D1 := Lib.hid (hr.out.below y.ok_)
      have O1 := Lib.hid (hO.out.then y.ok_ hO.out.size)
      have K1 : Hid (OwnB y.at_ B gn cn 5 ([] ++ nw)) := Lib.hid D1.out.now
      have K2 : Hid (BytesAt y.at_ (some ⟨gs, 0, none⟩) (crashN st ws fs k)) := Lib.hid D1.out.stay.bytes
      have K3 : Hid ((crashN st ws fs k).length = L) := Lib.hid D1.out.lst
      have K4 : Hid (L ≤ nw.length) := Lib.hid (by rw [D1.out.lnw]; exact Nat.le_refl _)
      have K5 : Hid (0 = ([] : List UInt8).length) := Lib.hid rfl
      have K6 : Hid ((Try.prog.info? 5).map (·.size) = some 1) := Lib.hid (by kernel_rfl)
      go_upto_region 8 with ((with_reducible refine wpList_copy_bytes rfl (.tmp 48) (.tmp 52) 27 27 rfl 5 Try.underlying27 K6.out B gn cn 0 L cn (some ⟨gs, 0, none⟩) L cs [] nw (crashN st ws fs k) rfl rfl K5.out K1.out K2.out K3.out (Nat.le_refl _) K4.out ?_); intro w6 ho6 hg6)
      have hnil : nw.drop L = [] := List.drop_eq_nil_of_le (by rw [D1.out.lnw]; exact Nat.le_refl _)
      rw [hnil, List.nil_append, List.append_nil] at ho6
      have D6 := Lib.hid (D1.out.setNow hg6 ho6 K3.out)
      have O6 := Lib.hid (O1.out.grown hg6 (fun k hk => by injection hk with hk; have := hr.out.now.parts.1; have := hr.out.nN; omega))
      have k2 := blk_cell D6.out.head 2 _ rfl
      have k3 := blk_cell D6.out.head 3 _ rfl
      have k4 := blk_cell D6.out.head 4 _ rfl
      have z2 : w6.frozen? ⟨g, 2, none⟩ = false := by simp [World.frozen?, D6.out.head]
      have z3 : w6.frozen? ⟨g, 3, none⟩ = false := by simp [World.frozen?, D6.out.head]
      have z4 : w6.frozen? ⟨g, 4, none⟩ = false := by simp [World.frozen?, D6.out.head]
      clear ho6 hg6 c2 e0 e1
      go_wp2_with fail
      have hr := D6.out.reset
      have hOo : Outer B N w (((w6.setCell ⟨g, 2, none⟩ (.slice none 0 0)).setCell ⟨g, 3, none⟩ (.bool true)).setCell ⟨g, 4, none⟩ (.int .i64 (-1))) :=
        O6.out.grown (grown_setC (grown_setC (grown_setC (World.grownBy.refl w6 (some g)) 2 _) 3 _) 4 _) (fun k hk => by injection hk with hk; have := H.out.gB; have := H.out.gN; omega)
      refine bodyPost_end (results_none rfl _ _ _) rfl ⟨rfl, ?_, hOo⟩
      rw [← HN.out]
      exact hr.wider hr.NN (Nat.le_refl _)
end
end Go.Proofs.Ytemnafnbpndldaa
