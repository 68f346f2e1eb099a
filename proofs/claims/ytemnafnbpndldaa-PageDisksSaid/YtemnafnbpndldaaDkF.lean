/- Flush of a disk. -/
import Derived.Test.YtemnafnbpndldaaDkTe
namespace Go.Proofs.Ytemnafnbpndldaa
open Go.RowKit
set_option linter.unusedVariables false

/-- Behind k writes that waited: all of them are there to stay. -/
def flushN (S : List UInt8) (ws : List (Nat × List UInt8)) : Nat → List UInt8
  | 0 => S
  | k + 1 => match ws[k]? with
    | some p => putAt (flushN S ws k) p.1 p.2
    | none => flushN S ws k
theorem flushN_succ {S : List UInt8} {ws : List (Nat × List UInt8)} {k : Nat} {p : Nat × List UInt8} (hp : ws[k]? = some p) : flushN S ws (k + 1) = putAt (flushN S ws k) p.1 p.2 := by
  show (match ws[k]? with | some p => putAt (flushN S ws k) p.1 p.2 | none => flushN S ws k) = _
  rw [hp]

section
variable {w w' : World} {B N g gs gn L cs cn : Nat} {rw : Value} {st nw : List UInt8} {ws : List (Nat × List UInt8)} {on : Bool} {left : Int}

theorem Dk.noWait (h : Dk w B N g gs gn rw L cs cn st nw ws on left) :
    Dk (w.setCell ⟨g, 2, none⟩ (.slice none 0 0)) B N g gs gn (.slice none 0 0) L cs cn st nw [] on left := by
  have hk : ∀ k, k ≠ g → (w.setCell ⟨g, 2, none⟩ (.slice none 0 0)).heap[k]? = w.heap[k]? := fun k hk => Below.heap_setCell w ⟨g, 2, none⟩ _ k hk
  have hgs : gs ≠ g := by
    intro e
    obtain ⟨_, _, _, cur, hh, _⟩ := h.stay.parts
    rw [e, h.head] at hh
    simp at hh
  have hgn : gn ≠ g := by
    intro e
    obtain ⟨_, _, _, cur, hh, _⟩ := h.now.parts
    rw [e, h.head] at hh
    simp at hh
  exact { h with
    head := (heap_setCell_same w g 2 _ _ _ h.head).trans rfl
    stay := h.stay.keep (hk gs hgs)
    now := h.now.keep (hk gn hgn)
    wait := World.ownsRow_nil _ _ _ _
    wN := fun k hk => by cases hk
    NN := by simpa using h.NN
    fit := fun p hp => by cases hp }

set_option maxHeartbeats 2000000 in
set_option maxRecDepth 100000 in
theorem flush_ok (h : Dk w B N g gs gn rw L cs cn st nw ws true left) (hne : left ≠ 0) (hl1 : -1 ≤ left) (hlm : left ≤ 9223372036854775807) (l' : Int) (hl' : stepped left = l') (hws : ws.length ≤ 1000) :
    Calls Try.prog 15 #[.pointer (some ⟨g, 0, none⟩)] w fun e w' => e = .returned (.int .i64 0) ∧
      Dk w' B w'.heap.size g gs gn (.slice none 0 0) L cs cn (flushN st ws ws.length) nw [] true l' ∧ Outer B N w w' := by
  obtain ⟨Aw, cw, hrw⟩ := h.rows
  have H := Lib.hid h
  have HL := Lib.hid hl'
  have HRW := Lib.hid hrw
  clear h hrw hl'
  obtain ⟨n, hn⟩ : ∃ n, n = ws.length := ⟨_, rfl⟩
  rw [← hn] at hws
  have HN := Lib.hid hn
  clear hn
  go_enter Try.func15, Try.ntmps15
  go_wp2_with (first
    | (go_at_call 49; refine (refused_on H.out).mono ?_; rintro e w1 ⟨rfl, rfl⟩)
    | (go_at_call 55; refine (step_yes H.out hne hl1 hlm l' HL.out).mono ?_; rintro e w1 ⟨rfl, h1, hg1, hz1⟩; have H1 := Lib.hid h1; have HG1 := Lib.hid hg1; have c2 := blk_cell h1.head 2 _ rfl; rw [HRW.out, ← HN.out] at c2; clear h1 hz1 hg1))
  have O1 : Hid (Outer B N w w1) := Lib.hid ((Outer.refl B N w).grown HG1.out (fun k hk => by injection hk with hk; have := H.out.gB; have := H.out.gN; omega))
  go_loopw [19] (fun i wr => ∃ k : Nat, k ≤ n ∧ i = .int .i64 k ∧ Hid (Dk wr B N g gs gn rw L cs cn (flushN st ws k) nw ws true l') ∧ Hid (Outer B N w wr)) (fun i _ => n - (intOf i).toNat)
  case atStart => exact ⟨0, by omega, rfl, H1, O1⟩
  case round =>
    obtain ⟨k, hk, rfl, hr, hO⟩ := hrel
    by_cases hlt : k < n
    · obtain ⟨p, hp⟩ : ∃ p, ws[k]? = some p := ⟨_, List.getElem?_eq_getElem (by have := HN.out; omega)⟩
      obtain ⟨gw, cw', hv, hnc2, hcm2, hgw, hrange⟩ := hr.out.wr k p hp
      have hv2 := HRW.out
      rw [hv] at hv2
      injection hv2 with hv2 _ hv3
      subst hv2 hv3
      have hfit := hr.out.fit p (List.mem_of_getElem? hp)
      have h65 : (wrC p).length = 65 := by simp [wrC, hfit.1]
      unfold maxLen at hcm2
      have hncw : n ≤ cw' := by have := HN.out; omega
      have HP := Lib.hid hp
      have HFIT := Lib.hid hfit
      have hone := wrC_one p
      obtain ⟨C, hC⟩ : ∃ C, C = wrC p := ⟨_, rfl⟩
      rw [← hC] at hrange h65 hone
      have HC := Lib.hid hC
      have HR := Lib.hid hrange
      have s1 : Hid ((Try.prog.info? 106).map (·.size) = some C.length) := Lib.hid (by rw [h65]; kernel_rfl)
      have s2 : Hid ((Try.prog.info? 106).map (·.size) = some C.toArray.size) := Lib.hid (by rw [List.size_toArray, h65]; kernel_rfl)
      have s3 : Hid (Try.zeroCells106.size = C.toArray.size) := Lib.hid (by rw [show C.toArray.size = 65 by rw [List.size_toArray]; exact h65]; kernel_rfl)
      have s4 : Hid (C.toArray.all (·.oneCell') = true) := Lib.hid (by simpa using hone)
      clear hp hfit hC hrange h65 hone hv
      go_upto_region 9 with (first
        | (with_reducible refine wpList_load_mid rfl 106 _ rfl gw (k * 65) rfl C _ HR.out Try.underlying106 rfl s1.out ?_)
        | (refine wpList_store_row rfl 106 (.tmp 5) (.tmp 22) rfl wr.heap.size C.toArray rfl rfl 106 Try.zeroCells106 (heap_alloc_new _ _) s2.out s3.out s4.out ?_; rw [World.setRow_alloc_new]))
      have D1 := Lib.hid (hr.out.below ((Below.refl wr.heap.size wr).alloc (Nat.le_refl _) (.cells C.toArray 106)))
      have O2 := Lib.hid (hO.out.alloc (.cells C.toArray 106))
      have hq : (wr.alloc (.cells C.toArray 106)).heap[wr.heap.size]? = some (.cells C.toArray 106 (0, 0)) := heap_alloc_new _ _
      have hNq : N ≤ wr.heap.size := hr.out.NN
      generalize wr.alloc (.cells C.toArray 106) = W1 at *
      generalize wr.heap.size = q at *
      have HQ := Lib.hid hq
      clear hq c2 s1 s2 s3 s4 HR
      have e0 := blk_cell D1.out.head 0 _ rfl
      have e3 : W1.cell? ⟨q, 0, none⟩ = some (.int .i64 (p.1 : Int)) := blk_cell HQ.out 0 _ (by rw [HC.out]; rfl)
      have l0 := World.block_lt_of_cell? _ _ e0
      have l3 := World.block_lt_of_cell? _ _ e3
      have g0 : ∀ y : SubW W1.heap.size W1, y.at_.cell? ⟨g, 0, none⟩ = some _ := fun y => (World.cell?_of_block (a := ⟨g, 0, none⟩) (y.ok_.block _ l0)).trans e0
      have g3 : ∀ y : SubW W1.heap.size W1, y.at_.cell? ⟨q, 0, none⟩ = some _ := fun y => (World.cell?_of_block (a := ⟨q, 0, none⟩) (y.ok_.block _ l3)).trans e3
      obtain ⟨hBs, hcs, hcsm, _⟩ := D1.out.stay.parts
      rw [D1.out.lst] at hcs
      have hLh := D1.out.hi
      have hfi : 64 * p.1 + 64 ≤ L := HFIT.out.2
      refine region_below_tail 9 W1.heap.size W1 (Below.refl _ _) (by kernel_rfl) (by kernel_rfl) ?_
      simp only [List.take_succ_cons, List.take_zero, List.drop_succ_cons, List.drop_zero, Act.put]
      repeat (go_big_quiet_step ((go_at_call 51; exact calls_sub (Nat.le_refl _) ((sector_any gs cs p.1 hfi hLh hcs hcsm _ rfl).mono fun e w' ⟨h1, h2⟩ => ⟨h1, h2 ▸ Below.refl _ _⟩))))
      refine wpQuiet_nil ?_
      rintro w' ⟨y, rfl⟩
      clear g0 g3
      have hS : (flushN st ws k).length = L := D1.out.lst
      have hoy : OwnB y.at_ B gs cs 5 ((flushN st ws k).take (64 * p.1) ++ (flushN st ws k).drop (64 * p.1)) := by
        rw [List.take_append_drop]
        exact D1.out.stay.keep (y.ok_.block gs D1.out.stay.lt)
      have hpre : 64 * p.1 = ((flushN st ws k).take (64 * p.1)).length := by rw [List.length_take, hS]; omega
      have hft : 64 ≤ ((flushN st ws k).drop (64 * p.1)).length := by rw [List.length_drop, hS]; omega
      have hqy : y.at_.heap[q]? = some (.cells C.toArray 106 (0, 0)) := (y.ok_.block q l3).trans HQ.out
      have hxq : BytesAt y.at_ (some ⟨q, 1, none⟩) p.2 := fun _ => ⟨q, 1, rfl, fun j hj => by
        refine blk_cell hqy (1 + j) _ ?_
        rw [HC.out, Nat.add_comm 1 j]
        simp [wrC, hj, bv]⟩
      have K1 := Lib.hid hoy
      have K2 := Lib.hid hpre
      have K3 := Lib.hid hft
      have K4 := Lib.hid hxq
      have K5 := Lib.hid hS
      have K6 : Hid ((Try.prog.info? 5).map (·.size) = some 1) := Lib.hid (by kernel_rfl)
      have K7 := Lib.hid HFIT.out.1
      clear hoy hpre hft hxq hS hqy
      go_wp2_with ((with_reducible refine wpList_copy_bytes rfl (.tmp 29) (.tmp 31) 27 27 rfl 5 Try.underlying27 K6.out B gs cs (64 * p.1) 64 (cs - 64 * p.1) (some ⟨q, 1, none⟩) 64 64 ((flushN st ws k).take (64 * p.1)) ((flushN st ws k).drop (64 * p.1)) p.2 rfl rfl K2.out K1.out K4.out K7.out (Nat.le_refl _) K3.out ?_); intro w6 ho6 hg6)
      go_roundw
      case rel =>
        refine ⟨k + 1, by omega, by go_num, Lib.hid ?_, Lib.hid ?_⟩
        · rw [flushN_succ HP.out]
          refine (D1.out.below y.ok_).setStay hg6 ho6 ?_
          rw [length_putAt (by rw [K5.out]; exact hfi) K7.out, K5.out]
        · exact (O2.out.then y.ok_ O2.out.size).grown hg6 (fun k hk => by injection hk with hk; have := D1.out.stay.parts.1; have := D1.out.sN; omega)
      case measure => simp [intOf]; omega
    · obtain rfl : k = n := by omega
      have k2 := blk_cell hr.out.head 2 _ rfl
      have z2 : wr.frozen? ⟨g, 2, none⟩ = false := by simp [World.frozen?, hr.out.head]
      go_wp2_with fail
      go_ret
      have hr2 := hr.out.noWait
      refine ⟨rfl, ?_, hO.out.grown (grown_setC (World.grownBy.refl wr (some g)) 2 _) (fun k hk => by injection hk with hk; have := H.out.gB; have := H.out.gN; omega)⟩
      rw [← HN.out]
      exact hr2.wider hr2.NN (Nat.le_refl _)
end
end Go.Proofs.Ytemnafnbpndldaa
