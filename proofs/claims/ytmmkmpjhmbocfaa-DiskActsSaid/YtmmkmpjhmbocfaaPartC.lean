/- Several texts in one: PageMoves: its walk. Superblocks on a disk: which one counts; the statements' small example. -/
import Derived.Test.YtmmkmpjhmbocfaaPartB
import Derived.Test.YtmmkmpjhmbocfaaPageRow
import Derived.Test.YtmmkmpjhmbocfaaDiskLoads
import Derived.Test.YtmmkmpjhmbocfaaPartF
namespace Go.Proofs.Ytmmkmpjhmbocfaa
open Go.ChangeShapes Go.WideShapes Go.ChangeAt Go.RowKit CrcM PageM
set_option linter.unusedVariables false

theorem refPut_okB (k : UInt8) (m g : Nat) (b PP : List UInt8) (eP : PP = putP ⟨k, (m : Int), g, b⟩) (hk : isK k = true) (hm : m < 512) (hg : g < 18446744073709551616) (hb : b.length ≤ 238) (A : Option Addr) (c : Nat) (w : World) (hx : BytesAt w A b) (hbc : b.length ≤ c) (C : Array Value) (eC : C = cellsC ⟨k, (m : Int), g, b⟩ A c) :
    Calls Try.prog 30 #[.agg C] w fun e w' => ∃ q, e = .returned (.tuple #[.slice (some ⟨q, 0, none⟩) 256 256, .bool true]) ∧ BytesAt w' (some ⟨q, 0, none⟩) PP ∧ Below w.heap.size w w' := by
  rw [eC]
  exact (refPut_okV k m g b hk hm hg hb A c w hx hbc).mono fun e w' ⟨h1, h2, h3⟩ => ⟨_, h1, by rw [eP]; exact h2.bytes, h3⟩
theorem refPut_errC (p : Pg) (hp : ¬ okP p) (hc : bodyC p) (A : Option Addr) (c : Nat) (w : World) (C : Array Value) (eC : C = cellsC p A c) :
    Calls Try.prog 30 #[.agg C] w fun e w' => e = .returned (.tuple #[.slice none 0 0, .bool false]) ∧ Below w.heap.size w w' := by
  rw [eC]
  exact refPut_errV p hp hc A c w

set_option maxHeartbeats 2000000 in
set_option maxRecDepth 100000 in
theorem pageMoves_err (p : Pg) (hp : ¬ (isK p.kind = true ∧ p.body.length ≤ 238)) (hc : bodyC p) (A : Option Addr) (c : Nat) (t : Int) (w : World) :
    Calls Try.prog 5 #[.agg (cellsC p A c), .int .i64 t] w fun e w' => e = .returned (.bool true) ∧ Below w.heap.size w w' := by
  obtain ⟨m, hm, hme⟩ := modN p.addr 20 (by omega) (by omega)
  have HME : Hid (wrap64 ((IntKind.u64.wrap p.addr).tmod 20) = (m : Int)) := Lib.hid hme
  obtain ⟨k, ad, gg, b⟩ := p
  unfold cellsC
  dsimp only at *
  have hbad : ¬ okP ⟨k, (m : Int), gg, b⟩ := fun h => hp ⟨h.1, h.2.2.2⟩
  have hc2 : bodyC ⟨k, (m : Int), gg, b⟩ := ⟨hc.1, hc.2.1, by show (-9223372036854775808 : Int) ≤ (m : Int); omega, by show (m : Int) ≤ _; omega⟩
  have HB := Lib.hid hbad
  have HC := Lib.hid hc2
  clear hme hp hc hbad hc2
  go_enter Try.func5, Try.ntmps5
  go_upto_region 3 with (first
    | (go_at_call 29; refine (new_any _).mono ?_; rintro e w2 ⟨rfl, hb2⟩)
    | (refine wpList_store_row rfl 61 (.tmp 5) (.tmp 19) rfl w2.heap.size tab rfl rfl 61 Try.zeroCells61 (heap_alloc_new _ _) (by rw [size_tab]; exact info64) (by rw [size_tab, zero64, size_tabC]) (tab_one _) ?_; rw [World.setRow_alloc_new])
    | (go_at_call 20; (refine (new_ok 20 (by omega) (by omega) _).mono ?_); rintro e w3 ⟨g, gs, gn, cs, cn, rfl, d3, hb3⟩; have D3 := Lib.hid d3; clear d3))
  have hs2 : w.heap.size + 1 ≤ w2.heap.size := by have := hb2.size; simpa using this
  have hs3 : w2.heap.size + 1 ≤ w3.heap.size := by have := hb3.size; simpa using this
  have hp2 := (hb2.block w.heap.size (by simp)).trans (heap_alloc_new w _)
  have hp3 := (hb3.block w.heap.size (by simp; omega)).trans ((heap_alloc_old _ _ (by omega)).trans hp2)
  have ht3 := (hb3.block w2.heap.size (by simp)).trans (heap_alloc_new w2 _)
  have hb03 : Below w.heap.size w w3 := ((((Below.refl _ _).alloc (Nat.le_refl _) _).trans (hb2.mono (by simp))).alloc (by omega) _).trans (hb3.mono (by simp; omega))
  have HP3 := Lib.hid hp3
  have HT3 := Lib.hid ht3
  have hD3 : Hid (w2.heap.size + 1 ≤ g ∧ w2.heap.size + 1 ≤ gs ∧ w2.heap.size + 1 ≤ gn) := by
    have := D3.out
    refine ⟨?_, ?_, ?_⟩
    · have := this.gB; simpa using this
    · have := this.stay.parts.1; simpa using this
    · have := this.now.parts.1; simpa using this
  clear hb2 hb3 hp2 ht3
  have k1 := blk_cell hp3 1 _ rfl
  have f1 : w3.frozen? ⟨w.heap.size, 1, none⟩ = false := by simp [World.frozen?, hp3]
  clear hp3
  go_cut [] (fun wx => Below w.heap.size w wx ∧ wx.heap[w.heap.size]? = some (.cells #[.int .u8 (k.toNat : Int), .int .i64 (m : Int), .int .u64 (gg : Int), .slice A b.length c] 58 (0, 0)))
  case first =>
    go_wp2_with fail
    rw [HME.out]
    go_meet
    refine ⟨hb03.trans (below_setC' hb03.size (Nat.le_refl _)), ?_⟩
    exact heap_setCell_same w3 w.heap.size 1 _ _ _ HP3.out
  case rest =>
    obtain ⟨hbc, hpc⟩ := hcut
    have HPC := Lib.hid hpc
    have hbA := hbc
    have hbA := hbc
    have hbA := hbc
    have hbA := hbc
    have hbA := hbc
    have hbA := hbc
    have hbA := hbc
    have hbA := hbc
    clear hpc k1 f1
    go_wp2_with (first
      | (refine wpList_load_row rfl 58 (.tmp 2) rfl w.heap.size rfl 58 _ (0, 0) _ HPC.out Try.underlying58 rfl size_refPage ?_)
      | (go_at_call 30; (refine (refPut_errC ⟨k, (m : Int), gg, b⟩ HB.out HC.out A c _ _ rfl).mono ?_); rintro e w4 ⟨rfl, hb4⟩; have hbA := hbA.trans (hb4.mono hbA.size))
      | (go_at_call 33; (refine (puts_any _).mono ?_); rintro e w5 ⟨rfl, hb5⟩; have hbA := hbA.trans (hb5.mono hbA.size)))
    go_ret
    exact ⟨rfl, hbA⟩
/- ok -/
def fourK : List UInt8 := [83, 76, 73, 66]

end Go.Proofs.Ytmmkmpjhmbocfaa

namespace Go.Proofs.Ytmmkmpjhmbocfaa
open Go.RowKit CrcM PageM SupM
set_option linter.unusedVariables false

theorem good_supB {s : Sup} (hs : okS s) (hg : s.gen < 18446744073709551616) : goodS (supB s) ∧ toldS (supB s) = s := by
  have hp := parse_sup hs hg
  have h : goodS (supB s) := ⟨length_supB s, by rw [hp]; exact hs⟩
  exact ⟨h, by unfold toldS; rw [if_pos h, hp]⟩
theorem stood_put (L a : Nat) (s : Sup) (hs : okS s) (hg : s.gen < 18446744073709551616) (ha : s.gen % 2 = a) (hp : s.pages = ((L / 256 : Nat) : Int)) (xs : List UInt8) (hx : xs = putP ⟨83, (a : Int), s.gen, supB s⟩) : stoodS L a xs = s := by
  obtain ⟨h1, h2⟩ := told_put 83 a s.gen (supB s) rfl (by omega) hg (by rw [length_supB]; omega)
  obtain ⟨h3, h4⟩ := good_supB hs hg
  rw [← hx] at h1 h2
  have hst : stoodsP L a xs := ⟨⟨h1, by rw [h2], by rw [h2]⟩, by rw [h2]; exact h3, by rw [h2]; exact congrArg Sup.gen h4, by rw [h2]; show (toldS (supB s)).gen % 2 = a; rw [h4]; exact ha, by rw [h2]; show (toldS (supB s)).pages = _; rw [h4]; exact hp⟩
  unfold stoodS
  rw [if_pos hst, h2]
  exact h4
theorem stood_other (L a : Nat) (s : Sup) (hs : okS s) (hg : s.gen < 18446744073709551616) (ha : a < 512) (hp : s.pages ≠ ((L / 256 : Nat) : Int)) (xs : List UInt8) (hx : xs = putP ⟨83, (a : Int), s.gen, supB s⟩) : stoodS L a xs = zeroS := by
  obtain ⟨h1, h2⟩ := told_put 83 a s.gen (supB s) rfl (by omega) hg (by rw [length_supB]; omega)
  obtain ⟨h3, h4⟩ := good_supB hs hg
  rw [← hx] at h1 h2
  unfold stoodS
  rw [if_neg]
  intro h
  have h5 := h.2.2.2.2
  rw [h2] at h5
  apply hp
  have h6 : (toldS (supB s)).pages = ((L / 256 : Nat) : Int) := h5
  rw [h4] at h6
  exact h6
theorem stood_zeros (L a : Nat) : stoodS L a (List.replicate 256 0) = zeroS := if_neg (fun h => told_zeros h.1.1)
theorem stood_gen (L a : Nat) (xs : List UInt8) : stoodS L a xs = zeroS ∨ ((stoodS L a xs).gen % 2 = a ∧ 1 ≤ (stoodS L a xs).gen) := by
  by_cases h : stoodsP L a xs
  · have e : stoodS L a xs = toldS (toldP xs).body := if_pos h
    rw [e]
    refine .inr ⟨h.2.2.2.1, ?_⟩
    have hg := h.2.1
    unfold toldS
    rw [if_pos hg]
    exact hg.2.1
  · exact .inl (if_neg h)
theorem newest_of {L : Nat} {nw : List UInt8} (a : Nat) (ha : a < 2) (s : Sup) (h : stoodS L a (pageOf nw a) = s) (ho : (stoodS L (1 - a) (pageOf nw (1 - a))).gen < s.gen) : newAt L nw 2 = s := by
  have hz : zeroS.gen = 0 := rfl
  have e0 : newAt L nw 0 = zeroS := rfl
  match a, ha with
  | 0, _ =>
    have ho' : (stoodS L 1 (pageOf nw 1)).gen < s.gen := ho
    have hp : 0 < s.gen := by omega
    have hq : ¬ s.gen < (stoodS L 1 (pageOf nw 1)).gen := by omega
    rw [newAt_succ, newAt_succ, e0, h, hz, if_pos hp, if_neg hq]
  | 1, _ =>
    have ho' : (stoodS L 0 (pageOf nw 0)).gen < s.gen := ho
    rw [newAt_succ, newAt_succ, e0, h, hz]
    by_cases hc : 0 < (stoodS L 0 (pageOf nw 0)).gen
    · rw [if_pos hc, if_pos ho']
    · rw [if_neg hc, if_pos (by rw [hz]; omega)]
theorem newest_none {L : Nat} {nw : List UInt8} (h0 : stoodS L 0 (pageOf nw 0) = zeroS) (h1 : stoodS L 1 (pageOf nw 1) = zeroS) : newAt L nw 2 = zeroS ∧ newN L nw = 3 := by
  have e0 : newAt L nw 0 = zeroS := rfl
  have e : newAt L nw 2 = zeroS := by
    rw [newAt_succ, newAt_succ, e0, h0, h1]
    simp only [Nat.lt_irrefl, if_false]
  refine ⟨e, ?_⟩
  unfold newN
  rw [e]
  rfl

section
variable {w w' : World} {B N g gs gn L cs cn : Nat} {rw : Value} {st nw : List UInt8} {ws : List (Nat × List UInt8)} {left : Int}

/-- Newest where this superblock counts. -/
theorem newest_yes (h : Dk w B N g gs gn rw L cs cn st nw ws true left) (s : Sup) (hn : newAt L nw 2 = s) (h1 : 1 ≤ s.gen) (C : Array Value) (eC : C = supC s) :
    Calls Try.prog 48 #[.agg tab, .pointer (some ⟨g, 0, none⟩)] w fun e w' => e = .returned (.tuple #[.agg C, .int .i64 0]) ∧ Below w.heap.size w w' := by
  have e : newN L nw = 0 := by unfold newN; rw [hn, if_neg (by omega)]
  have := newest_any h
  rw [hn, e, ← eC] at this
  exact this
theorem newest_no (h : Dk w B N g gs gn rw L cs cn st nw ws true left) (hn : newAt L nw 2 = zeroS ∧ newN L nw = 3) (C : Array Value) (eC : C = supC zeroS) :
    Calls Try.prog 48 #[.agg tab, .pointer (some ⟨g, 0, none⟩)] w fun e w' => e = .returned (.tuple #[.agg C, .int .i64 3]) ∧ Below w.heap.size w w' := by
  have := newest_any h
  rw [hn.1, hn.2, ← eC] at this
  exact this
theorem WrotePg.keep {a k : Nat} {bs : List UInt8} (h : WrotePg w w' B g gs gn rw L cs cn st nw ws a bs) (hk : k < w.heap.size) (h1 : k ≠ g) (h2 : k ≠ gn) (h3 : rw.ownBlock ≠ some k) : w'.heap[k]? = w.heap[k]? :=
  h.2.1.block k hk (fun hx => by
    rcases hx with e | e | e
    · exact h1 e
    · exact h2 e
    · exact h3 e)
end

theorem ok1 : okS ⟨1, 0, 0, 2, 8⟩ := by unfold okS; decide
theorem ok2 : okS ⟨2, 0, 0, 3, 8⟩ := by unfold okS; decide

set_option maxHeartbeats 4000000 in
set_option maxRecDepth 100000 in
theorem counts_any (w : World) : Calls Try.prog 41 #[] w fun e w' => e = .returned (.bool true) ∧ Below w.heap.size w w' := by
  go_enter Try.func41, Try.ntmps41
  go_upto_region 3 with (first
    | (go_at_call 20; (refine (new_ok 8 (by omega) (by omega) _).mono ?_); rintro e w1 ⟨g, gs, gn, cs, cn, rfl, d1, hb1⟩; have D1 := Lib.hid d1; clear d1)
    | (go_at_call 29; refine (new_any _).mono ?_; rintro e w2 ⟨rfl, hb2⟩)
    | (refine wpList_store_row rfl 61 (.tmp 3) (.tmp 14) rfl w2.heap.size tab rfl rfl 61 Try.zeroCells61 (heap_alloc_new _ _) (by rw [size_tab]; exact info64) (by rw [size_tab, zero64, size_tabC]) (tab_one _) ?_; rw [World.setRow_alloc_new]))
  obtain ⟨T, hT⟩ : ∃ T, T = w2.heap.size := ⟨_, rfl⟩
  rw [← hT]
  have hs2 := hb2.size
  have hbW : Below w1.heap.size w1 (w2.alloc (.cells tab 61)) := hb2.alloc hb2.size _
  have hd3 := D1.out.below hbW
  have hbw : Below w.heap.size w (w2.alloc (.cells tab 61)) := hb1.trans (hbW.mono hb1.size)
  have ht3 : (w2.alloc (.cells tab 61)).heap[T]? = some (.cells tab 61 (0, 0)) := by rw [hT]; exact heap_alloc_new _ _
  have hsz : (w2.alloc (.cells tab 61)).heap.size = T + 1 := by rw [hT]; simp
  have hgT : g ≠ T ∧ gn ≠ T ∧ w.heap.size ≤ T := by
    have h1 := D1.out.gN
    have h2 := D1.out.nN
    have h3 := hb1.size
    omega
  obtain ⟨W3, eW⟩ : ∃ W3, W3 = w2.alloc (.cells tab 61) := ⟨_, rfl⟩
  rw [← eW] at hd3 hbw ht3 hsz ⊢
  have D3 := Lib.hid hd3
  have HT3 := Lib.hid ht3
  have HBW := Lib.hid hbw
  clear hd3 ht3 hbw eW hbW hb1 hb2 D1 hs2 hT
  obtain ⟨hgT1, hgT2, hgT3⟩ := hgT
  go_upto_region 4 with (first
    | (refine wpList_load_row rfl 61 (.tmp 3) rfl T rfl 61 tab (0, 0) _ HT3.out Try.underlying61 rfl (by rw [size_tab]; exact info64) ?_)
    | (go_at_call 48; (refine (newest_no D3.out (newest_none (by rw [page_zeros (by omega)]; exact stood_zeros _ _) (by rw [page_zeros (by omega)]; exact stood_zeros _ _)) #[.int .u64 0, .int .i64 0, .int .i64 0, .int .i64 0, .int .i64 0] rfl).mono ?_); rintro e w4 ⟨rfl, hb4⟩)
    | (refine wpList_store_row rfl 82 (.tmp 4) (.tmp 19) rfl w4.heap.size #[.int .u64 0, .int .i64 0, .int .i64 0, .int .i64 0, .int .i64 0] rfl rfl 82 Try.zeroCells82 (heap_alloc_new _ _) infoSup (by kernel_rfl) (by simp [Value.oneCell']) ?_; rw [World.setRow_alloc_new]))
  have hb5 : Below W3.heap.size W3 (w4.alloc (.cells #[.int .u64 0, .int .i64 0, .int .i64 0, .int .i64 0, .int .i64 0] 82)) := hb4.alloc hb4.size _
  have hs5 := hb5.size
  obtain ⟨W5, eW⟩ : ∃ W5, W5 = w4.alloc (.cells #[.int .u64 0, .int .i64 0, .int .i64 0, .int .i64 0, .int .i64 0] 82) := ⟨_, rfl⟩
  rw [← eW] at hb5 hs5 ⊢
  have D5 := Lib.hid (D3.out.below hb5)
  have HT5 := Lib.hid ((hb5.block T (by omega)).trans HT3.out)
  have HB5 : Hid (Below w.heap.size w W5) := Lib.hid (HBW.out.trans (hb5.mono (by omega)))
  clear eW hb5 hb4 D3 HT3 HBW
  go_upto_region 5 with (first
    | (refine wpList_load_row rfl 61 (.tmp 3) rfl T rfl 61 tab (0, 0) _ HT5.out Try.underlying61 rfl (by rw [size_tab]; exact info64) ?_)
    | (go_at_call 46; (refine (swrite_ok D5.out (by simp) ⟨1, 0, 0, 2, 8⟩ ok1 (by decide) _ rfl).mono ?_); rintro e w6 ⟨rfl, hw6⟩; have HW6 := Lib.hid hw6; clear hw6))
  have HT6 := Lib.hid ((HW6.out.keep (by omega) hgT1.symm hgT2.symm (by simp [Value.ownBlock])).trans HT5.out)
  have hb6 := HW6.out.2.2
  obtain ⟨rw6, ws6, nw6, d6, l6, hp6, ho6, hm6⟩ := HW6.out.1
  have hrT : rw6.ownBlock ≠ some T := by
    rcases hm6 with e | ⟨q, e, hq⟩
    · rw [e]; simp [Value.ownBlock]
    · rw [e]; intro h; injection h with h; omega
  have D6 := Lib.hid d6
  have HP6 := Lib.hid hp6
  have HB6 : Hid (Below w.heap.size w w6) := Lib.hid (HB5.out.trans (hb6.mono (by have := D5.out.gB; omega)))
  have hs6 := hb6.size
  have HL6 := Lib.hid l6
  clear d6 hp6 ho6 hm6 hb6 HW6 D5 HT5 HB5 l6
  go_upto_region 6 with (first
    | (refine wpList_load_row rfl 61 (.tmp 3) rfl T rfl 61 tab (0, 0) _ HT6.out Try.underlying61 rfl (by rw [size_tab]; exact info64) ?_)
    | (go_at_call 46; (refine (swrite_ok D6.out (by rw [HL6.out]; simp) ⟨2, 0, 0, 3, 8⟩ ok2 (by decide) _ rfl).mono ?_); rintro e w7 ⟨rfl, hw7⟩; have HW7 := Lib.hid hw7; clear hw7))
  have HT7 := Lib.hid ((HW7.out.keep (by omega) hgT1.symm hgT2.symm hrT).trans HT6.out)
  have hb7 := HW7.out.2.2
  obtain ⟨rw7, ws7, nw7, d7, l7, hp7, ho7, hm7⟩ := HW7.out.1
  have D7 := Lib.hid d7
  have hnew : newAt 2048 nw7 2 = ⟨2, 0, 0, 3, 8⟩ := by
    refine newest_of 0 (by omega) _ (stood_put 2048 0 ⟨2, 0, 0, 3, 8⟩ ok2 (by decide) rfl rfl _ hp7) ?_
    show (stoodS 2048 1 (pageOf nw7 1)).gen < 2
    rw [ho7 1 (by decide), stood_put 2048 1 ⟨1, 0, 0, 2, 8⟩ ok1 (by decide) rfl rfl _ HP6.out]
    decide
  have HN := Lib.hid hnew
  have HB7 : Hid (Below w.heap.size w w7) := Lib.hid (HB6.out.trans (hb7.mono (by have := D6.out.gB; omega)))
  clear d7 hp7 ho7 hm7 hb7 HW7 D6 HT6 HB6 l7 hnew HP6
  go_wp2_with (first
    | (refine wpList_load_row rfl 61 (.tmp 3) rfl T rfl 61 tab (0, 0) _ HT7.out Try.underlying61 rfl (by rw [size_tab]; exact info64) ?_)
    | (go_at_call 48; (refine (newest_yes D7.out _ HN.out (by decide) #[.int .u64 2, .int .i64 0, .int .i64 0, .int .i64 3, .int .i64 8] rfl).mono ?_); rintro e w8 ⟨rfl, hb8⟩)
    | (refine wpList_store_row rfl 82 (.tmp 8) (.tmp 33) rfl w8.heap.size #[.int .u64 2, .int .i64 0, .int .i64 0, .int .i64 3, .int .i64 8] rfl rfl 82 Try.zeroCells82 (heap_alloc_new _ _) infoSup (by kernel_rfl) (by simp [Value.oneCell']) ?_; rw [World.setRow_alloc_new]))
  go_ret
  exact ⟨rfl, (HB7.out.trans (hb8.mono HB7.out.size)).alloc (by have := HB7.out.size; have := hb8.size; omega) _⟩
end Go.Proofs.Ytmmkmpjhmbocfaa
