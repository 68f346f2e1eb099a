/- Several texts in one: chunk's calls at the example: two samples, codec 6. chunk.apart and chunk.together at the example. chunk.Right of whatever samples. chunk.apart of whatever samples. times.putRaw and putDelta: their contracts. times.putDelta: its contract. Bytes of package bits' Writer: what it answers is one's own. times.putPacked: its contract. chunk.putRaw: its contract. times.Put by all ways. chunk.Encode of whatever samples, by whatever codec. chunk.Best of whatever samples. chunk.putValues, getValues by Run, times.Get by Delta at the example, with bytes behind. chunk.together at the example. -/
import Derived.Test.YtocddhokjhfaaaaDoorPartD
import Derived.Test.YtocddhokjhfaaaaDoorPartC
import Derived.Deep.MidRow
import Derived.Test.YtocddhokjhfaaaaDoorPartB
namespace Go.Proofs.YtocddhokjhfaaaaDoor
open Go.RowKit BitM VarM RunM
set_option linter.unusedVariables false

/-- The two samples stand there. -/
def Smp (w : World) (A : Option Addr) : Prop := ∃ b off, A = some ⟨b, off, none⟩ ∧ w.cell? ⟨b, off, none⟩ = some (.int .i64 10) ∧ w.cell? ⟨b, off + 1, none⟩ = some (.int .u64 7) ∧ w.cell? ⟨b, off + 2, none⟩ = some (.int .i64 13) ∧ w.cell? ⟨b, off + 3, none⟩ = some (.int .u64 7)
theorem Smp.below {w w' : World} {A : Option Addr} (h : Smp w A) (hb : Below w.heap.size w w') : Smp w' A := by
  obtain ⟨b, off, rfl, h0, h1, h2, h3⟩ := h
  exact ⟨b, off, rfl, (hb.cell (p := ⟨b, off, none⟩) (World.block_lt_of_cell? _ _ h0)).trans h0, (hb.cell (p := ⟨b, off + 1, none⟩) (World.block_lt_of_cell? _ _ h1)).trans h1, (hb.cell (p := ⟨b, off + 2, none⟩) (World.block_lt_of_cell? _ _ h2)).trans h2, (hb.cell (p := ⟨b, off + 3, none⟩) (World.block_lt_of_cell? _ _ h3)).trans h3⟩
theorem range_two {w : World} {b o : Nat} {u v : Value} (h0 : w.cell? ⟨b, o, none⟩ = some u) (h1 : w.cell? ⟨b, o + 1, none⟩ = some v) : w.rangeAt b o [u, v] := by
  intro j x hx
  match j, hx with
  | 0, hx => simp at hx; subst hx; exact h0
  | 1, hx => simp at hx; subst hx; exact h1
theorem ownV_past {w w' : World} {b1 b2 : Nat} {v1 v2 : Value} {E1 E2 : TypeId} {us1 us2 : List Value} (h : OwnV w b1 v1 E1 us1) (k : OwnV w b2 v2 E2 us2) (hE : E1 ≠ E2) (hg : w.grownBy w' v2.ownBlock) : OwnV w' b1 v1 E1 us1 := by
  refine h.keep fun g hg1 => hg.block g (h.block g hg1).2 (fun e => ?_)
  rcases h.cases with ⟨rfl, _⟩ | ⟨g1, _, _, rfl, _, _, _, hh1, _, _⟩
  · simp [Value.ownBlock] at hg1
  · simp [Value.ownBlock] at hg1
    subst hg1
    rcases k.cases with ⟨rfl, _⟩ | ⟨g2, _, _, rfl, _, _, _, hh2, _, _⟩
    · simp [Value.ownBlock] at e
    · simp [Value.ownBlock] at e
      subst e
      rw [hh1] at hh2
      injection hh2 with hh2
      injection hh2 with _ h3 _
      exact hE h3

set_option maxRecDepth 100000 in
theorem chunkRight_ex (A : Option Addr) (c : Nat) (w : World) (hx : Smp w A) (hc : 2 ≤ c) (hcm : c ≤ maxLen) :
    Calls Tryd.prog 17 #[.slice A 2 c] w fun e w' => e = .returned (.int .i64 0) ∧ Below w.heap.size w w' := by
  obtain ⟨b, off, rfl, h0, h1, h2, h3⟩ := hx
  have hbl := World.block_lt_of_cell? _ _ h0
  have hc1 : ¬ c = 1 := by omega
  unfold maxLen at hcm
  go_enter Tryd.func17, Tryd.ntmps17
  go_wp2_with fail
  go_loopw [14] (fun i wr => Below w.heap.size w wr ∧ (i = .int .i64 0 ∨ i = .int .i64 1)) (fun i _ => 1 - (intOf i).toNat)
  case atStart => exact ⟨Below.refl _ _, .inl rfl⟩
  case round =>
    obtain ⟨hb, rfl | rfl⟩ := hrel
    · have d0 := (hb.cell (p := ⟨b, off, none⟩) hbl).trans h0
      have d2 := (hb.cell (p := ⟨b, off + 2, none⟩) hbl).trans h2
      have d3 := (hb.cell (p := ⟨b, off + 3, none⟩) hbl).trans h3
      have hr := range_two d2 d3
      have hblr := World.block_lt_of_cell? _ _ d0
      go_wp2_with (first
        | (refine wpList_load_mid rfl 49 _ rfl b (off + 2) rfl _ _ hr Tryd.underlying49 rfl (by kernel_rfl) ?_)
        | (refine wpList_store_row rfl 49 (.tmp 4) (.tmp 18) rfl wr.heap.size _ rfl rfl 49 Tryd.zeroCells49 (heap_alloc_new _ _) (by kernel_rfl) (by kernel_rfl) (by kernel_rfl) ?_; rw [World.setRow_alloc_new]))
      have hA : Below wr.heap.size wr (wr.alloc (.cells #[.int .i64 13, .int .u64 7] 49)) := (Below.refl _ _).alloc (Nat.le_refl _) _
      have e0 : (wr.alloc (.cells #[.int .i64 13, .int .u64 7] 49)).cell? ⟨wr.heap.size, 0, none⟩ = some (.int .i64 13) := by rw [World.cell?_alloc_new]; rfl
      have f0 : (wr.alloc (.cells #[.int .i64 13, .int .u64 7] 49)).cell? ⟨b, off, none⟩ = some (.int .i64 10) := (hA.cell (p := ⟨b, off, none⟩) hblr).trans d0
      have ke : ∀ y : SubW (wr.alloc (.cells #[.int .i64 13, .int .u64 7] 49)).heap.size (wr.alloc (.cells #[.int .i64 13, .int .u64 7] 49)), y.at_.cell? ⟨wr.heap.size, 0, none⟩ = some (.int .i64 13) := fun y => (World.cell?_of_block (a := ⟨wr.heap.size, 0, none⟩) (y.ok_.block _ (World.block_lt_of_cell? _ _ e0))).trans e0
      have kf : ∀ y : SubW (wr.alloc (.cells #[.int .i64 13, .int .u64 7] 49)).heap.size (wr.alloc (.cells #[.int .i64 13, .int .u64 7] 49)), y.at_.cell? ⟨b, off, none⟩ = some (.int .i64 10) := fun y => (World.cell?_of_block (a := ⟨b, off, none⟩) (y.ok_.block _ (World.block_lt_of_cell? _ _ f0))).trans f0
      refine region_over [] [0, 1, 2, 3, 4, 5, 6, 7] (by kernel_rfl) (by kernel_rfl) ?_
      rintro wd hbd
      rw [wpBl_nil]
      simp only [List.map_cons, List.map_nil, opAt, List.getElem?_toArray, List.getElem?_cons_zero, List.getElem?_cons_succ, Option.getD_some]
      repeat (go_big_quiet_step (fail))
      refine wpQuiet_nil ?_
      go_wp2_with fail
      go_roundw
      case rel =>
        have hbA : Below w.heap.size w (wr.alloc (.cells #[.int .i64 13, .int .u64 7] 49)) := hb.trans (hA.mono hb.size)
        exact ⟨hbA.trans (hbd.mono hbA.size), .inr rfl⟩
      case measure => simp [intOf]
    · go_wp2_with fail
      go_ret
      exact ⟨rfl, hb⟩
end Go.Proofs.YtocddhokjhfaaaaDoor

namespace Go.Proofs.YtocddhokjhfaaaaDoor
open Go.RowKit BitM VarM RunM
set_option linter.unusedVariables false

theorem cellsAt_oneG (w : World) (g : Nat) (u u' : Value) (t : TypeId) (hg : g = w.heap.size) (hu : u = u') : CellsAt (w.alloc (.cells #[u] t)) (some ⟨g, 0, none⟩) [u'] := by
  subst hg
  exact cellsAt_one w u u' t hu

set_option maxHeartbeats 800000 in
set_option maxRecDepth 100000 in
theorem apart_ex (A : Option Addr) (c : Nat) (w : World) (hx : Smp w A) (hc : 2 ≤ c) (hcm : c ≤ maxLen) :
    Calls Tryd.prog 26 #[.slice A 2 c] w fun e w' => ∃ A1 c1 A2 c2, e = .returned (.tuple #[.slice A1 2 c1, .slice A2 2 c2]) ∧ TimesAt w' A1 [10, 13] ∧ 2 ≤ c1 ∧ c1 ≤ maxLen ∧ NatsAt w' A2 [7, 7] ∧ 2 ≤ c2 ∧ c2 ≤ maxLen ∧ Below w.heap.size w w' := by
  obtain ⟨b, off, rfl, h0, h1, h2, h3⟩ := hx
  have hbl := World.block_lt_of_cell? _ _ h0
  unfold maxLen at hcm
  have hE : (2 : TypeId) ≠ 22 := by decide
  go_enter Tryd.func26, Tryd.ntmps26
  go_wp2_with fail
  go_loopw [4, 5, 10] (fun l1 l2 i wr => Below w.heap.size w wr ∧ ∃ (k c1 c2 : Nat) (A1 A2 : Option Addr), k ≤ 2 ∧ i = .int .i64 k ∧ l1 = .slice A1 k c1 ∧ l2 = .slice A2 k c2 ∧ OwnT wr w.heap.size (.slice A1 k c1) (([10, 13] : List Int).take k) ∧ OwnN wr w.heap.size (.slice A2 k c2) (([7, 7] : List Nat).take k)) (fun _ _ i _ => 2 - (intOf i).toNat)
  case atStart => exact ⟨Below.refl _ _, 0, 0, 0, none, none, by omega, rfl, rfl, rfl, OwnV.nil _ _ _, OwnV.nil _ _ _⟩
  case round =>
    obtain ⟨hb, k, c1, c2, A1, A2, hk, rfl, rfl, rfl, ho1, ho2⟩ := hrel
    have d0 := (hb.cell (p := ⟨b, off, none⟩) hbl).trans h0
    have d1 := (hb.cell (p := ⟨b, off + 1, none⟩) hbl).trans h1
    have d2 := (hb.cell (p := ⟨b, off + 2, none⟩) hbl).trans h2
    have d3 := (hb.cell (p := ⟨b, off + 3, none⟩) hbl).trans h3
    have hcase : k = 0 ∨ k = 1 ∨ k = 2 := by omega
    have hbs := hb.size
    rcases hcase with rfl | rfl | rfl
    · rw [show ((0 : Nat) : Int) = 0 from rfl]
      have hr := range_two d0 d1
      have hA : Below wr.heap.size wr (wr.alloc (.cells #[.int .i64 10, .int .u64 7] 49)) := (Below.refl _ _).alloc (Nat.le_refl _) _
      have e0 : (wr.alloc (.cells #[.int .i64 10, .int .u64 7] 49)).cell? ⟨wr.heap.size, 0, none⟩ = some (.int .i64 10) := by rw [World.cell?_alloc_new]; rfl
      have e1 : (wr.alloc (.cells #[.int .i64 10, .int .u64 7] 49)).cell? ⟨wr.heap.size, 1, none⟩ = some (.int .u64 7) := by rw [World.cell?_alloc_new]; rfl
      have ho1A := OwnV.alloc ho1 (.cells #[.int .i64 10, .int .u64 7] 49)
      have ho2A := OwnV.alloc ho2 (.cells #[.int .i64 10, .int .u64 7] 49)
      have HD1 : Hid ((([10, 13] : List Int).take 0).map iv ++ [iv 10] = (([10] : List Int)).map iv) := Lib.hid rfl
      have HL1 : Hid (((([10] : List Int)).map iv).length = 1) := Lib.hid rfl
      have HD2 : Hid ((([7, 7] : List Nat).take 0).map uv ++ [uv 7] = (([7] : List Nat)).map uv) := Lib.hid rfl
      have HL2 : Hid (((([7] : List Nat)).map uv).length = 1) := Lib.hid rfl
      have hcA : CellsAt ((wr.alloc (.cells #[.int .i64 10, .int .u64 7] 49)).alloc (.cells #[.int .i64 10] 2)) (some ⟨wr.heap.size + 1, 0, none⟩) [iv 10] := cellsAt_oneG _ _ _ _ _ (by simp) rfl
      have hbs2 : w.heap.size ≤ ((wr.alloc (.cells #[.int .i64 10, .int .u64 7] 49)).alloc (.cells #[.int .i64 10] 2)).heap.size := by simp; omega
      have eB : ((wr.alloc (.cells #[.int .i64 10, .int .u64 7] 49)).alloc (.cells #[.int .i64 10] 2)).cell? ⟨wr.heap.size, 1, none⟩ = some (.int .u64 7) := (World.cell?_of_block (a := ⟨wr.heap.size, 1, none⟩) (Below.heap_alloc _ _ _ (by simp))).trans e1
      have hbB : Below w.heap.size w ((wr.alloc (.cells #[.int .i64 10, .int .u64 7] 49)).alloc (.cells #[.int .i64 10] 2)) := (hb.alloc hb.size _).alloc (by simp; omega) _
      go_wp2_with (first
        | (refine wpList_load_mid rfl 49 _ rfl b off rfl _ _ hr Tryd.underlying49 rfl (by kernel_rfl) ?_)
        | (refine wpList_store_row rfl 49 (.tmp 7) (.tmp 13) rfl wr.heap.size _ rfl rfl 49 Tryd.zeroCells49 (heap_alloc_new _ _) (by kernel_rfl) (by kernel_rfl) (by kernel_rfl) ?_; rw [World.setRow_alloc_new])
        | (at_builtin; refine wpList_append_vz rfl (.tmp 14) (.tmp 17) 23 rfl Tryd.underlying23 _ 8 infoI64 rfl rfl (OwnV.alloc ho1A _) _ _ 1 [iv 10] (([10] : List Int).map iv) rfl rfl hcA (iv_one [10]) HD1.out (by simp) (by unfold maxLen; simp) hbs2 ?_; rw [HL1.out]; intro A3 c3 w3 ho3 hg3; have ho23 := ownV_past (OwnV.alloc ho2A _) (OwnV.alloc ho1A _) hE.symm hg3; have c31 := (World.cell?_of_block (a := ⟨wr.heap.size, 1, none⟩) (hg3.block wr.heap.size (by simp; omega) (fun e => by have := (OwnV.block ho1 _ e.symm).2; omega))).trans eB; have hb3 := (OwnV.alloc ho1A _).belowGrown (B := w.heap.size) (Nat.le_refl _) hbs2 hbB hg3; have hbs3 : w.heap.size ≤ (w3.alloc (.cells #[.int .u64 7] 22)).heap.size := (by have := hb3.size; simp; omega))
        | (at_builtin; refine wpList_append_vz rfl (.tmp 19) (.tmp 22) 55 rfl Tryd.underlying55 _ 8 infoU64 rfl rfl (OwnV.alloc ho23 _) _ _ 1 [uv 7] (([7] : List Nat).map uv) rfl rfl (cellsAt_one _ _ _ _ rfl) (uv_one [7]) HD2.out (by simp) (by unfold maxLen; simp) hbs3 ?_; rw [HL2.out]; intro A5 c5 w5 ho5 hg5; have ho35 := ownV_past (OwnV.alloc ho3 _) (OwnV.alloc ho23 _) hE hg5; have hb5 := (OwnV.alloc ho23 _).belowGrown (B := w.heap.size) (Nat.le_refl _) hbs3 (hb3.alloc hb3.size _) hg5))
      go_roundw
      case rel => exact ⟨hb5, 1, c3, c5, A3, A5, by omega, rfl, rfl, rfl, ho35, ho5⟩
      case measure => simp [intOf]
    · rw [show ((1 : Nat) : Int) = 1 from rfl]
      have hr := range_two d2 d3
      have hA : Below wr.heap.size wr (wr.alloc (.cells #[.int .i64 13, .int .u64 7] 49)) := (Below.refl _ _).alloc (Nat.le_refl _) _
      have e0 : (wr.alloc (.cells #[.int .i64 13, .int .u64 7] 49)).cell? ⟨wr.heap.size, 0, none⟩ = some (.int .i64 13) := by rw [World.cell?_alloc_new]; rfl
      have e1 : (wr.alloc (.cells #[.int .i64 13, .int .u64 7] 49)).cell? ⟨wr.heap.size, 1, none⟩ = some (.int .u64 7) := by rw [World.cell?_alloc_new]; rfl
      have ho1A := OwnV.alloc ho1 (.cells #[.int .i64 13, .int .u64 7] 49)
      have ho2A := OwnV.alloc ho2 (.cells #[.int .i64 13, .int .u64 7] 49)
      have HD1 : Hid ((([10, 13] : List Int).take 1).map iv ++ [iv 13] = (([10, 13] : List Int)).map iv) := Lib.hid rfl
      have HL1 : Hid (((([10, 13] : List Int)).map iv).length = 2) := Lib.hid rfl
      have HD2 : Hid ((([7, 7] : List Nat).take 1).map uv ++ [uv 7] = (([7, 7] : List Nat)).map uv) := Lib.hid rfl
      have HL2 : Hid (((([7, 7] : List Nat)).map uv).length = 2) := Lib.hid rfl
      have hcA : CellsAt ((wr.alloc (.cells #[.int .i64 13, .int .u64 7] 49)).alloc (.cells #[.int .i64 13] 2)) (some ⟨wr.heap.size + 1, 0, none⟩) [iv 13] := cellsAt_oneG _ _ _ _ _ (by simp) rfl
      have hbs2 : w.heap.size ≤ ((wr.alloc (.cells #[.int .i64 13, .int .u64 7] 49)).alloc (.cells #[.int .i64 13] 2)).heap.size := by simp; omega
      have eB : ((wr.alloc (.cells #[.int .i64 13, .int .u64 7] 49)).alloc (.cells #[.int .i64 13] 2)).cell? ⟨wr.heap.size, 1, none⟩ = some (.int .u64 7) := (World.cell?_of_block (a := ⟨wr.heap.size, 1, none⟩) (Below.heap_alloc _ _ _ (by simp))).trans e1
      have hbB : Below w.heap.size w ((wr.alloc (.cells #[.int .i64 13, .int .u64 7] 49)).alloc (.cells #[.int .i64 13] 2)) := (hb.alloc hb.size _).alloc (by simp; omega) _
      go_wp2_with (first
        | (refine wpList_load_mid rfl 49 _ rfl b (off + 2) rfl _ _ hr Tryd.underlying49 rfl (by kernel_rfl) ?_)
        | (refine wpList_store_row rfl 49 (.tmp 7) (.tmp 13) rfl wr.heap.size _ rfl rfl 49 Tryd.zeroCells49 (heap_alloc_new _ _) (by kernel_rfl) (by kernel_rfl) (by kernel_rfl) ?_; rw [World.setRow_alloc_new])
        | (at_builtin; refine wpList_append_vz rfl (.tmp 14) (.tmp 17) 23 rfl Tryd.underlying23 _ 8 infoI64 rfl rfl (OwnV.alloc ho1A _) _ _ 1 [iv 13] (([10, 13] : List Int).map iv) rfl rfl hcA (iv_one [13]) HD1.out (by simp) (by unfold maxLen; simp) hbs2 ?_; rw [HL1.out]; intro A3 c3 w3 ho3 hg3; have ho23 := ownV_past (OwnV.alloc ho2A _) (OwnV.alloc ho1A _) hE.symm hg3; have c31 := (World.cell?_of_block (a := ⟨wr.heap.size, 1, none⟩) (hg3.block wr.heap.size (by simp; omega) (fun e => by have := (OwnV.block ho1 _ e.symm).2; omega))).trans eB; have hb3 := (OwnV.alloc ho1A _).belowGrown (B := w.heap.size) (Nat.le_refl _) hbs2 hbB hg3; have hbs3 : w.heap.size ≤ (w3.alloc (.cells #[.int .u64 7] 22)).heap.size := (by have := hb3.size; simp; omega))
        | (at_builtin; refine wpList_append_vz rfl (.tmp 19) (.tmp 22) 55 rfl Tryd.underlying55 _ 8 infoU64 rfl rfl (OwnV.alloc ho23 _) _ _ 1 [uv 7] (([7, 7] : List Nat).map uv) rfl rfl (cellsAt_one _ _ _ _ rfl) (uv_one [7]) HD2.out (by simp) (by unfold maxLen; simp) hbs3 ?_; rw [HL2.out]; intro A5 c5 w5 ho5 hg5; have ho35 := ownV_past (OwnV.alloc ho3 _) (OwnV.alloc ho23 _) hE hg5; have hb5 := (OwnV.alloc ho23 _).belowGrown (B := w.heap.size) (Nat.le_refl _) hbs3 (hb3.alloc hb3.size _) hg5))
      go_roundw
      case rel => exact ⟨hb5, 2, c3, c5, A3, A5, by omega, rfl, rfl, rfl, ho35, ho5⟩
      case measure => simp [intOf]
    · have hcp1 := OwnV.caps ho1
      have hcp2 := OwnV.caps ho2
      have ht : TimesAt wr A1 [10, 13] := OwnV.bytes ho1
      have hn : NatsAt wr A2 [7, 7] := OwnV.bytes ho2
      go_wp2_with fail
      go_ret2
      exact ⟨A1, c1, A2, c2, rfl, ht, hcp1.2.1, hcp1.2.2.1, hn, hcp2.2.1, hcp2.2.2.1, hb⟩
end Go.Proofs.YtocddhokjhfaaaaDoor

namespace Go.Proofs.YtocddhokjhfaaaaDoor
open Go.RowKit BitM
set_option linter.unusedVariables false

/-- These samples stand there. -/
def SmpsAt (w : World) (A : Option Addr) (ss : List (Int × Nat)) : Prop := ss ≠ [] → ∃ b off, A = some ⟨b, off, none⟩ ∧ ∀ k, k < ss.length → w.cell? ⟨b, off + k * 2, none⟩ = some (.int .i64 (ss.getD k (0, 0)).1) ∧ w.cell? ⟨b, off + k * 2 + 1, none⟩ = some (.int .u64 ((ss.getD k (0, 0)).2 : Int))
theorem SmpsAt.below {w w' : World} {A : Option Addr} {ss : List (Int × Nat)} (h : SmpsAt w A ss) (hb : Below w.heap.size w w') : SmpsAt w' A ss := fun hne => by
  obtain ⟨b, off, ha, hc⟩ := h hne
  refine ⟨b, off, ha, fun k hk => ?_⟩
  obtain ⟨h1, h2⟩ := hc k hk
  exact ⟨(hb.cell (p := ⟨b, off + k * 2, none⟩) (World.block_lt_of_cell? _ _ h1)).trans h1, (hb.cell (p := ⟨b, off + k * 2 + 1, none⟩) (World.block_lt_of_cell? _ _ h2)).trans h2⟩
/-- What chunk.Right tells. -/
def rises (ss : List (Int × Nat)) : Prop := ∀ k, k + 1 < ss.length → (ss.getD k (0, 0)).1 < (ss.getD (k + 1) (0, 0)).1
open Classical in
noncomputable def rightE (ss : List (Int × Nat)) : Nat := if ss = [] then 7 else if 200 < ss.length then 6 else if rises ss then 0 else 8

set_option maxHeartbeats 800000 in
set_option maxRecDepth 100000 in
theorem chunkRight_any (A : Option Addr) (n c : Nat) (ss : List (Int × Nat)) (w : World) (hn : ss.length = n) (hx : SmpsAt w A ss) (hc : n ≤ c) (hcm : c ≤ maxLen) (er : Nat) (he : rightE ss = er) :
    Calls Tryd.prog 17 #[.slice A n c] w fun e w' => e = .returned (.int .i64 (er : Int)) ∧ Below w.heap.size w w' := by
  unfold rightE at he
  unfold maxLen at hcm
  by_cases h0 : n = 0
  · subst h0
    obtain rfl : ss = [] := List.eq_nil_of_length_eq_zero hn
    simp at he
    subst he
    go_enter Tryd.func17, Tryd.ntmps17
    go_wp2_with fail
    go_ret
    exact ⟨rfl, Below.refl _ _⟩
  have hne : ss ≠ [] := by intro h; subst h; simp at hn; omega
  have hnz : ((n : Int) == 0) = false := by rw [beq_eq_false_iff_ne]; omega
  rw [if_neg hne, hn] at he
  by_cases h2 : 200 < n
  · rw [if_pos h2] at he
    subst he
    go_enter Tryd.func17, Tryd.ntmps17
    go_wp2_with fail
    go_ret
    exact ⟨rfl, Below.refl _ _⟩
  rw [if_neg h2] at he
  obtain ⟨b, off, rfl, hcell⟩ := hx hne
  obtain ⟨n1, hn1⟩ : ∃ n1, n1 = n - 1 := ⟨_, rfl⟩
  have hn1e : n - 1 = n1 := hn1.symm
  have hn200 : n ≤ 200 := by omega
  have HCE := Lib.hid hcell
  have HN := Lib.hid hn
  have HE := Lib.hid he
  have HN1 := Lib.hid hn1
  clear hcell hn he hn1 hx hne h2
  by_cases hc1 : c = 1
  · subst hc1
    obtain rfl : n = 1 := by omega
    obtain rfl : n1 = 0 := by omega
    have her : er = 0 := by
      have := HE.out
      rw [if_pos (show rises ss from fun j hj => by have := HN.out; omega)] at this
      exact this.symm
    subst her
    go_enter Tryd.func17, Tryd.ntmps17
    go_wp2_with fail
    go_loopw [14] (fun i wr => i = .int .i64 0 ∧ Below w.heap.size w wr) (fun i _ => 0)
    case atStart => exact ⟨rfl, Below.refl _ _⟩
    case round =>
      obtain ⟨rfl, hb⟩ := hrel
      go_wp2_with fail
      go_ret
      exact ⟨rfl, hb⟩
  · go_enter Tryd.func17, Tryd.ntmps17
    go_wp2_with fail
    go_loopw [14] (fun i wr => ∃ k : Nat, k ≤ n1 ∧ i = .int .i64 k ∧ Hid (∀ j, j < k → (ss.getD j (0, 0)).1 < (ss.getD (j + 1) (0, 0)).1) ∧ Below w.heap.size w wr) (fun i _ => n1 - (intOf i).toNat)
    case atStart => exact ⟨0, by omega, rfl, Lib.hid (fun j h => by omega), Below.refl _ _⟩
    case round =>
      obtain ⟨k, hk, rfl, HR, hb⟩ := hrel
      by_cases hlt : k < n1
      · have hkn : k + 1 < ss.length := by have := HN.out; have := HN1.out; omega
        obtain ⟨c1, c2⟩ := HCE.out (k + 1) hkn
        obtain ⟨c0, _⟩ := HCE.out k (by omega)
        obtain ⟨a1, ha1⟩ : ∃ a, a = (ss.getD (k + 1) (0, 0)).1 := ⟨_, rfl⟩
        obtain ⟨v1, hv1⟩ : ∃ a, a = (ss.getD (k + 1) (0, 0)).2 := ⟨_, rfl⟩
        obtain ⟨a0, ha0⟩ : ∃ a, a = (ss.getD k (0, 0)).1 := ⟨_, rfl⟩
        rw [← ha1] at c1
        rw [← hv1] at c2
        rw [← ha0] at c0
        have d1 := (hb.cell (p := ⟨b, off + (k + 1) * 2, none⟩) (World.block_lt_of_cell? _ _ c1)).trans c1
        have d2 := (hb.cell (p := ⟨b, off + (k + 1) * 2 + 1, none⟩) (World.block_lt_of_cell? _ _ c2)).trans c2
        have d0 := (hb.cell (p := ⟨b, off + k * 2, none⟩) (World.block_lt_of_cell? _ _ c0)).trans c0
        have hblr := World.block_lt_of_cell? _ _ d0
        have hr := range_two d1 d2
        rw [show off + (k + 1) * 2 = off + 2 + k * 2 by omega] at hr
        clear c0 c1 c2 d1 d2
        have HA1 := Lib.hid ha1
        have HA0 := Lib.hid ha0
        clear ha1 hv1 ha0
        go_wp2_with (first
          | (refine wpList_load_mid rfl 49 (.tmp 17) rfl b (off + 2 + k * 2) rfl _ _ hr Tryd.underlying49 rfl (by kernel_rfl) ?_)
          | (refine wpList_store_row rfl 49 (.tmp 4) (.tmp 18) rfl wr.heap.size _ rfl rfl 49 Tryd.zeroCells49 (heap_alloc_new _ _) (by kernel_rfl) (by kernel_rfl) (by kernel_rfl) ?_; rw [World.setRow_alloc_new]))
        have hA : Below wr.heap.size wr (wr.alloc (.cells #[.int .i64 a1, .int .u64 (v1 : Int)] 49)) := (Below.refl _ _).alloc (Nat.le_refl _) _
        have e0 : (wr.alloc (.cells #[.int .i64 a1, .int .u64 (v1 : Int)] 49)).cell? ⟨wr.heap.size, 0, none⟩ = some (.int .i64 a1) := by rw [World.cell?_alloc_new]; rfl
        have f0 : (wr.alloc (.cells #[.int .i64 a1, .int .u64 (v1 : Int)] 49)).cell? ⟨b, off + k * 2, none⟩ = some (.int .i64 a0) := (hA.cell (p := ⟨b, off + k * 2, none⟩) hblr).trans d0
        have ke : ∀ y : SubW (wr.alloc (.cells #[.int .i64 a1, .int .u64 (v1 : Int)] 49)).heap.size (wr.alloc (.cells #[.int .i64 a1, .int .u64 (v1 : Int)] 49)), y.at_.cell? ⟨wr.heap.size, 0, none⟩ = some (.int .i64 a1) := fun y => (World.cell?_of_block (a := ⟨wr.heap.size, 0, none⟩) (y.ok_.block _ (World.block_lt_of_cell? _ _ e0))).trans e0
        have kf : ∀ y : SubW (wr.alloc (.cells #[.int .i64 a1, .int .u64 (v1 : Int)] 49)).heap.size (wr.alloc (.cells #[.int .i64 a1, .int .u64 (v1 : Int)] 49)), y.at_.cell? ⟨b, off + k * 2, none⟩ = some (.int .i64 a0) := fun y => (World.cell?_of_block (a := ⟨b, off + k * 2, none⟩) (y.ok_.block _ (World.block_lt_of_cell? _ _ f0))).trans f0
        have hbA : Below w.heap.size w (wr.alloc (.cells #[.int .i64 a1, .int .u64 (v1 : Int)] 49)) := hb.trans (hA.mono hb.size)
        by_cases hcmp : a1 ≤ a0
        · have hd : decide (a1 ≤ a0) = true := by rw [decide_eq_true_iff]; exact hcmp
          have her : er = 8 := by
            have := HE.out
            rw [if_neg (show ¬ rises ss from fun hr => by have := hr k hkn; rw [← HA0.out, ← HA1.out] at this; omega)] at this
            exact this.symm
          subst her
          refine region_over [] [0, 1, 2, 3, 4, 5, 6, 7] (by kernel_rfl) (by kernel_rfl) ?_
          rintro wd hbd
          rw [wpBl_nil]
          simp only [List.map_cons, List.map_nil, opAt, List.getElem?_toArray, List.getElem?_cons_zero, List.getElem?_cons_succ, Option.getD_some]
          repeat (go_big_quiet_step (fail))
          refine wpQuiet_nil ?_
          go_wp2_with fail
          go_ret
          exact ⟨rfl, hbA.trans (hbd.mono hbA.size)⟩
        · have hd : decide (a1 ≤ a0) = false := by rw [decide_eq_false_iff_not]; exact hcmp
          have HR2 : Hid (∀ j, j < k + 1 → (ss.getD j (0, 0)).1 < (ss.getD (j + 1) (0, 0)).1) := Lib.hid (fun j hj => by
            rcases Nat.lt_or_ge j k with h | h
            · exact HR.out j h
            · obtain rfl : j = k := by omega
              rw [← HA0.out, ← HA1.out]; omega)
          refine region_over [] [0, 1, 2, 3, 4, 5, 6, 7] (by kernel_rfl) (by kernel_rfl) ?_
          rintro wd hbd
          rw [wpBl_nil]
          simp only [List.map_cons, List.map_nil, opAt, List.getElem?_toArray, List.getElem?_cons_zero, List.getElem?_cons_succ, Option.getD_some]
          repeat (go_big_quiet_step (fail))
          refine wpQuiet_nil ?_
          go_wp2_with fail
          go_roundw
          case rel => exact ⟨k + 1, by omega, by go_num, HR2, hbA.trans (hbd.mono hbA.size)⟩
          case measure => simp [intOf]; omega
      · obtain rfl : k = n1 := by omega
        have her : er = 0 := by
          have := HE.out
          rw [if_pos (show rises ss from fun j hj => HR.out j (by have := HN.out; have := HN1.out; omega))] at this
          exact this.symm
        subst her
        go_wp2_with fail
        go_ret
        exact ⟨rfl, hb⟩
end Go.Proofs.YtocddhokjhfaaaaDoor

namespace Go.Proofs.YtocddhokjhfaaaaDoor
open Go.RowKit BitM VarM RunM
set_option linter.unusedVariables false

theorem smps_fst (ss : List (Int × Nat)) (k : Nat) (hk : k < ss.length) : ((ss.take k).map Prod.fst).map iv ++ [iv (ss.getD k (0, 0)).1] = ((ss.take (k + 1)).map Prod.fst).map iv := by
  rw [List.take_add_one, List.getElem?_eq_getElem hk, List.getD_eq_getElem?_getD, List.getElem?_eq_getElem hk]
  simp only [Option.toList_some, List.map_append, List.map_cons, List.map_nil, Option.getD_some]
theorem smps_snd (ss : List (Int × Nat)) (k : Nat) (hk : k < ss.length) : ((ss.take k).map Prod.snd).map uv ++ [uv (ss.getD k (0, 0)).2] = ((ss.take (k + 1)).map Prod.snd).map uv := by
  rw [List.take_add_one, List.getElem?_eq_getElem hk, List.getD_eq_getElem?_getD, List.getElem?_eq_getElem hk]
  simp only [Option.toList_some, List.map_append, List.map_cons, List.map_nil, Option.getD_some]

set_option maxHeartbeats 800000 in
set_option maxRecDepth 100000 in
theorem apart_any (A : Option Addr) (n c : Nat) (ss : List (Int × Nat)) (w : World) (hn : ss.length = n) (hx : SmpsAt w A ss) (hl : n ≤ 200) (hc : n ≤ c) (hcm : c ≤ maxLen) (ts : List Int) (vs : List Nat) (hts : ss.map Prod.fst = ts) (hvs : ss.map Prod.snd = vs) :
    Calls Tryd.prog 26 #[.slice A n c] w fun e w' => ∃ A1 c1 A2 c2, e = .returned (.tuple #[.slice A1 n c1, .slice A2 n c2]) ∧ TimesAt w' A1 ts ∧ n ≤ c1 ∧ c1 ≤ maxLen ∧ NatsAt w' A2 vs ∧ n ≤ c2 ∧ c2 ≤ maxLen ∧ Below w.heap.size w w' := by
  have hce : ∀ j, j < n → ∃ b off, A = some ⟨b, off, none⟩ ∧ w.cell? ⟨b, off + j * 2, none⟩ = some (.int .i64 (ss.getD j (0, 0)).1) ∧ w.cell? ⟨b, off + j * 2 + 1, none⟩ = some (.int .u64 ((ss.getD j (0, 0)).2 : Int)) := by
    intro j hj
    obtain ⟨b, off, rfl, h⟩ := hx (by intro h; subst h; simp at hn; omega)
    exact ⟨b, off, rfl, h j (by omega)⟩
  have HCE := Lib.hid hce
  have HN := Lib.hid hn
  have HTS := Lib.hid hts
  have HVS := Lib.hid hvs
  clear hce hx hn hts hvs
  unfold maxLen at hcm
  have hE : (2 : TypeId) ≠ 22 := by decide
  go_enter Tryd.func26, Tryd.ntmps26
  go_wp2_with fail
  go_loopw [4, 5, 10] (fun l1 l2 i wr => Below w.heap.size w wr ∧ ∃ (k c1 c2 : Nat) (A1 A2 : Option Addr), k ≤ n ∧ i = .int .i64 k ∧ l1 = .slice A1 k c1 ∧ l2 = .slice A2 k c2 ∧ OwnT wr w.heap.size (.slice A1 k c1) ((ss.take k).map Prod.fst) ∧ OwnN wr w.heap.size (.slice A2 k c2) ((ss.take k).map Prod.snd)) (fun _ _ i _ => n - (intOf i).toNat)
  case atStart => exact ⟨Below.refl _ _, 0, 0, 0, none, none, by omega, rfl, rfl, rfl, by rw [List.take_zero]; exact OwnV.nil _ _ _, by rw [List.take_zero]; exact OwnV.nil _ _ _⟩
  case round =>
    obtain ⟨hb, k, c1, c2, A1, A2, hk, rfl, rfl, rfl, ho1, ho2⟩ := hrel
    have hbs := hb.size
    by_cases hlt : k < n
    · obtain ⟨b, off, rfl, g0, g1⟩ := HCE.out k hlt
      have d0 := (hb.cell (p := ⟨b, off + k * 2, none⟩) (World.block_lt_of_cell? _ _ g0)).trans g0
      have d1 := (hb.cell (p := ⟨b, off + k * 2 + 1, none⟩) (World.block_lt_of_cell? _ _ g1)).trans g1
      have q1 := smps_fst ss k (by rw [HN.out]; exact hlt)
      have q2 := smps_snd ss k (by rw [HN.out]; exact hlt)
      have l1 : (((ss.take (k + 1)).map Prod.fst).map iv).length = k + 1 := by have := HN.out; simp; omega
      have l2 : (((ss.take (k + 1)).map Prod.snd).map uv).length = k + 1 := by have := HN.out; simp; omega
      have l3 : (((ss.take k).map Prod.fst).map iv).length = k := by have := HN.out; simp; omega
      have l4 : (((ss.take k).map Prod.snd).map uv).length = k := by have := HN.out; simp; omega
      obtain ⟨a1, ha1⟩ : ∃ a, a = (ss.getD k (0, 0)).1 := ⟨_, rfl⟩
      obtain ⟨v1, hv1⟩ : ∃ a, a = (ss.getD k (0, 0)).2 := ⟨_, rfl⟩
      rw [← ha1] at d0 q1
      rw [← hv1] at d1 q2
      have hr := range_two d0 d1
      have HD1 := Lib.hid q1
      have HD2 := Lib.hid q2
      have HL1 := Lib.hid l1
      have HL2 := Lib.hid l2
      have HL3 := Lib.hid l3
      have HL4 := Lib.hid l4
      clear q1 q2 l1 l2 l3 l4 ha1 hv1 d0 d1 g0 g1
      have hA : Below wr.heap.size wr (wr.alloc (.cells #[.int .i64 a1, .int .u64 (v1 : Int)] 49)) := (Below.refl _ _).alloc (Nat.le_refl _) _
      have e0 : (wr.alloc (.cells #[.int .i64 a1, .int .u64 (v1 : Int)] 49)).cell? ⟨wr.heap.size, 0, none⟩ = some (.int .i64 a1) := by rw [World.cell?_alloc_new]; rfl
      have e1 : (wr.alloc (.cells #[.int .i64 a1, .int .u64 (v1 : Int)] 49)).cell? ⟨wr.heap.size, 1, none⟩ = some (.int .u64 (v1 : Int)) := by rw [World.cell?_alloc_new]; rfl
      have ho1A := OwnV.alloc ho1 (.cells #[.int .i64 a1, .int .u64 (v1 : Int)] 49)
      have ho2A := OwnV.alloc ho2 (.cells #[.int .i64 a1, .int .u64 (v1 : Int)] 49)
      have hcA : CellsAt ((wr.alloc (.cells #[.int .i64 a1, .int .u64 (v1 : Int)] 49)).alloc (.cells #[.int .i64 a1] 2)) (some ⟨wr.heap.size + 1, 0, none⟩) [iv a1] := cellsAt_oneG _ _ _ _ _ (by simp) rfl
      have hbs2 : w.heap.size ≤ ((wr.alloc (.cells #[.int .i64 a1, .int .u64 (v1 : Int)] 49)).alloc (.cells #[.int .i64 a1] 2)).heap.size := by simp; omega
      have eB : ((wr.alloc (.cells #[.int .i64 a1, .int .u64 (v1 : Int)] 49)).alloc (.cells #[.int .i64 a1] 2)).cell? ⟨wr.heap.size, 1, none⟩ = some (.int .u64 (v1 : Int)) := (World.cell?_of_block (a := ⟨wr.heap.size, 1, none⟩) (Below.heap_alloc _ _ _ (by simp))).trans e1
      have hbB : Below w.heap.size w ((wr.alloc (.cells #[.int .i64 a1, .int .u64 (v1 : Int)] 49)).alloc (.cells #[.int .i64 a1] 2)) := (hb.alloc hb.size _).alloc (by simp; omega) _
      go_wp2_with (first
        | (refine wpList_load_mid rfl 49 _ rfl b (off + k * 2) rfl _ _ hr Tryd.underlying49 rfl (by kernel_rfl) ?_)
        | (refine wpList_store_row rfl 49 (.tmp 7) (.tmp 13) rfl wr.heap.size _ rfl rfl 49 Tryd.zeroCells49 (heap_alloc_new _ _) (by kernel_rfl) (by kernel_rfl) (by kernel_rfl) ?_; rw [World.setRow_alloc_new])
        | (at_builtin; refine wpList_append_vz rfl (.tmp 14) (.tmp 17) 23 rfl Tryd.underlying23 _ 8 infoI64 rfl rfl (OwnV.alloc ho1A _) _ _ 1 [iv a1] _ rfl rfl hcA (iv_one [a1]) HD1.out (by rw [HL3.out]; omega) (by rw [HL3.out]; unfold maxLen; omega) hbs2 ?_; rw [HL1.out]; intro A3 c3 w3 ho3 hg3; have ho23 := ownV_past (OwnV.alloc ho2A _) (OwnV.alloc ho1A _) hE.symm hg3; have c31 := (World.cell?_of_block (a := ⟨wr.heap.size, 1, none⟩) (hg3.block wr.heap.size (by simp; omega) (fun e => by have := (OwnV.block ho1 _ e.symm).2; omega))).trans eB; have hb3 := (OwnV.alloc ho1A _).belowGrown (B := w.heap.size) (Nat.le_refl _) hbs2 hbB hg3; have hbs3 : w.heap.size ≤ (w3.alloc (.cells #[.int .u64 (v1 : Int)] 22)).heap.size := (by have := hb3.size; simp; omega))
        | (at_builtin; refine wpList_append_vz rfl (.tmp 19) (.tmp 22) 55 rfl Tryd.underlying55 _ 8 infoU64 rfl rfl (OwnV.alloc ho23 _) _ _ 1 [uv v1] _ rfl rfl (cellsAt_one _ _ _ _ rfl) (uv_one [v1]) HD2.out (by rw [HL4.out]; omega) (by rw [HL4.out]; unfold maxLen; omega) hbs3 ?_; rw [HL2.out]; intro A5 c5 w5 ho5 hg5; have ho35 := ownV_past (OwnV.alloc ho3 _) (OwnV.alloc ho23 _) hE hg5; have hb5 := (OwnV.alloc ho23 _).belowGrown (B := w.heap.size) (Nat.le_refl _) hbs3 (hb3.alloc hb3.size _) hg5))
      go_roundw
      case rel => exact ⟨hb5, k + 1, c3, c5, A3, A5, by omega, by go_num, rfl, rfl, ho35, ho5⟩
      case measure => simp [intOf]; omega
    · obtain rfl : k = n := by omega
      have hcp1 := OwnV.caps ho1
      have hcp2 := OwnV.caps ho2
      have ht : TimesAt wr A1 ts := by
        have := OwnV.bytes ho1
        rw [List.take_of_length_le (by rw [HN.out]; omega), HTS.out] at this
        exact this
      have hn : NatsAt wr A2 vs := by
        have := OwnV.bytes ho2
        rw [List.take_of_length_le (by rw [HN.out]; omega), HVS.out] at this
        exact this
      go_wp2_with fail
      go_ret2
      exact ⟨A1, c1, A2, c2, rfl, ht, hcp1.2.1, hcp1.2.2.1, hn, hcp2.2.1, hcp2.2.2.1, hb⟩
end Go.Proofs.YtocddhokjhfaaaaDoor

namespace BitM
open Go.Proofs.YtocddhokjhfaaaaDoor
/-- Times, 64 bits each. -/
def trw (zs : List Int) : Nat → Nat × Nat
  | 0 => (0, 0)
  | k + 1 => stp (trw zs k) (u64 (zs.getD k 0), 64)
def zraw (zs : List Int) : List UInt8 := bytesW (trw zs zs.length).1 (trw zs zs.length).2
theorem trw_len (zs : List Int) : ∀ k, (trw zs k).1 = 64 * k
  | 0 => rfl
  | k + 1 => by
    show (trw zs k).1 + wi 64 = _
    rw [trw_len zs k, show wi 64 = 64 by decide]
    omega
theorem zraw_len (zs : List Int) : (zraw zs).length = 8 * zs.length := by
  unfold zraw
  rw [length_bytesW, trw_len]
  omega
/-- Times by Delta, up to so many differences. -/
def zdl (zs : List Int) : Nat → List UInt8
  | 0 => VarM.vput (VarM.zig (zs.getD 0 0))
  | k + 1 => zdl zs k ++ VarM.vput (u64 (i64 (zs.getD (k + 1) 0 - zs.getD k 0)))
end BitM
namespace Go.Proofs.YtocddhokjhfaaaaDoor
open Go.RowKit BitM VarM
set_option linter.unusedVariables false

set_option maxHeartbeats 800000 in
set_option maxRecDepth 100000 in
theorem timesRaw_any (A : Option Addr) (n c : Nat) (zs : List Int) (w : World) (hn : zs.length = n) (hx : TimesAt w A zs) (hl : n ≤ 200) :
    Calls Tryd.prog 20 #[.slice A n c] w fun e w' => ∃ A' c', e = .returned (.slice A' (8 * n) c') ∧ BytesAt w' A' (zraw zs) ∧ 8 * n ≤ c' ∧ c' ≤ maxLen ∧ Below w.heap.size w w' := by
  have hz : zraw zs = bytesW (trw zs n).1 (trw zs n).2 := by unfold zraw; rw [hn]
  have hlen := trw_len zs
  have hce : ∀ j, j < n → ∃ b off, A = some ⟨b, off, none⟩ ∧ w.cell? ⟨b, off + j, none⟩ = some (.int .i64 (zs.getD j 0)) := by
    intro j hj
    obtain ⟨b, off, rfl⟩ := hx.addr (by intro h; subst h; simp at hn; omega)
    exact ⟨b, off, rfl, hx.cell j (by omega)⟩
  have HZ := Lib.hid hz
  have HLEN := Lib.hid hlen
  have HCE := Lib.hid hce
  clear hz hlen hce hx hn
  have hb0 : Below w.heap.size w (w.alloc (.cells #[.pointer none, .int .u64 0, .int .i64 0] 64)) := (Below.refl _ _).alloc (Nat.le_refl _) _
  have hw0 := WSt.new w w.heap.size (Nat.le_refl _)
  go_enter Tryd.func20, Tryd.ntmps20
  go_wp2_with fail
  go_loopw [8] (fun i wr => ∃ (k L V : Nat), k ≤ n ∧ i = .int .i64 k ∧ Hid ((L, V) = trw zs k) ∧ WSt wr w.heap.size w.heap.size L V ∧ Below w.heap.size w wr) (fun i _ => n - (intOf i).toNat)
  case atStart => exact ⟨0, 0, 0, by omega, rfl, Lib.hid rfl, hw0, hb0⟩
  case round =>
    obtain ⟨k, L, V, hk, rfl, HLV, hw, hb⟩ := hrel
    by_cases hlt : k < n
    · obtain ⟨b, off, rfl, hc0⟩ := HCE.out k hlt
      have hc := (hb.cell (p := ⟨b, off + k, none⟩) (World.block_lt_of_cell? _ _ hc0)).trans hc0
      obtain ⟨z, hz⟩ : ∃ z, z = zs.getD k 0 := ⟨_, rfl⟩
      rw [← hz] at hc
      have hconv : IntKind.u64.wrap z = (u64 z : Int) := by rw [IntKind.wrap_u64, u64_val]
      have hlt0 := u64_lt z
      have hst : trw zs (k + 1) = (L + 64, V * 2 ^ 64 + u64 z % 2 ^ 64) := by
        show stp (trw zs k) (u64 (zs.getD k 0), 64) = _
        rw [← HLV.out, ← hz]
        rfl
      have HST := Lib.hid hst
      clear hz hst hc0
      go_wp2_with (go_at_call 30; with_reducible refine (wput_to w.heap.size w.heap.size L V (L + 64) (V * 2 ^ 64 + u64 z % 2 ^ 64) (u64 z) 64 (u64 z : Int) _ hw rfl hlt0 64 (by decide) rfl rfl).mono ?_; rintro e w2 ⟨rfl, hw2, hg2⟩; have hb2 := below_some hb.size (Nat.le_refl _) hb hg2)
      go_roundw
      case rel => exact ⟨k + 1, _, _, by omega, by go_num, Lib.hid HST.out.symm, hw2, hb2⟩
      case measure => simp [intOf]; omega
    · obtain rfl : k = n := by omega
      have hL : L = 64 * k := by have := HLEN.out k; rw [← HLV.out] at this; exact this
      have hz2 : bytesW L V = zraw zs := by rw [HZ.out, ← HLV.out]
      have HZ2 := Lib.hid hz2
      have hnb : 8 * k = (L + 7) / 8 := by omega
      have HNB := Lib.hid hnb
      have hLl : L ≤ 60000000 := by omega
      clear hz2 hnb hL
      go_wp2_with (go_at_call 31; with_reducible refine (wbytes_st w.heap.size w.heap.size L V (8 * k) _ hw hLl HNB.out).mono ?_; rw [HZ2.out]; rintro e w4 ⟨A4, c4, rfl, hx4, hc4, hm4, _, hb4⟩)
      go_ret
      exact ⟨A4, c4, rfl, hx4, hc4, hm4, hb.trans (hb4.mono hb.size)⟩
end Go.Proofs.YtocddhokjhfaaaaDoor

namespace BitM
open Go.Proofs.YtocddhokjhfaaaaDoor
theorem zdl_len (zs : List Int) (hr : -9223372036854775808 ≤ zs.getD 0 0 ∧ zs.getD 0 0 ≤ 9223372036854775807) : ∀ k, (zdl zs k).length ≤ 10 * (k + 1)
  | 0 => by
    have : VarM.zig (zs.getD 0 0) < 18446744073709551616 := by unfold VarM.zig; split <;> omega
    exact VarM.vput_len10 this
  | k + 1 => by
    have := zdl_len zs hr k
    have h2 := VarM.vput_len10 (u64_lt (i64 (zs.getD (k + 1) 0 - zs.getD k 0)))
    show (zdl zs k ++ VarM.vput (u64 (i64 (zs.getD (k + 1) 0 - zs.getD k 0)))).length ≤ _
    rw [List.length_append]
    omega
end BitM
namespace Go.Proofs.YtocddhokjhfaaaaDoor
open Go.RowKit BitM VarM
set_option linter.unusedVariables false

theorem zput (A : Option Addr) (len c : Nat) (xs ys : List UInt8) (w : World) (g : Nat) (ho : OwnS w g (.slice A len c) 5 xs) (hl : len ≤ 100000000) (n : Nat) (hn64 : n < 18446744073709551616) (hy : xs ++ vput n = ys) (m : Nat) (hm : ys.length = m) (z : Int) (hz : z = (n : Int)) :
    Calls Tryd.prog 32 #[.slice A len c, .int .u64 z] w fun e w' => ∃ A' c', e = .returned (.slice A' m c') ∧ OwnS w' w.heap.size (.slice A' m c') 5 ys ∧ Below w.heap.size w w' := by
  subst hy hm hz
  have hc := ho.caps
  exact put_any A len c xs w hc.1 ho.bytes hl hc.2.2.2 n hn64

set_option maxHeartbeats 800000 in
set_option maxRecDepth 100000 in
theorem timesDelta_any (A : Option Addr) (n c : Nat) (zs : List Int) (w : World) (hn : zs.length = n) (hx : TimesAt w A zs) (hpos : 0 < n) (hl : n ≤ 200) (hc : n ≤ c) (hcm : c ≤ maxLen) (hr : ∀ j, j < n → -9223372036854775808 ≤ zs.getD j 0 ∧ zs.getD j 0 ≤ 9223372036854775807) (Z : List UInt8) (sz : Nat) (hZ : zdl zs (n - 1) = Z) (hsz : Z.length = sz) :
    Calls Tryd.prog 21 #[.slice A n c] w fun e w' => ∃ A' c', e = .returned (.slice A' sz c') ∧ BytesAt w' A' Z ∧ sz ≤ c' ∧ c' ≤ maxLen ∧ Below w.heap.size w w' := by
  obtain ⟨b, off, rfl⟩ := hx.addr (by intro h; subst h; simp at hn; omega)
  have hce : ∀ j, j < n → w.cell? ⟨b, off + j, none⟩ = some (.int .i64 (zs.getD j 0)) := fun j hj => hx.cell j (by omega)
  have hc0 := hce 0 hpos
  rw [Nat.add_zero] at hc0
  have hr0 := hr 0 hpos
  have hlen := zdl_len zs hr0
  obtain ⟨z0, hz0⟩ : ∃ z, z = zs.getD 0 0 := ⟨_, rfl⟩
  rw [← hz0] at hc0 hr0
  obtain ⟨y0, hy0⟩ : ∃ y, zig z0 = y := ⟨_, rfl⟩
  have hy64 : y0 < 18446744073709551616 := by rw [← hy0]; unfold zig; split <;> omega
  have hd0 : [] ++ vput y0 = zdl zs 0 := by rw [← hy0, hz0]; rfl
  have hd0l : (zdl zs 0).length ≤ 10 := by have := hlen 0; omega
  obtain ⟨n1, hn1⟩ : ∃ n1, n - 1 = n1 := ⟨_, rfl⟩
  rw [hn1] at hZ
  have hn1n : n = n1 + 1 := by omega
  have HCE := Lib.hid hce
  have HLEN := Lib.hid hlen
  have HZ := Lib.hid hZ
  have HSZ := Lib.hid hsz
  have HD0 := Lib.hid hd0
  have HY0 := Lib.hid hy0
  have HR := Lib.hid hr
  have HN := Lib.hid hn
  have HN1N := Lib.hid hn1n
  have hblk := World.block_lt_of_cell? _ _ hc0
  have hs0 : OwnS w w.heap.size (.slice none 0 0) 5 [] := OwnS.nil _ _ _
  unfold maxLen at hcm
  clear hce hlen hZ hsz hd0 hy0 hz0 hr hn hx hn1n
  by_cases hc1 : c = 1
  · subst hc1
    obtain rfl : n = 1 := by omega
    obtain rfl : n1 = 0 := by omega
    go_enter Tryd.func21, Tryd.ntmps21
    go_wp2_with (first
      | (go_at_call 33; refine (zig_any' z0 hr0.1 hr0.2 y0 HY0.out _).mono ?_; rintro e w1 ⟨rfl, rfl⟩)
      | (go_at_call 32; with_reducible refine (zput none 0 0 [] (zdl zs 0) _ _ hs0 (by omega) y0 hy64 HD0.out _ rfl _ rfl).mono ?_; rintro e w1 ⟨A1, c1', rfl, ho1, hb1⟩))
    go_loopw [3, 14] (fun b i wr => i = .int .i64 0 ∧ ∃ A' c', b = .slice A' (zdl zs 0).length c' ∧ OwnS wr w.heap.size (.slice A' (zdl zs 0).length c') 5 (zdl zs 0) ∧ Below w.heap.size w wr) (fun _ i _ => 0)
    case atStart => exact ⟨rfl, A1, c1', rfl, ho1, hb1⟩
    case round =>
      obtain ⟨rfl, A', c', rfl, ho, hb⟩ := hrel
      have hcp := ho.caps
      have hby := ho.bytes
      go_wp2_with fail
      go_ret
      rw [HZ.out] at hcp hby ⊢
      rw [HSZ.out] at hcp ⊢
      exact ⟨A', c', rfl, hby, hcp.2.1, hcp.2.2.1, hb⟩
  · go_enter Tryd.func21, Tryd.ntmps21
    go_wp2_with (first
      | (go_at_call 33; refine (zig_any' z0 hr0.1 hr0.2 y0 HY0.out _).mono ?_; rintro e w1 ⟨rfl, rfl⟩)
      | (go_at_call 32; with_reducible refine (zput none 0 0 [] (zdl zs 0) _ _ hs0 (by omega) y0 hy64 HD0.out _ rfl _ rfl).mono ?_; rintro e w1 ⟨A1, c1', rfl, ho1, hb1⟩))
    go_loopw [3, 14] (fun b i wr => ∃ (k : Nat), k ≤ n1 ∧ i = .int .i64 k ∧ ∃ A' c', b = .slice A' (zdl zs k).length c' ∧ OwnS wr w.heap.size (.slice A' (zdl zs k).length c') 5 (zdl zs k) ∧ Below w.heap.size w wr) (fun _ i _ => n1 - (intOf i).toNat)
    case atStart => exact ⟨0, by omega, rfl, A1, c1', rfl, ho1, hb1⟩
    case round =>
      obtain ⟨k, hk, rfl, A', c', rfl, ho, hb⟩ := hrel
      obtain ⟨X, hX⟩ : ∃ X, X = zdl zs k := ⟨_, rfl⟩
      obtain ⟨L, hL⟩ : ∃ L, L = X.length := ⟨_, rfl⟩
      rw [← hX, ← hL] at ho
      rw [← hX, ← hL]
      have hL10 : L ≤ 10 * (k + 1) := by rw [hL, hX]; exact HLEN.out k
      by_cases hlt : k < n1
      · have g0 := HCE.out k (by omega)
        have g1 := HCE.out (k + 1) (by omega)
        have d0 := (hb.cell (p := ⟨b, off + k, none⟩) (World.block_lt_of_cell? _ _ g0)).trans g0
        have d1 := (hb.cell (p := ⟨b, off + (k + 1), none⟩) (World.block_lt_of_cell? _ _ g1)).trans g1
        rw [show off + (k + 1) = off + 1 + k by omega] at d1
        obtain ⟨a0, ha0⟩ : ∃ a, a = zs.getD k 0 := ⟨_, rfl⟩
        obtain ⟨a1, ha1⟩ : ∃ a, a = zs.getD (k + 1) 0 := ⟨_, rfl⟩
        rw [← ha0] at d0
        rw [← ha1] at d1
        obtain ⟨dd, hdd⟩ : ∃ d, d = i64 (a1 - a0) := ⟨_, rfl⟩
        have hsub : wrap64 (a1 - a0) = dd := hdd.symm
        have hconv : IntKind.u64.wrap dd = (u64 dd : Int) := by rw [IntKind.wrap_u64, u64_val]
        have hdl := u64_lt dd
        have hnx : X ++ vput (u64 dd) = zdl zs (k + 1) := by rw [hX, hdd, ha0, ha1]; rfl
        have HNX := Lib.hid hnx
        clear ha0 ha1 hdd hnx hX hL g0 g1
        go_wp2_with (go_at_call 32; with_reducible refine (zput A' L c' X (zdl zs (k + 1)) _ _ ho (by omega) (u64 dd) hdl HNX.out _ rfl _ rfl).mono ?_; rintro e w2 ⟨A2, c2, rfl, ho2, hb2⟩)
        go_roundw
        case rel => exact ⟨k + 1, by omega, by go_num, A2, c2, rfl, ho2.mono hb.size, hb.trans (hb2.mono hb.size)⟩
        case measure => simp [intOf]; omega
      · obtain rfl : k = n1 := by omega
        have hXZ : X = Z := by rw [hX, HZ.out]
        have hLs : L = sz := by rw [hL, hXZ, HSZ.out]
        have hcp := ho.caps
        have hby := ho.bytes
        rw [hXZ] at hby
        have HLS := Lib.hid hLs
        clear hXZ hLs hX hL
        go_wp2_with fail
        go_ret
        rw [HLS.out] at hcp ⊢
        exact ⟨A', c', rfl, hby, hcp.2.1, hcp.2.2.1, hb⟩
end Go.Proofs.YtocddhokjhfaaaaDoor

namespace Go.Proofs.YtocddhokjhfaaaaDoor
open Go.RowKit BitM
set_option linter.unusedVariables false

theorem OwnS.take {w : World} {base : Nat} {E : TypeId} {xs : List UInt8} {A : Option Addr} {n c : Nat} (h : OwnS w base (.slice A n c) E xs) (z : Nat) (hz : z ≤ n) : OwnS w base (.slice A z c) E (xs.take z) := by
  have hcp := h.caps
  refine ⟨by simp only [List.length_map, List.length_take]; omega, ?_⟩
  rcases h.2 with ⟨h0, h1⟩ | ⟨g, cap, cur, hv, hb, hh, hn, hm, hs, ht⟩
  · injection h0 with h2 h3 h4
    subst h2 h3 h4
    obtain rfl : z = 0 := by omega
    exact .inl ⟨rfl, by simp⟩
  · injection hv with h2 h3 h4
    subst h2 h4
    have hl : (xs.take z).length = z := by rw [List.length_take]; omega
    refine .inr ⟨g, c, cur, by rw [hl], hb, hh, by rw [hl]; omega, hm, hs, ?_⟩
    rw [hl, Nat.mul_one]
    rw [Nat.mul_one] at ht
    rw [List.map_take, ← ht, List.take_take, Nat.min_eq_left (by omega)]

set_option maxHeartbeats 1000000 in
set_option maxRecDepth 100000 in
theorem wbytes_own (base g : Nat) (ws : List Nat) (r m : Nat) (w : World) (h : WrAt w base g ws r m) (hl : ws.length ≤ 1000000) :
    Calls Tryd.prog 31 #[.pointer (some ⟨g, 0, none⟩)] w fun e w' => ∃ A' n' c', e = .returned (.slice A' n' c') ∧ n' = (wlen ws m + 7) / 8 ∧ OwnS w' w.heap.size (.slice A' n' c') 5 (bytesW (wlen ws m) (wval ws r m)) ∧ Below w.heap.size w w' := by
  obtain ⟨f, h1, hbg, hm, hr, hws, hch⟩ := h
  have c0 : w.cell? ⟨g, 0, none⟩ = some (.pointer f) := cell_of_row _ _ _ _ _ _ h1
  have c1 : w.cell? ⟨g, 1, none⟩ = some (.int .u64 (r : Int)) := cell_of_row _ _ _ _ _ _ h1
  have c2 : w.cell? ⟨g, 2, none⟩ = some (.int .i64 (m : Int)) := cell_of_row _ _ _ _ _ _ h1
  have hlt := (Array.getElem?_eq_some_iff.1 h1).1
  obtain ⟨R, hR⟩ : ∃ R, R = 64 - m := ⟨_, rfl⟩
  obtain ⟨x, hx⟩ : ∃ x, x = r * 2 ^ R % 2 ^ 64 := ⟨_, rfl⟩
  have v2 : (64 : Int) - (m : Int) = (R : Int) := by omega
  have hwx : IntKind.u64.wrap ((r : Int) * 2 ^ R) = (x : Int) := by
    have : (r : Int) * 2 ^ R = ((r * 2 ^ R : Nat) : Int) := by simp
    rw [this, IntKind.wrap_u64, hx]
    omega
  have hx64 : x < 18446744073709551616 := by rw [hx]; omega
  have hR64 : R ≤ 64 := by omega
  have hR0 : (0 : Int) ≤ (R : Int) := by omega
  have hall := bytes_all ws r m hm hws
  rw [← hR, ← hx] at hall
  have H1 := Lib.hid h1
  have HALL := Lib.hid hall
  have HX := Lib.hid hx
  have HR := Lib.hid hR
  have HWX := Lib.hid hwx
  clear h1 hx hR hwx hall
  go_enter Tryd.func31, Tryd.ntmps31
  go_wp2_with fail
  rw [HWX.out]
  have ho1 : OwnN (w.alloc (.cells #[.int .u64 (x : Int)] 22)) w.heap.size (.slice (some ⟨w.heap.size, 0, none⟩) 1 1) [x] := OwnV.new w 22 [uv x] w.heap.size (Nat.le_refl _) (by unfold maxLen; simp)
  have hb1 : Below w.heap.size w (w.alloc (.cells #[.int .u64 (x : Int)] 22)) := (Below.refl _ _).alloc (Nat.le_refl _) _
  have hkc : ∀ wr f ws, Below w.heap.size w wr → Chain w base f ws → Chain wr base f ws := fun wr f ws hb hc => hc.keep fun b x f' _ hx => hb.block b (Array.getElem?_eq_some_iff.1 hx).1
  have HKC := Lib.hid hkc
  have HWS := Lib.hid hws
  clear hkc hws c0 c1 c2
  go_loopw [4, 5] (fun wd fv wr => ∃ (done rest : List Nat) (fa A : Option Addr) (n c : Nat), fv = .pointer fa ∧ wd = .slice A n c ∧ Hid (n = done.length + 1) ∧ OwnN wr w.heap.size (.slice A n c) (x :: done) ∧ Hid (done ++ rest = ws) ∧ Chain w base fa rest ∧ Below w.heap.size w wr) (fun wd _ _ => match wd with | .slice _ k _ => ws.length + 1 - k | _ => 0)
  case atStart => exact ⟨[], ws, f, _, 1, 1, rfl, rfl, Lib.hid rfl, ho1, Lib.hid rfl, hch, hb1⟩
  case round =>
    obtain ⟨done, rest, fa, A, n, c, rfl, rfl, HN, ho, HD, hc, hb⟩ := hrel
    cases rest with
    | cons y rest =>
      obtain ⟨b, f', rfl, hbb, hbw, hc'⟩ := hc
      have hbr : wr.heap[b]? = some (.cells #[.int .u64 (y : Int), .pointer f'] 80 (0, 0)) := (hb.block b (Array.getElem?_eq_some_iff.1 hbw).1).trans hbw
      have d0 : wr.cell? ⟨b, 0, none⟩ = some (.int .u64 (y : Int)) := cell_of_row _ _ _ _ _ _ hbr
      have hblt := (Array.getElem?_eq_some_iff.1 hbr).1
      have hnl : n ≤ 1000000 := by
        have h1 := congrArg List.length HD.out
        have h2 := HN.out
        simp at h1
        omega
      have hvz : (x :: done).map uv ++ [uv y] = (x :: (done ++ [y])).map uv := by simp
      have hl3 : ((x :: (done ++ [y])).map uv).length = n + 1 := by have := HN.out; simp; omega
      have hl0 : ((x :: done).map uv).length = n := by have := HN.out; simp; omega
      have HVZ := Lib.hid hvz
      have HL3 := Lib.hid hl3
      have hl1 : (((x :: done).map uv).length + 1) * 8 ≤ 140737488355328 := by omega
      have hl2 : ((x :: done).map uv).length + 1 ≤ maxLen := by unfold maxLen; omega
      have hbw0 := (Array.getElem?_eq_some_iff.1 hbw).1
      have HBW := Lib.hid hbw
      clear hvz hl3 hl0 hbr hbw
      go_wp2_with (at_builtin; refine wpList_append_vz rfl (.tmp 34) (.tmp 39) 55 rfl Tryd.underlying55 _ 8 infoU64 rfl rfl (OwnV.alloc ho _) _ _ 1 [uv y] ((x :: (done ++ [y])).map uv) rfl rfl (cellsAt_one _ _ _ _ rfl) (uv_one [y]) HVZ.out hl1 hl2 (by have := hb.size; simp; omega) ?_; rw [HL3.out]; intro A3 c3 w3 ho3 hg3; have hb3 := (OwnV.alloc ho (.cells #[.int .u64 (y : Int)] 22)).belowGrown (B := w.heap.size) (Nat.le_refl _) (by have := hb.size; simp; omega) (below_alloc (Nat.le_refl _) hb _) hg3; have d1 : w3.cell? ⟨b, 1, none⟩ = some (.pointer f') := cell_of_row _ _ _ _ _ _ ((hb3.block b hbw0).trans HBW.out))
      go_roundw
      case rel =>
        refine ⟨done ++ [y], rest, f', A3, n + 1, c3, rfl, rfl, Lib.hid (by have := HN.out; simp; omega), ho3, Lib.hid ?_, hc', hb3⟩
        rw [← HD.out, List.append_assoc]
        rfl
      case measure =>
        have h1 := congrArg List.length HD.out
        have h2 := HN.out
        simp at h1
        show ws.length + 1 - (n + 1) < ws.length + 1 - n
        omega
    | nil =>
      have hfa : fa = none := hc
      subst hfa
      have hdw : done = ws := by have := HD.out; rwa [List.append_nil] at this
      subst hdw
      obtain ⟨gw, rfl⟩ : ∃ gw, A = some ⟨gw, 0, none⟩ := by
        rcases OwnV.cases ho with ⟨_, h2⟩ | ⟨g', cap, cur, h2, _⟩
        · simp at h2
        · injection h2 with h2
          exact ⟨g', h2⟩
      obtain ⟨us, hus⟩ : ∃ us, us = (x :: done).reverse := ⟨_, rfl⟩
      have hus2 : us = done.reverse ++ [x] := by rw [hus, List.reverse_cons]
      have hul : us.length = n := by have := HN.out; rw [hus2]; simp; omega
      have hn1 : n = done.length + 1 := HN.out
      have hmu : ∀ v ∈ us, v < 18446744073709551616 := fun v hv => by
        rw [hus2] at hv
        rcases List.mem_append.1 hv with h | h
        · exact HWS.out v (List.mem_reverse.1 h)
        · rw [List.mem_singleton.1 h]; exact hx64
      have hnl : n ≤ 1000001 := by omega
      have HUS := Lib.hid hus
      have HUS2 := Lib.hid hus2
      have HUL := Lib.hid hul
      have HMU := Lib.hid hmu
      have HN1 := Lib.hid hn1
      clear hus hus2 hul hmu hn1
      go_wp2_with (go_at_call 47; refine (reverse_any w.heap.size gw n c (x :: done) _ ho (by omega)).mono ?_; rintro e w4 ⟨rfl, ho4, hb4⟩; rw [← HUS.out] at ho4)
      go_loopw [6, 45] (fun bv iv wr => ∃ (k nb cb : Nat) (Ab : Option Addr), k ≤ n ∧ iv = .int .i64 (k : Int) ∧ bv = .slice Ab nb cb ∧ Hid (nb = 8 * k) ∧ OwnS wr w4.heap.size (.slice Ab nb cb) 5 (wordsB (us.take k)) ∧ Below w4.heap.size w4 wr) (fun _ iv _ => n - (intOf iv).toNat)
      case atStart => exact ⟨0, 0, 0, none, by omega, rfl, rfl, Lib.hid rfl, OwnS.nil _ _ _, Below.refl _ _⟩
      case round =>
        obtain ⟨k, nb, cb, Ab, hk, rfl, rfl, HNB, hob, hbb⟩ := hrel
        by_cases hlt : k < n
        · have hku : k < us.length := by rw [HUL.out]; exact hlt
          have hcu := ((OwnN.nats ho4).below hbb).cell k hku
          rw [Nat.zero_add] at hcu
          obtain ⟨v, hv⟩ : ∃ v, v = us[k] := ⟨_, rfl⟩
          have hv64 : v < 18446744073709551616 := by rw [hv]; exact HMU.out _ (List.getElem_mem hku)
          have hwt := words_take us k hku
          rw [← hv] at hcu hwt
          have HWT := Lib.hid hwt
          clear hv hwt
          go_wp2_with fail
          go_loopw [6, 9] (fun bv kv wr2 => ∃ (j nb2 cb2 : Nat) (Ab2 : Option Addr), j ≤ 8 ∧ kv = .int .i64 (56 - 8 * (j : Int)) ∧ bv = .slice Ab2 nb2 cb2 ∧ Hid (nb2 = 8 * k + j) ∧ OwnS wr2 w4.heap.size (.slice Ab2 nb2 cb2) 5 (wordsB (us.take k) ++ (beN v 8).take j) ∧ Below w4.heap.size w4 wr2) (fun _ kv _ => (intOf kv + 8).toNat)
          case atStart => exact ⟨0, nb, cb, Ab, by omega, rfl, rfl, Lib.hid HNB.out, by simpa using hob, hbb⟩
          case round =>
            obtain ⟨j, nb2, cb2, Ab2, hj, rfl, rfl, HNB2, hob2, hbb2⟩ := hrel
            by_cases hj8 : j < 8
            · obtain ⟨s, hs⟩ : ∃ s, s = 56 - 8 * j := ⟨_, rfl⟩
              have hsi : (56 : Int) - 8 * (j : Int) = (s : Int) := by omega
              rw [hsi]
              have hjl : j < (beN v 8).length := by rw [length_beN]; exact hj8
              have hz := byte_of_word v j hjl s hs
              have hts := take_step (beN v 8) j hjl
              obtain ⟨c8, hc8⟩ : ∃ c8, c8 = (beN v 8)[j] := ⟨_, rfl⟩
              rw [← hc8] at hz hts
              have hzz : wordsB (us.take k) ++ (beN v 8).take j ++ [c8] = wordsB (us.take k) ++ (beN v 8).take (j + 1) := by rw [hts, List.append_assoc]
              have hnn := hob2.caps
              have hnb2 := HNB2.out
              have hl1 : (wordsB (us.take k) ++ (beN v 8).take j).length + 1 ≤ 140737488355328 := by omega
              have hl3 : (wordsB (us.take k) ++ (beN v 8).take (j + 1)).length = nb2 + 1 := by rw [← hzz, List.length_append, hnn.1]; rfl
              have HZ := Lib.hid hz
              have HZZ := Lib.hid hzz
              have HL3 := Lib.hid hl3
              have HSI := Lib.hid hs
              have hs64 : s < 64 := by omega
              clear hsi hz hts hc8 hzz hnn hnb2 hl3 hs
              go_wp2_with (at_builtin; refine wpList_append_z rfl (.tmp 53) (.tmp 58) 24 rfl Tryd.underlying24 infoU8 rfl (hob2.alloc _) _ _ 1 [c8] (wordsB (us.take k) ++ (beN v 8).take (j + 1)) rfl rfl (bytesAt_one _ _ _ _ HZ.out) HZZ.out hl1 (by have := hbb2.size; simp; omega) ?_; rw [HL3.out]; intro A3 c3 w3 ho3 hg3)
              go_roundw
              case rel =>
                refine ⟨j + 1, nb2 + 1, c3, A3, by omega, ?_, rfl, Lib.hid (by have := HNB2.out; omega), ho3, (hob2.alloc _).belowGrown (Nat.le_refl _) (by have := hbb2.size; simp; omega) (below_alloc (Nat.le_refl _) hbb2 _) hg3⟩
                have := HSI.out
                have e : (56 : Int) - 8 * ((j + 1 : Nat) : Int) = (s : Int) - 8 := by omega
                rw [e]
              case measure => simp [intOf]; omega
            · obtain rfl : j = 8 := by omega
              have e : (56 : Int) - 8 * ((8 : Nat) : Int) = -8 := by omega
              rw [e]
              have e9 : (beN v 8).take 8 = beN v 8 := List.take_of_length_le (by rw [length_beN]; omega)
              rw [e9, ← HWT.out] at hob2
              go_wp2_with fail
              go_roundw
              case rel => exact ⟨k + 1, nb2, cb2, Ab2, by omega, by go_num, rfl, Lib.hid (by have := HNB2.out; omega), hob2, hbb2⟩
              case measure => simp [intOf]; omega
        · obtain rfl : k = n := by omega
          rw [List.take_of_length_le (by rw [HUL.out]; omega)] at hob
          have hnb := HNB.out
          have hcp := hob.caps
          have hn1 := HN1.out
          obtain ⟨q, hq⟩ : ∃ q, q = R / 8 := ⟨_, rfl⟩
          have hqi : (R : Int) / 8 = (q : Int) := by omega
          obtain ⟨z, hz⟩ : ∃ z, z = nb - q := ⟨_, rfl⟩
          have hq8 : q ≤ 8 := by omega
          have hqn : q ≤ nb := by omega
          have hzi : (nb : Int) - (q : Int) = (z : Int) := by omega
          have hzl : z ≤ nb := by omega
          have hnbl : nb ≤ 10000000 := by omega
          have hcb := hcp.2.1
          have hcm := hcp.2.2.1
          have hzb : OwnS wr w.heap.size (.slice Ab z cb) 5 (bytesW (wlen done m) (wval done r m)) := by
            have h1 := (hob.take z hzl).mono (show w.heap.size ≤ w4.heap.size by have := hb.size; have := hb4.size; omega)
            have h2 : z = 8 * (done.length + 1) - R / 8 := by omega
            rw [HUS2.out] at h1
            have h3 := HALL.out
            rw [← h2] at h3
            rw [h3] at h1
            exact h1
          have hzw : z = (wlen done m + 7) / 8 := by
            have := HR.out
            unfold wlen
            omega
          have HZW := Lib.hid hzw
          have hbw : Below w.heap.size w wr := (hb.trans hb4).trans (hbb.mono (by have := hb.size; have := hb4.size; omega))
          clear hob hz hq hzw hnb hcp
          go_wp2_with fail
          go_ret
          exact ⟨Ab, z, cb, rfl, HZW.out, hzb, hbw⟩

theorem wbytes_so (base g L V nb : Nat) (w : World) (h : WSt w base g L V) (hl : L ≤ 60000000) (hnb : nb = (L + 7) / 8) (Z : List UInt8) (hZ : bytesW L V = Z) :
    Calls Tryd.prog 31 #[.pointer (some ⟨g, 0, none⟩)] w fun e w' => ∃ A' c', e = .returned (.slice A' nb c') ∧ OwnS w' w.heap.size (.slice A' nb c') 5 Z ∧ Below w.heap.size w w' := by
  subst hnb hZ
  obtain ⟨ws, r, m, h1, rfl, rfl⟩ := h
  refine (wbytes_own base g ws r m w h1 (by unfold wlen at hl; omega)).mono ?_
  rintro e w' ⟨A', n', c', rfl, rfl, h3, h4⟩
  exact ⟨A', c', rfl, h3, h4⟩
end Go.Proofs.YtocddhokjhfaaaaDoor

namespace BitM
open Go.Proofs.YtocddhokjhfaaaaDoor
/-- The differences of times to the first one. -/
def zds (zs : List Int) (k : Nat) : List Nat := (List.range k).map fun j => u64 (i64 (zs.getD (j + 1) 0 - zs.getD 0 0))
theorem zds_succ (zs : List Int) (k : Nat) : zds zs (k + 1) = zds zs k ++ [u64 (i64 (zs.getD (k + 1) 0 - zs.getD 0 0))] := by
  unfold zds
  rw [List.range_succ, List.map_append]
  rfl
theorem zds_len (zs : List Int) (k : Nat) : (zds zs k).length = k := by unfold zds; simp
theorem zds_lt (zs : List Int) (k : Nat) : ∀ v ∈ zds zs k, v < 18446744073709551616 := by
  intro v hv
  unfold zds at hv
  obtain ⟨j, _, rfl⟩ := List.mem_map.1 hv
  exact u64_lt _
def zpk (zs : List Int) (k : Nat) : List UInt8 := zraw [zs.getD 0 0] ++ pk (zds zs k)
end BitM
namespace Go.Proofs.YtocddhokjhfaaaaDoor
open Go.RowKit BitM VarM RunM
set_option linter.unusedVariables false

theorem pk_len4 (ns : List Nat) (hl : ns.length ≤ 200) (hm : ∀ v ∈ ns, v < 18446744073709551616) : (pk ns).length ≤ 4000 := by
  by_cases hne : ns = []
  · subst hne
    simp [pk]
  · rw [pk_len hne hm]
    have h1 := Nat.mul_le_mul hl (wid_le ns hm)
    omega
theorem packPut_y (A : Option Addr) (n c : Nat) (ns : List Nat) (Z : List UInt8) (sz : Nat) (w : World) (hZ : pk ns = Z) (hsz : Z.length = sz) (hn : ns.length = n) (hx : NatsAt w A ns) (hl : n ≤ 200) (hm : ∀ v ∈ ns, v < 18446744073709551616) :
    Calls Tryd.prog 35 #[.slice A n c] w fun e w' => ∃ A' c', e = .returned (.tuple #[.slice A' sz c', .int .i64 0]) ∧ BytesAt w' A' Z ∧ sz ≤ c' ∧ c' ≤ maxLen ∧ Below w.heap.size w w' := by
  subst hZ hsz
  refine (packPut_any A n c ns w hn hx hl hm).mono ?_
  rintro e w' ⟨A', c', rfl, h1, h2, h3, h4⟩
  exact ⟨A', c', rfl, h1, h3, h4, h2⟩

set_option maxHeartbeats 800000 in
set_option maxRecDepth 100000 in
theorem timesRaw_own (A : Option Addr) (n c : Nat) (zs : List Int) (w : World) (hn : zs.length = n) (hx : TimesAt w A zs) (hl : n ≤ 200) :
    Calls Tryd.prog 20 #[.slice A n c] w fun e w' => ∃ A' c', e = .returned (.slice A' (8 * n) c') ∧ OwnS w' w.heap.size (.slice A' (8 * n) c') 5 (zraw zs) ∧ Below w.heap.size w w' := by
  have hz : zraw zs = bytesW (trw zs n).1 (trw zs n).2 := by unfold zraw; rw [hn]
  have hlen := trw_len zs
  have hce : ∀ j, j < n → ∃ b off, A = some ⟨b, off, none⟩ ∧ w.cell? ⟨b, off + j, none⟩ = some (.int .i64 (zs.getD j 0)) := by
    intro j hj
    obtain ⟨b, off, rfl⟩ := hx.addr (by intro h; subst h; simp at hn; omega)
    exact ⟨b, off, rfl, hx.cell j (by omega)⟩
  have HZ := Lib.hid hz
  have HLEN := Lib.hid hlen
  have HCE := Lib.hid hce
  clear hz hlen hce hx hn
  have hb0 : Below w.heap.size w (w.alloc (.cells #[.pointer none, .int .u64 0, .int .i64 0] 64)) := (Below.refl _ _).alloc (Nat.le_refl _) _
  have hw0 := WSt.new w w.heap.size (Nat.le_refl _)
  go_enter Tryd.func20, Tryd.ntmps20
  go_wp2_with fail
  go_loopw [8] (fun i wr => ∃ (k L V : Nat), k ≤ n ∧ i = .int .i64 k ∧ Hid ((L, V) = trw zs k) ∧ WSt wr w.heap.size w.heap.size L V ∧ Below w.heap.size w wr) (fun i _ => n - (intOf i).toNat)
  case atStart => exact ⟨0, 0, 0, by omega, rfl, Lib.hid rfl, hw0, hb0⟩
  case round =>
    obtain ⟨k, L, V, hk, rfl, HLV, hw, hb⟩ := hrel
    by_cases hlt : k < n
    · obtain ⟨b, off, rfl, hc0⟩ := HCE.out k hlt
      have hc := (hb.cell (p := ⟨b, off + k, none⟩) (World.block_lt_of_cell? _ _ hc0)).trans hc0
      obtain ⟨z, hz⟩ : ∃ z, z = zs.getD k 0 := ⟨_, rfl⟩
      rw [← hz] at hc
      have hconv : IntKind.u64.wrap z = (u64 z : Int) := by rw [IntKind.wrap_u64, u64_val]
      have hlt0 := u64_lt z
      have hst : trw zs (k + 1) = (L + 64, V * 2 ^ 64 + u64 z % 2 ^ 64) := by
        show stp (trw zs k) (u64 (zs.getD k 0), 64) = _
        rw [← HLV.out, ← hz]
        rfl
      have HST := Lib.hid hst
      clear hz hst hc0
      go_wp2_with (go_at_call 30; with_reducible refine (wput_to w.heap.size w.heap.size L V (L + 64) (V * 2 ^ 64 + u64 z % 2 ^ 64) (u64 z) 64 (u64 z : Int) _ hw rfl hlt0 64 (by decide) rfl rfl).mono ?_; rintro e w2 ⟨rfl, hw2, hg2⟩; have hb2 := below_some hb.size (Nat.le_refl _) hb hg2)
      go_roundw
      case rel => exact ⟨k + 1, _, _, by omega, by go_num, Lib.hid HST.out.symm, hw2, hb2⟩
      case measure => simp [intOf]; omega
    · obtain rfl : k = n := by omega
      have hL : L = 64 * k := by have := HLEN.out k; rw [← HLV.out] at this; exact this
      have hz2 : bytesW L V = zraw zs := by rw [HZ.out, ← HLV.out]
      have HZ2 := Lib.hid hz2
      have hnb : 8 * k = (L + 7) / 8 := by omega
      have HNB := Lib.hid hnb
      have hLl : L ≤ 60000000 := by omega
      clear hz2 hnb hL
      go_wp2_with (go_at_call 31; with_reducible refine (wbytes_so w.heap.size w.heap.size L V (8 * k) _ hw hLl HNB.out _ HZ2.out).mono ?_; rintro e w4 ⟨A4, c4, rfl, ho4, hb4⟩)
      go_ret
      exact ⟨A4, c4, rfl, ho4.mono hb.size, hb.trans (hb4.mono hb.size)⟩

theorem timesRaw_o1 (A : Option Addr) (c : Nat) (z : Int) (w : World) (hx : TimesAt w A [z]) (Z : List UInt8) (hZ : zraw [z] = Z) :
    Calls Tryd.prog 20 #[.slice A 1 c] w fun e w' => ∃ A' c', e = .returned (.slice A' 8 c') ∧ OwnS w' w.heap.size (.slice A' 8 c') 5 Z ∧ Below w.heap.size w w' := by
  subst hZ
  exact timesRaw_own A 1 c [z] w rfl hx (by omega)

set_option maxHeartbeats 800000 in
set_option maxRecDepth 100000 in
theorem timesPacked_any (A : Option Addr) (n c : Nat) (zs : List Int) (w : World) (hn : zs.length = n) (hx : TimesAt w A zs) (hpos : 0 < n) (hl : n ≤ 200) (hc : n ≤ c) (hcm : c ≤ maxLen) (Z : List UInt8) (sz : Nat) (hZ : zpk zs (n - 1) = Z) (hsz : Z.length = sz) :
    Calls Tryd.prog 23 #[.slice A n c] w fun e w' => ∃ A' c', e = .returned (.tuple #[.slice A' sz c', .int .i64 0]) ∧ BytesAt w' A' Z ∧ sz ≤ c' ∧ c' ≤ maxLen ∧ Below w.heap.size w w' := by
  obtain ⟨b, off, rfl⟩ := hx.addr (by intro h; subst h; simp at hn; omega)
  have hce : ∀ j, j < n → w.cell? ⟨b, off + j, none⟩ = some (.int .i64 (zs.getD j 0)) := fun j hj => hx.cell j (by omega)
  have hc0 := hce 0 hpos
  rw [Nat.add_zero] at hc0
  obtain ⟨n1, hn1⟩ : ∃ n1, n - 1 = n1 := ⟨_, rfl⟩
  rw [hn1] at hZ
  have hn1n : n = n1 + 1 := by omega
  have hone : TimesAt w (some ⟨b, off, none⟩) [zs.getD 0 0] := fun _ => ⟨b, off, rfl, fun j hj => by
    obtain rfl : j = 0 := by simpa using hj
    rw [Nat.add_zero]
    exact hc0⟩
  have hsucc := zds_succ zs
  have hzl := zds_len zs
  have hzt := zds_lt zs
  obtain ⟨z0, hz0⟩ : ∃ z, z = zs.getD 0 0 := ⟨_, rfl⟩
  obtain ⟨P, hP⟩ : ∃ P, pk (zds zs n1) = P := ⟨_, rfl⟩
  obtain ⟨W, hW⟩ : ∃ W, zraw [z0] = W := ⟨_, rfl⟩
  have hZ2 : W ++ P = Z := by rw [← hZ, ← hW, ← hP, hz0]; rfl
  have hPl : P.length ≤ 4000 := by rw [← hP]; exact pk_len4 _ (by rw [hzl]; omega) (hzt n1)
  have hWl : W.length = 8 := by rw [← hW, zraw_len]; rfl
  obtain ⟨ps, hps⟩ : ∃ ps, P.length = ps := ⟨_, rfl⟩
  have hps4 : ps ≤ 4000 := by omega
  rw [← hz0] at hc0 hone hsucc
  have HCE := Lib.hid hce
  have HZ2 := Lib.hid hZ2
  have HSZ := Lib.hid hsz
  have HN1N := Lib.hid hn1n
  have HONE := Lib.hid hone
  have HS := Lib.hid hsucc
  have HZL := Lib.hid hzl
  have HZT := Lib.hid hzt
  have HP := Lib.hid hP
  have HPS := Lib.hid hps
  have HW := Lib.hid hW
  have HWL := Lib.hid hWl
  have hblk := World.block_lt_of_cell? _ _ hc0
  unfold maxLen at hcm
  clear hce hZ hZ2 hsz hn1n hone hsucc hzl hzt hP hps hPl hW hWl hz0 hn hx
  by_cases hc1 : c = 1
  · subst hc1
    obtain rfl : n = 1 := by omega
    obtain rfl : n1 = 0 := by omega
    go_enter Tryd.func23, Tryd.ntmps23
    go_wp2_with fail
    go_loopw [4, 12] (fun d i wr => i = .int .i64 0 ∧ d = .slice none 0 0 ∧ Below w.heap.size w wr) (fun _ i _ => 0)
    case atStart => exact ⟨rfl, rfl, Below.refl _ _⟩
    case round =>
      obtain ⟨rfl, rfl, hb⟩ := hrel
      have hnil : NatsAt wr none (zds zs 0) := fun h => absurd rfl h
      go_wp2_with (first
        | (go_at_call 35; with_reducible refine (packPut_y none 0 0 (zds zs 0) P ps _ HP.out HPS.out rfl hnil (by omega) (HZT.out 0)).mono ?_; rintro e w2 ⟨A2, c2, rfl, hx2, hc2, hm2, hb2⟩; have hone2 := (HONE.out.below hb).below hb2)
        | (go_at_call 20; with_reducible refine (timesRaw_o1 _ _ z0 _ hone2 W HW.out).mono ?_; rintro e w3 ⟨A3, c3, rfl, ho3, hb3⟩; have hx3 := hx2.below hb3; have hbase := hb3.size)
        | (at_builtin; refine wpList_append_z rfl _ _ 24 rfl Tryd.underlying24 infoU8 rfl ho3 _ _ ps P Z rfl HPS.out hx3 HZ2.out (by rw [HWL.out]; omega) hbase ?_; rw [HSZ.out]; intro A4 c4 w4 ho4 hg4; have hb4 := ho3.belowGrown (Nat.le_refl _) hbase hb3 hg4; have hcp := ho4.caps; have hx4 := ho4.bytes))
      go_ret2
      exact ⟨A4, c4, rfl, hx4, hcp.2.1, hcp.2.2.1, hb.trans ((hb2.trans (hb4.mono hb2.size)).mono hb.size)⟩
  · go_enter Tryd.func23, Tryd.ntmps23
    go_wp2_with fail
    go_loopw [4, 12] (fun d i wr => ∃ (k : Nat), k ≤ n1 ∧ i = .int .i64 k ∧ ∃ A' c', d = .slice A' k c' ∧ OwnN wr w.heap.size (.slice A' k c') (zds zs k) ∧ Below w.heap.size w wr) (fun _ i _ => n1 - (intOf i).toNat)
    case atStart => exact ⟨0, by omega, rfl, none, 0, rfl, OwnV.nil _ _ _, Below.refl _ _⟩
    case round =>
      obtain ⟨k, hk, rfl, A', c', rfl, ho, hb⟩ := hrel
      have hbs := hb.size
      by_cases hlt : k < n1
      · have g1 := HCE.out (k + 1) (by omega)
        have d0 := (hb.cell (p := ⟨b, off, none⟩) (World.block_lt_of_cell? _ _ hc0)).trans hc0
        have d1 := (hb.cell (p := ⟨b, off + (k + 1), none⟩) (World.block_lt_of_cell? _ _ g1)).trans g1
        rw [show off + (k + 1) = off + 1 + k by omega] at d1
        have hs := HS.out k
        have l1 : ((zds zs (k + 1)).map uv).length = k + 1 := by rw [List.length_map, HZL.out]
        have l3 : ((zds zs k).map uv).length = k := by rw [List.length_map, HZL.out]
        obtain ⟨a1, ha1⟩ : ∃ a, a = zs.getD (k + 1) 0 := ⟨_, rfl⟩
        rw [← ha1] at d1 hs
        obtain ⟨dd, hdd⟩ : ∃ d, d = i64 (a1 - z0) := ⟨_, rfl⟩
        rw [← hdd] at hs
        have hsub : wrap64 (a1 - z0) = dd := hdd.symm
        have hconv : IntKind.u64.wrap dd = (u64 dd : Int) := by rw [IntKind.wrap_u64, u64_val]
        have hs2 : (zds zs k).map uv ++ [uv (u64 dd)] = (zds zs (k + 1)).map uv := by rw [hs, List.map_append]; rfl
        have HD2 := Lib.hid hs2
        have HL1 := Lib.hid l1
        have HL3 := Lib.hid l3
        clear ha1 hdd hs hs2 l1 l3 g1
        go_wp2_with (at_builtin; refine wpList_append_vz rfl (.tmp 16) (.tmp 23) 55 rfl Tryd.underlying55 _ 8 infoU64 rfl rfl (OwnV.alloc ho _) _ _ 1 [uv (u64 dd)] _ rfl rfl (cellsAt_one _ _ _ _ rfl) (uv_one [u64 dd]) HD2.out (by rw [HL3.out]; omega) (by rw [HL3.out]; unfold maxLen; omega) (by simp; omega) ?_; rw [HL1.out]; intro A5 c5 w5 ho5 hg5; have hb5 := (OwnV.alloc ho _).belowGrown (B := w.heap.size) (Nat.le_refl _) (by simp; omega) (hb.alloc hb.size _) hg5)
        go_roundw
        case rel => exact ⟨k + 1, by omega, by go_num, A5, c5, rfl, ho5, hb5⟩
        case measure => simp [intOf]; omega
      · obtain rfl : k = n1 := by omega
        have hna := OwnN.nats ho
        go_wp2_with (first
          | (go_at_call 35; with_reducible refine (packPut_y A' k c' (zds zs k) P ps _ HP.out HPS.out (HZL.out k) hna (by omega) (HZT.out k)).mono ?_; rintro e w2 ⟨A2, c2, rfl, hx2, hc2, hm2, hb2⟩; have hone2 := (HONE.out.below hb).below hb2)
          | (go_at_call 20; with_reducible refine (timesRaw_o1 _ _ z0 _ hone2 W HW.out).mono ?_; rintro e w3 ⟨A3, c3, rfl, ho3, hb3⟩; have hx3 := hx2.below hb3; have hbase := hb3.size)
          | (at_builtin; refine wpList_append_z rfl _ _ 24 rfl Tryd.underlying24 infoU8 rfl ho3 _ _ ps P Z rfl HPS.out hx3 HZ2.out (by rw [HWL.out]; omega) hbase ?_; rw [HSZ.out]; intro A4 c4 w4 ho4 hg4; have hb4 := ho3.belowGrown (Nat.le_refl _) hbase hb3 hg4; have hcp := ho4.caps; have hx4 := ho4.bytes))
        go_ret2
        exact ⟨A4, c4, rfl, hx4, hcp.2.1, hcp.2.2.1, hb.trans ((hb2.trans (hb4.mono hb2.size)).mono hb.size)⟩
end Go.Proofs.YtocddhokjhfaaaaDoor

namespace Go.Proofs.YtocddhokjhfaaaaDoor
open Go.RowKit BitM VarM RunM
set_option linter.unusedVariables false

set_option maxHeartbeats 1000000 in
set_option maxRecDepth 100000 in
theorem chunkRaw_any (A : Option Addr) (n c : Nat) (ns : List Nat) (w : World) (hn : ns.length = n) (hx : NatsAt w A ns) (hl : n ≤ 200) (hm : ∀ v ∈ ns, v < 18446744073709551616) (Z : List UInt8) (sz : Nat) (hZ : wordsB ns = Z) (hsz : Z.length = sz) :
    Calls Tryd.prog 42 #[.slice A n c] w fun e w' => ∃ A' c', e = .returned (.slice A' sz c') ∧ BytesAt w' A' Z ∧ sz ≤ c' ∧ c' ≤ maxLen ∧ Below w.heap.size w w' := by
  have hce : ∀ j (hj : j < ns.length), ∃ b off, A = some ⟨b, off, none⟩ ∧ w.cell? ⟨b, off + j, none⟩ = some (.int .u64 (ns[j] : Int)) := by
    intro j hj
    obtain ⟨b, off, rfl⟩ := hx.addr (by intro h; subst h; simp at hj)
    exact ⟨b, off, rfl, hx.cell j hj⟩
  have HCE := Lib.hid hce
  have HN := Lib.hid hn
  have HM := Lib.hid hm
  have HZ := Lib.hid hZ
  have HSZ := Lib.hid hsz
  clear hce hx hn hm hZ hsz
  go_enter Tryd.func42, Tryd.ntmps42
  go_wp2_with fail
  go_loopw [3, 9] (fun bv iv wr => ∃ (k nb cb : Nat) (Ab : Option Addr), k ≤ n ∧ iv = .int .i64 (k : Int) ∧ bv = .slice Ab nb cb ∧ Hid (nb = 8 * k) ∧ OwnS wr w.heap.size (.slice Ab nb cb) 5 (wordsB (ns.take k)) ∧ Below w.heap.size w wr) (fun _ iv _ => n - (intOf iv).toNat)
  case atStart => exact ⟨0, 0, 0, none, by omega, rfl, rfl, Lib.hid rfl, OwnS.nil _ _ _, Below.refl _ _⟩
  case round =>
    obtain ⟨k, nb, cb, Ab, hk, rfl, rfl, HNB, hob, hbb⟩ := hrel
    by_cases hlt : k < n
    · have hku : k < ns.length := by rw [HN.out]; exact hlt
      obtain ⟨b, off, rfl, g0⟩ := HCE.out k hku
      have hcu := (hbb.cell (p := ⟨b, off + k, none⟩) (World.block_lt_of_cell? _ _ g0)).trans g0
      obtain ⟨v, hv⟩ : ∃ v, v = ns[k] := ⟨_, rfl⟩
      have hv64 : v < 18446744073709551616 := by rw [hv]; exact HM.out _ (List.getElem_mem hku)
      have hwt := words_take ns k hku
      rw [← hv] at hcu hwt
      have HWT := Lib.hid hwt
      clear hv hwt g0
      go_wp2_with fail
      go_loopw [3, 13] (fun bv kv wr2 => ∃ (j nb2 cb2 : Nat) (Ab2 : Option Addr), j ≤ 8 ∧ kv = .int .i64 (j : Int) ∧ bv = .slice Ab2 nb2 cb2 ∧ Hid (nb2 = 8 * k + j) ∧ OwnS wr2 w.heap.size (.slice Ab2 nb2 cb2) 5 (wordsB (ns.take k) ++ (beN v 8).take j) ∧ Below w.heap.size w wr2) (fun _ kv _ => 8 - (intOf kv).toNat)
      case atStart => exact ⟨0, nb, cb, Ab, by omega, rfl, rfl, Lib.hid HNB.out, by simpa using hob, hbb⟩
      case round =>
        obtain ⟨j, nb2, cb2, Ab2, hj, rfl, rfl, HNB2, hob2, hbb2⟩ := hrel
        by_cases hj8 : j < 8
        · obtain ⟨s, hs⟩ : ∃ s, s = 56 - 8 * j := ⟨_, rfl⟩
          obtain ⟨q, hq⟩ : ∃ q, q = 7 - j := ⟨_, rfl⟩
          have hqi : (7 : Int) - (j : Int) = (q : Int) := by omega
          have hsi : (8 : Int) * (q : Int) = (s : Int) := by omega
          have hs0 : (0 : Int) ≤ (s : Int) := by omega
          have hjl : j < (beN v 8).length := by rw [length_beN]; exact hj8
          have hz := byte_of_word v j hjl s hs
          have hts := take_step (beN v 8) j hjl
          obtain ⟨c8, hc8⟩ : ∃ c8, c8 = (beN v 8)[j] := ⟨_, rfl⟩
          rw [← hc8] at hz hts
          have hzz : wordsB (ns.take k) ++ (beN v 8).take j ++ [c8] = wordsB (ns.take k) ++ (beN v 8).take (j + 1) := by rw [hts, List.append_assoc]
          have hnn := hob2.caps
          have hnb2 := HNB2.out
          have hl1 : (wordsB (ns.take k) ++ (beN v 8).take j).length + 1 ≤ 140737488355328 := by omega
          have hl3 : (wordsB (ns.take k) ++ (beN v 8).take (j + 1)).length = nb2 + 1 := by rw [← hzz, List.length_append, hnn.1]; rfl
          have HZZ := Lib.hid hzz
          have HZB := Lib.hid hz
          have HL3 := Lib.hid hl3
          have hs64 : s < 64 := by omega
          have hq8 : q < 8 := by omega
          clear hz hts hc8 hzz hnn hnb2 hl3 hs hq
          go_wp2_with (at_builtin; refine wpList_append_z rfl (.tmp 16) (.tmp 23) 24 rfl Tryd.underlying24 infoU8 rfl (hob2.alloc _) _ _ 1 [c8] (wordsB (ns.take k) ++ (beN v 8).take (j + 1)) rfl rfl (bytesAt_one _ _ _ _ HZB.out) HZZ.out hl1 (by have := hbb2.size; simp; omega) ?_; rw [HL3.out]; intro A3 c3 w3 ho3 hg3)
          go_roundw
          case rel => exact ⟨j + 1, nb2 + 1, c3, A3, by omega, by go_num, rfl, Lib.hid (by have := HNB2.out; omega), ho3, (hob2.alloc _).belowGrown (Nat.le_refl _) (by have := hbb2.size; simp; omega) (below_alloc (Nat.le_refl _) hbb2 _) hg3⟩
          case measure => simp [intOf]; omega
        · obtain rfl : j = 8 := by omega
          have e9 : (beN v 8).take 8 = beN v 8 := List.take_of_length_le (by rw [length_beN]; omega)
          rw [e9, ← HWT.out] at hob2
          go_wp2_with fail
          go_roundw
          case rel => exact ⟨k + 1, nb2, cb2, Ab2, by omega, by go_num, rfl, Lib.hid (by have := HNB2.out; omega), hob2, hbb2⟩
          case measure => simp [intOf]; omega
    · obtain rfl : k = n := by omega
      rw [List.take_of_length_le (by rw [HN.out]; omega), HZ.out] at hob
      have hcp := hob.caps
      have hnb : nb = sz := by rw [← hcp.1, HSZ.out]
      have hx2 := hob.bytes
      have HSN := Lib.hid hnb
      have h1 := hcp.2.1
      have h2 := hcp.2.2.1
      clear hcp hob hnb
      go_wp2_with fail
      go_ret
      rw [HSN.out] at h1 ⊢
      exact ⟨Ab, cb, rfl, hx2, h1, h2, hbb⟩
end Go.Proofs.YtocddhokjhfaaaaDoor

namespace BitM
open Go.Proofs.YtocddhokjhfaaaaDoor
/-- Times' bytes by a way. -/
def twb (zs : List Int) : Nat → List UInt8
  | 0 => zraw zs
  | 1 => zdl zs (zs.length - 1)
  | 2 => tby zs
  | _ => zpk zs (zs.length - 1)
theorem twb_le (zs : List Int) (way : Nat) (hpos : 0 < zs.length) (hl : zs.length ≤ 200) (hr : -9223372036854775808 ≤ zs.getD 0 0 ∧ zs.getD 0 0 ≤ 9223372036854775807) : (twb zs way).length ≤ 5000 := by
  match way with
  | 0 =>
    show (zraw zs).length ≤ _
    rw [zraw_len]
    omega
  | 1 =>
    have := zdl_len zs hr (zs.length - 1)
    show (zdl zs (zs.length - 1)).length ≤ _
    omega
  | 2 =>
    have := tby_le 200 zs hl (by omega)
    show (tby zs).length ≤ _
    omega
  | k + 3 =>
    show (zraw [zs.getD 0 0] ++ pk (zds zs (zs.length - 1))).length ≤ _
    have := pk_len4 (zds zs (zs.length - 1)) (by rw [zds_len]; omega) (zds_lt _ _)
    have h2 := zraw_len [zs.getD 0 0]
    rw [List.length_append, h2]
    simp only [List.length_singleton]
    omega
end BitM
namespace Go.Proofs.YtocddhokjhfaaaaDoor
open Go.RowKit BitM VarM RunM
set_option linter.unusedVariables false

set_option maxRecDepth 100000 in
theorem timesPut_any (A : Option Addr) (n c : Nat) (zs : List Int) (way : Nat) (wz : Int) (Z : List UInt8) (sz : Nat) (w : World) (hwz : wz = (way : Int)) (hway : way < 4) (hZ : twb zs way = Z) (hsz : Z.length = sz) (hn : zs.length = n) (hx : TimesAt w A zs) (hpos : 0 < n) (hl : n ≤ 200) (hc : n ≤ c) (hcm : c ≤ maxLen) (hr : ∀ j, j < n → -9223372036854775808 ≤ zs.getD j 0 ∧ zs.getD j 0 ≤ 9223372036854775807) (hk : KindsAt w) :
    Calls Tryd.prog 8 #[.slice A n c, .int .i64 wz] w fun e w' => ∃ A' c', e = .returned (.tuple #[.slice A' sz c', .int .i64 0]) ∧ BytesAt w' A' Z ∧ sz ≤ c' ∧ c' ≤ maxLen ∧ Below w.heap.size w w' := by
  subst hwz
  have hnz : ((n : Int) == 0) = false := by rw [beq_eq_false_iff_ne]; omega
  have hcase : way = 0 ∨ way = 1 ∨ way = 2 ∨ way = 3 := by omega
  rcases hcase with rfl | rfl | rfl | rfl
  · have hsz8 : 8 * n = sz := by rw [← hsz, ← hZ]; show _ = (zraw zs).length; rw [zraw_len, hn]
    have h4 := timesRaw_any A n c zs w hn hx hl
    rw [show zraw zs = Z from hZ, hsz8] at h4
    have H4 := Lib.hid h4
    clear hZ hn hx hk hsz hsz8 h4 hr
    go_enter Tryd.func8, Tryd.ntmps8
    go_wp2_with (first
      | (go_at_call 19; refine (isWay_any 0 (by omega) (by omega) _).mono ?_; rintro e w1 ⟨rfl, rfl⟩)
      | (go_at_call 20; with_reducible refine H4.out.mono ?_; rintro e w2 ⟨A2, c2, rfl, hx2, hc2, hm2, hb2⟩))
    go_ret2
    exact ⟨A2, c2, rfl, hx2, hc2, hm2, hb2⟩
  · have h4 := timesDelta_any A n c zs w hn hx hpos hl hc hcm hr Z sz (by rw [← hZ, ← hn]; rfl) hsz
    have H4 := Lib.hid h4
    clear hZ hn hx hk hsz h4 hr
    go_enter Tryd.func8, Tryd.ntmps8
    go_wp2_with (first
      | (go_at_call 19; refine (isWay_any 1 (by omega) (by omega) _).mono ?_; rintro e w1 ⟨rfl, rfl⟩)
      | (go_at_call 21; with_reducible refine H4.out.mono ?_; rintro e w2 ⟨A2, c2, rfl, hx2, hc2, hm2, hb2⟩))
    go_ret2
    exact ⟨A2, c2, rfl, hx2, hc2, hm2, hb2⟩
  · exact timesPut2 A n c zs Z sz w hZ hsz hn hx hl hk
  · have h4 := timesPacked_any A n c zs w hn hx hpos hl hc hcm Z sz (by rw [← hZ, ← hn]; rfl) hsz
    have H4 := Lib.hid h4
    clear hZ hn hx hk hsz h4 hr
    go_enter Tryd.func8, Tryd.ntmps8
    go_wp2_with (first
      | (go_at_call 19; refine (isWay_any 3 (by omega) (by omega) _).mono ?_; rintro e w1 ⟨rfl, rfl⟩)
      | (go_at_call 23; with_reducible refine H4.out.mono ?_; rintro e w2 ⟨A2, c2, rfl, hx2, hc2, hm2, hb2⟩))
    go_ret2
    exact ⟨A2, c2, rfl, hx2, hc2, hm2, hb2⟩
end Go.Proofs.YtocddhokjhfaaaaDoor

namespace BitM
open Go.Proofs.YtocddhokjhfaaaaDoor
/-- Values' bytes by a way. -/
def vb (ns : List Nat) : Nat → List UInt8
  | 0 => wordsB ns
  | 1 => xb ns
  | 2 => RunM.rput ns
  | _ => pk ns
/-- A chunk's bytes. -/
def cb (ss : List (Int × Nat)) (k : Nat) : List UInt8 := [UInt8.ofNat k, 0, UInt8.ofNat ss.length] ++ twb (ss.map Prod.fst) (k / 4) ++ vb (ss.map Prod.snd) (k % 4)
end BitM
namespace Go.Proofs.YtocddhokjhfaaaaDoor
open Go.RowKit BitM VarM RunM
set_option linter.unusedVariables false

set_option maxRecDepth 100000 in
theorem putValues_any (A : Option Addr) (n c : Nat) (ns : List Nat) (way : Nat) (wz : Int) (Z : List UInt8) (sz : Nat) (w : World) (hwz : wz = (way : Int)) (hway : way < 4) (hZ : vb ns way = Z) (hsz : Z.length = sz) (hn : ns.length = n) (hx : NatsAt w A ns) (hl : n ≤ 200) (hc : n ≤ c) (hcm : c ≤ maxLen) (hm : ∀ v ∈ ns, v < 18446744073709551616) (ht : TabAt w) :
    Calls Tryd.prog 27 #[.slice A n c, .int .i64 wz] w fun e w' => ∃ A' c', e = .returned (.tuple #[.slice A' sz c', .int .i64 0]) ∧ BytesAt w' A' Z ∧ sz ≤ c' ∧ c' ≤ maxLen ∧ Below w.heap.size w w' := by
  subst hwz
  have hcase : way = 0 ∨ way = 1 ∨ way = 2 ∨ way = 3 := by omega
  rcases hcase with rfl | rfl | rfl | rfl
  · have H4 := Lib.hid (chunkRaw_any A n c ns w hn hx hl hm Z sz hZ hsz)
    clear hZ hn hx hm ht hsz
    go_enter Tryd.func27, Tryd.ntmps27
    go_wp2_with (go_at_call 42; with_reducible refine H4.out.mono ?_; rintro e w2 ⟨A2, c2, rfl, hx2, hc2, hm2, hb2⟩)
    go_ret2
    exact ⟨A2, c2, rfl, hx2, hc2, hm2, hb2⟩
  · have h4 := xorsPut_any A n c ns w hn hx hl hc hcm hm ht
    rw [show xb ns = Z from hZ, hsz] at h4
    have H4 := Lib.hid h4
    clear hZ hn hx hm ht hsz h4
    go_enter Tryd.func27, Tryd.ntmps27
    go_wp2_with (go_at_call 40; with_reducible refine H4.out.mono ?_; rintro e w2 ⟨A2, c2, rfl, hx2, hb2, hc2, hm2⟩)
    go_ret2
    exact ⟨A2, c2, rfl, hx2, hc2, hm2, hb2⟩
  · have h4 := runPut_any A n c ns w hn hx hl hc hcm hm
    rw [show rput ns = Z from hZ, hsz] at h4
    have H4 := Lib.hid h4
    clear hZ hn hx hm ht hsz h4
    go_enter Tryd.func27, Tryd.ntmps27
    go_wp2_with (go_at_call 41; with_reducible refine H4.out.mono ?_; rintro e w2 ⟨A2, c2, rfl, hx2, hc2, hm2, _, hb2⟩)
    go_ret2
    exact ⟨A2, c2, rfl, hx2, hc2, hm2, hb2⟩
  · have H4 := Lib.hid (packPut_y A n c ns Z sz w hZ hsz hn hx hl hm)
    clear hZ hn hx hm ht hsz
    go_enter Tryd.func27, Tryd.ntmps27
    go_wp2_with (go_at_call 35; with_reducible refine H4.out.mono ?_; rintro e w2 ⟨A2, c2, rfl, hx2, hc2, hm2, hb2⟩)
    go_ret2
    exact ⟨A2, c2, rfl, hx2, hc2, hm2, hb2⟩

theorem own3 (w : World) (g : Nat) (x y z : Int) (a b c : UInt8) (hx : x = (a.toNat : Int)) (hy : y = (b.toNat : Int)) (hz : z = (c.toNat : Int)) (hg : g = w.heap.size) : OwnS (w.alloc (.cells #[.int .u8 x, .int .u8 y, .int .u8 z] 5)) g (.slice (some ⟨g, 0, none⟩) 3 3) 5 [a, b, c] := by
  subst hx hy hz hg
  exact OwnS.new w 5 [a, b, c] w.heap.size (Nat.le_refl _) (by unfold maxLen; simp)

set_option maxRecDepth 100000 in
theorem encode_arg (A : Option Addr) (n c : Nat) (k : Int) (w : World) (hk : k < 0 ∨ 15 < k) :
    Calls Tryd.prog 14 #[.slice A n c, .int .i64 k] w fun e w' => e = .returned (.tuple #[.slice none 0 0, .int .i64 1]) ∧ w = w' := by
  by_cases h : k < 0
  · have d0 : decide (k < 0) = true := by rw [decide_eq_true_iff]; exact h
    go_enter Tryd.func14, Tryd.ntmps14
    go_wp2_with fail
    go_ret2
    exact ⟨rfl, rfl⟩
  · have d0 : decide (k < 0) = false := by rw [decide_eq_false_iff_not]; exact h
    have d1 : decide (16 ≤ k) = true := by rw [decide_eq_true_iff]; omega
    go_enter Tryd.func14, Tryd.ntmps14
    go_wp2_with fail
    go_ret2
    exact ⟨rfl, rfl⟩
set_option maxRecDepth 100000 in
theorem encode_bad (A : Option Addr) (n c : Nat) (k : Int) (ss : List (Int × Nat)) (w : World) (hk : 0 ≤ k) (hk2 : k < 16) (hn : ss.length = n) (hx : SmpsAt w A ss) (hc : n ≤ c) (hcm : c ≤ maxLen) (er : Nat) (he : rightE ss = er) (hne : er ≠ 0) (her : er ≤ 8) :
    Calls Tryd.prog 14 #[.slice A n c, .int .i64 k] w fun e w' => e = .returned (.tuple #[.slice none 0 0, .int .i64 (er : Int)]) ∧ Below w.heap.size w w' := by
  have d0 : decide (k < 0) = false := by rw [decide_eq_false_iff_not]; omega
  have d1 : decide (16 ≤ k) = false := by rw [decide_eq_false_iff_not]; omega
  have hq : ((er : Int) == 0) = false := by rw [beq_eq_false_iff_ne]; omega
  have H4 := Lib.hid (chunkRight_any A n c ss w hn hx hc hcm er he)
  clear hn hx he
  go_enter Tryd.func14, Tryd.ntmps14
  go_wp2_with (go_at_call 17; with_reducible refine H4.out.mono ?_; rintro e w1 ⟨rfl, hb1⟩)
  go_ret2
  exact ⟨rfl, hb1⟩

theorem xb_le2 (n : Nat) (ns : List Nat) (hn : ns.length ≤ n) (hl : n ≤ 200) (hm : ∀ v ∈ ns, v < 18446744073709551616) : (xb ns).length ≤ 4000 := by
  by_cases hne : ns = []
  · subst hne
    simp [xb]
  · have e : (xb ns).length = ((xt ns (ns.length - 1)).1 + 7) / 8 := by unfold xb; rw [if_neg hne, length_bytesW]
    rw [e]
    have := xt_le ns hm (ns.length - 1)
    omega
theorem vb_le (ns : List Nat) (way : Nat) (hl : ns.length ≤ 200) (hm : ∀ v ∈ ns, v < 18446744073709551616) : (vb ns way).length ≤ 5000 := by
  match way with
  | 0 =>
    show (wordsB ns).length ≤ _
    rw [length_words]
    omega
  | 1 =>
    have := xb_le2 200 ns hl (by omega) hm
    show (xb ns).length ≤ _
    omega
  | 2 =>
    have := rput_len 200 ns hl hm (by omega)
    show (rput ns).length ≤ _
    omega
  | k + 3 =>
    have := pk_len4 ns hl hm
    show (pk ns).length ≤ _
    omega

set_option maxHeartbeats 800000 in
set_option maxRecDepth 100000 in
theorem encode_ok (A : Option Addr) (n c : Nat) (k : Nat) (kz : Int) (ss : List (Int × Nat)) (w : World) (hkz : kz = (k : Int)) (hk2 : k < 16) (hn : ss.length = n) (hx : SmpsAt w A ss) (hc : n ≤ c) (hcm : c ≤ maxLen) (he : rightE ss = 0)
    (hr : ∀ p ∈ ss, (-9223372036854775808 ≤ p.1 ∧ p.1 ≤ 9223372036854775807) ∧ p.2 < 18446744073709551616) (ht : TabAt w) (hkd : KindsAt w) (Z : List UInt8) (sz : Nat) (hZ : cb ss k = Z) (hsz : Z.length = sz) :
    Calls Tryd.prog 14 #[.slice A n c, .int .i64 kz] w fun e w' => ∃ A' c', e = .returned (.tuple #[.slice A' sz c', .int .i64 0]) ∧ BytesAt w' A' Z ∧ sz ≤ c' ∧ c' ≤ maxLen ∧ Below w.heap.size w w' := by
  subst hkz
  have hpos : 0 < n ∧ n ≤ 200 := by
    unfold rightE at he
    split at he
    · omega
    · rename_i h
      split at he
      · omega
      · exact ⟨by rw [← hn]; exact List.length_pos_iff.2 h, by omega⟩
  obtain ⟨hpos, hl⟩ := hpos
  have d0 : decide ((k : Int) < 0) = false := by rw [decide_eq_false_iff_not]; omega
  have d1 : decide (16 ≤ (k : Int)) = false := by rw [decide_eq_false_iff_not]; omega
  obtain ⟨q, hq⟩ : ∃ q, q = k / 4 := ⟨_, rfl⟩
  obtain ⟨r, hrr⟩ : ∃ r, r = k % 4 := ⟨_, rfl⟩
  have hq4 : q < 4 := by omega
  have hr4 : r < 4 := by omega
  have hqi : (k : Int) / 4 = (q : Int) := by omega
  have hri : (k : Int) % 4 = (r : Int) := by omega
  obtain ⟨ts, hts⟩ : ∃ ts, ss.map Prod.fst = ts := ⟨_, rfl⟩
  obtain ⟨vs, hvs⟩ : ∃ vs, ss.map Prod.snd = vs := ⟨_, rfl⟩
  have htn : ts.length = n := by rw [← hts, List.length_map, hn]
  have hvn : vs.length = n := by rw [← hvs, List.length_map, hn]
  have htr : ∀ j, j < n → -9223372036854775808 ≤ ts.getD j 0 ∧ ts.getD j 0 ≤ 9223372036854775807 := by
    intro j hj
    have hjl : j < ss.length := by omega
    have : ts.getD j 0 = (ss[j]).1 := by rw [← hts, List.getD_eq_getElem?_getD, List.getElem?_map, List.getElem?_eq_getElem hjl]; rfl
    rw [this]
    exact (hr _ (List.getElem_mem hjl)).1
  have hvr : ∀ v ∈ vs, v < 18446744073709551616 := by
    intro v hv
    rw [← hvs] at hv
    obtain ⟨p, hp, rfl⟩ := List.mem_map.1 hv
    exact (hr p hp).2
  obtain ⟨T, hT⟩ : ∃ T, twb ts q = T := ⟨_, rfl⟩
  obtain ⟨V, hV⟩ : ∃ V, vb vs r = V := ⟨_, rfl⟩
  obtain ⟨tn, htl⟩ : ∃ l, T.length = l := ⟨_, rfl⟩
  obtain ⟨vn, hvl⟩ : ∃ l, V.length = l := ⟨_, rfl⟩
  have ht5 : tn ≤ 5000 := by rw [← htl, ← hT]; exact twb_le ts q (by omega) (by omega) (htr 0 hpos)
  have hv5 : vn ≤ 5000 := by rw [← hvl, ← hV]; exact vb_le vs r (by omega) hvr
  have hz1 : ([UInt8.ofNat k, 0, UInt8.ofNat n] : List UInt8) ++ T = [UInt8.ofNat k, 0, UInt8.ofNat n] ++ T := rfl
  have hz2 : ([UInt8.ofNat k, 0, UInt8.ofNat n] ++ T) ++ V = Z := by rw [← hZ, ← hT, ← hV, hq, hrr, ← hts, ← hvs, ← hn]; rfl
  have hz1l : ([UInt8.ofNat k, 0, UInt8.ofNat n] ++ T).length = 3 + tn := by rw [List.length_append, htl]; rfl
  have b1 : (k : Int) = ((UInt8.ofNat k).toNat : Int) := by rw [UInt8.toNat_ofNat']; omega
  have b2 : (n : Int) / 256 = ((0 : UInt8).toNat : Int) := by rw [show (0 : UInt8).toNat = 0 from rfl]; omega
  have b3 : (n : Int) = ((UInt8.ofNat n).toNat : Int) := by rw [UInt8.toNat_ofNat']; omega
  have HR := Lib.hid (chunkRight_any A n c ss w hn hx hc hcm 0 he)
  have HAP := Lib.hid (fun (w1 : World) (hb1 : Below w.heap.size w w1) => apart_any A n c ss w1 hn (hx.below hb1) hl hc hcm ts vs hts hvs)
  have HTP := Lib.hid (fun (A1 : Option Addr) (c1 : Nat) (w1 : World) (hx1 : TimesAt w1 A1 ts) (hc1 : n ≤ c1) (hm1 : c1 ≤ maxLen) (hk1 : KindsAt w1) => timesPut_any A1 n c1 ts q q T tn w1 rfl hq4 hT htl htn hx1 hpos hl hc1 hm1 htr hk1)
  have HVP := Lib.hid (fun (A1 : Option Addr) (c1 : Nat) (w1 : World) (hx1 : NatsAt w1 A1 vs) (hc1 : n ≤ c1) (hm1 : c1 ≤ maxLen) (ht1 : TabAt w1) => putValues_any A1 n c1 vs r r V vn w1 rfl hr4 hV hvl hvn hx1 hl hc1 hm1 hvr ht1)
  have HZ2 := Lib.hid hz2
  have HZ1L := Lib.hid hz1l
  have HSZ := Lib.hid hsz
  have HTL := Lib.hid htl
  have HVL := Lib.hid hvl
  have B1 := Lib.hid b1
  have B2 := Lib.hid b2
  have B3 := Lib.hid b3
  have HT := Lib.hid ht
  have HKD := Lib.hid hkd
  clear hn hx he hr hts hvs htn hvn htr hvr hT hV htl hvl hz1 hz2 hz1l hsz hZ b1 b2 b3 ht hkd hq hrr
  go_enter Tryd.func14, Tryd.ntmps14
  go_wp2_with (first
    | (go_at_call 17; with_reducible refine HR.out.mono ?_; rintro e w1 ⟨rfl, hb1⟩)
    | (go_at_call 26; with_reducible refine (HAP.out _ hb1).mono ?_; rintro e w2 ⟨A1, c1, A2, c2, rfl, ht2, hc1, hm1, hn2, hc2, hm2, hb2⟩; have hbw2 := hb1.trans (hb2.mono hb1.size))
    | (go_at_call 8; with_reducible refine (HTP.out A1 c1 _ ht2 hc1 hm1 (HKD.out.below hbw2)).mono ?_; rintro e w3 ⟨A3, c3, rfl, hx3, hc3, hm3, hb3⟩; have hbw3 := hbw2.trans (hb3.mono hbw2.size))
    | (go_at_call 27; with_reducible refine (HVP.out A2 c2 _ (hn2.below hb3) hc2 hm2 (HT.out.below hbw3)).mono ?_; rintro e w4 ⟨A4, c4, rfl, hx4, hc4, hm4, hb4⟩; have hbw4 := hbw3.trans (hb4.mono hbw3.size); have hx34 := hx3.below hb4; have ho5 := own3 w4 w4.heap.size (k : Int) ((n : Int) / 256) (n : Int) _ _ _ B1.out B2.out B3.out rfl; have hb5 : Below w4.heap.size w4 (w4.alloc (.cells #[.int .u8 (k : Int), .int .u8 ((n : Int) / 256), .int .u8 (n : Int)] 5)) := (Below.refl _ _).alloc (Nat.le_refl _) _)
    | (at_builtin; refine wpList_append_z rfl (.tmp 59) (.tmp 60) 24 rfl Tryd.underlying24 infoU8 rfl ho5 _ _ tn T ([UInt8.ofNat k, 0, UInt8.ofNat n] ++ T) rfl HTL.out (hx34.below hb5) rfl (by simp only [List.length_cons, List.length_nil]; omega) (by simp) ?_; rw [HZ1L.out]; intro A6 c6 w6 ho6 hg6; have hb6 := ho5.belowGrown (Nat.le_refl _) (by simp) hb5 hg6; have hx46 := hx4.below hb6)
    | (at_builtin; refine wpList_append_z rfl (.tmp 62) (.tmp 63) 24 rfl Tryd.underlying24 infoU8 rfl ho6 _ _ vn V Z rfl HVL.out hx46 HZ2.out (by rw [HZ1L.out]; omega) (by exact hb6.size) ?_; rw [HSZ.out]; intro A7 c7 w7 ho7 hg7; have hb7 := ho6.belowGrown (Nat.le_refl _) hb6.size hb6 hg7))
  have hcp := ho7.caps
  go_ret2
  exact ⟨A7, c7, rfl, ho7.bytes, hcp.2.1, hcp.2.2.1, hbw4.trans (hb7.mono hbw4.size)⟩
end Go.Proofs.YtocddhokjhfaaaaDoor

namespace BitM
open Go.Proofs.YtocddhokjhfaaaaDoor
def cl (ss : List (Int × Nat)) (k : Nat) : Nat := (cb ss k).length
end BitM
namespace Go.Proofs.YtocddhokjhfaaaaDoor
open Go.RowKit BitM VarM RunM
set_option linter.unusedVariables false

set_option maxRecDepth 100000 in
theorem best_bad (A : Option Addr) (n c : Nat) (ss : List (Int × Nat)) (w : World) (hn : ss.length = n) (hx : SmpsAt w A ss) (hc : n ≤ c) (hcm : c ≤ maxLen) (er : Nat) (he : rightE ss = er) (hne : er ≠ 0) (her : er ≤ 8) :
    Calls Tryd.prog 15 #[.slice A n c] w fun e w' => e = .returned (.tuple #[.int .i64 0, .int .i64 (er : Int)]) ∧ Below w.heap.size w w' := by
  have hq : ((er : Int) == 0) = false := by rw [beq_eq_false_iff_ne]; omega
  have HE := Lib.hid (fun (w1 : World) (hb1 : Below w.heap.size w w1) => encode_bad A n c 0 ss w1 (by omega) (by omega) hn (hx.below hb1) hc hcm er he hne her)
  clear hn hx he
  go_enter Tryd.func15, Tryd.ntmps15
  go_wp2_with fail
  go_loopw [4, 5, 9] (fun b f i wr => i = .int .i64 0 ∧ Below w.heap.size w wr) (fun _ _ i _ => 0)
  case atStart => exact ⟨rfl, Below.refl _ _⟩
  case round =>
    obtain ⟨rfl, hb⟩ := hrel
    go_wp2_with (go_at_call 14; with_reducible refine (HE.out _ hb).mono ?_; rintro e w2 ⟨rfl, hb2⟩)
    go_ret2
    exact ⟨rfl, hb.trans (hb2.mono hb.size)⟩

set_option maxHeartbeats 800000 in
set_option maxRecDepth 100000 in
theorem best_ok (A : Option Addr) (n c : Nat) (ss : List (Int × Nat)) (w : World) (hn : ss.length = n) (hx : SmpsAt w A ss) (hc : n ≤ c) (hcm : c ≤ maxLen) (he : rightE ss = 0)
    (hr : ∀ p ∈ ss, (-9223372036854775808 ≤ p.1 ∧ p.1 ≤ 9223372036854775807) ∧ p.2 < 18446744073709551616) (ht : TabAt w) (hkd : KindsAt w) :
    Calls Tryd.prog 15 #[.slice A n c] w fun e w' => ∃ b : Nat, e = .returned (.tuple #[.int .i64 (b : Int), .int .i64 0]) ∧ Hid (b < 16 ∧ ∀ j, j < 16 → cl ss b ≤ cl ss j) ∧ Below w.heap.size w w' := by
  have HE := Lib.hid (fun (w1 : World) (k : Nat) (kz : Int) (hkz : kz = (k : Int)) (hk : k < 16) (sz : Nat) (hs : sz = cl ss k) (hb1 : Below w.heap.size w w1) => encode_ok A n c k kz ss w1 hkz hk hn (hx.below hb1) hc hcm he hr (ht.below hb1) (hkd.below hb1) _ sz rfl hs.symm)
  clear hn hx he hr ht hkd
  go_enter Tryd.func15, Tryd.ntmps15
  go_wp2_with fail
  go_loopw [4, 5, 9] (fun bv fv iv wr => ∃ k b f : Nat, k ≤ 16 ∧ iv = .int .i64 k ∧ bv = .int .i64 b ∧ fv = .int .i64 f ∧ Hid (k = 0 ∨ (b < k ∧ f = cl ss b ∧ ∀ j, j < k → cl ss b ≤ cl ss j)) ∧ Below w.heap.size w wr) (fun _ _ i _ => 16 - (intOf i).toNat)
  case atStart => exact ⟨0, 0, 0, by omega, rfl, rfl, rfl, Lib.hid (.inl rfl), Below.refl _ _⟩
  case round =>
    obtain ⟨k, b, f, hk, rfl, rfl, rfl, HR, hb⟩ := hrel
    by_cases hlt : k < 16
    · obtain ⟨sz, hsz⟩ : ∃ sz, sz = cl ss k := ⟨_, rfl⟩
      have HSZ := Lib.hid hsz
      clear hsz
      by_cases h0 : k = 0
      · subst h0
        go_wp2_with (go_at_call 14; with_reducible refine (HE.out _ 0 0 rfl (by omega) sz HSZ.out hb).mono ?_; rintro e w2 ⟨A2, c2, rfl, hx2, hc2, hm2, hb2⟩)
        go_roundw
        case rel =>
          refine ⟨1, 0, sz, by omega, rfl, rfl, rfl, Lib.hid (.inr ⟨by omega, HSZ.out, fun j hj => ?_⟩), hb.trans (hb2.mono hb.size)⟩
          obtain rfl : j = 0 := by omega
          exact Nat.le_refl _
        case measure => simp [intOf]
      · have hkz : ((k : Int) == 0) = false := by rw [beq_eq_false_iff_ne]; omega
        by_cases hlf : sz < f
        · have hd : decide ((sz : Int) < (f : Int)) = true := by rw [decide_eq_true_iff]; omega
          go_wp2_with (go_at_call 14; with_reducible refine (HE.out _ k _ rfl hlt sz HSZ.out hb).mono ?_; rintro e w2 ⟨A2, c2, rfl, hx2, hc2, hm2, hb2⟩)
          go_roundw
          case rel =>
            refine ⟨k + 1, k, sz, by omega, by go_num, rfl, rfl, Lib.hid (.inr ⟨by omega, HSZ.out, fun j hj => ?_⟩), hb.trans (hb2.mono hb.size)⟩
            have h1 := HSZ.out
            rcases HR.out with h2 | ⟨h2, h3, h4⟩
            · exact absurd h2 h0
            · rcases Nat.lt_or_ge j k with h5 | h5
              · have := h4 j h5
                omega
              · obtain rfl : j = k := by omega
                exact Nat.le_refl _
          case measure => simp [intOf]; omega
        · have hd : decide ((sz : Int) < (f : Int)) = false := by rw [decide_eq_false_iff_not]; omega
          go_wp2_with (go_at_call 14; with_reducible refine (HE.out _ k _ rfl hlt sz HSZ.out hb).mono ?_; rintro e w2 ⟨A2, c2, rfl, hx2, hc2, hm2, hb2⟩)
          go_roundw
          case rel =>
            have h1 := HSZ.out
            rcases HR.out with h2 | ⟨h2, h3, h4⟩
            · exact absurd h2 h0
            · refine ⟨k + 1, b, f, by omega, by go_num, rfl, rfl, Lib.hid (.inr ⟨by omega, h3, fun j hj => ?_⟩), hb.trans (hb2.mono hb.size)⟩
              rcases Nat.lt_or_ge j k with h5 | h5
              · exact h4 j h5
              · obtain rfl : j = k := by omega
                omega
          case measure => simp [intOf]; omega
    · obtain rfl : k = 16 := by omega
      have hfin : b < 16 ∧ ∀ j, j < 16 → cl ss b ≤ cl ss j := by
        rcases HR.out with h2 | ⟨h2, _, h4⟩
        · omega
        · exact ⟨h2, h4⟩
      have HF := Lib.hid hfin
      clear hfin
      go_wp2_with fail
      go_ret2
      exact ⟨b, rfl, HF, hb⟩
end Go.Proofs.YtocddhokjhfaaaaDoor

namespace Go.Proofs.YtocddhokjhfaaaaDoor
open Go.RowKit BitM VarM RunM
set_option linter.unusedVariables false

theorem rput77 : rput [7, 7] = [2, 7] := by
  rw [rput_cons, show runLen [7, 7] = 2 from rfl]
  simp only [List.drop_succ_cons, List.drop_zero]
  rw [rput_nil, vput_low (by omega), vput_low (by omega)]
  rfl
theorem runPut77 (A : Option Addr) (c : Nat) (w : World) (hx : NatsAt w A [7, 7]) (hc : 2 ≤ c) (hcm : c ≤ maxLen) :
    Calls Tryd.prog 41 #[.slice A 2 c] w fun e w' => ∃ A' c', e = .returned (.tuple #[.slice A' 2 c', .int .i64 0]) ∧ BytesAt w' A' [2, 7] ∧ 2 ≤ c' ∧ c' ≤ maxLen ∧ Below w.heap.size w w' := by
  refine (runPut_any A 2 c [7, 7] w rfl hx (by omega) hc hcm (by decide)).mono ?_
  rintro e w' ⟨A', c', rfl, h1, h2, h3, _, h4⟩
  rw [rput77] at *
  exact ⟨A', c', rfl, h1, h2, h3, h4⟩
theorem runGet77 (A : Option Addr) (c : Nat) (w : World) (hx : BytesAt w A [2, 7]) (hc : 2 ≤ c) (hcm : c ≤ maxLen) :
    Calls Tryd.prog 63 #[.slice A 2 c, .int .i64 2] w fun e w' => ∃ A' c', e = .returned (.tuple #[.slice A' 2 c', .int .i64 2, .int .i64 0]) ∧ NatsAt w' A' [7, 7] ∧ Below w.heap.size w w' := by
  have h := runGet_any A 2 c 2 [2, 7] [] [7, 7] w (by rw [rput77]; rfl) rfl hx hc hcm rfl (by omega) (by decide)
  rw [rput77] at h
  exact h
theorem putValues_ex (A : Option Addr) (c : Nat) (w : World) (hx : NatsAt w A [7, 7]) (hc : 2 ≤ c) (hcm : c ≤ maxLen) :
    Calls Tryd.prog 27 #[.slice A 2 c, .int .i64 2] w fun e w' => ∃ A' c', e = .returned (.tuple #[.slice A' 2 c', .int .i64 0]) ∧ BytesAt w' A' [2, 7] ∧ 2 ≤ c' ∧ c' ≤ maxLen ∧ Below w.heap.size w w' := by
  have H4 := Lib.hid (runPut77 A c w hx hc hcm)
  clear hx
  go_enter Tryd.func27, Tryd.ntmps27
  go_wp2_with (go_at_call 41; with_reducible refine H4.out.mono ?_; rintro e w2 ⟨A2, c2, rfl, hx2, hc2, hm2, hb2⟩)
  go_ret2
  exact ⟨A2, c2, rfl, hx2, hc2, hm2, hb2⟩
theorem getValues_ex (A : Option Addr) (c : Nat) (w : World) (hx : BytesAt w A [2, 7]) (hc : 2 ≤ c) (hcm : c ≤ maxLen) :
    Calls Tryd.prog 43 #[.slice A 2 c, .int .i64 2, .int .i64 2] w fun e w' => ∃ A' c', e = .returned (.tuple #[.slice A' 2 c', .int .i64 2, .int .i64 0]) ∧ NatsAt w' A' [7, 7] ∧ Below w.heap.size w w' := by
  have H4 := Lib.hid (runGet77 A c w hx hc hcm)
  clear hx
  go_enter Tryd.func43, Tryd.ntmps43
  go_wp2_with (go_at_call 63; with_reducible refine H4.out.mono ?_; rintro e w2 ⟨A2, c2, rfl, hx2, hb2⟩)
  go_ret3
  exact ⟨A2, c2, rfl, hx2, hb2⟩

theorem get20r (A : Option Addr) (c : Nat) (w : World) (hx : BytesAt w A [20, 3, 2, 7]) : Calls Tryd.prog 56 #[.slice A 4 c] w fun e w' => e = .returned (.tuple #[.int .u64 20, .int .i64 1, .int .i64 0]) ∧ w = w' :=
  get_more A 4 c [20, 3, 2, 7] [3, 2, 7] w 20 1 (by rw [vput20]; rfl) (by rw [vput20]; rfl) rfl hx (by omega)
theorem get3r (A : Option Addr) (c : Nat) (w : World) (hx : BytesAt w A [3, 2, 7]) : Calls Tryd.prog 56 #[.slice A 3 c] w fun e w' => e = .returned (.tuple #[.int .u64 3, .int .i64 1, .int .i64 0]) ∧ w = w' :=
  get_more A 3 c [3, 2, 7] [2, 7] w 3 1 (by rw [vput3]; rfl) (by rw [vput3]; rfl) rfl hx (by omega)
set_option maxRecDepth 100000 in
theorem getDelta_ex4 (A : Option Addr) (c : Nat) (w : World) (hx : BytesAt w A [20, 3, 2, 7]) (hc : 4 ≤ c) (hcm : c ≤ maxLen) :
    Calls Tryd.prog 37 #[.slice A 4 c, .int .i64 2] w fun e w' => ∃ A' c', e = .returned (.tuple #[.slice A' 2 c', .int .i64 2, .int .i64 0]) ∧ TimesAt w' A' [10, 13] ∧ 2 ≤ c' ∧ c' ≤ maxLen ∧ Below w.heap.size w w' := by
  obtain ⟨b, off, rfl, _⟩ := hx (by simp)
  have hx1 : BytesAt w (some ⟨b, off + 1, none⟩) [3, 2, 7] := hx.cut 1 (some ⟨b, off + 1, none⟩) (fun _ => by rw [Option.map_some, Addr.add_lit])
  have hc1 : ¬ c = 1 := by omega
  unfold maxLen at hcm
  have ho2 : OwnT (w.alloc (.cells #[.int .i64 10] 2)) w.heap.size (.slice (some ⟨w.heap.size, 0, none⟩) 1 1) [10] := OwnV.new w 2 [iv 10] w.heap.size (Nat.le_refl _) (by unfold maxLen; simp)
  have hb0 : Below w.heap.size w (w.alloc (.cells #[.int .i64 10] 2)) := (Below.refl _ _).alloc (Nat.le_refl _) _
  go_enter Tryd.func37, Tryd.ntmps37
  go_wp2_with (first
    | (go_at_call 56; with_reducible refine (get20r _ c _ hx).mono ?_; rintro e w1 ⟨rfl, rfl⟩)
    | (go_at_call 57; refine (zag20 _).mono ?_; rintro e w1 ⟨rfl, rfl⟩))
  go_loopw [8, 10, 29] (fun sz l i wr => Below w.heap.size w wr ∧ ((i = .int .i64 0 ∧ sz = .int .i64 1 ∧ ∃ A' c', l = .slice A' 1 c' ∧ OwnT wr w.heap.size (.slice A' 1 c') [10]) ∨ (i = .int .i64 1 ∧ sz = .int .i64 2 ∧ ∃ A' c', l = .slice A' 2 c' ∧ OwnT wr w.heap.size (.slice A' 2 c') [10, 13]))) (fun _ _ i _ => 1 - (intOf i).toNat)
  case atStart => exact ⟨hb0, .inl ⟨rfl, rfl, _, _, rfl, ho2⟩⟩
  case round =>
    obtain ⟨hb, ⟨rfl, rfl, A', c', rfl, ho⟩ | ⟨rfl, rfl, A', c', rfl, ho⟩⟩ := hrel
    · obtain ⟨gl, rfl⟩ := OwnT.addr ho (by omega)
      have hcl := OwnT.cellk ho 0 10 (by omega) rfl
      have hx1r := hx1.below hb
      have HDS2 : Hid (([10] : List Int).map iv ++ [iv 13] = ([10, 13] : List Int).map iv) := Lib.hid rfl
      have HL3 : Hid ((([10, 13] : List Int).map iv).length = 2) := Lib.hid rfl
      go_wp2_with (first
        | (go_at_call 56; with_reducible refine (get3r _ _ _ hx1r).mono ?_; rintro e w1 ⟨rfl, rfl⟩)
        | (at_builtin; refine wpList_append_vz rfl (.tmp 43) (.tmp 51) 23 rfl Tryd.underlying23 _ 8 infoI64 rfl rfl (OwnV.alloc ho _) _ _ 1 [iv 13] (([10, 13] : List Int).map iv) rfl rfl (cellsAt_one _ _ _ _ rfl) (iv_one [13]) HDS2.out (by simp) (by unfold maxLen; simp) (by have := hb.size; simp; omega) ?_; rw [HL3.out]; intro A3 c3 w7 ho7 hg7))
      go_roundw
      case rel =>
        have hbA : Below w.heap.size w (wr.alloc (.cells #[.int .i64 13] 2)) := hb.alloc hb.size _
        have hb7 := (OwnV.alloc ho _).belowGrown (B := w.heap.size) (by omega) (by have := hbA.size; exact this) hbA hg7
        exact ⟨hb7, .inr ⟨rfl, rfl, A3, c3, rfl, ho7⟩⟩
      case measure => simp [intOf]
    · have hcp := OwnV.caps ho
      have hby : TimesAt wr A' [10, 13] := OwnV.bytes ho
      go_wp2_with fail
      go_ret3
      exact ⟨A', c', rfl, hby, hcp.2.1, hcp.2.2.1, hb⟩
theorem get1_ex4 (A : Option Addr) (c : Nat) (w : World) (hx : BytesAt w A [20, 3, 2, 7]) (hc : 4 ≤ c) (hcm : c ≤ maxLen) :
    Calls Tryd.prog 24 #[.slice A 4 c, .int .i64 2, .int .i64 1] w fun e w' => ∃ A' c', e = .returned (.tuple #[.slice A' 2 c', .int .i64 2, .int .i64 0]) ∧ TimesAt w' A' [10, 13] ∧ 2 ≤ c' ∧ c' ≤ maxLen ∧ Below w.heap.size w w' := by
  have H4 := Lib.hid (getDelta_ex4 A c w hx hc hcm)
  clear hx
  go_enter Tryd.func24, Tryd.ntmps24
  go_wp2_with (go_at_call 37; with_reducible refine H4.out.mono ?_; rintro e w2 ⟨A2, c2, rfl, hx2, hc2, hm2, hb2⟩)
  go_ret3
  exact ⟨A2, c2, rfl, hx2, hc2, hm2, hb2⟩
theorem timesGet1_ex4 (A : Option Addr) (c : Nat) (w : World) (hx : BytesAt w A [20, 3, 2, 7]) (hc : 4 ≤ c) (hcm : c ≤ maxLen) :
    Calls Tryd.prog 9 #[.slice A 4 c, .int .i64 2, .int .i64 1] w fun e w' => ∃ A' c', e = .returned (.tuple #[.slice A' 2 c', .int .i64 2, .int .i64 0]) ∧ TimesAt w' A' [10, 13] ∧ Below w.heap.size w w' := by
  have H4 := Lib.hid (get1_ex4 A c w hx hc hcm)
  have HX := Lib.hid (show BytesAt w A [20, 3] from hx.take 2)
  unfold maxLen at hcm
  clear hx
  go_enter Tryd.func9, Tryd.ntmps9
  go_wp2_with (first
    | (go_at_call 19; refine (isWay_any 1 (by omega) (by omega) _).mono ?_; rintro e w1 ⟨rfl, rfl⟩)
    | (go_at_call 24; with_reducible refine H4.out.mono ?_; rintro e w2 ⟨A2, c2, rfl, hx2, hc2, hm2, hb2⟩)
    | (go_at_call 8; with_reducible refine (timesPut1_ex A2 c2 _ hx2 hc2 hm2).mono ?_; rintro e w3 ⟨A3, c3, rfl, hx3, _, _, hb3⟩; have hxt3 := (HX.out.below hb2).below hb3)
    | (go_at_call 25; with_reducible refine (equal_b A3 A c3 c 2 2 [20, 3] [20, 3] _ rfl rfl hx3 hxt3 rfl).mono ?_; rintro e wa ⟨rfl, rfl⟩))
  go_ret3
  exact ⟨A2, c2, rfl, hx2.below hb3, hb2.trans (hb3.mono hb2.size)⟩

end Go.Proofs.YtocddhokjhfaaaaDoor

namespace Go.Proofs.YtocddhokjhfaaaaDoor
open Go.RowKit BitM VarM RunM
set_option linter.unusedVariables false

theorem infoSample : (Tryd.prog.info? 49).map (fun i => (i.zero, i.size, i.bytes)) = some (some (.agg #[.int .i64 0, .int .u64 0]), 2, 16) := by kernel_rfl
def OwnP (w : World) (base : Nat) (v : Value) (n : Nat) (us : List Value) : Prop := w.ownsRow base 49 2 v n us
theorem OwnP.smp {w : World} {base c : Nat} {A : Option Addr} (h : OwnP w base (.slice A 2 c) 2 [.int .i64 10, .int .u64 7, .int .i64 13, .int .u64 7]) : Smp w A ∧ 2 ≤ c ∧ c ≤ maxLen := by
  rcases h.2 with ⟨_, h1⟩ | ⟨g, cap, cur, hv, hb, hh, hn, hm, hs, ht⟩
  · omega
  · injection hv with h1 h2 h3
    subst h1 h3
    have hc := World.ownsRow.cells (g := g) h rfl
    refine ⟨⟨g, 0, rfl, ?_, ?_, ?_, ?_⟩, hn, hm⟩
    · exact hc 0 _ rfl
    · exact hc 1 _ rfl
    · exact hc 2 _ rfl
    · exact hc 3 _ rfl

theorem OwnP.keep {w w' : World} {base n : Nat} {v : Value} {us : List Value} (h : OwnP w base v n us) (e : ∀ g, v.ownBlock = some g → g < w.heap.size → w'.heap[g]? = w.heap[g]?) : OwnP w' base v n us := by
  obtain ⟨h1, h2⟩ := h
  refine ⟨h1, ?_⟩
  rcases h2 with h2 | ⟨g, cap, cur, hv, hb, hh, hr⟩
  · exact .inl h2
  · exact .inr ⟨g, cap, cur, hv, hb, (e g (by rw [hv]; rfl) (Array.getElem?_eq_some_iff.1 hh).1).trans hh, hr⟩
theorem OwnP.alloc {w : World} {base n : Nat} {v : Value} {us : List Value} (h : OwnP w base v n us) (o : Obj) : OwnP (w.alloc o) base v n us := h.keep fun g _ hg => Below.heap_alloc w o g hg
theorem OwnP.base {w : World} {base n : Nat} {v : Value} {us : List Value} (h : OwnP w base v n us) : ∀ g, v.ownBlock = some g → base ≤ g := by
  intro g hg
  rcases h.2 with ⟨rfl, _⟩ | ⟨g', cap, cur, rfl, hb, _⟩
  · simp [Value.ownBlock] at hg
  · simp [Value.ownBlock] at hg
    omega

theorem OwnP.form {w : World} {base n : Nat} {v : Value} {us : List Value} (h : OwnP w base v n us) : ∃ A' c', v = .slice A' n c' := by
  rcases h.2 with ⟨rfl, rfl⟩ | ⟨g, cap, cur, rfl, _⟩
  · exact ⟨none, 0, rfl⟩
  · exact ⟨_, _, rfl⟩

set_option maxHeartbeats 800000 in
set_option maxRecDepth 100000 in
theorem together_ex (A : Option Addr) (c : Nat) (B : Option Addr) (d : Nat) (w : World) (hx : TimesAt w A [10, 13]) (hy : NatsAt w B [7, 7]) :
    Calls Tryd.prog 44 #[.slice A 2 c, .slice B 2 d] w fun e w' => ∃ A' c', e = .returned (.slice A' 2 c') ∧ Smp w' A' ∧ 2 ≤ c' ∧ c' ≤ maxLen ∧ Below w.heap.size w w' := by
  obtain ⟨b, off, rfl⟩ := hx.addr (by simp)
  obtain ⟨b2, off2, rfl⟩ := hy.addr (by simp)
  have h0 : w.cell? ⟨b, off, none⟩ = some (.int .i64 10) := hx.cell 0 (by decide)
  have h1 : w.cell? ⟨b, off + 1, none⟩ = some (.int .i64 13) := hx.cell 1 (by decide)
  have k0 : w.cell? ⟨b2, off2, none⟩ = some (.int .u64 7) := hy.cell 0 (by decide)
  have k1 : w.cell? ⟨b2, off2 + 1, none⟩ = some (.int .u64 7) := hy.cell 1 (by decide)
  have hbl := World.block_lt_of_cell? _ _ h0
  have hbl2 := World.block_lt_of_cell? _ _ k0
  obtain ⟨iu, hiu, hz0, hz1, hz2⟩ := info_parts infoSample
  clear hx hy
  go_enter Tryd.func44, Tryd.ntmps44
  go_wp2_with fail
  go_loopw [5, 10] (fun l i wr => Below w.heap.size w wr ∧ ∃ (k c' : Nat) (A' : Option Addr) (us : List Value), k ≤ 2 ∧ i = .int .i64 k ∧ l = .slice A' k c' ∧ us = ([.int .i64 10, .int .u64 7, .int .i64 13, .int .u64 7] : List Value).take (2 * k) ∧ OwnP wr w.heap.size (.slice A' k c') k us) (fun _ i _ => 2 - (intOf i).toNat)
  case atStart => exact ⟨Below.refl _ _, 0, 0, none, [], by omega, rfl, rfl, rfl, World.ownsRow_nil _ _ _ _⟩
  case round =>
    obtain ⟨hb, k, c', A', us, hk, rfl, rfl, hus, ho⟩ := hrel
    have d0 := (hb.cell (p := ⟨b, off, none⟩) hbl).trans h0
    have d1 := (hb.cell (p := ⟨b, off + 1, none⟩) hbl).trans h1
    have e0 := (hb.cell (p := ⟨b2, off2, none⟩) hbl2).trans k0
    have e1 := (hb.cell (p := ⟨b2, off2 + 1, none⟩) hbl2).trans k1
    have hcase : k = 0 ∨ k = 1 ∨ k = 2 := by omega
    have hbs := hb.size
    rcases hcase with rfl | rfl | rfl
    · rw [show ((0 : Nat) : Int) = 0 from rfl]
      have hus2 : us = ([] : List Value) := hus
      subst hus2
      clear hus
      have hoA := ho.alloc (.cells #[.int .i64 10, .int .u64 7] 49)
      have hnews : ∀ (j : Nat) (u : Value), ([.int .i64 10, .int .u64 7] : List Value)[j]? = some u → (wr.alloc (.cells #[.int .i64 10, .int .u64 7] 49)).cell? ((⟨wr.heap.size, 0, none⟩ : Addr).add j) = some u := by
        intro j u hj
        rw [Addr.add_mid]
        match j, hj with
        | 0, hj => simp at hj; subst hj; rw [World.cell?_alloc_new]; rfl
        | 1, hj => simp at hj; subst hj; rw [World.cell?_alloc_new]; rfl
      have hone : ∀ u ∈ ([.int .i64 10, .int .u64 7] : List Value), u.oneCell' = true := by
        intro u hu
        simp at hu
        rcases hu with rfl | rfl <;> rfl
      have hbA : Below w.heap.size w (wr.alloc (.cells #[.int .i64 10, .int .u64 7] 49)) := hb.alloc hb.size _
      go_wp2_with (at_builtin; go_loud (refine wpList_append_own_at _ rfl (.tmp 15) (.tmp 22) 37 rfl w.heap.size 49 iu _ 2 16 Tryd.underlying37 hiu hz0 hz1 hz2 rfl (by omega) _ 0 [] rfl hoA ⟨wr.heap.size, 0, none⟩ 1 1 [.int .i64 10, .int .u64 7] rfl rfl hnews hone (by unfold maxLen; omega) (by omega) (by simp; omega) ?_); intro v2 w2 ho2 hg2 _ _; obtain ⟨A2, c2, rfl⟩ := OwnP.form (base := w.heap.size) ho2)
      go_roundw
      case rel =>
        have hb2 : Below w.heap.size w w2 := hbA.grown hg2 hbA.size (fun g hg => ho.base g hg)
        exact ⟨hb2, 1, c2, A2, _, by omega, rfl, rfl, rfl, ho2⟩
      case measure => simp [intOf]
    · rw [show ((1 : Nat) : Int) = 1 from rfl]
      have hus2 : us = ([.int .i64 10, .int .u64 7] : List Value) := hus
      subst hus2
      clear hus
      have hoA := ho.alloc (.cells #[.int .i64 13, .int .u64 7] 49)
      have hnews : ∀ (j : Nat) (u : Value), ([.int .i64 13, .int .u64 7] : List Value)[j]? = some u → (wr.alloc (.cells #[.int .i64 13, .int .u64 7] 49)).cell? ((⟨wr.heap.size, 0, none⟩ : Addr).add j) = some u := by
        intro j u hj
        rw [Addr.add_mid]
        match j, hj with
        | 0, hj => simp at hj; subst hj; rw [World.cell?_alloc_new]; rfl
        | 1, hj => simp at hj; subst hj; rw [World.cell?_alloc_new]; rfl
      have hone : ∀ u ∈ ([.int .i64 13, .int .u64 7] : List Value), u.oneCell' = true := by
        intro u hu
        simp at hu
        rcases hu with rfl | rfl <;> rfl
      have hbA : Below w.heap.size w (wr.alloc (.cells #[.int .i64 13, .int .u64 7] 49)) := hb.alloc hb.size _
      go_wp2_with (at_builtin; go_loud (refine wpList_append_own_at _ rfl (.tmp 15) (.tmp 22) 37 rfl w.heap.size 49 iu _ 2 16 Tryd.underlying37 hiu hz0 hz1 hz2 rfl (by omega) _ 1 [.int .i64 10, .int .u64 7] rfl hoA ⟨wr.heap.size, 0, none⟩ 1 1 [.int .i64 13, .int .u64 7] rfl rfl hnews hone (by unfold maxLen; omega) (by omega) (by simp; omega) ?_); intro v2 w2 ho2 hg2 _ _; obtain ⟨A2, c2, rfl⟩ := OwnP.form (base := w.heap.size) ho2)
      go_roundw
      case rel =>
        have hb2 : Below w.heap.size w w2 := hbA.grown hg2 hbA.size (fun g hg => ho.base g hg)
        exact ⟨hb2, 2, c2, A2, _, by omega, rfl, rfl, rfl, ho2⟩
      case measure => simp [intOf]
    · have hus2 : us = ([.int .i64 10, .int .u64 7, .int .i64 13, .int .u64 7] : List Value) := hus
      subst hus2
      clear hus
      obtain ⟨hs, hc2, hm2⟩ := ho.smp
      go_wp2_with fail
      go_ret
      exact ⟨A', c', rfl, hs, hc2, hm2, hb⟩
end Go.Proofs.YtocddhokjhfaaaaDoor
