/- Several texts in one: chunk's calls at the example: two samples, codec 6. chunk.apart and chunk.together at the example. chunk.putValues, getValues by Run, times.Get by Delta at the example, with bytes behind. chunk.together at the example. chunk.Encode and Decode at the example; ricklaw10.codes is true; chunk.Codec. The walk of ChunkCodecs. The condition on both tables: a world that meets it. -/
import Derived.Test.YtanljjpjhihgcaaDoorPartD
import Derived.Test.YtanljjpjhihgcaaDoorPartC
import Derived.Deep.MidRow
import Derived.Test.YtanljjpjhihgcaaDoorPartA
import Derived.Test.YtanljjpjhihgcaaDoorRows
import Derived.LaidMore
import Derived.LaidHandle
import Derived.Stop.Joined
namespace Go.Proofs.YtanljjpjhihgcaaDoor
open Go.RowKit BitM VarM RunM
set_option linter.unusedVariables false

/-- The two samples stand there. -/
def Smp (w : World) (A : Option Addr) : Prop := ∃ b off, A = some ⟨b, off, none⟩ ∧ w.cell? ⟨b, off, none⟩ = some (.int .i64 10) ∧ w.cell? ⟨b, off + 1, none⟩ = some (.int .u64 7) ∧ w.cell? ⟨b, off + 2, none⟩ = some (.int .i64 13) ∧ w.cell? ⟨b, off + 3, none⟩ = some (.int .u64 7)
theorem Smp.below {w w' : World} {A : Option Addr} (h : Smp w A) (hb : Below w.heap.size w w') : Smp w' A := by
  obtain ⟨b, off, rfl, h0, h1, h2, h3⟩ := h
  exact ⟨b, off, rfl, (hb.cell (p := ⟨b, off, none⟩) (World.block_lt_of_cell? _ _ h0)).trans h0, (hb.cell (p := ⟨b, off + 1, none⟩) (World.block_lt_of_cell? _ _ h1)).trans h1, (hb.cell (p := ⟨b, off + 2, none⟩) (World.block_lt_of_cell? _ _ h2)).trans h2, (hb.cell (p := ⟨b, off + 3, none⟩) (World.block_lt_of_cell? _ _ h3)).trans h3⟩
theorem range_two {w : World} {b o : Nat} {u v : Value} (h0 : w.cell? ⟨b, o, none⟩ = some u) (h1 : w.cell? ⟨b, o + 1, none⟩ = some v) : w.rangeAt b o [u, v] := by
  intro j x hx
  match j, hx with
  | 0, hx => simp at hx; subst hx; exact h0
  | 1, hx => simp at hx; subst hx; exact h1
theorem ownV_past {w w' : World} {b1 b2 : Nat} {v1 v2 : Value} {E1 E2 : TypeId} {us1 us2 : List Value} (h : OwnV w b1 v1 E1 us1) (k : OwnV w b2 v2 E2 us2) (hE : E1 ≠ E2) (hg : w.grownBy w' v2.ownBlock) : OwnV w' b1 v1 E1 us1 := by
  refine h.keep fun g hg1 => hg.block g (h.block g hg1).2 (fun e => ?_)
  rcases h.cases with ⟨rfl, _⟩ | ⟨g1, _, _, rfl, _, _, _, hh1, _, _⟩
  · simp [Value.ownBlock] at hg1
  · simp [Value.ownBlock] at hg1
    subst hg1
    rcases k.cases with ⟨rfl, _⟩ | ⟨g2, _, _, rfl, _, _, _, hh2, _, _⟩
    · simp [Value.ownBlock] at e
    · simp [Value.ownBlock] at e
      subst e
      rw [hh1] at hh2
      injection hh2 with hh2
      injection hh2 with _ h3 _
      exact hE h3

set_option maxRecDepth 100000 in
theorem chunkRight_ex (A : Option Addr) (c : Nat) (w : World) (hx : Smp w A) (hc : 2 ≤ c) (hcm : c ≤ maxLen) :
    Calls Tryd.prog 26 #[.slice A 2 c] w fun e w' => e = .returned (.int .i64 0) ∧ Below w.heap.size w w' := by
  obtain ⟨b, off, rfl, h0, h1, h2, h3⟩ := hx
  have hbl := World.block_lt_of_cell? _ _ h0
  have hc1 : ¬ c = 1 := by omega
  unfold maxLen at hcm
  go_enter Tryd.func26, Tryd.ntmps26
  go_wp2_with fail
  go_loopw [14] (fun i wr => Below w.heap.size w wr ∧ (i = .int .i64 0 ∨ i = .int .i64 1)) (fun i _ => 1 - (intOf i).toNat)
  case atStart => exact ⟨Below.refl _ _, .inl rfl⟩
  case round =>
    obtain ⟨hb, rfl | rfl⟩ := hrel
    · have d0 := (hb.cell (p := ⟨b, off, none⟩) hbl).trans h0
      have d2 := (hb.cell (p := ⟨b, off + 2, none⟩) hbl).trans h2
      have d3 := (hb.cell (p := ⟨b, off + 3, none⟩) hbl).trans h3
      have hr := range_two d2 d3
      have hblr := World.block_lt_of_cell? _ _ d0
      go_wp2_with (first
        | (refine wpList_load_mid rfl 58 _ rfl b (off + 2) rfl _ _ hr Tryd.underlying58 rfl (by kernel_rfl) ?_)
        | (refine wpList_store_row rfl 58 (.tmp 4) (.tmp 18) rfl wr.heap.size _ rfl rfl 58 Tryd.zeroCells58 (heap_alloc_new _ _) (by kernel_rfl) (by kernel_rfl) (by kernel_rfl) ?_; rw [World.setRow_alloc_new]))
      have hA : Below wr.heap.size wr (wr.alloc (.cells #[.int .i64 13, .int .u64 7] 58)) := (Below.refl _ _).alloc (Nat.le_refl _) _
      have e0 : (wr.alloc (.cells #[.int .i64 13, .int .u64 7] 58)).cell? ⟨wr.heap.size, 0, none⟩ = some (.int .i64 13) := by rw [World.cell?_alloc_new]; rfl
      have f0 : (wr.alloc (.cells #[.int .i64 13, .int .u64 7] 58)).cell? ⟨b, off, none⟩ = some (.int .i64 10) := (hA.cell (p := ⟨b, off, none⟩) hblr).trans d0
      have ke : ∀ y : SubW (wr.alloc (.cells #[.int .i64 13, .int .u64 7] 58)).heap.size (wr.alloc (.cells #[.int .i64 13, .int .u64 7] 58)), y.at_.cell? ⟨wr.heap.size, 0, none⟩ = some (.int .i64 13) := fun y => (World.cell?_of_block (a := ⟨wr.heap.size, 0, none⟩) (y.ok_.block _ (World.block_lt_of_cell? _ _ e0))).trans e0
      have kf : ∀ y : SubW (wr.alloc (.cells #[.int .i64 13, .int .u64 7] 58)).heap.size (wr.alloc (.cells #[.int .i64 13, .int .u64 7] 58)), y.at_.cell? ⟨b, off, none⟩ = some (.int .i64 10) := fun y => (World.cell?_of_block (a := ⟨b, off, none⟩) (y.ok_.block _ (World.block_lt_of_cell? _ _ f0))).trans f0
      refine region_over [] [0, 1, 2, 3, 4, 5, 6, 7] (by kernel_rfl) (by kernel_rfl) ?_
      rintro wd hbd
      rw [wpBl_nil]
      simp only [List.map_cons, List.map_nil, opAt, List.getElem?_toArray, List.getElem?_cons_zero, List.getElem?_cons_succ, Option.getD_some]
      repeat (go_big_quiet_step (fail))
      refine wpQuiet_nil ?_
      go_wp2_with fail
      go_roundw
      case rel =>
        have hbA : Below w.heap.size w (wr.alloc (.cells #[.int .i64 13, .int .u64 7] 58)) := hb.trans (hA.mono hb.size)
        exact ⟨hbA.trans (hbd.mono hbA.size), .inr rfl⟩
      case measure => simp [intOf]
    · go_wp2_with fail
      go_ret
      exact ⟨rfl, hb⟩
end Go.Proofs.YtanljjpjhihgcaaDoor

namespace Go.Proofs.YtanljjpjhihgcaaDoor
open Go.RowKit BitM VarM RunM
set_option linter.unusedVariables false

theorem cellsAt_oneG (w : World) (g : Nat) (u u' : Value) (t : TypeId) (hg : g = w.heap.size) (hu : u = u') : CellsAt (w.alloc (.cells #[u] t)) (some ⟨g, 0, none⟩) [u'] := by
  subst hg
  exact cellsAt_one w u u' t hu

set_option maxHeartbeats 800000 in
set_option maxRecDepth 100000 in
theorem apart_ex (A : Option Addr) (c : Nat) (w : World) (hx : Smp w A) (hc : 2 ≤ c) (hcm : c ≤ maxLen) :
    Calls Tryd.prog 45 #[.slice A 2 c] w fun e w' => ∃ A1 c1 A2 c2, e = .returned (.tuple #[.slice A1 2 c1, .slice A2 2 c2]) ∧ TimesAt w' A1 [10, 13] ∧ 2 ≤ c1 ∧ c1 ≤ maxLen ∧ NatsAt w' A2 [7, 7] ∧ 2 ≤ c2 ∧ c2 ≤ maxLen ∧ Below w.heap.size w w' := by
  obtain ⟨b, off, rfl, h0, h1, h2, h3⟩ := hx
  have hbl := World.block_lt_of_cell? _ _ h0
  unfold maxLen at hcm
  have hE : (2 : TypeId) ≠ 22 := by decide
  go_enter Tryd.func45, Tryd.ntmps45
  go_wp2_with fail
  go_loopw [4, 5, 10] (fun l1 l2 i wr => Below w.heap.size w wr ∧ ∃ (k c1 c2 : Nat) (A1 A2 : Option Addr), k ≤ 2 ∧ i = .int .i64 k ∧ l1 = .slice A1 k c1 ∧ l2 = .slice A2 k c2 ∧ OwnT wr w.heap.size (.slice A1 k c1) (([10, 13] : List Int).take k) ∧ OwnN wr w.heap.size (.slice A2 k c2) (([7, 7] : List Nat).take k)) (fun _ _ i _ => 2 - (intOf i).toNat)
  case atStart => exact ⟨Below.refl _ _, 0, 0, 0, none, none, by omega, rfl, rfl, rfl, OwnV.nil _ _ _, OwnV.nil _ _ _⟩
  case round =>
    obtain ⟨hb, k, c1, c2, A1, A2, hk, rfl, rfl, rfl, ho1, ho2⟩ := hrel
    have d0 := (hb.cell (p := ⟨b, off, none⟩) hbl).trans h0
    have d1 := (hb.cell (p := ⟨b, off + 1, none⟩) hbl).trans h1
    have d2 := (hb.cell (p := ⟨b, off + 2, none⟩) hbl).trans h2
    have d3 := (hb.cell (p := ⟨b, off + 3, none⟩) hbl).trans h3
    have hcase : k = 0 ∨ k = 1 ∨ k = 2 := by omega
    have hbs := hb.size
    rcases hcase with rfl | rfl | rfl
    · rw [show ((0 : Nat) : Int) = 0 from rfl]
      have hr := range_two d0 d1
      have hA : Below wr.heap.size wr (wr.alloc (.cells #[.int .i64 10, .int .u64 7] 58)) := (Below.refl _ _).alloc (Nat.le_refl _) _
      have e0 : (wr.alloc (.cells #[.int .i64 10, .int .u64 7] 58)).cell? ⟨wr.heap.size, 0, none⟩ = some (.int .i64 10) := by rw [World.cell?_alloc_new]; rfl
      have e1 : (wr.alloc (.cells #[.int .i64 10, .int .u64 7] 58)).cell? ⟨wr.heap.size, 1, none⟩ = some (.int .u64 7) := by rw [World.cell?_alloc_new]; rfl
      have ho1A := OwnV.alloc ho1 (.cells #[.int .i64 10, .int .u64 7] 58)
      have ho2A := OwnV.alloc ho2 (.cells #[.int .i64 10, .int .u64 7] 58)
      have HD1 : Hid ((([10, 13] : List Int).take 0).map iv ++ [iv 10] = (([10] : List Int)).map iv) := Lib.hid rfl
      have HL1 : Hid (((([10] : List Int)).map iv).length = 1) := Lib.hid rfl
      have HD2 : Hid ((([7, 7] : List Nat).take 0).map uv ++ [uv 7] = (([7] : List Nat)).map uv) := Lib.hid rfl
      have HL2 : Hid (((([7] : List Nat)).map uv).length = 1) := Lib.hid rfl
      have hcA : CellsAt ((wr.alloc (.cells #[.int .i64 10, .int .u64 7] 58)).alloc (.cells #[.int .i64 10] 2)) (some ⟨wr.heap.size + 1, 0, none⟩) [iv 10] := cellsAt_oneG _ _ _ _ _ (by simp) rfl
      have hbs2 : w.heap.size ≤ ((wr.alloc (.cells #[.int .i64 10, .int .u64 7] 58)).alloc (.cells #[.int .i64 10] 2)).heap.size := by simp; omega
      have eB : ((wr.alloc (.cells #[.int .i64 10, .int .u64 7] 58)).alloc (.cells #[.int .i64 10] 2)).cell? ⟨wr.heap.size, 1, none⟩ = some (.int .u64 7) := (World.cell?_of_block (a := ⟨wr.heap.size, 1, none⟩) (Below.heap_alloc _ _ _ (by simp))).trans e1
      have hbB : Below w.heap.size w ((wr.alloc (.cells #[.int .i64 10, .int .u64 7] 58)).alloc (.cells #[.int .i64 10] 2)) := (hb.alloc hb.size _).alloc (by simp; omega) _
      go_wp2_with (first
        | (refine wpList_load_mid rfl 58 _ rfl b off rfl _ _ hr Tryd.underlying58 rfl (by kernel_rfl) ?_)
        | (refine wpList_store_row rfl 58 (.tmp 7) (.tmp 13) rfl wr.heap.size _ rfl rfl 58 Tryd.zeroCells58 (heap_alloc_new _ _) (by kernel_rfl) (by kernel_rfl) (by kernel_rfl) ?_; rw [World.setRow_alloc_new])
        | (at_builtin; refine wpList_append_vz rfl (.tmp 14) (.tmp 17) 23 rfl Tryd.underlying23 _ 8 infoI64 rfl rfl (OwnV.alloc ho1A _) _ _ 1 [iv 10] (([10] : List Int).map iv) rfl rfl hcA (iv_one [10]) HD1.out (by simp) (by unfold maxLen; simp) hbs2 ?_; rw [HL1.out]; intro A3 c3 w3 ho3 hg3; have ho23 := ownV_past (OwnV.alloc ho2A _) (OwnV.alloc ho1A _) hE.symm hg3; have c31 := (World.cell?_of_block (a := ⟨wr.heap.size, 1, none⟩) (hg3.block wr.heap.size (by simp; omega) (fun e => by have := (OwnV.block ho1 _ e.symm).2; omega))).trans eB; have hb3 := (OwnV.alloc ho1A _).belowGrown (B := w.heap.size) (Nat.le_refl _) hbs2 hbB hg3; have hbs3 : w.heap.size ≤ (w3.alloc (.cells #[.int .u64 7] 22)).heap.size := (by have := hb3.size; simp; omega))
        | (at_builtin; refine wpList_append_vz rfl (.tmp 19) (.tmp 22) 34 rfl Tryd.underlying34 _ 8 infoU64 rfl rfl (OwnV.alloc ho23 _) _ _ 1 [uv 7] (([7] : List Nat).map uv) rfl rfl (cellsAt_one _ _ _ _ rfl) (uv_one [7]) HD2.out (by simp) (by unfold maxLen; simp) hbs3 ?_; rw [HL2.out]; intro A5 c5 w5 ho5 hg5; have ho35 := ownV_past (OwnV.alloc ho3 _) (OwnV.alloc ho23 _) hE hg5; have hb5 := (OwnV.alloc ho23 _).belowGrown (B := w.heap.size) (Nat.le_refl _) hbs3 (hb3.alloc hb3.size _) hg5))
      go_roundw
      case rel => exact ⟨hb5, 1, c3, c5, A3, A5, by omega, rfl, rfl, rfl, ho35, ho5⟩
      case measure => simp [intOf]
    · rw [show ((1 : Nat) : Int) = 1 from rfl]
      have hr := range_two d2 d3
      have hA : Below wr.heap.size wr (wr.alloc (.cells #[.int .i64 13, .int .u64 7] 58)) := (Below.refl _ _).alloc (Nat.le_refl _) _
      have e0 : (wr.alloc (.cells #[.int .i64 13, .int .u64 7] 58)).cell? ⟨wr.heap.size, 0, none⟩ = some (.int .i64 13) := by rw [World.cell?_alloc_new]; rfl
      have e1 : (wr.alloc (.cells #[.int .i64 13, .int .u64 7] 58)).cell? ⟨wr.heap.size, 1, none⟩ = some (.int .u64 7) := by rw [World.cell?_alloc_new]; rfl
      have ho1A := OwnV.alloc ho1 (.cells #[.int .i64 13, .int .u64 7] 58)
      have ho2A := OwnV.alloc ho2 (.cells #[.int .i64 13, .int .u64 7] 58)
      have HD1 : Hid ((([10, 13] : List Int).take 1).map iv ++ [iv 13] = (([10, 13] : List Int)).map iv) := Lib.hid rfl
      have HL1 : Hid (((([10, 13] : List Int)).map iv).length = 2) := Lib.hid rfl
      have HD2 : Hid ((([7, 7] : List Nat).take 1).map uv ++ [uv 7] = (([7, 7] : List Nat)).map uv) := Lib.hid rfl
      have HL2 : Hid (((([7, 7] : List Nat)).map uv).length = 2) := Lib.hid rfl
      have hcA : CellsAt ((wr.alloc (.cells #[.int .i64 13, .int .u64 7] 58)).alloc (.cells #[.int .i64 13] 2)) (some ⟨wr.heap.size + 1, 0, none⟩) [iv 13] := cellsAt_oneG _ _ _ _ _ (by simp) rfl
      have hbs2 : w.heap.size ≤ ((wr.alloc (.cells #[.int .i64 13, .int .u64 7] 58)).alloc (.cells #[.int .i64 13] 2)).heap.size := by simp; omega
      have eB : ((wr.alloc (.cells #[.int .i64 13, .int .u64 7] 58)).alloc (.cells #[.int .i64 13] 2)).cell? ⟨wr.heap.size, 1, none⟩ = some (.int .u64 7) := (World.cell?_of_block (a := ⟨wr.heap.size, 1, none⟩) (Below.heap_alloc _ _ _ (by simp))).trans e1
      have hbB : Below w.heap.size w ((wr.alloc (.cells #[.int .i64 13, .int .u64 7] 58)).alloc (.cells #[.int .i64 13] 2)) := (hb.alloc hb.size _).alloc (by simp; omega) _
      go_wp2_with (first
        | (refine wpList_load_mid rfl 58 _ rfl b (off + 2) rfl _ _ hr Tryd.underlying58 rfl (by kernel_rfl) ?_)
        | (refine wpList_store_row rfl 58 (.tmp 7) (.tmp 13) rfl wr.heap.size _ rfl rfl 58 Tryd.zeroCells58 (heap_alloc_new _ _) (by kernel_rfl) (by kernel_rfl) (by kernel_rfl) ?_; rw [World.setRow_alloc_new])
        | (at_builtin; refine wpList_append_vz rfl (.tmp 14) (.tmp 17) 23 rfl Tryd.underlying23 _ 8 infoI64 rfl rfl (OwnV.alloc ho1A _) _ _ 1 [iv 13] (([10, 13] : List Int).map iv) rfl rfl hcA (iv_one [13]) HD1.out (by simp) (by unfold maxLen; simp) hbs2 ?_; rw [HL1.out]; intro A3 c3 w3 ho3 hg3; have ho23 := ownV_past (OwnV.alloc ho2A _) (OwnV.alloc ho1A _) hE.symm hg3; have c31 := (World.cell?_of_block (a := ⟨wr.heap.size, 1, none⟩) (hg3.block wr.heap.size (by simp; omega) (fun e => by have := (OwnV.block ho1 _ e.symm).2; omega))).trans eB; have hb3 := (OwnV.alloc ho1A _).belowGrown (B := w.heap.size) (Nat.le_refl _) hbs2 hbB hg3; have hbs3 : w.heap.size ≤ (w3.alloc (.cells #[.int .u64 7] 22)).heap.size := (by have := hb3.size; simp; omega))
        | (at_builtin; refine wpList_append_vz rfl (.tmp 19) (.tmp 22) 34 rfl Tryd.underlying34 _ 8 infoU64 rfl rfl (OwnV.alloc ho23 _) _ _ 1 [uv 7] (([7, 7] : List Nat).map uv) rfl rfl (cellsAt_one _ _ _ _ rfl) (uv_one [7]) HD2.out (by simp) (by unfold maxLen; simp) hbs3 ?_; rw [HL2.out]; intro A5 c5 w5 ho5 hg5; have ho35 := ownV_past (OwnV.alloc ho3 _) (OwnV.alloc ho23 _) hE hg5; have hb5 := (OwnV.alloc ho23 _).belowGrown (B := w.heap.size) (Nat.le_refl _) hbs3 (hb3.alloc hb3.size _) hg5))
      go_roundw
      case rel => exact ⟨hb5, 2, c3, c5, A3, A5, by omega, rfl, rfl, rfl, ho35, ho5⟩
      case measure => simp [intOf]
    · have hcp1 := OwnV.caps ho1
      have hcp2 := OwnV.caps ho2
      have ht : TimesAt wr A1 [10, 13] := OwnV.bytes ho1
      have hn : NatsAt wr A2 [7, 7] := OwnV.bytes ho2
      go_wp2_with fail
      go_ret2
      exact ⟨A1, c1, A2, c2, rfl, ht, hcp1.2.1, hcp1.2.2.1, hn, hcp2.2.1, hcp2.2.2.1, hb⟩
end Go.Proofs.YtanljjpjhihgcaaDoor

namespace Go.Proofs.YtanljjpjhihgcaaDoor
open Go.RowKit BitM VarM RunM
set_option linter.unusedVariables false

theorem rput77 : rput [7, 7] = [2, 7] := by
  rw [rput_cons, show runLen [7, 7] = 2 from rfl]
  simp only [List.drop_succ_cons, List.drop_zero]
  rw [rput_nil, vput_low (by omega), vput_low (by omega)]
  rfl
theorem runPut77 (A : Option Addr) (c : Nat) (w : World) (hx : NatsAt w A [7, 7]) (hc : 2 ≤ c) (hcm : c ≤ maxLen) :
    Calls Tryd.prog 62 #[.slice A 2 c] w fun e w' => ∃ A' c', e = .returned (.tuple #[.slice A' 2 c', .int .i64 0]) ∧ BytesAt w' A' [2, 7] ∧ 2 ≤ c' ∧ c' ≤ maxLen ∧ Below w.heap.size w w' := by
  refine (runPut_any A 2 c [7, 7] w rfl hx (by omega) hc hcm (by decide)).mono ?_
  rintro e w' ⟨A', c', rfl, h1, h2, h3, _, h4⟩
  rw [rput77] at *
  exact ⟨A', c', rfl, h1, h2, h3, h4⟩
theorem runGet77 (A : Option Addr) (c : Nat) (w : World) (hx : BytesAt w A [2, 7]) (hc : 2 ≤ c) (hcm : c ≤ maxLen) :
    Calls Tryd.prog 77 #[.slice A 2 c, .int .i64 2] w fun e w' => ∃ A' c', e = .returned (.tuple #[.slice A' 2 c', .int .i64 2, .int .i64 0]) ∧ NatsAt w' A' [7, 7] ∧ Below w.heap.size w w' := by
  have h := runGet_any A 2 c 2 [2, 7] [] [7, 7] w (by rw [rput77]; rfl) rfl hx hc hcm rfl (by omega) (by decide)
  rw [rput77] at h
  exact h
theorem putValues_ex (A : Option Addr) (c : Nat) (w : World) (hx : NatsAt w A [7, 7]) (hc : 2 ≤ c) (hcm : c ≤ maxLen) :
    Calls Tryd.prog 46 #[.slice A 2 c, .int .i64 2] w fun e w' => ∃ A' c', e = .returned (.tuple #[.slice A' 2 c', .int .i64 0]) ∧ BytesAt w' A' [2, 7] ∧ 2 ≤ c' ∧ c' ≤ maxLen ∧ Below w.heap.size w w' := by
  have H4 := Lib.hid (runPut77 A c w hx hc hcm)
  clear hx
  go_enter Tryd.func46, Tryd.ntmps46
  go_wp2_with (go_at_call 62; with_reducible refine H4.out.mono ?_; rintro e w2 ⟨A2, c2, rfl, hx2, hc2, hm2, hb2⟩)
  go_ret2
  exact ⟨A2, c2, rfl, hx2, hc2, hm2, hb2⟩
theorem getValues_ex (A : Option Addr) (c : Nat) (w : World) (hx : BytesAt w A [2, 7]) (hc : 2 ≤ c) (hcm : c ≤ maxLen) :
    Calls Tryd.prog 64 #[.slice A 2 c, .int .i64 2, .int .i64 2] w fun e w' => ∃ A' c', e = .returned (.tuple #[.slice A' 2 c', .int .i64 2, .int .i64 0]) ∧ NatsAt w' A' [7, 7] ∧ Below w.heap.size w w' := by
  have H4 := Lib.hid (runGet77 A c w hx hc hcm)
  clear hx
  go_enter Tryd.func64, Tryd.ntmps64
  go_wp2_with (go_at_call 77; with_reducible refine H4.out.mono ?_; rintro e w2 ⟨A2, c2, rfl, hx2, hb2⟩)
  go_ret3
  exact ⟨A2, c2, rfl, hx2, hb2⟩

theorem get20r (A : Option Addr) (c : Nat) (w : World) (hx : BytesAt w A [20, 3, 2, 7]) : Calls Tryd.prog 72 #[.slice A 4 c] w fun e w' => e = .returned (.tuple #[.int .u64 20, .int .i64 1, .int .i64 0]) ∧ w = w' :=
  get_more A 4 c [20, 3, 2, 7] [3, 2, 7] w 20 1 (by rw [vput20]; rfl) (by rw [vput20]; rfl) rfl hx (by omega)
theorem get3r (A : Option Addr) (c : Nat) (w : World) (hx : BytesAt w A [3, 2, 7]) : Calls Tryd.prog 72 #[.slice A 3 c] w fun e w' => e = .returned (.tuple #[.int .u64 3, .int .i64 1, .int .i64 0]) ∧ w = w' :=
  get_more A 3 c [3, 2, 7] [2, 7] w 3 1 (by rw [vput3]; rfl) (by rw [vput3]; rfl) rfl hx (by omega)
set_option maxRecDepth 100000 in
theorem getDelta_ex4 (A : Option Addr) (c : Nat) (w : World) (hx : BytesAt w A [20, 3, 2, 7]) (hc : 4 ≤ c) (hcm : c ≤ maxLen) :
    Calls Tryd.prog 54 #[.slice A 4 c, .int .i64 2] w fun e w' => ∃ A' c', e = .returned (.tuple #[.slice A' 2 c', .int .i64 2, .int .i64 0]) ∧ TimesAt w' A' [10, 13] ∧ 2 ≤ c' ∧ c' ≤ maxLen ∧ Below w.heap.size w w' := by
  obtain ⟨b, off, rfl, _⟩ := hx (by simp)
  have hx1 : BytesAt w (some ⟨b, off + 1, none⟩) [3, 2, 7] := hx.cut 1 (some ⟨b, off + 1, none⟩) (fun _ => by rw [Option.map_some, Addr.add_lit])
  have hc1 : ¬ c = 1 := by omega
  unfold maxLen at hcm
  have ho2 : OwnT (w.alloc (.cells #[.int .i64 10] 2)) w.heap.size (.slice (some ⟨w.heap.size, 0, none⟩) 1 1) [10] := OwnV.new w 2 [iv 10] w.heap.size (Nat.le_refl _) (by unfold maxLen; simp)
  have hb0 : Below w.heap.size w (w.alloc (.cells #[.int .i64 10] 2)) := (Below.refl _ _).alloc (Nat.le_refl _) _
  go_enter Tryd.func54, Tryd.ntmps54
  go_wp2_with (first
    | (go_at_call 72; with_reducible refine (get20r _ c _ hx).mono ?_; rintro e w1 ⟨rfl, rfl⟩)
    | (go_at_call 73; refine (zag20 _).mono ?_; rintro e w1 ⟨rfl, rfl⟩))
  go_loopw [8, 10, 29] (fun sz l i wr => Below w.heap.size w wr ∧ ((i = .int .i64 0 ∧ sz = .int .i64 1 ∧ ∃ A' c', l = .slice A' 1 c' ∧ OwnT wr w.heap.size (.slice A' 1 c') [10]) ∨ (i = .int .i64 1 ∧ sz = .int .i64 2 ∧ ∃ A' c', l = .slice A' 2 c' ∧ OwnT wr w.heap.size (.slice A' 2 c') [10, 13]))) (fun _ _ i _ => 1 - (intOf i).toNat)
  case atStart => exact ⟨hb0, .inl ⟨rfl, rfl, _, _, rfl, ho2⟩⟩
  case round =>
    obtain ⟨hb, ⟨rfl, rfl, A', c', rfl, ho⟩ | ⟨rfl, rfl, A', c', rfl, ho⟩⟩ := hrel
    · obtain ⟨gl, rfl⟩ := OwnT.addr ho (by omega)
      have hcl := OwnT.cellk ho 0 10 (by omega) rfl
      have hx1r := hx1.below hb
      have HDS2 : Hid (([10] : List Int).map iv ++ [iv 13] = ([10, 13] : List Int).map iv) := Lib.hid rfl
      have HL3 : Hid ((([10, 13] : List Int).map iv).length = 2) := Lib.hid rfl
      go_wp2_with (first
        | (go_at_call 72; with_reducible refine (get3r _ _ _ hx1r).mono ?_; rintro e w1 ⟨rfl, rfl⟩)
        | (at_builtin; refine wpList_append_vz rfl (.tmp 43) (.tmp 51) 23 rfl Tryd.underlying23 _ 8 infoI64 rfl rfl (OwnV.alloc ho _) _ _ 1 [iv 13] (([10, 13] : List Int).map iv) rfl rfl (cellsAt_one _ _ _ _ rfl) (iv_one [13]) HDS2.out (by simp) (by unfold maxLen; simp) (by have := hb.size; simp; omega) ?_; rw [HL3.out]; intro A3 c3 w7 ho7 hg7))
      go_roundw
      case rel =>
        have hbA : Below w.heap.size w (wr.alloc (.cells #[.int .i64 13] 2)) := hb.alloc hb.size _
        have hb7 := (OwnV.alloc ho _).belowGrown (B := w.heap.size) (by omega) (by have := hbA.size; exact this) hbA hg7
        exact ⟨hb7, .inr ⟨rfl, rfl, A3, c3, rfl, ho7⟩⟩
      case measure => simp [intOf]
    · have hcp := OwnV.caps ho
      have hby : TimesAt wr A' [10, 13] := OwnV.bytes ho
      go_wp2_with fail
      go_ret3
      exact ⟨A', c', rfl, hby, hcp.2.1, hcp.2.2.1, hb⟩
theorem get1_ex4 (A : Option Addr) (c : Nat) (w : World) (hx : BytesAt w A [20, 3, 2, 7]) (hc : 4 ≤ c) (hcm : c ≤ maxLen) :
    Calls Tryd.prog 33 #[.slice A 4 c, .int .i64 2, .int .i64 1] w fun e w' => ∃ A' c', e = .returned (.tuple #[.slice A' 2 c', .int .i64 2, .int .i64 0]) ∧ TimesAt w' A' [10, 13] ∧ 2 ≤ c' ∧ c' ≤ maxLen ∧ Below w.heap.size w w' := by
  have H4 := Lib.hid (getDelta_ex4 A c w hx hc hcm)
  clear hx
  go_enter Tryd.func33, Tryd.ntmps33
  go_wp2_with (go_at_call 54; with_reducible refine H4.out.mono ?_; rintro e w2 ⟨A2, c2, rfl, hx2, hc2, hm2, hb2⟩)
  go_ret3
  exact ⟨A2, c2, rfl, hx2, hc2, hm2, hb2⟩
theorem timesGet1_ex4 (A : Option Addr) (c : Nat) (w : World) (hx : BytesAt w A [20, 3, 2, 7]) (hc : 4 ≤ c) (hcm : c ≤ maxLen) :
    Calls Tryd.prog 13 #[.slice A 4 c, .int .i64 2, .int .i64 1] w fun e w' => ∃ A' c', e = .returned (.tuple #[.slice A' 2 c', .int .i64 2, .int .i64 0]) ∧ TimesAt w' A' [10, 13] ∧ Below w.heap.size w w' := by
  have H4 := Lib.hid (get1_ex4 A c w hx hc hcm)
  have HX := Lib.hid (show BytesAt w A [20, 3] from hx.take 2)
  unfold maxLen at hcm
  clear hx
  go_enter Tryd.func13, Tryd.ntmps13
  go_wp2_with (first
    | (go_at_call 28; refine (isWay_any 1 (by omega) (by omega) _).mono ?_; rintro e w1 ⟨rfl, rfl⟩)
    | (go_at_call 33; with_reducible refine H4.out.mono ?_; rintro e w2 ⟨A2, c2, rfl, hx2, hc2, hm2, hb2⟩)
    | (go_at_call 12; with_reducible refine (timesPut1_ex A2 c2 _ hx2 hc2 hm2).mono ?_; rintro e w3 ⟨A3, c3, rfl, hx3, _, _, hb3⟩; have hxt3 := (HX.out.below hb2).below hb3)
    | (go_at_call 34; with_reducible refine (equal_b A3 A c3 c 2 2 [20, 3] [20, 3] _ rfl rfl hx3 hxt3 rfl).mono ?_; rintro e wa ⟨rfl, rfl⟩))
  go_ret3
  exact ⟨A2, c2, rfl, hx2.below hb3, hb2.trans (hb3.mono hb2.size)⟩

end Go.Proofs.YtanljjpjhihgcaaDoor

namespace Go.Proofs.YtanljjpjhihgcaaDoor
open Go.RowKit BitM VarM RunM
set_option linter.unusedVariables false

theorem infoSample : (Tryd.prog.info? 58).map (fun i => (i.zero, i.size, i.bytes)) = some (some (.agg #[.int .i64 0, .int .u64 0]), 2, 16) := by kernel_rfl
def OwnP (w : World) (base : Nat) (v : Value) (n : Nat) (us : List Value) : Prop := w.ownsRow base 58 2 v n us
theorem OwnP.smp {w : World} {base c : Nat} {A : Option Addr} (h : OwnP w base (.slice A 2 c) 2 [.int .i64 10, .int .u64 7, .int .i64 13, .int .u64 7]) : Smp w A ∧ 2 ≤ c ∧ c ≤ maxLen := by
  rcases h.2 with ⟨_, h1⟩ | ⟨g, cap, cur, hv, hb, hh, hn, hm, hs, ht⟩
  · omega
  · injection hv with h1 h2 h3
    subst h1 h3
    have hc := World.ownsRow.cells (g := g) h rfl
    refine ⟨⟨g, 0, rfl, ?_, ?_, ?_, ?_⟩, hn, hm⟩
    · exact hc 0 _ rfl
    · exact hc 1 _ rfl
    · exact hc 2 _ rfl
    · exact hc 3 _ rfl

theorem OwnP.keep {w w' : World} {base n : Nat} {v : Value} {us : List Value} (h : OwnP w base v n us) (e : ∀ g, v.ownBlock = some g → g < w.heap.size → w'.heap[g]? = w.heap[g]?) : OwnP w' base v n us := by
  obtain ⟨h1, h2⟩ := h
  refine ⟨h1, ?_⟩
  rcases h2 with h2 | ⟨g, cap, cur, hv, hb, hh, hr⟩
  · exact .inl h2
  · exact .inr ⟨g, cap, cur, hv, hb, (e g (by rw [hv]; rfl) (Array.getElem?_eq_some_iff.1 hh).1).trans hh, hr⟩
theorem OwnP.alloc {w : World} {base n : Nat} {v : Value} {us : List Value} (h : OwnP w base v n us) (o : Obj) : OwnP (w.alloc o) base v n us := h.keep fun g _ hg => Below.heap_alloc w o g hg
theorem OwnP.base {w : World} {base n : Nat} {v : Value} {us : List Value} (h : OwnP w base v n us) : ∀ g, v.ownBlock = some g → base ≤ g := by
  intro g hg
  rcases h.2 with ⟨rfl, _⟩ | ⟨g', cap, cur, rfl, hb, _⟩
  · simp [Value.ownBlock] at hg
  · simp [Value.ownBlock] at hg
    omega

theorem OwnP.form {w : World} {base n : Nat} {v : Value} {us : List Value} (h : OwnP w base v n us) : ∃ A' c', v = .slice A' n c' := by
  rcases h.2 with ⟨rfl, rfl⟩ | ⟨g, cap, cur, rfl, _⟩
  · exact ⟨none, 0, rfl⟩
  · exact ⟨_, _, rfl⟩

set_option maxHeartbeats 800000 in
set_option maxRecDepth 100000 in
theorem together_ex (A : Option Addr) (c : Nat) (B : Option Addr) (d : Nat) (w : World) (hx : TimesAt w A [10, 13]) (hy : NatsAt w B [7, 7]) :
    Calls Tryd.prog 65 #[.slice A 2 c, .slice B 2 d] w fun e w' => ∃ A' c', e = .returned (.slice A' 2 c') ∧ Smp w' A' ∧ 2 ≤ c' ∧ c' ≤ maxLen ∧ Below w.heap.size w w' := by
  obtain ⟨b, off, rfl⟩ := hx.addr (by simp)
  obtain ⟨b2, off2, rfl⟩ := hy.addr (by simp)
  have h0 : w.cell? ⟨b, off, none⟩ = some (.int .i64 10) := hx.cell 0 (by decide)
  have h1 : w.cell? ⟨b, off + 1, none⟩ = some (.int .i64 13) := hx.cell 1 (by decide)
  have k0 : w.cell? ⟨b2, off2, none⟩ = some (.int .u64 7) := hy.cell 0 (by decide)
  have k1 : w.cell? ⟨b2, off2 + 1, none⟩ = some (.int .u64 7) := hy.cell 1 (by decide)
  have hbl := World.block_lt_of_cell? _ _ h0
  have hbl2 := World.block_lt_of_cell? _ _ k0
  obtain ⟨iu, hiu, hz0, hz1, hz2⟩ := info_parts infoSample
  clear hx hy
  go_enter Tryd.func65, Tryd.ntmps65
  go_wp2_with fail
  go_loopw [5, 10] (fun l i wr => Below w.heap.size w wr ∧ ∃ (k c' : Nat) (A' : Option Addr) (us : List Value), k ≤ 2 ∧ i = .int .i64 k ∧ l = .slice A' k c' ∧ us = ([.int .i64 10, .int .u64 7, .int .i64 13, .int .u64 7] : List Value).take (2 * k) ∧ OwnP wr w.heap.size (.slice A' k c') k us) (fun _ i _ => 2 - (intOf i).toNat)
  case atStart => exact ⟨Below.refl _ _, 0, 0, none, [], by omega, rfl, rfl, rfl, World.ownsRow_nil _ _ _ _⟩
  case round =>
    obtain ⟨hb, k, c', A', us, hk, rfl, rfl, hus, ho⟩ := hrel
    have d0 := (hb.cell (p := ⟨b, off, none⟩) hbl).trans h0
    have d1 := (hb.cell (p := ⟨b, off + 1, none⟩) hbl).trans h1
    have e0 := (hb.cell (p := ⟨b2, off2, none⟩) hbl2).trans k0
    have e1 := (hb.cell (p := ⟨b2, off2 + 1, none⟩) hbl2).trans k1
    have hcase : k = 0 ∨ k = 1 ∨ k = 2 := by omega
    have hbs := hb.size
    rcases hcase with rfl | rfl | rfl
    · rw [show ((0 : Nat) : Int) = 0 from rfl]
      have hus2 : us = ([] : List Value) := hus
      subst hus2
      clear hus
      have hoA := ho.alloc (.cells #[.int .i64 10, .int .u64 7] 58)
      have hnews : ∀ (j : Nat) (u : Value), ([.int .i64 10, .int .u64 7] : List Value)[j]? = some u → (wr.alloc (.cells #[.int .i64 10, .int .u64 7] 58)).cell? ((⟨wr.heap.size, 0, none⟩ : Addr).add j) = some u := by
        intro j u hj
        rw [Addr.add_mid]
        match j, hj with
        | 0, hj => simp at hj; subst hj; rw [World.cell?_alloc_new]; rfl
        | 1, hj => simp at hj; subst hj; rw [World.cell?_alloc_new]; rfl
      have hone : ∀ u ∈ ([.int .i64 10, .int .u64 7] : List Value), u.oneCell' = true := by
        intro u hu
        simp at hu
        rcases hu with rfl | rfl <;> rfl
      have hbA : Below w.heap.size w (wr.alloc (.cells #[.int .i64 10, .int .u64 7] 58)) := hb.alloc hb.size _
      go_wp2_with (at_builtin; go_loud (refine wpList_append_own_at _ rfl (.tmp 15) (.tmp 22) 46 rfl w.heap.size 58 iu _ 2 16 Tryd.underlying46 hiu hz0 hz1 hz2 rfl (by omega) _ 0 [] rfl hoA ⟨wr.heap.size, 0, none⟩ 1 1 [.int .i64 10, .int .u64 7] rfl rfl hnews hone (by unfold maxLen; omega) (by omega) (by simp; omega) ?_); intro v2 w2 ho2 hg2 _ _; obtain ⟨A2, c2, rfl⟩ := OwnP.form (base := w.heap.size) ho2)
      go_roundw
      case rel =>
        have hb2 : Below w.heap.size w w2 := hbA.grown hg2 hbA.size (fun g hg => ho.base g hg)
        exact ⟨hb2, 1, c2, A2, _, by omega, rfl, rfl, rfl, ho2⟩
      case measure => simp [intOf]
    · rw [show ((1 : Nat) : Int) = 1 from rfl]
      have hus2 : us = ([.int .i64 10, .int .u64 7] : List Value) := hus
      subst hus2
      clear hus
      have hoA := ho.alloc (.cells #[.int .i64 13, .int .u64 7] 58)
      have hnews : ∀ (j : Nat) (u : Value), ([.int .i64 13, .int .u64 7] : List Value)[j]? = some u → (wr.alloc (.cells #[.int .i64 13, .int .u64 7] 58)).cell? ((⟨wr.heap.size, 0, none⟩ : Addr).add j) = some u := by
        intro j u hj
        rw [Addr.add_mid]
        match j, hj with
        | 0, hj => simp at hj; subst hj; rw [World.cell?_alloc_new]; rfl
        | 1, hj => simp at hj; subst hj; rw [World.cell?_alloc_new]; rfl
      have hone : ∀ u ∈ ([.int .i64 13, .int .u64 7] : List Value), u.oneCell' = true := by
        intro u hu
        simp at hu
        rcases hu with rfl | rfl <;> rfl
      have hbA : Below w.heap.size w (wr.alloc (.cells #[.int .i64 13, .int .u64 7] 58)) := hb.alloc hb.size _
      go_wp2_with (at_builtin; go_loud (refine wpList_append_own_at _ rfl (.tmp 15) (.tmp 22) 46 rfl w.heap.size 58 iu _ 2 16 Tryd.underlying46 hiu hz0 hz1 hz2 rfl (by omega) _ 1 [.int .i64 10, .int .u64 7] rfl hoA ⟨wr.heap.size, 0, none⟩ 1 1 [.int .i64 13, .int .u64 7] rfl rfl hnews hone (by unfold maxLen; omega) (by omega) (by simp; omega) ?_); intro v2 w2 ho2 hg2 _ _; obtain ⟨A2, c2, rfl⟩ := OwnP.form (base := w.heap.size) ho2)
      go_roundw
      case rel =>
        have hb2 : Below w.heap.size w w2 := hbA.grown hg2 hbA.size (fun g hg => ho.base g hg)
        exact ⟨hb2, 2, c2, A2, _, by omega, rfl, rfl, rfl, ho2⟩
      case measure => simp [intOf]
    · have hus2 : us = ([.int .i64 10, .int .u64 7, .int .i64 13, .int .u64 7] : List Value) := hus
      subst hus2
      clear hus
      obtain ⟨hs, hc2, hm2⟩ := ho.smp
      go_wp2_with fail
      go_ret
      exact ⟨A', c', rfl, hs, hc2, hm2, hb⟩
end Go.Proofs.YtanljjpjhihgcaaDoor

namespace Go.Proofs.YtanljjpjhihgcaaDoor
open Go.RowKit BitM VarM RunM
set_option linter.unusedVariables false

set_option maxHeartbeats 800000 in
set_option maxRecDepth 100000 in
theorem encode_ex (A : Option Addr) (c : Nat) (w : World) (hx : Smp w A) (hc : 2 ≤ c) (hcm : c ≤ maxLen) :
    Calls Tryd.prog 23 #[.slice A 2 c, .int .i64 6] w fun e w' => ∃ A' c', e = .returned (.tuple #[.slice A' 7 c', .int .i64 0]) ∧ BytesAt w' A' [6, 0, 2, 20, 3, 2, 7] ∧ 7 ≤ c' ∧ c' ≤ maxLen ∧ Below w.heap.size w w' := by
  have HX := Lib.hid hx
  clear hx
  go_enter Tryd.func23, Tryd.ntmps23
  go_wp2_with (first
    | (go_at_call 26; with_reducible refine (chunkRight_ex A c _ HX.out hc hcm).mono ?_; rintro e w1 ⟨rfl, hb1⟩)
    | (go_at_call 45; with_reducible refine (apart_ex A c _ (HX.out.below hb1) hc hcm).mono ?_; rintro e w2 ⟨A1, c1, A2, c2, rfl, ht2, hc1, hm1, hn2, hc2, hm2, hb2⟩; have hbw2 := hb1.trans (hb2.mono hb1.size))
    | (go_at_call 12; with_reducible refine (timesPut1_ex A1 c1 _ ht2 hc1 hm1).mono ?_; rintro e w3 ⟨A3, c3, rfl, hx3, hc3, hm3, hb3⟩; have hbw3 := hbw2.trans (hb3.mono hbw2.size))
    | (go_at_call 46; with_reducible refine (putValues_ex A2 c2 _ (hn2.below hb3) hc2 hm2).mono ?_; rintro e w4 ⟨A4, c4, rfl, hx4, hc4, hm4, hb4⟩; have hbw4 := hbw3.trans (hb4.mono hbw3.size); have hx34 := hx3.below hb4; have ho5 := OwnS.new w4 5 [6, 0, 2] w4.heap.size (Nat.le_refl _) (by unfold maxLen; simp); have hb5 : Below w4.heap.size w4 (w4.alloc (.cells #[.int .u8 6, .int .u8 0, .int .u8 2] 5)) := (Below.refl _ _).alloc (Nat.le_refl _) _)
    | (at_builtin; refine wpList_append_z rfl (.tmp 59) (.tmp 60) 24 rfl Tryd.underlying24 infoU8 rfl ho5 _ _ 2 [20, 3] [6, 0, 2, 20, 3] rfl rfl (hx34.below hb5) rfl (by simp) (by simp) ?_; intro A6 c6 w6 ho6 hg6; have hb6 := ho5.belowGrown (Nat.le_refl _) (by simp) hb5 hg6; have hx46 := hx4.below hb6)
    | (at_builtin; refine wpList_append_z rfl (.tmp 62) (.tmp 63) 24 rfl Tryd.underlying24 infoU8 rfl ho6 _ _ 2 [2, 7] [6, 0, 2, 20, 3, 2, 7] rfl rfl hx46 rfl (by simp) (by exact hb6.size) ?_; intro A7 c7 w7 ho7 hg7; have hb7 := ho6.belowGrown (Nat.le_refl _) hb6.size hb6 hg7))
  have hcp := ho7.caps
  go_ret2
  exact ⟨A7, c7, rfl, ho7.bytes, hcp.2.1, hcp.2.2.1, hbw4.trans (hb7.mono hbw4.size)⟩

set_option maxHeartbeats 800000 in
set_option maxRecDepth 100000 in
theorem decode_ex (A : Option Addr) (c : Nat) (w : World) (hx : BytesAt w A [6, 0, 2, 20, 3, 2, 7]) (hc : 7 ≤ c) (hcm : c ≤ maxLen) :
    Calls Tryd.prog 47 #[.slice A 7 c] w fun e w' => ∃ A' c', e = .returned (.tuple #[.slice A' 2 c', .int .i64 6, .int .i64 0]) ∧ Smp w' A' ∧ Below w.heap.size w w' := by
  obtain ⟨b, off, rfl, hcell⟩ := hx (by simp)
  have h0 : w.cell? ⟨b, off, none⟩ = some (.int .u8 6) := hcell 0 (by decide)
  have h1 : w.cell? ⟨b, off + 1, none⟩ = some (.int .u8 0) := hcell 1 (by decide)
  have h2 : w.cell? ⟨b, off + 2, none⟩ = some (.int .u8 2) := hcell 2 (by decide)
  have hx3 : BytesAt w (some ⟨b, off + 3, none⟩) [20, 3, 2, 7] := hx.cut 3 (some ⟨b, off + 3, none⟩) (fun _ => by rw [Option.map_some, Addr.add_lit])
  have hx5 : BytesAt w (some ⟨b, off + 3 + 2, none⟩) [2, 7] := hx3.cut 2 (some ⟨b, off + 3 + 2, none⟩) (fun _ => by rw [Option.map_some, Addr.add_lit])
  have hbl := World.block_lt_of_cell? _ _ h0
  have k0 : ∀ y : SubW w.heap.size w, y.at_.cell? ⟨b, off, none⟩ = some (.int .u8 6) := fun y => (World.cell?_of_block (a := ⟨b, off, none⟩) (y.ok_.block _ hbl)).trans h0
  have k1 : ∀ y : SubW w.heap.size w, y.at_.cell? ⟨b, off + 1, none⟩ = some (.int .u8 0) := fun y => (World.cell?_of_block (a := ⟨b, off + 1, none⟩) (y.ok_.block _ hbl)).trans h1
  have k2 : ∀ y : SubW w.heap.size w, y.at_.cell? ⟨b, off + 2, none⟩ = some (.int .u8 2) := fun y => (World.cell?_of_block (a := ⟨b, off + 2, none⟩) (y.ok_.block _ hbl)).trans h2
  have hor : bits BinOp.or IntKind.i64 0 2 = 2 := by decide
  have hc3 : ¬ c = 3 := by omega
  have hc5 : ¬ c - 3 = 2 := by omega
  have HX3 := Lib.hid hx3
  have HX5 := Lib.hid hx5
  unfold maxLen at hcm
  clear hcell hx hx3 hx5
  go_enter Tryd.func47, Tryd.ntmps47
  go_wp2_with fail
  refine region_over [] [0, 1, 2, 3, 4, 5, 6, 7, 8, 9, 10, 11, 12, 13, 14, 15] (by kernel_rfl) (by kernel_rfl) ?_
  rintro wd hbd
  rw [wpBl_nil]
  simp only [List.map_cons, List.map_nil, opAt, List.getElem?_toArray, List.getElem?_cons_zero, List.getElem?_cons_succ, Option.getD_some]
  repeat (go_big_quiet_step (fail))
  refine wpQuiet_nil ?_
  go_wp2_with (first
    | (go_at_call 13; with_reducible refine (timesGet1_ex4 (some ⟨b, off + 3, none⟩) (c - 3) _ (HX3.out.below hbd) (by omega) (by unfold maxLen; omega)).mono ?_; rintro e w2 ⟨A2, c2, rfl, ht2, hb2⟩; have hbw2 := hbd.trans (hb2.mono hbd.size))
    | (go_at_call 64; with_reducible refine (getValues_ex (some ⟨b, off + 3 + 2, none⟩) _ _ (HX5.out.below hbw2) (by omega) (by unfold maxLen; omega)).mono ?_; rintro e w3 ⟨A3, c3, rfl, hn3, hb3⟩; have hbw3 := hbw2.trans (hb3.mono hbw2.size))
    | (go_at_call 65; with_reducible refine (together_ex A2 c2 A3 c3 _ (ht2.below hb3) hn3).mono ?_; rintro e w4 ⟨A4, c4, rfl, hs4, hc4, hm4, hb4⟩; have hbw4 := hbw3.trans (hb4.mono hbw3.size))
    | (go_at_call 26; with_reducible refine (chunkRight_ex A4 c4 _ hs4 hc4 hm4).mono ?_; rintro e w5 ⟨rfl, hb5⟩; have hbw5 := hbw4.trans (hb5.mono hbw4.size)))
  go_ret3
  exact ⟨A4, c4, rfl, hs4.below hb5, hbw5⟩

theorem chIsWay_yes (z : Int) (h0 : 0 ≤ z) (h4 : z < 4) (w : World) : Calls Tryd.prog 48 #[.int .i64 z] w fun e w' => e = .returned (.bool true) ∧ w = w' := by
  have d0 : decide (0 ≤ z) = true := by rw [decide_eq_true_iff]; exact h0
  have d3 : decide (z < 4) = true := by rw [decide_eq_true_iff]; exact h4
  go_enter Tryd.func48, Tryd.ntmps48
  go_wp2_with fail
  go_ret
  exact ⟨rfl, rfl⟩
theorem chIsWay_no (z : Int) (h : z < 0 ∨ 4 ≤ z) (w : World) : Calls Tryd.prog 48 #[.int .i64 z] w fun e w' => e = .returned (.bool false) ∧ w = w' := by
  rcases h with h | h
  · have d0 : decide (0 ≤ z) = false := by rw [decide_eq_false_iff_not]; omega
    go_enter Tryd.func48, Tryd.ntmps48
    go_wp2_with fail
    go_ret
    exact ⟨rfl, rfl⟩
  · have d0 : decide (0 ≤ z) = true := by rw [decide_eq_true_iff]; omega
    have d3 : decide (z < 4) = false := by rw [decide_eq_false_iff_not]; omega
    go_enter Tryd.func48, Tryd.ntmps48
    go_wp2_with fail
    go_ret
    exact ⟨rfl, rfl⟩
theorem codec_yes (a b : Int) (a0 : 0 ≤ a) (a4 : a < 4) (b0 : 0 ≤ b) (b4 : b < 4) (w : World) : Calls Tryd.prog 27 #[.int .i64 a, .int .i64 b] w fun e w' => e = .returned (.int .i64 (4 * a + b)) ∧ w = w' := by
  go_enter Tryd.func27, Tryd.ntmps27
  go_wp2_with (first
    | (go_at_call 48; with_reducible refine (chIsWay_yes a a0 a4 _).mono ?_; rintro e w1 ⟨rfl, rfl⟩)
    | (go_at_call 48; with_reducible refine (chIsWay_yes b b0 b4 _).mono ?_; rintro e w1 ⟨rfl, rfl⟩))
  go_ret
  exact ⟨rfl, rfl⟩
theorem codec_no (a b : Int) (h : a < 0 ∨ 4 ≤ a ∨ b < 0 ∨ 4 ≤ b) (w : World) : Calls Tryd.prog 27 #[.int .i64 a, .int .i64 b] w fun e w' => e = .returned (.int .i64 (-1)) ∧ w = w' := by
  by_cases ha : a < 0 ∨ 4 ≤ a
  · have HA := Lib.hid ha
    clear ha h
    go_enter Tryd.func27, Tryd.ntmps27
    go_wp2_with (go_at_call 48; with_reducible refine (chIsWay_no a HA.out _).mono ?_; rintro e w1 ⟨rfl, rfl⟩)
    go_ret
    exact ⟨rfl, rfl⟩
  · have a0 : 0 ≤ a := by omega
    have a4 : a < 4 := by omega
    have hb : b < 0 ∨ 4 ≤ b := by omega
    have HB := Lib.hid hb
    clear ha h hb
    go_enter Tryd.func27, Tryd.ntmps27
    go_wp2_with (first
      | (go_at_call 48; with_reducible refine (chIsWay_no b HB.out _).mono ?_; rintro e w1 ⟨rfl, rfl⟩)
      | (go_at_call 48; with_reducible refine (chIsWay_yes a a0 a4 _).mono ?_; rintro e w1 ⟨rfl, rfl⟩))
    go_ret
    exact ⟨rfl, rfl⟩

set_option maxRecDepth 100000 in
theorem codes_any (w : World) : Calls Tryd.prog 25 #[] w fun e w' => e = .returned (.bool true) ∧ Below w.heap.size w w' := by
  have hb0 : Below w.heap.size w (w.alloc (.cells #[.int .i64 10, .int .u64 7, .int .i64 13, .int .u64 7] 58)) := (Below.refl _ _).alloc (Nat.le_refl _) _
  have hx0 : Smp (w.alloc (.cells #[.int .i64 10, .int .u64 7, .int .i64 13, .int .u64 7] 58)) (some ⟨w.heap.size, 0, none⟩) := ⟨w.heap.size, 0, rfl, by rw [World.cell?_alloc_new]; rfl, by rw [World.cell?_alloc_new]; rfl, by rw [World.cell?_alloc_new]; rfl, by rw [World.cell?_alloc_new]; rfl⟩
  go_enter Tryd.func25, Tryd.ntmps25
  go_wp2_with (go_at_call 23; with_reducible refine (encode_ex (some ⟨w.heap.size, 0, none⟩) 2 _ hx0 (by omega) (by unfold maxLen; omega)).mono ?_; rintro e w1 ⟨A1, c1, rfl, hx1, hc1, hm1, hb1⟩)
  have hb01 := hb0.trans (hb1.mono hb0.size)
  go_loud (with_reducible refine (decode_ex A1 c1 _ hx1 hc1 hm1).mono ?_)
  rintro e w2 ⟨A2, c2, rfl, hs2, hb2⟩
  obtain ⟨b2, o2, rfl, q0, q1, q2, q3⟩ := hs2
  have t1 := text_n A1 7 c1 [6, 0, 2, 20, 3, 2, 7] rfl (hx1.below hb2)
  go_wp2_with (go_at_call 27; refine (codec_yes 1 2 (by omega) (by omega) (by omega) (by omega) _).mono ?_; rintro e w3 ⟨rfl, rfl⟩)
  go_ret
  exact ⟨rfl, hb01.trans (hb2.mono hb01.size)⟩
end Go.Proofs.YtanljjpjhihgcaaDoor

namespace Go.Proofs.YtanljjpjhihgcaaDoor
open Go.RowKit
set_option linter.unusedVariables false

set_option maxRecDepth 100000 in
theorem chunkCodecs_walk (a : Int) (ha : (Lit.int .i64 a).wf = true) (b : Int) (hb : (Lit.int .i64 b).wf = true) {w : World} (ht : True) :
    Calls Tryd.prog 10 #[.int .i64 a, .int .i64 b] w fun e w' => e = .returned (.bool true) ∧ Below w.heap.size w w' := by
  have ba := bounds_i64 ha
  have bb := bounds_i64 hb
  clear ha hb
  by_cases h0 : a < 0
  · skip
    have d1 : decide (a < 0) = true := by rw [decide_eq_true_iff]; omega
    have HC := Lib.hid (show a < 0 ∨ 4 ≤ a ∨ b < 0 ∨ 4 ≤ b by omega)
    go_enter Tryd.func10, Tryd.ntmps10
    go_wp2_with (first
      | (go_at_call 27; with_reducible refine (codec_no a b HC.out _).mono ?_; rintro e w1 ⟨rfl, rfl⟩)
      | (go_at_call 25; refine (codes_any _).mono ?_; rintro e w2 ⟨rfl, hb2⟩))
    go_ret
    exact ⟨rfl, hb2⟩
  by_cases h1 : 3 < a
  · skip
    have d1 : decide (a < 0) = false := by rw [decide_eq_false_iff_not]; omega
    have d2 : decide (3 < a) = true := by rw [decide_eq_true_iff]; omega
    have HC := Lib.hid (show a < 0 ∨ 4 ≤ a ∨ b < 0 ∨ 4 ≤ b by omega)
    go_enter Tryd.func10, Tryd.ntmps10
    go_wp2_with (first
      | (go_at_call 27; with_reducible refine (codec_no a b HC.out _).mono ?_; rintro e w1 ⟨rfl, rfl⟩)
      | (go_at_call 25; refine (codes_any _).mono ?_; rintro e w2 ⟨rfl, hb2⟩))
    go_ret
    exact ⟨rfl, hb2⟩
  by_cases h2 : b < 0
  · skip
    have d1 : decide (a < 0) = false := by rw [decide_eq_false_iff_not]; omega
    have d2 : decide (3 < a) = false := by rw [decide_eq_false_iff_not]; omega
    have d3 : decide (b < 0) = true := by rw [decide_eq_true_iff]; omega
    have HC := Lib.hid (show a < 0 ∨ 4 ≤ a ∨ b < 0 ∨ 4 ≤ b by omega)
    go_enter Tryd.func10, Tryd.ntmps10
    go_wp2_with (first
      | (go_at_call 27; with_reducible refine (codec_no a b HC.out _).mono ?_; rintro e w1 ⟨rfl, rfl⟩)
      | (go_at_call 25; refine (codes_any _).mono ?_; rintro e w2 ⟨rfl, hb2⟩))
    go_ret
    exact ⟨rfl, hb2⟩
  by_cases h3 : 3 < b
  · skip
    have d1 : decide (a < 0) = false := by rw [decide_eq_false_iff_not]; omega
    have d2 : decide (3 < a) = false := by rw [decide_eq_false_iff_not]; omega
    have d3 : decide (b < 0) = false := by rw [decide_eq_false_iff_not]; omega
    have d4 : decide (3 < b) = true := by rw [decide_eq_true_iff]; omega
    have HC := Lib.hid (show a < 0 ∨ 4 ≤ a ∨ b < 0 ∨ 4 ≤ b by omega)
    go_enter Tryd.func10, Tryd.ntmps10
    go_wp2_with (first
      | (go_at_call 27; with_reducible refine (codec_no a b HC.out _).mono ?_; rintro e w1 ⟨rfl, rfl⟩)
      | (go_at_call 25; refine (codes_any _).mono ?_; rintro e w2 ⟨rfl, hb2⟩))
    go_ret
    exact ⟨rfl, hb2⟩
  have d1 : decide (a < 0) = false := by rw [decide_eq_false_iff_not]; omega
  have d2 : decide (3 < a) = false := by rw [decide_eq_false_iff_not]; omega
  have d3 : decide (b < 0) = false := by rw [decide_eq_false_iff_not]; omega
  have d4 : decide (3 < b) = false := by rw [decide_eq_false_iff_not]; omega
  go_enter Tryd.func10, Tryd.ntmps10
  go_wp2_with (first
    | (go_at_call 27; with_reducible refine (codec_yes a b (by omega) (by omega) (by omega) (by omega) _).mono ?_; rintro e w1 ⟨rfl, rfl⟩)
    | (go_at_call 25; refine (codes_any _).mono ?_; rintro e w2 ⟨rfl, hb2⟩))
  go_ret
  exact ⟨rfl, hb2⟩
end Go.Proofs.YtanljjpjhihgcaaDoor

namespace Go.Proofs.YtanljjpjhihgcaaDoor
open Go
set_option maxRecDepth 100000

abbrev laidBoth : List (String × DataW Unit) := [("math/bits.deBruijn64tab", Rows.laid_math_bits_deBruijn64tab), ("rick/times.kinds", Rows.laid_rick_times_kinds)]
theorem both_met (os : Os) (args : Array Value) : laidMetH Tryd.prog laidBoth ((World.doorLaid Tryd.prog 23 os).forCall (fun _ _ => 0) ⟨#[], args, []⟩).memory :=
  laidMetH_of_parts3 (fuel := 8) (laidMet_of_run' 8 (by kernel_rfl) (by kernel_rfl)) (by kernel_rfl) (by kernel_rfl)
theorem both_any {W : World} (h : laidMetH Tryd.prog laidBoth W) : True := True.intro
end Go.Proofs.YtanljjpjhihgcaaDoor
