/- The call Put of package page: its contract. -/
import Derived.Test.YtmmkmpjhmbocfaaPage2
import Derived.Test.YtmmkmpjhmbocfaaCopy
namespace Go.Proofs.Ytmmkmpjhmbocfaa
open Go.RowKit CrcM PageM
set_option linter.unusedVariables false

/-- A page as a value, its body over A. -/
def pageV (p : Pg) (A : Option Addr) (c : Nat) : Value := .agg #[.int .u8 (p.kind.toNat : Int), .int .i64 p.addr, .int .u64 (p.gen : Int), .slice A p.body.length c]

def bodyC (p : Pg) : Prop := p.gen < 18446744073709551616 ∧ p.body.length ≤ 9223372036854775807 ∧ -9223372036854775808 ≤ p.addr ∧ p.addr ≤ 9223372036854775807

theorem put_err (p : Pg) (hp : ¬ okP p) (hc : bodyC p) (A : Option Addr) (c : Nat) (w : World) :
    Calls Try.prog 61 #[.agg tab, pageV p A c] w fun e w' => e = .returned (.tuple #[.slice none 0 0, .int .i64 1]) ∧ Below w.heap.size w w' := by
  have hb : Below w.heap.size w ((w.alloc (.cells tab 61)).alloc (.cells #[.int .u8 (p.kind.toNat : Int), .int .i64 p.addr, .int .u64 (p.gen : Int), .slice A p.body.length c] 66)) := ((Below.refl _ _).alloc (Nat.le_refl _) _).alloc (by simp) _
  obtain ⟨k, a, g, b⟩ := p
  unfold pageV
  unfold okP at hp
  unfold bodyC at hc
  dsimp only at hp hc hb ⊢
  obtain ⟨c1, c2, c3, c4⟩ := hc
  obtain ⟨n, hn⟩ : ∃ n, n = b.length := ⟨_, rfl⟩
  rw [← hn] at hp hb c2 ⊢
  clear hn
  by_cases h1 : isK k = true
  · by_cases h2 : a < 0
    · have d2 : decide (a < 0) = true := by simpa using h2
      go_enter Try.func61, Try.ntmps61
      go_wp2_with (go_at_call 69; refine (isKind_any _ _).mono ?_; rintro e w' ⟨rfl, rfl⟩)
      go_ret2
      exact ⟨rfl, hb⟩
    · have d2 : decide (a < 0) = false := by simpa using h2
      by_cases h3 : 512 ≤ a
      · have d3 : decide (512 ≤ a) = true := by simpa using h3
        go_enter Try.func61, Try.ntmps61
        go_wp2_with (go_at_call 69; refine (isKind_any _ _).mono ?_; rintro e w' ⟨rfl, rfl⟩)
        go_ret2
        exact ⟨rfl, hb⟩
      · have d3 : decide (512 ≤ a) = false := by simpa using h3
        have h4 : (238 : Int) < (n : Int) := by
          rcases Nat.lt_or_ge 238 n with h | h
          · omega
          · exact absurd ⟨h1, by omega, by omega, h⟩ hp
        have d4 : decide ((238 : Int) < (n : Int)) = true := by simpa using h4
        go_enter Try.func61, Try.ntmps61
        go_wp2_with (go_at_call 69; refine (isKind_any _ _).mono ?_; rintro e w' ⟨rfl, rfl⟩)
        go_ret2
        exact ⟨rfl, hb⟩
  · have h1 : isK k = false := by simpa using h1
    go_enter Try.func61, Try.ntmps61
    go_wp2_with (go_at_call 69; refine (isKind_any _ _).mono ?_; rintro e w' ⟨rfl, rfl⟩)
    go_ret2
    exact ⟨rfl, hb⟩

theorem made_zeros (n : Nat) : madeCells #[Value.int .u8 0] n = ((List.replicate n (0 : UInt8)).map bv).toArray := by
  have := toList_madeCells_one (Value.int .u8 0) n
  rw [List.map_replicate, show bv 0 = Value.int .u8 0 from rfl, ← this]

theorem set_map (xs : List UInt8) (i : Nat) (c : UInt8) : ((xs.map bv).toArray).setIfInBounds i (.int .u8 (c.toNat : Int)) = ((xs.set i c).map bv).toArray := by
  rw [List.setIfInBounds_toArray, List.map_set]
  rfl

theorem isK_lt (k : UInt8) : (k.toNat : Int) < 256 := by have := k.toNat_lt; omega

/-- What stands while a page is laid: the table, the page, the row that is laid. -/
structure PutInv (w : World) (A : Option Addr) (c : Nat) (k : UInt8) (m g : Nat) (b : List UInt8) (W : World) (xs : List UInt8) : Prop where
  tab_ : W.heap[w.heap.size]? = some (.cells tab 61 (0, 0))
  box_ : W.heap[w.heap.size + 1]? = some (.cells #[.int .u8 (k.toNat : Int), .int .i64 (m : Int), .int .u64 (g : Int), .slice A b.length c] 66 (0, 0))
  own_ : OwnB W w.heap.size (w.heap.size + 1 + 1) 256 5 xs
  body_ : BytesAt W A b
  bel_ : Below w.heap.size w W
  big_ : w.heap.size + 3 ≤ W.heap.size

section
variable {w : World} {A : Option Addr} {c : Nat} {k : UInt8} {m g : Nat} {b : List UInt8} {W : World} {xs ys : List UInt8}
theorem PutInv.sub (h : PutInv w A c k m g b W xs) (y : SubW W.heap.size W) : PutInv w A c k m g b y.at_ xs :=
  ⟨(y.ok_.block _ (by have := h.big_; omega)).trans h.tab_, (y.ok_.block _ (by have := h.big_; omega)).trans h.box_, h.own_.below y.ok_ h.own_.lt, h.body_.below y.ok_, h.bel_.trans (y.ok_.mono h.bel_.size), Nat.le_trans h.big_ y.ok_.size⟩
theorem PutInv.grown {W2 : World} (h : PutInv w A c k m g b W xs) (hx : BytesAt w A b) (hg : W.grownBy W2 (some (w.heap.size + 1 + 1))) (ho : OwnB W2 w.heap.size (w.heap.size + 1 + 1) 256 5 ys) : PutInv w A c k m g b W2 ys := by
  have hb : Below w.heap.size w W2 := h.bel_.grown hg h.bel_.size (fun k hk => by injection hk with hk; omega)
  exact ⟨(hg.block _ (by have := h.big_; omega) (by simp; omega)).trans h.tab_, (hg.block _ (by have := h.big_; omega) (by simp)).trans h.box_, ho, hx.below hb, hb, Nat.le_trans h.big_ hg.size⟩
theorem PutInv.c0 (h : PutInv w A c k m g b W xs) : W.cell? ⟨w.heap.size + 1, 0, none⟩ = some (.int .u8 (k.toNat : Int)) := cell_of_row _ _ _ _ _ _ h.box_
theorem PutInv.c1 (h : PutInv w A c k m g b W xs) : W.cell? ⟨w.heap.size + 1, 1, none⟩ = some (.int .i64 (m : Int)) := cell_of_row _ _ _ _ _ _ h.box_
theorem PutInv.c2 (h : PutInv w A c k m g b W xs) : W.cell? ⟨w.heap.size + 1, 2, none⟩ = some (.int .u64 (g : Int)) := cell_of_row _ _ _ _ _ _ h.box_
theorem PutInv.c3 (h : PutInv w A c k m g b W xs) : W.cell? ⟨w.heap.size + 1, 3, none⟩ = some (.slice A b.length c) := cell_of_row _ _ _ _ _ _ h.box_
end

theorem zeros_first (n : Nat) : (((List.replicate (n + 1) (0 : UInt8)).map bv).toArray)[0]? = some (.int .u8 0) := by
  simp [List.replicate_succ, bv]

set_option maxHeartbeats 800000 in
set_option maxRecDepth 100000 in
theorem put_ok (k : UInt8) (m g : Nat) (b : List UInt8) (hk : isK k = true) (hm : m < 512) (hg : g < 18446744073709551616) (hb : b.length ≤ 238) (A : Option Addr) (c : Nat) (w : World) (hx : BytesAt w A b) (hbc : b.length ≤ c) :
    Calls Try.prog 61 #[.agg tab, .agg #[.int .u8 (k.toNat : Int), .int .i64 (m : Int), .int .u64 (g : Int), .slice A b.length c]] w fun e w' => e = .returned (.tuple #[.slice (some ⟨w.heap.size + 1 + 1, 0, none⟩) 256 256, .int .i64 0]) ∧ OwnB w' w.heap.size (w.heap.size + 1 + 1) 256 5 (putP ⟨k, m, g, b⟩) ∧ Below w.heap.size w w' := by
  have d2 : decide ((m : Int) < 0) = false := by simp
  have d3 : decide (512 ≤ (m : Int)) = false := by simp; omega
  have d4 : decide ((238 : Int) < (b.length : Int)) = false := by simp; omega
  obtain ⟨Z, hZ⟩ : ∃ Z, Z = madeCells #[Value.int .u8 0] 256 := ⟨_, rfl⟩
  have hmk : ∀ W : World, (Instr.makeSlice 27 (.int .i64 256) (.int .i64 256)).run Try.prog W = .ok (.slice (some ⟨W.heap.size, 0, none⟩) 256 256) (W.alloc (.cells Z 5)) := fun W => by rw [hZ]; exact run_make_row' (P := Try.prog) 27 5 (.int .u8 0) 1 Try.underlying27 info5 rfl .i64 .i64 256 (by omega) (by omega) W
  have hZ2 := hZ.trans (made_zeros 256)
  have hz0 : Z[0]? = some (.int .u8 0) := by rw [hZ2]; exact zeros_first 255
  have HZ := Lib.hid hZ2
  clear hZ hZ2
  go_enter Try.func61, Try.ntmps61
  go_wp2_with (go_at_call 69; refine (isKind_any _ _).mono ?_; rintro e w' ⟨rfl, rfl⟩)
  generalize eW : World.alloc (World.alloc (World.alloc w _) _) _ = W
  have inv : PutInv w A c k m g b W (k :: List.replicate 255 0) := by
    have hbel : Below w.heap.size w W := by
      rw [← eW]
      exact (((Below.refl _ _).alloc (Nat.le_refl _) _).alloc (by simp) _).alloc (by simp; omega) _
    refine ⟨?_, ?_, ?_, hx.below hbel, hbel, by rw [← eW]; simp⟩
    · rw [← eW]
      exact (Below.heap_alloc _ _ _ (by simp; omega)).trans (heap_alloc2_old w _ _)
    · rw [← eW]
      exact (Below.heap_alloc _ _ _ (by simp)).trans (heap_alloc2_new w _ _)
    · have e1 : Z.setIfInBounds 0 (.int .u8 (k.toNat : Int)) = ((k :: List.replicate 255 0).map bv).toArray := by
        rw [HZ.out, set_map]
        rfl
      have hnew := OwnB.new ((w.alloc (.cells tab 61)).alloc (.cells #[.int .u8 (k.toNat : Int), .int .i64 (m : Int), .int .u64 (g : Int), .slice A b.length c] 66)) 5 (k :: List.replicate 255 0) w.heap.size (by simp; omega) (by simp [maxLen])
      rw [e1] at eW
      rw [eW] at hnew
      simpa using hnew
  clear eW hz0
  have INV := Lib.hid inv
  clear inv hmk d2 d3 d4
  have f1 := fun y : SubW W.heap.size W => (INV.out.sub y).c1
  refine region_below_tail 5 W.heap.size W (Below.refl _ _) (by kernel_rfl) (by kernel_rfl) ?_
  simp only [List.take_succ_cons, List.take_zero, List.drop_succ_cons, List.drop_zero]
  repeat (go_big_quiet_step (fail))
  refine wpQuiet_nil ?_
  rintro w' ⟨y, rfl⟩
  clear f1
  go_wp2_with (go_at_call 70; refine (putHigh_any (w.heap.size + 1 + 1) 2 w.heap.size 256 [k, 0] [0, 0] (List.replicate 252 0) 254 m (by omega) _ rfl (INV.out.sub y).own_ (by simp) (by simp)).mono ?_; rintro e W1 ⟨rfl, ho1, hg1⟩)
  have INV1 := Lib.hid ((INV.out.sub y).grown hx hg1 ho1)
  clear ho1 hg1 INV y
  have f2 := fun y : SubW W1.heap.size W1 => (INV1.out.sub y).c2
  refine region_below_tail 4 W1.heap.size W1 (Below.refl _ _) (by kernel_rfl) (by kernel_rfl) ?_
  simp only [List.take_succ_cons, List.take_zero, List.drop_succ_cons, List.drop_zero]
  repeat (go_big_quiet_step (fail))
  refine wpQuiet_nil ?_
  rintro w' ⟨y, rfl⟩
  clear f2
  go_wp2_with (go_at_call 70; refine (putHigh_any (w.heap.size + 1 + 1) 4 w.heap.size 256 ([k, 0] ++ be m 2) (List.replicate 8 0) (List.replicate 244 0) 252 g hg _ (by simp [length_be]) (by have := (INV1.out.sub y).own_; simpa using this) (by simp) (by simp [length_be])).mono ?_; rintro e W2 ⟨rfl, ho2, hg2⟩)
  have INV2 := Lib.hid ((INV1.out.sub y).grown hx hg2 ho2)
  clear ho2 hg2 INV1 y
  have f3 := fun y : SubW W2.heap.size W2 => (INV2.out.sub y).c3
  refine region_below_tail 6 W2.heap.size W2 (Below.refl _ _) (by kernel_rfl) (by kernel_rfl) ?_
  simp only [List.take_succ_cons, List.take_zero, List.drop_succ_cons, List.drop_zero]
  repeat (go_big_quiet_step (fail))
  refine wpQuiet_nil ?_
  rintro w' ⟨y, rfl⟩
  clear f3
  go_wp2_with (go_at_call 70; refine (putHigh_any (w.heap.size + 1 + 1) 12 w.heap.size 256 ([k, 0] ++ be m 2 ++ be g 8) (List.replicate 2 0) (List.replicate 242 0) 244 b.length (by omega) _ (by simp [length_be]) (by have := (INV2.out.sub y).own_; simpa using this) (by simp) (by simp [length_be])).mono ?_; rintro e W3 ⟨rfl, ho3, hg3⟩)
  have INV3 := Lib.hid ((INV2.out.sub y).grown hx hg3 ho3)
  clear ho3 hg3 INV2 y
  have f4 := fun y : SubW W3.heap.size W3 => (INV3.out.sub y).c3
  refine region_below_tail 4 W3.heap.size W3 (Below.refl _ _) (by kernel_rfl) (by kernel_rfl) ?_
  simp only [List.take_succ_cons, List.take_zero, List.drop_succ_cons, List.drop_zero]
  repeat (go_big_quiet_step (fail))
  refine wpQuiet_nil ?_
  rintro w' ⟨y, rfl⟩
  clear f4
  go_wp2_with (with_reducible refine wpList_copy_bytes rfl (.tmp 51) (.tmp 53) 27 27 rfl 5 Try.underlying27 (by kernel_rfl) w.heap.size (w.heap.size + 1 + 1) 256 14 242 242 A b.length c ([k, 0] ++ be m 2 ++ be g 8 ++ be b.length 2) (List.replicate 242 0) b rfl rfl (by simp [length_be]) (by have := (INV3.out.sub y).own_; simpa using this) (INV3.out.sub y).body_ rfl (by omega) (by simp; omega) ?_; intro W4 ho4 hg4)
  have INV4 := Lib.hid ((INV3.out.sub y).grown hx hg4 ho4)
  simp only [Act.put, List.setIfInBounds_toArray, List.set_cons_zero, List.set_cons_succ]
  clear ho4 hg4 INV3 y
  have hh : headP ⟨k, m, g, b⟩ ++ List.replicate 4 0 = [k, 0] ++ be m 2 ++ be g 8 ++ be b.length 2 ++ b ++ (List.replicate 242 0).drop b.length := by
    have e1 : (List.replicate 242 (0 : UInt8)).drop b.length = List.replicate (238 - b.length) 0 ++ List.replicate 4 0 := by
      rw [List.drop_replicate, List.replicate_append_replicate]
      congr 1
      omega
    rw [e1]
    simp only [headP, Int.toNat_natCast, List.append_assoc]
  have hl := length_headP ⟨k, m, g, b⟩ hb
  obtain ⟨H, hH⟩ : ∃ H, H = headP ⟨k, m, g, b⟩ := ⟨_, rfl⟩
  rw [← hH] at hh hl
  rw [← hh] at INV4
  have HH := Lib.hid hH
  have HL := Lib.hid hl
  clear hH hh hl
  have TG : Hid (∀ y : SubW W4.heap.size W4, y.at_.heap[w.heap.size]? = some (.cells tab 61 (0, 0))) := fun y => (INV4.out.sub y).tab_
  have TB : Hid (∀ y : SubW W4.heap.size W4, BytesAt y.at_ (some ⟨w.heap.size + 1 + 1, 0, none⟩) H) := fun y => by
    have := (INV4.out.sub y).own_.bytes.take 252
    rwa [List.take_left' HL.out] at this
  refine region_below_tail 6 W4.heap.size W4 (Below.refl _ _) (by kernel_rfl) (by kernel_rfl) ?_
  simp only [List.take_succ_cons, List.take_zero, List.drop_succ_cons, List.drop_zero]
  repeat (first
    | (go_big_quiet_want; refine quiet_load_row 61 (.tmp 2) rfl w.heap.size rfl 61 tab (0, 0) _ TG.out Try.underlying61 rfl (by rw [size_tab]; exact info64) ?_; simp only [Act.put, List.setIfInBounds_toArray, List.set_cons_zero, List.set_cons_succ]; go_big_quiet_on)
    | go_big_quiet_step ((go_at_call 72; exact calls_sub (Nat.le_refl _) (sum_len _ _ _ H _ HL.out (TB.out _) (by omega)))))
  refine wpQuiet_nil ?_
  rintro w' ⟨y, rfl⟩
  go_wp2_with (go_at_call 71; refine (putLow_any (w.heap.size + 1 + 1) 252 w.heap.size 256 H (List.replicate 4 0) [] 4 (sumN H) (sumN_lt _) _ HL.out.symm (by have := (INV4.out.sub y).own_; simpa using this) (by simp) (by rw [HL.out]; omega)).mono ?_; rintro e W5 ⟨rfl, ho5, hg5⟩)
  have INV5 := (INV4.out.sub y).grown hx hg5 ho5
  go_ret2
  refine ⟨rfl, ?_, INV5.bel_⟩
  have := INV5.own_
  unfold putP
  rw [← HH.out]
  simpa using this
end Go.Proofs.Ytmmkmpjhmbocfaa
