/- The reference's Put of a page: its contract. -/
import Derived.Test.YtmmkmpjhmbocfaaPagePut
namespace Go.Proofs.Ytmmkmpjhmbocfaa
open Go.RowKit CrcM PageM
set_option linter.unusedVariables false

theorem refPut_err (p : Pg) (hp : ¬ okP p) (hc : bodyC p) (A : Option Addr) (c : Nat) (w : World) :
    Calls Try.prog 30 #[pageV p A c] w fun e w' => e = .returned (.tuple #[.slice none 0 0, .bool false]) ∧ Below w.heap.size w w' := by
  have hb : Below w.heap.size w (w.alloc (.cells #[.int .u8 (p.kind.toNat : Int), .int .i64 p.addr, .int .u64 (p.gen : Int), .slice A p.body.length c] 58)) := (Below.refl _ _).alloc (Nat.le_refl _) _
  obtain ⟨k, a, g, b⟩ := p
  unfold pageV
  unfold okP at hp
  unfold bodyC at hc
  dsimp only at hp hc hb ⊢
  obtain ⟨c1, c2, c3, c4⟩ := hc
  obtain ⟨n, hn⟩ : ∃ n, n = b.length := ⟨_, rfl⟩
  rw [← hn] at hp hb c2 ⊢
  clear hn
  by_cases h1 : isK k = true
  · by_cases h2 : a < 0
    · have d2 : decide (a < 0) = true := by simpa using h2
      go_enter Try.func30, Try.ntmps30
      go_wp2_with (go_at_call 58; refine (kind_any _ _).mono ?_; rintro e w' ⟨rfl, rfl⟩)
      go_ret2
      exact ⟨rfl, hb⟩
    · have d2 : decide (a < 0) = false := by simpa using h2
      by_cases h3 : 511 < a
      · have d3 : decide (511 < a) = true := by simpa using h3
        go_enter Try.func30, Try.ntmps30
        go_wp2_with (go_at_call 58; refine (kind_any _ _).mono ?_; rintro e w' ⟨rfl, rfl⟩)
        go_ret2
        exact ⟨rfl, hb⟩
      · have d3 : decide (511 < a) = false := by simpa using h3
        have h4 : (238 : Int) < (n : Int) := by
          rcases Nat.lt_or_ge 238 n with h | h
          · omega
          · exact absurd ⟨h1, by omega, by omega, h⟩ hp
        have d4 : decide ((238 : Int) < (n : Int)) = true := by simpa using h4
        go_enter Try.func30, Try.ntmps30
        go_wp2_with (go_at_call 58; refine (kind_any _ _).mono ?_; rintro e w' ⟨rfl, rfl⟩)
        go_ret2
        exact ⟨rfl, hb⟩
  · have h1 : isK k = false := by simpa using h1
    go_enter Try.func30, Try.ntmps30
    go_wp2_with (go_at_call 58; refine (kind_any _ _).mono ?_; rintro e w' ⟨rfl, rfl⟩)
    go_ret2
    exact ⟨rfl, hb⟩

/-- What stands while the reference lays a page: the page, the row that is laid. -/
structure RPutInv (w : World) (A : Option Addr) (c : Nat) (k : UInt8) (m g : Nat) (b : List UInt8) (W : World) (xs : List UInt8) : Prop where
  box_ : W.heap[w.heap.size]? = some (.cells #[.int .u8 (k.toNat : Int), .int .i64 (m : Int), .int .u64 (g : Int), .slice A b.length c] 58 (0, 0))
  own_ : OwnB W w.heap.size (w.heap.size + 1) 256 5 xs
  body_ : BytesAt W A b
  bel_ : Below w.heap.size w W
  big_ : w.heap.size + 2 ≤ W.heap.size

section
variable {w : World} {A : Option Addr} {c : Nat} {k : UInt8} {m g : Nat} {b : List UInt8} {W : World} {xs ys : List UInt8}
theorem RPutInv.below (h : RPutInv w A c k m g b W xs) {W2 : World} (hb : Below W.heap.size W W2) : RPutInv w A c k m g b W2 xs :=
  ⟨(hb.block _ (by have := h.big_; omega)).trans h.box_, h.own_.below hb h.own_.lt, h.body_.below hb, h.bel_.trans (hb.mono h.bel_.size), Nat.le_trans h.big_ hb.size⟩
theorem RPutInv.grown {W2 : World} (h : RPutInv w A c k m g b W xs) (hx : BytesAt w A b) (hg : W.grownBy W2 (some (w.heap.size + 1))) (ho : OwnB W2 w.heap.size (w.heap.size + 1) 256 5 ys) : RPutInv w A c k m g b W2 ys := by
  have hb : Below w.heap.size w W2 := h.bel_.grown hg h.bel_.size (fun k hk => by injection hk with hk; omega)
  exact ⟨(hg.block _ (by have := h.big_; omega) (by simp)).trans h.box_, ho, hx.below hb, hb, Nat.le_trans h.big_ hg.size⟩
theorem RPutInv.set (h : RPutInv w A c k m g b W xs) (hx : BytesAt w A b) (i : Nat) (hi : i < xs.length) (v : UInt8) : RPutInv w A c k m g b (W.setCell ⟨w.heap.size + 1, i, none⟩ (.int .u8 (v.toNat : Int))) (xs.set i v) :=
  h.grown hx ((World.grownBy.refl W _).setCell_row i _) (h.own_.stored i hi v)
theorem RPutInv.drew (h : RPutInv w A c k m g b W xs) : RPutInv w A c k m g b W.drew xs := ⟨h.box_, h.own_, h.body_, h.bel_.drew, h.big_⟩
theorem RPutInv.c0 (h : RPutInv w A c k m g b W xs) : W.cell? ⟨w.heap.size, 0, none⟩ = some (.int .u8 (k.toNat : Int)) := cell_of_row _ _ _ _ _ _ h.box_
theorem RPutInv.c1 (h : RPutInv w A c k m g b W xs) : W.cell? ⟨w.heap.size, 1, none⟩ = some (.int .i64 (m : Int)) := cell_of_row _ _ _ _ _ _ h.box_
theorem RPutInv.c2 (h : RPutInv w A c k m g b W xs) : W.cell? ⟨w.heap.size, 2, none⟩ = some (.int .u64 (g : Int)) := cell_of_row _ _ _ _ _ _ h.box_
theorem RPutInv.c3 (h : RPutInv w A c k m g b W xs) : W.cell? ⟨w.heap.size, 3, none⟩ = some (.slice A b.length c) := cell_of_row _ _ _ _ _ _ h.box_
end

theorem byte_val (n : Nat) : (n : Int) % 256 = ((UInt8.ofNat n).toNat : Int) := by rw [UInt8.toNat_ofNat']; simp
theorem byte_val8 (n : Nat) : (n : Int) / 256 % 256 = ((UInt8.ofNat (n / 256)).toNat : Int) := by rw [UInt8.toNat_ofNat']; simp

theorem fill_set (pre xs post : List UInt8) (j : Nat) (hj : j < xs.length) :
    (pre ++ xs.take j ++ List.replicate (xs.length - j) 0 ++ post).set (pre.length + j) (xs[j]) = pre ++ xs.take (j + 1) ++ List.replicate (xs.length - (j + 1)) 0 ++ post := by
  have h1 : List.replicate (xs.length - j) (0 : UInt8) = 0 :: List.replicate (xs.length - (j + 1)) 0 := by
    rw [show xs.length - j = (xs.length - (j + 1)) + 1 by omega, List.replicate_succ]
  rw [h1, List.take_succ_eq_append_getElem hj]
  have h2 : pre ++ xs.take j ++ (0 :: List.replicate (xs.length - (j + 1)) 0) ++ post = (pre ++ xs.take j) ++ (0 :: (List.replicate (xs.length - (j + 1)) 0 ++ post)) := by simp only [List.append_assoc, List.cons_append]
  rw [h2, List.set_append_right _ _ (by simp; omega)]
  have h3 : pre.length + j - (pre ++ xs.take j).length = 0 := by simp; omega
  rw [h3, List.set_cons_zero]
  simp only [List.append_assoc, List.cons_append, List.nil_append]

theorem be_get (L : Nat) : ∀ (n j : Nat) (h : j < (be n L).length), (be n L)[j] = UInt8.ofNat (n / 256 ^ (L - 1 - j)) := by
  induction L with
  | zero => intro n j h; simp [be] at h
  | succ L ih =>
    intro n j h
    cases j with
    | zero =>
      have : be n (L + 1) = UInt8.ofNat (n / 256 ^ L) :: be n L := be_cons L n
      simp [this]
    | succ j =>
      have e : be n (L + 1) = UInt8.ofNat (n / 256 ^ L) :: be n L := be_cons L n
      have h' : j < (be n L).length := by rw [length_be] at h ⊢; omega
      have : (be n (L + 1))[j + 1] = (be n L)[j] := by simp [e]
      rw [this, ih n j h']
      congr 2
      congr 1
      omega

theorem shr_byte (g j : Nat) (hj : j < 8) : (g : Int) / 2 ^ (56 - 8 * j) % 256 = ((UInt8.ofNat (g / 256 ^ (7 - j))).toNat : Int) := by
  rw [UInt8.toNat_ofNat']
  have : (256 : Nat) ^ (7 - j) = 2 ^ (56 - 8 * j) := by
    rw [show (256 : Nat) = 2 ^ 8 from rfl, ← Nat.pow_mul]
    congr 1
    omega
  rw [this]
  simp

theorem sum_b0 (n : Nat) : (n : Int) % 256 = ((UInt8.ofNat n).toNat : Int) := byte_val n
theorem sum_b1 (n : Nat) : (n : Int) / 256 % 256 = ((UInt8.ofNat (n / 256)).toNat : Int) := byte_val8 n
theorem sum_b2 (n : Nat) : (n : Int) / 65536 % 256 = ((UInt8.ofNat (n / 65536)).toNat : Int) := by rw [UInt8.toNat_ofNat']; simp
theorem sum_b3 (n : Nat) : (n : Int) / 16777216 % 256 = ((UInt8.ofNat (n / 16777216)).toNat : Int) := by rw [UInt8.toNat_ofNat']; simp

set_option maxHeartbeats 1000000 in
set_option maxRecDepth 100000 in
theorem refPut_ok (k : UInt8) (m g : Nat) (b : List UInt8) (hk : isK k = true) (hm : m < 512) (hg : g < 18446744073709551616) (hb : b.length ≤ 238) (A : Option Addr) (c : Nat) (w : World) (hx : BytesAt w A b) (hbc : b.length ≤ c) :
    Calls Try.prog 30 #[.agg #[.int .u8 (k.toNat : Int), .int .i64 (m : Int), .int .u64 (g : Int), .slice A b.length c]] w fun e w' => e = .returned (.tuple #[.slice (some ⟨w.heap.size + 1, 0, none⟩) 256 256, .bool true]) ∧ OwnB w' w.heap.size (w.heap.size + 1) 256 5 (putP ⟨k, m, g, b⟩) ∧ Below w.heap.size w w' := by
  have d2 : decide ((m : Int) < 0) = false := by simp
  have d3 : decide (511 < (m : Int)) = false := by simp; omega
  have d4 : decide ((238 : Int) < (b.length : Int)) = false := by simp; omega
  obtain ⟨Z, hZ⟩ : ∃ Z, Z = madeCells #[Value.int .u8 0] 256 := ⟨_, rfl⟩
  have hmk : ∀ W : World, (Instr.makeSlice 27 (.int .i64 256) (.int .i64 256)).run Try.prog W = .ok (.slice (some ⟨W.heap.size, 0, none⟩) 256 256) (W.alloc (.cells Z 5)) := fun W => by rw [hZ]; exact run_make_row' (P := Try.prog) 27 5 (.int .u8 0) 1 Try.underlying27 info5 rfl .i64 .i64 256 (by omega) (by omega) W
  have hZ2 := hZ.trans (made_zeros 256)
  have HZ := Lib.hid hZ2
  clear hZ hZ2
  go_enter Try.func30, Try.ntmps30
  go_wp2_with (go_at_call 58; refine (kind_any _ _).mono ?_; rintro e w' ⟨rfl, rfl⟩)
  generalize eW : World.alloc (World.alloc w _) _ = W
  have inv : RPutInv w A c k m g b W (List.replicate 256 0) := by
    have hbel : Below w.heap.size w W := by
      rw [← eW]
      exact ((Below.refl _ _).alloc (Nat.le_refl _) _).alloc (by simp) _
    refine ⟨?_, ?_, hx.below hbel, hbel, by rw [← eW]; simp⟩
    · rw [← eW]
      exact heap_alloc2_old w _ _
    · have hnew := OwnB.new (w.alloc (.cells #[.int .u8 (k.toNat : Int), .int .i64 (m : Int), .int .u64 (g : Int), .slice A b.length c] 58)) 5 (List.replicate 256 0) w.heap.size (by simp) (by simp [maxLen])
      rw [HZ.out] at eW
      rw [eW] at hnew
      simpa using hnew
  clear eW hmk d2 d3 d4
  have f0 := inv.c0
  have f1 := inv.c1
  have s0 := inv.own_.cellAt 0 (by simp)
  have s2 := inv.own_.cellAt 2 (by simp)
  have s3 := inv.own_.cellAt 3 (by simp)
  have z0 := inv.own_.frozenAt 0
  have z2 := inv.own_.frozenAt 2
  have z3 := inv.own_.frozenAt 3
  have INV := Lib.hid inv
  clear inv
  go_region
  have hm2 : ((m : Int) / 256) = ((UInt8.ofNat (m / 256)).toNat : Int) := by rw [UInt8.toNat_ofNat']; omega
  have inv1 := (((INV.out.set hx 0 (by simp) k).set hx 2 (by simp) (UInt8.ofNat (m / 256))).set hx 3 (by simp) (UInt8.ofNat m)).drew
  rw [← hm2, ← byte_val m] at inv1
  have el : (((List.replicate 256 (0 : UInt8)).set 0 k).set 2 (UInt8.ofNat (m / 256))).set 3 (UInt8.ofNat m) = ([k, 0] ++ be m 2) ++ (be g 8).take 0 ++ List.replicate ((be g 8).length - 0) 0 ++ List.replicate 244 0 := by
    simp only [List.take_zero, List.append_nil, length_be]
    rfl
  rw [el] at inv1
  have INV1 := Lib.hid inv1
  clear inv1 el hm2 f0 f1 s0 s2 s3 z0 z2 z3
  go_wp2_with fail
  go_loopw [5] (fun i wr => ∃ j : Nat, j ≤ 8 ∧ i = .int .i64 j ∧ Hid (RPutInv w A c k m g b wr (([k, 0] ++ be m 2) ++ (be g 8).take j ++ List.replicate ((be g 8).length - j) 0 ++ List.replicate 244 0))) (fun i _ => 8 - (intOf i).toNat)
  case atStart => exact ⟨0, by omega, rfl, INV1⟩
  case round =>
    obtain ⟨j, hj, rfl, hr⟩ := hrel
    clear INV1 INV
    by_cases hlt : j < 8
    · have hq : 4 + j < (([k, 0] ++ be m 2) ++ (be g 8).take j ++ List.replicate ((be g 8).length - j) 0 ++ List.replicate 244 0).length := by simp [length_be]; omega
      have f2 := hr.out.c2
      have hcell := hr.out.own_.cellAt (4 + j) hq
      have hfr := hr.out.own_.frozenAt (4 + j)
      go_wp2_with fail
      go_roundw
      case rel =>
        have hj8 : j < (be g 8).length := by rw [length_be]; exact hlt
        have h1 := hr.out.set hx (4 + j) hq ((be g 8)[j])
        have h2 := fill_set ([k, 0] ++ be m 2) (be g 8) (List.replicate 244 0) j hj8
        rw [show ([k, 0] ++ be m 2).length = 4 by simp [length_be]] at h2
        rw [h2, be_get 8 g j hj8, ← shr_byte g j hlt] at h1
        exact ⟨j + 1, by omega, by go_num, h1⟩
      case measure => simp [intOf]; omega
    · obtain rfl : j = 8 := by omega
      have h8 : ([k, 0] ++ be m 2) ++ (be g 8).take 8 ++ List.replicate ((be g 8).length - 8) 0 ++ List.replicate 244 0 = ([k, 0] ++ be m 2 ++ be g 8) ++ List.replicate 244 0 := by
        rw [List.take_of_length_le (by rw [length_be]; omega), length_be]
        simp
      rw [h8] at hr
      have HR := Lib.hid hr.out
      clear h8 hr
      go_wp2_with fail
      have f3 := HR.out.c3
      have s12 := HR.out.own_.cellAt 12 (by simp [length_be])
      have s13 := HR.out.own_.cellAt 13 (by simp [length_be])
      have z12 := HR.out.own_.frozenAt 12
      have z13 := HR.out.own_.frozenAt 13
      go_region
      have hl1 : ((b.length : Int) / 256) = ((UInt8.ofNat (b.length / 256)).toNat : Int) := by rw [UInt8.toNat_ofNat']; omega
      have hl2 : (b.length : Int) = ((UInt8.ofNat b.length).toNat : Int) := by rw [UInt8.toNat_ofNat']; omega
      have inv2 := ((HR.out.set hx 12 (by simp [length_be]) (UInt8.ofNat (b.length / 256))).set hx 13 (by simp [length_be]) (UInt8.ofNat b.length)).drew
      rw [← hl1, ← hl2] at inv2
      have el : ((([k, 0] ++ be m 2 ++ be g 8) ++ List.replicate 244 0).set 12 (UInt8.ofNat (b.length / 256))).set 13 (UInt8.ofNat b.length) = ([k, 0] ++ be m 2 ++ be g 8 ++ be b.length 2) ++ b.take 0 ++ List.replicate (b.length - 0) 0 ++ List.replicate (242 - b.length) 0 := by
        rw [List.set_append_right _ _ (by simp [length_be]), List.set_append_right _ _ (by simp [length_be])]
        have e1 : 12 - ([k, 0] ++ be m 2 ++ be g 8).length = 0 := by simp [length_be]
        have e2 : 13 - ([k, 0] ++ be m 2 ++ be g 8).length = 1 := by simp [length_be]
        rw [e1, e2]
        have e3 : List.replicate (b.length - 0) (0 : UInt8) ++ List.replicate (242 - b.length) 0 = List.replicate 242 0 := by rw [List.replicate_append_replicate]; congr 1; omega
        simp only [List.append_assoc, List.take_zero, List.nil_append]
        rw [e3]
        rfl
      rw [el] at inv2
      have INV2 := Lib.hid inv2
      clear inv2 el hl1 hl2 f3 s12 s13 z12 z13
      go_wp2_with fail
      go_loopw [6] (fun i wr2 => ∃ j : Nat, j ≤ b.length ∧ i = .int .i64 j ∧ Hid (RPutInv w A c k m g b wr2 (([k, 0] ++ be m 2 ++ be g 8 ++ be b.length 2) ++ b.take j ++ List.replicate (b.length - j) 0 ++ List.replicate (242 - b.length) 0))) (fun i _ => b.length - (intOf i).toNat)
      case atStart => exact ⟨0, by omega, rfl, INV2⟩
      case round =>
        obtain ⟨j, hj, rfl, hr⟩ := hrel
        clear INV2 HR
        have f3 := hr.out.c3
        by_cases hlt : j < b.length
        · have hq : 14 + j < (([k, 0] ++ be m 2 ++ be g 8 ++ be b.length 2) ++ b.take j ++ List.replicate (b.length - j) 0 ++ List.replicate (242 - b.length) 0).length := by simp [length_be]; omega
          have hcell := hr.out.own_.cellAt (14 + j) hq
          have hfr := hr.out.own_.frozenAt (14 + j)
          obtain ⟨bb, off, hA, hcb⟩ := hr.out.body_ (by intro h; subst h; simp at hlt)
          subst hA
          have hck := hcb j hlt
          clear hcb
          go_wp2_with fail
          go_roundw
          case rel =>
            have h1 := hr.out.set hx (14 + j) hq (b[j])
            have h2 := fill_set ([k, 0] ++ be m 2 ++ be g 8 ++ be b.length 2) b (List.replicate (242 - b.length) 0) j hlt
            rw [show ([k, 0] ++ be m 2 ++ be g 8 ++ be b.length 2).length = 14 by simp [length_be]] at h2
            rw [h2] at h1
            exact ⟨j + 1, by omega, by go_num, h1⟩
          case measure => simp [intOf]; omega
        · obtain rfl : j = b.length := by omega
          have hh : headP ⟨k, m, g, b⟩ ++ List.replicate 4 0 = ([k, 0] ++ be m 2 ++ be g 8 ++ be b.length 2) ++ b.take b.length ++ List.replicate (b.length - b.length) 0 ++ List.replicate (242 - b.length) 0 := by
            have e1 : List.replicate (242 - b.length) (0 : UInt8) = List.replicate (238 - b.length) 0 ++ List.replicate 4 0 := by
              rw [List.replicate_append_replicate]
              congr 1
              omega
            rw [e1, List.take_length, Nat.sub_self]
            simp only [headP, Int.toNat_natCast, List.append_assoc, List.replicate_zero, List.nil_append]
          have hl := length_headP ⟨k, m, g, b⟩ hb
          obtain ⟨H, hH⟩ : ∃ H, H = headP ⟨k, m, g, b⟩ := ⟨_, rfl⟩
          rw [← hH] at hh hl
          rw [← hh] at hr
          have HR2 := Lib.hid hr.out
          have HH := Lib.hid hH
          have HL := Lib.hid hl
          have tb : BytesAt wr (some ⟨w.heap.size + 1, 0, none⟩) H := by
            have := hr.out.own_.bytes.take 252
            rwa [List.take_left' HL.out] at this
          clear hH hh hl hr
          go_wp2_with (go_at_call 59; refine (ref_len _ _ _ H _ HL.out tb (by omega)).mono ?_; rintro e W3 ⟨rfl, hb3⟩; have INV3 := HR2.out.below hb3; have s0 := INV3.own_.cellAt 252 (by rw [List.length_append, HL.out]; simp); have s1 := INV3.own_.cellAt 253 (by rw [List.length_append, HL.out]; simp); have s2 := INV3.own_.cellAt 254 (by rw [List.length_append, HL.out]; simp); have s3 := INV3.own_.cellAt 255 (by rw [List.length_append, HL.out]; simp); have z0 := INV3.own_.frozenAt 252; have z1 := INV3.own_.frozenAt 253; have z2 := INV3.own_.frozenAt 254; have z3 := INV3.own_.frozenAt 255)
          go_ret2
          have i4 := (((INV3.set hx 252 (by rw [List.length_append, HL.out]; simp) (UInt8.ofNat (sumN H))).set hx 253 (by simp [HL.out]) (UInt8.ofNat (sumN H / 256))).set hx 254 (by simp [HL.out]) (UInt8.ofNat (sumN H / 65536))).set hx 255 (by simp [HL.out]) (UInt8.ofNat (sumN H / 16777216))
          have el : ((((H ++ List.replicate 4 0).set 252 (UInt8.ofNat (sumN H))).set 253 (UInt8.ofNat (sumN H / 256))).set 254 (UInt8.ofNat (sumN H / 65536))).set 255 (UInt8.ofNat (sumN H / 16777216)) = putP ⟨k, m, g, b⟩ := by
            rw [List.set_append_right _ _ (by rw [HL.out]; omega), List.set_append_right _ _ (by rw [HL.out]; omega), List.set_append_right _ _ (by rw [HL.out]; omega), List.set_append_right _ _ (by rw [HL.out]; omega), HL.out]
            unfold putP
            rw [← HH.out]
            congr 1
            simp [le, List.replicate_succ]
          rw [el, ← sum_b0, ← sum_b1, ← sum_b2, ← sum_b3] at i4
          exact ⟨rfl, i4.own_, i4.bel_⟩
end Go.Proofs.Ytmmkmpjhmbocfaa
