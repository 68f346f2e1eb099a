/- Taking a change of whatever bits. -/
import Derived.Test.YtanljjpjhihgcaaDoorXoRef
import Derived.Test.YtanljjpjhihgcaaDoorPkGet
namespace BitM
open Go.Proofs.YtanljjpjhihgcaaDoor
/-- The bits of one state are the first ones of the other. -/
def Ext (s F : Nat × Nat) : Prop := s.1 ≤ F.1 ∧ F.2 / 2 ^ (F.1 - s.1) = s.2
theorem Ext.refl (s : Nat × Nat) : Ext s s := ⟨Nat.le_refl _, by rw [Nat.sub_self, Nat.pow_zero, Nat.div_one]⟩
theorem Ext.trans {a b c : Nat × Nat} (h : Ext a b) (k : Ext b c) : Ext a c := by
  refine ⟨Nat.le_trans h.1 k.1, ?_⟩
  have h1 := h.1
  have h2 := k.1
  rw [← h.2, ← k.2, Nat.div_div_eq_div_mul, ← Nat.pow_add]
  congr 2
  omega
theorem ext_stp (s : Nat × Nat) (q : Nat × Int) : Ext s (stp s q) := by
  refine ⟨Nat.le_add_right _ _, ?_⟩
  show (s.2 * 2 ^ wi q.2 + q.1 % 2 ^ wi q.2) / 2 ^ (s.1 + wi q.2 - s.1) = s.2
  have hp : 0 < 2 ^ wi q.2 := Nat.pow_pos (by omega)
  rw [Nat.add_sub_cancel_left, Nat.mul_comm, Nat.mul_add_div hp, Nat.div_eq_of_lt (Nat.mod_lt _ hp), Nat.add_zero]
theorem ext_foldl : ∀ (ps : List (Nat × Int)) (s : Nat × Nat), Ext s (ps.foldl stp s)
  | [], s => Ext.refl s
  | q :: r, s => (ext_stp s q).trans (ext_foldl r _)
theorem ext_mid {s F : Nat × Nat} {q : Nat × Int} (h : Ext (stp s q) F) : mid F.2 F.1 s.1 (s.1 + wi q.2) = q.1 % 2 ^ wi q.2 := by
  unfold mid
  have h1 : (stp s q).1 = s.1 + wi q.2 := rfl
  have h2 := h.2
  rw [h1] at h2
  rw [h2, Nat.add_sub_cancel_left]
  show (s.2 * 2 ^ wi q.2 + q.1 % 2 ^ wi q.2) % 2 ^ wi q.2 = _
  rw [Nat.mul_comm, Nat.mul_add_mod, Nat.mod_mod]
end BitM
namespace Go.Proofs.YtanljjpjhihgcaaDoor
open Go.RowKit BitM
set_option linter.unusedVariables false

theorem take_weak (g : Nat) (A : Option Addr) (len c p : Nat) (bad : Bool) (n : Int) (xs : List UInt8) (B : Nat) (w : World) (h : RdAt w g A len c p bad) (hx : BytesAt w A xs) (hxl : xs.length = len) (hl : len ≤ 1000000) (hp : p ≤ 8 * len) (hB : 2 ^ wi n ≤ B) :
    Calls Tryd.prog 41 #[.pointer (some ⟨g, 0, none⟩), .int .i64 n] w fun e w' => ∃ v p' bad', e = .returned (.int .u64 ((v : Nat) : Int)) ∧ v < B ∧ p' ≤ 8 * len ∧ RdAt w' g A len c p' bad' ∧ w.grownBy w' (some g) := by
  have hpos : 0 < 2 ^ wi n := Nat.pow_pos (by omega)
  by_cases hb : bad = true ∨ 8 * len - p < wi n
  · refine (take_bad g A len c p bad n w h (by omega) hp hb).mono ?_
    rintro e w' ⟨rfl, h1, h2⟩
    exact ⟨0, p, true, rfl, by omega, hp, h1, h2⟩
  · obtain rfl : bad = false := by cases bad <;> simp_all
    have hle : p + wi n ≤ 8 * len := by omega
    have hlt := mid_lt (valB xs) (8 * len) p (p + wi n)
    rw [Nat.add_sub_cancel_left] at hlt
    refine (take_okA g A len c p n xs _ w h hx hxl (by omega) hle rfl).mono ?_
    rintro e w' ⟨rfl, h1, h2⟩
    exact ⟨_, _, false, rfl, by omega, hle, h1, h2⟩

set_option maxRecDepth 100000 in
theorem takeChange_weak (g : Nat) (A : Option Addr) (len c p : Nat) (bad : Bool) (xs : List UInt8) (w : World) (h : RdAt w g A len c p bad) (hx : BytesAt w A xs) (hxl : xs.length = len) (hl : len ≤ 1000000) (hp : p ≤ 8 * len) :
    Calls Tryd.prog 42 #[.pointer (some ⟨g, 0, none⟩)] w fun e w' => ∃ z p' bad', e = .returned (.int .u64 z) ∧ 0 ≤ z ∧ z < 18446744073709551616 ∧ p' ≤ 8 * len ∧ RdAt w' g A len c p' bad' ∧ w.grownBy w' (some g) := by
  have HXL := Lib.hid hxl
  clear hxl
  go_enter Tryd.func42, Tryd.ntmps42
  go_wp2_with (first
    | (go_at_call 41; with_reducible refine (take_weak g A len c p bad 1 xs 2 _ h hx HXL.out hl hp (by decide)).mono ?_; rintro e w1 ⟨v1, p1, bad1, rfl, hv1, hp1, h1, hg1⟩; have hx1 := bytes_past h hx hg1; have HP1 := Lib.hid hp1; have HG1 := Lib.hid hg1; clear hp1 hg1)
    | (go_at_call 41; with_reducible refine (take_weak g A len c p1 bad1 6 xs 64 _ h1 hx1 HXL.out hl HP1.out (by decide)).mono ?_; rintro e w2 ⟨v2, p2, bad2, rfl, hv2, hp2, h2, hg2⟩; have hx2 := bytes_past h1 hx1 hg2; have HP2 := Lib.hid hp2; have HG2 := Lib.hid hg2; clear hp2 hg2)
    | (go_at_call 41; with_reducible refine (take_weak g A len c p2 bad2 6 xs 64 _ h2 hx2 HXL.out hl HP2.out (by decide)).mono ?_; rintro e w3 ⟨v3, p3, bad3, rfl, hv3, hp3, h3, hg3⟩; have hx3 := bytes_past h2 hx2 hg3; have HP3 := Lib.hid hp3; have HG3 := Lib.hid hg3; clear hp3 hg3)
    | (go_at_call 41; with_reducible refine (take_weak g A len c p3 bad3 _ xs 18446744073709551616 _ h3 hx3 HXL.out hl HP3.out (Nat.pow_le_pow_right (by omega) (wi_le _))).mono ?_; rintro e w4 ⟨v4, p4, bad4, rfl, hv4, hp4, h4, hg4⟩; have HP4 := Lib.hid hp4; have HG4 := Lib.hid hg4; clear hp4 hg4))
  · go_ret
    exact ⟨0, p1, bad1, rfl, by omega, by omega, HP1.out, h1, HG1.out⟩
  · go_ret
    refine ⟨_, p4, bad4, rfl, ?_, ?_, HP4.out, h4, ((HG1.out.trans HG2.out).trans HG3.out).trans HG4.out⟩
    · rw [IntKind.wrap_u64]; omega
    · rw [IntKind.wrap_u64]; omega

/-- A Reader at whose place there are just these bits. -/
def Bits (X : List UInt8) (len : Nat) (F : Nat × Nat) : Prop := F.1 ≤ 8 * len ∧ ∀ p q, p ≤ q → q ≤ F.1 → mid (valB X) (8 * len) p q = mid F.2 F.1 p q

theorem take_ext (g : Nat) (A : Option Addr) (len c : Nat) (X : List UInt8) (F s : Nat × Nat) (v : Nat) (n : Int) (p p' M : Nat) (w : World) (h : RdAt w g A len c p false) (hx : BytesAt w A X) (hxl : X.length = len) (hl : len ≤ 1000000) (hF : Bits X len F) (hE : Ext (stp s (v, n)) F) (hp : p = s.1) (hp' : p' = (stp s (v, n)).1) (hM : M = v % 2 ^ wi n) :
    Calls Tryd.prog 41 #[.pointer (some ⟨g, 0, none⟩), .int .i64 n] w fun e w' => e = .returned (.int .u64 (M : Int)) ∧ RdAt w' g A len c p' false ∧ w.grownBy w' (some g) := by
  subst hp hp' hM
  have h1 := hE.1
  have h2 : (stp s (v, n)).1 = s.1 + wi n := rfl
  have h3 := ext_mid hE
  have h4 := hF.1
  simp only at h3
  exact take_okA g A len c s.1 n X _ w h hx hxl (by omega) (by omega) (by rw [hF.2 _ _ (by omega) (by omega)]; exact h3)

set_option maxRecDepth 100000 in
theorem takeChange_good (g : Nat) (A : Option Addr) (len c x : Nat) (X : List UInt8) (F s : Nat × Nat) (p p' : Nat) (w : World) (h : RdAt w g A len c p false) (hx : BytesAt w A X) (hxl : X.length = len) (hl : len ≤ 1000000) (hx64 : x < 18446744073709551616)
    (hF : Bits X len F) (hE : Ext (xadd s x) F) (hp : p = s.1) (hp' : p' = (xadd s x).1) :
    Calls Tryd.prog 42 #[.pointer (some ⟨g, 0, none⟩)] w fun e w' => e = .returned (.int .u64 (x : Int)) ∧ RdAt w' g A len c p' false ∧ w.grownBy w' (some g) := by
  by_cases h0 : x = 0
  · subst h0
    have hE1 : Ext (stp s (0, 1)) F := hE
    have hp1 : p' = (stp s (0, 1)).1 := hp'
    have HXL := Lib.hid hxl
    have HF := Lib.hid hF
    have HE1 := Lib.hid hE1
    have HP := Lib.hid hp
    have HP1 := Lib.hid hp1
    clear hxl hF hE hE1 hp hp' hp1
    go_enter Tryd.func42, Tryd.ntmps42
    go_wp2_with (go_at_call 41; with_reducible refine (take_ext g A len c X F s 0 1 p p' 0 _ h hx HXL.out hl HF.out HE1.out HP.out HP1.out (by decide)).mono ?_; rintro e w1 ⟨rfl, h1, hg1⟩)
    go_ret
    exact ⟨rfl, h1, hg1⟩
  · have hlb := lenB_le x 64 hx64
    have hlp := lenB_pos x h0
    have htl := tz_len x h0
    have hsh := shr_tz x h0
    have hsl := shr_lt x h0
    obtain ⟨m, hmn⟩ : ∃ m, m = lenB x - tz x := ⟨_, rfl⟩
    obtain ⟨yy, hy⟩ : ∃ y, y = x / 2 ^ tz x := ⟨_, rfl⟩
    obtain ⟨ld, hld⟩ : ∃ ld, ld = 64 - lenB x := ⟨_, rfl⟩
    obtain ⟨t, htz⟩ : ∃ t, t = tz x := ⟨_, rfl⟩
    obtain ⟨m1, hm1⟩ : ∃ m1, m1 = m - 1 := ⟨_, rfl⟩
    have hxe : xadd s x = stp (stp (stp (stp s (1, 1)) (ld, 6)) (m1, 6)) (yy, (m : Int)) := by
      unfold xadd xch
      rw [if_neg h0, ← hld, ← hmn, ← hm1, ← hy]
      rfl
    rw [← hy, ← htz] at hsh
    rw [← hy, ← hmn] at hsl
    have hwm : wi (m : Int) = m := by unfold wi; omega
    rw [hxe] at hE hp'
    have e3 : Ext (stp (stp (stp s (1, 1)) (ld, 6)) (m1, 6)) F := (ext_stp _ _).trans hE
    have e2 : Ext (stp (stp s (1, 1)) (ld, 6)) F := (ext_stp _ _).trans e3
    have e1 : Ext (stp s (1, 1)) F := (ext_stp _ _).trans e2
    have hmi : (m1 : Int) + 1 = (m : Int) := by omega
    have hmax : max ((64 : Int) - (ld : Int) - (m : Int)) 0 = (t : Int) := by omega
    have hval : IntKind.u64.wrap ((yy : Int) * 2 ^ t) = (x : Int) := by
      have e : (yy : Int) * 2 ^ t = ((yy * 2 ^ t : Nat) : Int) := by simp
      rw [e, hsh, IntKind.wrap_u64]
      omega
    have hld6 : ld = ld % 2 ^ wi 6 := by rw [show wi 6 = 6 by decide]; omega
    have hm16 : m1 = m1 % 2 ^ wi 6 := by rw [show wi 6 = 6 by decide]; omega
    have hyy : yy = yy % 2 ^ wi (m : Int) := by rw [hwm]; exact (Nat.mod_eq_of_lt hsl).symm
    have hld64 : ld < 64 := by omega
    have hm164 : m1 < 64 := by omega
    have ht64 : t < 64 := by omega
    have HXL := Lib.hid hxl
    have HF := Lib.hid hF
    have HE1 := Lib.hid e1
    have HE2 := Lib.hid e2
    have HE3 := Lib.hid e3
    have HE4 := Lib.hid hE
    have HP := Lib.hid hp
    have HP' := Lib.hid hp'
    have HL6 := Lib.hid hld6
    have HM6 := Lib.hid hm16
    have HYY := Lib.hid hyy
    clear hxl hF hE e1 e2 e3 hp hp' hld6 hm16 hyy hxe hwm hsh hsl hmn hy hld htz hm1 hlb hlp htl
    go_enter Tryd.func42, Tryd.ntmps42
    go_wp2_with (first
      | (go_at_call 41; with_reducible refine (take_ext g A len c X F s 1 1 p (stp s (1, 1)).1 1 _ h hx HXL.out hl HF.out HE1.out HP.out rfl (by decide)).mono ?_; rintro e w1 ⟨rfl, h1, hg1⟩; have hx1 := bytes_past h hx hg1)
      | (go_at_call 41; with_reducible refine (take_ext g A len c X F (stp s (1, 1)) ld 6 _ (stp (stp s (1, 1)) (ld, 6)).1 ld _ h1 hx1 HXL.out hl HF.out HE2.out rfl rfl HL6.out).mono ?_; rintro e w2 ⟨rfl, h2, hg2⟩; have hx2 := bytes_past h1 hx1 hg2)
      | (go_at_call 41; with_reducible refine (take_ext g A len c X F (stp (stp s (1, 1)) (ld, 6)) m1 6 _ (stp (stp (stp s (1, 1)) (ld, 6)) (m1, 6)).1 m1 _ h2 hx2 HXL.out hl HF.out HE3.out rfl rfl HM6.out).mono ?_; rintro e w3 ⟨rfl, h3, hg3⟩; have hx3 := bytes_past h2 hx2 hg3)
      | (go_at_call 41; with_reducible refine (take_ext g A len c X F (stp (stp (stp s (1, 1)) (ld, 6)) (m1, 6)) yy (m : Int) _ p' yy _ h3 hx3 HXL.out hl HF.out HE4.out rfl HP'.out HYY.out).mono ?_; rintro e w4 ⟨rfl, h4, hg4⟩))
    go_ret
    exact ⟨rfl, h4, ((hg1.trans hg2).trans hg3).trans hg4⟩
end Go.Proofs.YtanljjpjhihgcaaDoor
