/- Writers and Readers as rows of bits; the statements' small test of layer 4. -/
import Derived.Test.YtnpomochhbkefaaBitBy
import Derived.Test.YtnpomochhbkefaaBitRef2
import Derived.Test.YtnpomochhbkefaaVarLaws
namespace BitM

theorem cval_lt : ∀ (ws : List Nat), (∀ x ∈ ws, x < 18446744073709551616) → cval ws < 2 ^ (64 * ws.length)
  | [], _ => by simp [cval]
  | x :: r, h => by
    rw [cval_cons, List.length_cons, show 64 * (r.length + 1) = 64 * r.length + 64 by omega, Nat.pow_add]
    have h1 := cval_lt r (fun y hy => h y (by simp [hy]))
    have h2 := h x (by simp)
    have h3 : (cval r + 1) * 2 ^ 64 ≤ 2 ^ (64 * r.length) * 2 ^ 64 := Nat.mul_le_mul_right _ h1
    rw [Nat.add_mul] at h3
    omega
theorem wval_lt (ws : List Nat) (r m : Nat) (h : ∀ x ∈ ws, x < 18446744073709551616) : wval ws r m < 2 ^ wlen ws m := by
  unfold wval wlen
  rw [Nat.pow_add]
  have h1 := cval_lt ws h
  have h2 := Nat.mod_lt r (show 0 < 2 ^ m from Nat.pow_pos (by omega))
  have h3 : (cval ws + 1) * 2 ^ m ≤ 2 ^ (64 * ws.length) * 2 ^ m := Nat.mul_le_mul_right _ h1
  rw [Nat.add_mul] at h3
  omega
theorem valB_bytesW (L V : Nat) (hV : V < 2 ^ L) : valB (bytesW L V) = V * 2 ^ (8 * ((L + 7) / 8) - L) := by
  unfold bytesW
  rw [valB_beN, Nat.mod_eq_of_lt]
  rw [show (256 : Nat) = 2 ^ 8 from rfl, ← Nat.pow_mul]
  have : (2 : Nat) ^ (8 * ((L + 7) / 8)) = 2 ^ L * 2 ^ (8 * ((L + 7) / 8) - L) := by rw [← Nat.pow_add]; congr 1; omega
  rw [this]
  exact Nat.mul_lt_mul_of_pos_right hV (Nat.pow_pos (by omega))
/-- What is read back of what was put. -/
theorem mid_bytesW (L V p q : Nat) (hV : V < 2 ^ L) (hq : q ≤ L) : mid (valB (bytesW L V)) (8 * ((L + 7) / 8)) p q = mid V L p q := by
  rw [valB_bytesW L V hV]
  unfold mid
  congr 1
  have e : 8 * ((L + 7) / 8) - q = (8 * ((L + 7) / 8) - L) + (L - q) := by omega
  rw [e, Nat.pow_add, ← Nat.div_div_eq_div_mul, Nat.mul_div_cancel _ (Nat.pow_pos (by omega))]
end BitM
namespace Go.Proofs.Ytnpomochhbkefaa
open Go.RowKit BitM
set_option linter.unusedVariables false

/-- A Writer in block g holds the L bits of V. -/
def WSt (w : World) (base g L V : Nat) : Prop := ∃ ws r m, WrAt w base g ws r m ∧ wlen ws m = L ∧ wval ws r m = V
theorem WSt.lt {w : World} {base g L V : Nat} (h : WSt w base g L V) : V < 2 ^ L := by
  obtain ⟨ws, r, m, ⟨f, _, _, _, _, h5, _⟩, rfl, rfl⟩ := h
  exact wval_lt ws r m h5
theorem WSt.below {w w' : World} {base g L V : Nat} (h : WSt w base g L V) (hb : Below w.heap.size w w') : WSt w' base g L V := by
  obtain ⟨ws, r, m, h1, h2, h3⟩ := h
  exact ⟨ws, r, m, h1.below hb, h2, h3⟩
theorem WSt.beside {w w' : World} {base g L V : Nat} (h : WSt w base g L V) {q : Nat} (hg : w.grownBy w' (some q)) (hq : q < base) : WSt w' base g L V := by
  obtain ⟨ws, r, m, h1, h2, h3⟩ := h
  exact ⟨ws, r, m, h1.beside hg hq, h2, h3⟩
theorem WSt.block {w : World} {base g L V : Nat} (h : WSt w base g L V) : base ≤ g ∧ g < w.heap.size := by
  obtain ⟨ws, r, m, ⟨f, h1, h2, _⟩, _⟩ := h
  exact ⟨h2, (Array.getElem?_eq_some_iff.1 h1).1⟩
theorem WSt.new (w : World) (base : Nat) (hb : base ≤ w.heap.size) : WSt (w.alloc (.cells #[.pointer none, .int .u64 0, .int .i64 0] 36)) base w.heap.size 0 0 :=
  ⟨[], 0, 0, ⟨none, heap_alloc_new _ _, hb, by omega, by omega, (fun x hx => by cases hx), rfl⟩, rfl, rfl⟩
theorem below_some {B : Nat} {w0 w w' : World} {g : Nat} (hw : B ≤ w.heap.size) (hg : B ≤ g) (hb : Below B w0 w) (h : w.grownBy w' (some g)) : Below B w0 w' :=
  hb.grown h hw (fun k hk => by injection hk with hk; omega)

theorem wput_st (base g L V v : Nat) (n : Int) (w : World) (h : WSt w base g L V) (hv : v < 18446744073709551616) (k : Nat) (hk : k = wi n) :
    Calls Try.prog 16 #[.pointer (some ⟨g, 0, none⟩), .int .u64 (v : Int), .int .i64 n] w fun e w' => e = .returned (.tuple #[]) ∧ WSt w' base g (L + k) (V * 2 ^ k + v % 2 ^ k) ∧ w.grownBy w' (some g) := by
  subst hk
  obtain ⟨ws, r, m, h1, rfl, rfl⟩ := h
  exact wput_any base g ws r m v n w h1 hv
theorem wput_to (base g L V L' V' v : Nat) (n : Int) (z : Int) (w : World) (h : WSt w base g L V) (hz : z = (v : Int)) (hv : v < 18446744073709551616) (k : Nat) (hk : k = wi n) (hL : L' = L + k) (hV : V' = V * 2 ^ k + v % 2 ^ k) :
    Calls Try.prog 16 #[.pointer (some ⟨g, 0, none⟩), .int .u64 z, .int .i64 n] w fun e w' => e = .returned (.tuple #[]) ∧ WSt w' base g L' V' ∧ w.grownBy w' (some g) := by
  subst hL hV hz
  exact wput_st base g L V v n w h hv k hk
theorem wbytes_st (base g L V nb : Nat) (w : World) (h : WSt w base g L V) (hl : L ≤ 60000000) (hnb : nb = (L + 7) / 8) :
    Calls Try.prog 18 #[.pointer (some ⟨g, 0, none⟩)] w fun e w' => ∃ A' c', e = .returned (.slice A' nb c') ∧ BytesAt w' A' (bytesW L V) ∧ nb ≤ c' ∧ c' ≤ maxLen ∧ (∀ a, A' = some a → w.heap.size ≤ a.block) ∧ Below w.heap.size w w' := by
  subst hnb
  obtain ⟨ws, r, m, h1, rfl, rfl⟩ := h
  refine (wbytes_any base g ws r m w h1 (by unfold wlen at hl; omega)).mono ?_
  rintro e w' ⟨A', n', c', rfl, rfl, h3, h4, h5, h6, h7⟩
  exact ⟨A', c', rfl, h3, h4, h5, h6, h7⟩

theorem take_val (g b off : Nat) (len c p q : Nat) (n : Int) (xs : List UInt8) (M : Nat) (w : World) (h : RdAt w g (some ⟨b, off, none⟩) len c p false) (hx : BytesAt w (some ⟨b, off, none⟩) xs) (hxl : xs.length = len) (hl : len ≤ 1000000000) (hq : q = p + wi n) (hb : q ≤ 8 * len) (hM : mid (valB xs) (8 * len) p q = M) (hne : b ≠ g) :
    Calls Try.prog 19 #[.pointer (some ⟨g, 0, none⟩), .int .i64 n] w fun e w' => e = .returned (.int .u64 (M : Int)) ∧ RdAt w' g (some ⟨b, off, none⟩) len c q false ∧ w.grownBy w' (some g) := by
  subst hq hM
  exact take_ok g b off len c p n xs w h hx hxl hl hne hb

theorem mid168a : mid (valB [168]) (8 * 1) 0 3 = 5 := by decide +kernel
theorem mid168b : mid (valB [168]) (8 * 1) 3 5 = 1 := by decide +kernel
theorem take_lit (g b off : Nat) (len c p q : Nat) (n : Int) (xs : List UInt8) (M : Nat) (z : Int) (w : World) (hz : z = (M : Int)) (h : RdAt w g (some ⟨b, off, none⟩) len c p false) (hx : BytesAt w (some ⟨b, off, none⟩) xs) (hxl : xs.length = len) (hl : len ≤ 1000000000) (hq : q = p + wi n) (hb : q ≤ 8 * len) (hM : mid (valB xs) (8 * len) p q = M) (hne : b ≠ g) :
    Calls Try.prog 19 #[.pointer (some ⟨g, 0, none⟩), .int .i64 n] w fun e w' => e = .returned (.int .u64 z) ∧ RdAt w' g (some ⟨b, off, none⟩) len c q false ∧ w.grownBy w' (some g) := by
  subst hz
  exact take_val g b off len c p q n xs M w h hx hxl hl hq hb hM hne
theorem left_lit (g : Nat) (A : Option Addr) (n c p : Nat) (bad : Bool) (z : Int) (w : World) (hz : z = ((8 * n - p : Nat) : Int)) (h : RdAt w g A n c p bad) (hn : n ≤ 1000000000) (hp : p ≤ 8 * n) :
    Calls Try.prog 21 #[.pointer (some ⟨g, 0, none⟩)] w fun e w' => e = .returned (.int .i64 z) ∧ Below w.heap.size w w' := by
  subst hz
  exact left_any g A n c p bad w h hn hp

theorem bytes168 : bytesW 5 21 = [168] := by decide

set_option maxHeartbeats 400000 in
set_option maxRecDepth 100000 in
theorem bputs_any (w : World) : Calls Try.prog 17 #[] w fun e w' => e = .returned (.bool true) ∧ Below w.heap.size w w' := by
  have hb0 : Below w.heap.size w (w.alloc (.cells #[.pointer none, .int .u64 0, .int .i64 0] 36)) := (Below.refl _ _).alloc (Nat.le_refl _) _
  have hw0 := WSt.new w w.heap.size (Nat.le_refl _)
  go_enter Try.func17, Try.ntmps17
  go_wp2_with (first
    | (go_at_call 16; with_reducible refine (wput_to w.heap.size w.heap.size 0 0 3 5 5 3 5 _ hw0 rfl (by omega) 3 (by decide) (by decide) (by decide)).mono ?_; rintro e w1 ⟨rfl, hw1, hg1⟩; have hb1 := below_some (by simp) (Nat.le_refl _) hb0 hg1)
    | (go_at_call 16; with_reducible refine (wput_to w.heap.size w.heap.size 3 5 5 21 1 2 1 _ hw1 rfl (by omega) 2 (by decide) (by decide) (by decide)).mono ?_; rintro e w2 ⟨rfl, hw2, hg2⟩; have hb2 := below_some hb1.size (Nat.le_refl _) hb1 hg2))
  go_wp2_with fail
  go_loud (with_reducible refine (wbytes_st w.heap.size w.heap.size 5 21 1 _ hw2 (by omega) (by decide)).mono ?_)
  rintro e w3 ⟨A3, c3, rfl, hx3, hc3, hm3, hk3, hb3⟩
  rw [bytes168] at hx3
  obtain ⟨b3, off3, rfl, _⟩ := hx3 (by simp)
  have hbk := hk3 _ rfl
  go_wp2_with (first
    | (go_at_call 24; with_reducible refine (new_any (some ⟨b3, off3, none⟩) 1 c3 _).mono ?_; rintro e w4 ⟨rfl, hr4, hl4, hb4⟩; have hx4 := hx3.below hb4; have hw4 := (hw2.below hb3).below hb4; have hne := hr4.apart hx4 (by simp)))
  go_loud (with_reducible refine (wbytes_st w.heap.size w.heap.size 5 21 1 _ hw4 (by omega) (by decide)).mono ?_)
  rintro e w5 ⟨A5, c5, rfl, hx5, hc5, hm5, hk5, hb5⟩
  rw [bytes168] at hx5
  have hr5 := hr4.below hb5
  have hx45 := hx4.below hb5
  have t5 := text_n A5 1 c5 [168] rfl hx5
  go_wp2_with (first
    | (go_at_call 19; with_reducible refine (take_lit w3.heap.size b3 off3 1 c3 0 3 3 [168] 5 5 _ rfl hr5 hx45 rfl (by omega) (by decide) (by omega) mid168a hne).mono ?_; rintro e w6 ⟨rfl, hr6, hg6⟩; have hx6 := bytes_beside hx45 hg6 hne)
    | (go_at_call 19; with_reducible refine (take_lit w3.heap.size b3 off3 1 c3 3 5 2 [168] 1 1 _ rfl hr6 hx6 rfl (by omega) (by decide) (by omega) mid168b hne).mono ?_; rintro e w7 ⟨rfl, hr7, hg7⟩)
    | (go_at_call 21; with_reducible refine (left_lit w3.heap.size _ 1 c3 5 false 3 _ (by decide) hr7 (by omega) (by omega)).mono ?_; rintro e w8 ⟨rfl, hb8⟩)
    | (go_at_call 20; with_reducible refine (bad_any w3.heap.size _ 1 c3 5 false _ (hr7.below hb8)).mono ?_; rintro e w9 ⟨rfl, rfl⟩))
  go_ret
  refine ⟨rfl, ?_⟩
  have hc3' := hb2.trans (hb3.mono hb2.size)
  have hc4 := hc3'.trans (hb4.mono hc3'.size)
  have hc5 := hc4.trans (hb5.mono hc4.size)
  have hb6 := below_some hc5.size hc3'.size hc5 hg6
  have hb7 := below_some hb6.size hc3'.size hb6 hg7
  exact hb7.trans (hb8.mono hb7.size)
end Go.Proofs.Ytnpomochhbkefaa
