/- Writers and Readers as rows of bits; the statements' small test of layer 4. -/
import Derived.Test.YtanljjpjhihgcaaDoorBitBy
import Derived.Test.YtanljjpjhihgcaaDoorBitRef2
import Derived.Test.YtanljjpjhihgcaaDoorVarLaws
namespace BitM

theorem cval_lt : ∀ (ws : List Nat), (∀ x ∈ ws, x < 18446744073709551616) → cval ws < 2 ^ (64 * ws.length)
  | [], _ => by simp [cval]
  | x :: r, h => by
    rw [cval_cons, List.length_cons, show 64 * (r.length + 1) = 64 * r.length + 64 by omega, Nat.pow_add]
    have h1 := cval_lt r (fun y hy => h y (by simp [hy]))
    have h2 := h x (by simp)
    have h3 : (cval r + 1) * 2 ^ 64 ≤ 2 ^ (64 * r.length) * 2 ^ 64 := Nat.mul_le_mul_right _ h1
    rw [Nat.add_mul] at h3
    omega
theorem wval_lt (ws : List Nat) (r m : Nat) (h : ∀ x ∈ ws, x < 18446744073709551616) : wval ws r m < 2 ^ wlen ws m := by
  unfold wval wlen
  rw [Nat.pow_add]
  have h1 := cval_lt ws h
  have h2 := Nat.mod_lt r (show 0 < 2 ^ m from Nat.pow_pos (by omega))
  have h3 : (cval ws + 1) * 2 ^ m ≤ 2 ^ (64 * ws.length) * 2 ^ m := Nat.mul_le_mul_right _ h1
  rw [Nat.add_mul] at h3
  omega
theorem valB_bytesW (L V : Nat) (hV : V < 2 ^ L) : valB (bytesW L V) = V * 2 ^ (8 * ((L + 7) / 8) - L) := by
  unfold bytesW
  rw [valB_beN, Nat.mod_eq_of_lt]
  rw [show (256 : Nat) = 2 ^ 8 from rfl, ← Nat.pow_mul]
  have : (2 : Nat) ^ (8 * ((L + 7) / 8)) = 2 ^ L * 2 ^ (8 * ((L + 7) / 8) - L) := by rw [← Nat.pow_add]; congr 1; omega
  rw [this]
  exact Nat.mul_lt_mul_of_pos_right hV (Nat.pow_pos (by omega))
/-- What is read back of what was put. -/
theorem mid_bytesW (L V p q : Nat) (hV : V < 2 ^ L) (hq : q ≤ L) : mid (valB (bytesW L V)) (8 * ((L + 7) / 8)) p q = mid V L p q := by
  rw [valB_bytesW L V hV]
  unfold mid
  congr 1
  have e : 8 * ((L + 7) / 8) - q = (8 * ((L + 7) / 8) - L) + (L - q) := by omega
  rw [e, Nat.pow_add, ← Nat.div_div_eq_div_mul, Nat.mul_div_cancel _ (Nat.pow_pos (by omega))]
end BitM
namespace Go.Proofs.YtanljjpjhihgcaaDoor
open Go.RowKit BitM
set_option linter.unusedVariables false

/-- A Writer in block g holds the L bits of V. -/
def WSt (w : World) (base g L V : Nat) : Prop := ∃ ws r m, WrAt w base g ws r m ∧ wlen ws m = L ∧ wval ws r m = V
theorem WSt.lt {w : World} {base g L V : Nat} (h : WSt w base g L V) : V < 2 ^ L := by
  obtain ⟨ws, r, m, ⟨f, _, _, _, _, h5, _⟩, rfl, rfl⟩ := h
  exact wval_lt ws r m h5
theorem WSt.below {w w' : World} {base g L V : Nat} (h : WSt w base g L V) (hb : Below w.heap.size w w') : WSt w' base g L V := by
  obtain ⟨ws, r, m, h1, h2, h3⟩ := h
  exact ⟨ws, r, m, h1.below hb, h2, h3⟩
theorem WSt.beside {w w' : World} {base g L V : Nat} (h : WSt w base g L V) {q : Nat} (hg : w.grownBy w' (some q)) (hq : q < base) : WSt w' base g L V := by
  obtain ⟨ws, r, m, h1, h2, h3⟩ := h
  exact ⟨ws, r, m, h1.beside hg hq, h2, h3⟩
theorem WSt.block {w : World} {base g L V : Nat} (h : WSt w base g L V) : base ≤ g ∧ g < w.heap.size := by
  obtain ⟨ws, r, m, ⟨f, h1, h2, _⟩, _⟩ := h
  exact ⟨h2, (Array.getElem?_eq_some_iff.1 h1).1⟩
theorem WSt.new (w : World) (base : Nat) (hb : base ≤ w.heap.size) : WSt (w.alloc (.cells #[.pointer none, .int .u64 0, .int .i64 0] 66)) base w.heap.size 0 0 :=
  ⟨[], 0, 0, ⟨none, heap_alloc_new _ _, hb, by omega, by omega, (fun x hx => by cases hx), rfl⟩, rfl, rfl⟩
theorem below_some {B : Nat} {w0 w w' : World} {g : Nat} (hw : B ≤ w.heap.size) (hg : B ≤ g) (hb : Below B w0 w) (h : w.grownBy w' (some g)) : Below B w0 w' :=
  hb.grown h hw (fun k hk => by injection hk with hk; omega)

theorem wput_st (base g L V v : Nat) (n : Int) (w : World) (h : WSt w base g L V) (hv : v < 18446744073709551616) (k : Nat) (hk : k = wi n) :
    Calls Tryd.prog 35 #[.pointer (some ⟨g, 0, none⟩), .int .u64 (v : Int), .int .i64 n] w fun e w' => e = .returned (.tuple #[]) ∧ WSt w' base g (L + k) (V * 2 ^ k + v % 2 ^ k) ∧ w.grownBy w' (some g) := by
  subst hk
  obtain ⟨ws, r, m, h1, rfl, rfl⟩ := h
  exact wput_any base g ws r m v n w h1 hv
theorem wput_to (base g L V L' V' v : Nat) (n : Int) (z : Int) (w : World) (h : WSt w base g L V) (hz : z = (v : Int)) (hv : v < 18446744073709551616) (k : Nat) (hk : k = wi n) (hL : L' = L + k) (hV : V' = V * 2 ^ k + v % 2 ^ k) :
    Calls Tryd.prog 35 #[.pointer (some ⟨g, 0, none⟩), .int .u64 z, .int .i64 n] w fun e w' => e = .returned (.tuple #[]) ∧ WSt w' base g L' V' ∧ w.grownBy w' (some g) := by
  subst hL hV hz
  exact wput_st base g L V v n w h hv k hk
theorem wbytes_st (base g L V nb : Nat) (w : World) (h : WSt w base g L V) (hl : L ≤ 60000000) (hnb : nb = (L + 7) / 8) :
    Calls Tryd.prog 37 #[.pointer (some ⟨g, 0, none⟩)] w fun e w' => ∃ A' c', e = .returned (.slice A' nb c') ∧ BytesAt w' A' (bytesW L V) ∧ nb ≤ c' ∧ c' ≤ maxLen ∧ (∀ a, A' = some a → w.heap.size ≤ a.block) ∧ Below w.heap.size w w' := by
  subst hnb
  obtain ⟨ws, r, m, h1, rfl, rfl⟩ := h
  refine (wbytes_any base g ws r m w h1 (by unfold wlen at hl; omega)).mono ?_
  rintro e w' ⟨A', n', c', rfl, rfl, h3, h4, h5, h6, h7⟩
  exact ⟨A', c', rfl, h3, h4, h5, h6, h7⟩

theorem take_val (g b off : Nat) (len c p q : Nat) (n : Int) (xs : List UInt8) (M : Nat) (w : World) (h : RdAt w g (some ⟨b, off, none⟩) len c p false) (hx : BytesAt w (some ⟨b, off, none⟩) xs) (hxl : xs.length = len) (hl : len ≤ 1000000000) (hq : q = p + wi n) (hb : q ≤ 8 * len) (hM : mid (valB xs) (8 * len) p q = M) (hne : b ≠ g) :
    Calls Tryd.prog 41 #[.pointer (some ⟨g, 0, none⟩), .int .i64 n] w fun e w' => e = .returned (.int .u64 (M : Int)) ∧ RdAt w' g (some ⟨b, off, none⟩) len c q false ∧ w.grownBy w' (some g) := by
  subst hq hM
  exact take_ok g b off len c p n xs w h hx hxl hl hne hb

theorem mid168a : mid (valB [168]) (8 * 1) 0 3 = 5 := by decide +kernel
theorem mid168b : mid (valB [168]) (8 * 1) 3 5 = 1 := by decide +kernel
theorem take_lit (g b off : Nat) (len c p q : Nat) (n : Int) (xs : List UInt8) (M : Nat) (z : Int) (w : World) (hz : z = (M : Int)) (h : RdAt w g (some ⟨b, off, none⟩) len c p false) (hx : BytesAt w (some ⟨b, off, none⟩) xs) (hxl : xs.length = len) (hl : len ≤ 1000000000) (hq : q = p + wi n) (hb : q ≤ 8 * len) (hM : mid (valB xs) (8 * len) p q = M) (hne : b ≠ g) :
    Calls Tryd.prog 41 #[.pointer (some ⟨g, 0, none⟩), .int .i64 n] w fun e w' => e = .returned (.int .u64 z) ∧ RdAt w' g (some ⟨b, off, none⟩) len c q false ∧ w.grownBy w' (some g) := by
  subst hz
  exact take_val g b off len c p q n xs M w h hx hxl hl hq hb hM hne
theorem left_lit (g : Nat) (A : Option Addr) (n c p : Nat) (bad : Bool) (z : Int) (w : World) (hz : z = ((8 * n - p : Nat) : Int)) (h : RdAt w g A n c p bad) (hn : n ≤ 1000000000) (hp : p ≤ 8 * n) :
    Calls Tryd.prog 44 #[.pointer (some ⟨g, 0, none⟩)] w fun e w' => e = .returned (.int .i64 z) ∧ Below w.heap.size w w' := by
  subst hz
  exact left_any g A n c p bad w h hn hp

theorem bytes168 : bytesW 5 21 = [168] := by decide

end Go.Proofs.YtanljjpjhihgcaaDoor
