/- The plain arithmetic of layer 3: numbers as bytes, a page as bytes. No program is named here. -/
import Derived.Test.YtgkddhncfaeidaaMath
namespace Go.Proofs.Ytgkddhncfaeidaa
namespace PageM
open CrcM

/-- A number in so many bytes, the highest first. -/
def be (n : Nat) : Nat → List UInt8
  | 0 => []
  | L + 1 => be (n / 256) L ++ [UInt8.ofNat n]
/-- A number in so many bytes, the lowest first. -/
def le (s : Nat) : Nat → List UInt8
  | 0 => []
  | k + 1 => le s k ++ [UInt8.ofNat (s / 2 ^ (8 * k))]

theorem length_be (L : Nat) : ∀ n, (be n L).length = L := by
  induction L with
  | zero => intro n; rfl
  | succ L ih => intro n; simp [be, ih]
theorem length_le (s k : Nat) : (le s k).length = k := by
  induction k with
  | zero => rfl
  | succ k ih => simp [le, ih]
theorem be_cons (j : Nat) : ∀ n, be n (j + 1) = UInt8.ofNat (n / 256 ^ j) :: be n j := by
  induction j with
  | zero => intro n; simp [be]
  | succ j ih =>
    intro n
    show be (n / 256) (j + 1) ++ [UInt8.ofNat n] = _
    rw [ih (n / 256), List.cons_append]
    show _ :: be n (j + 1) = _
    rw [Nat.div_div_eq_div_mul, Nat.pow_succ, Nat.mul_comm]

/-- The number that so many bytes are, the highest first. -/
def val (l : List UInt8) : Nat := l.foldl (fun n c => n * 256 + c.toNat) 0
theorem val_snoc (l : List UInt8) (c : UInt8) : val (l ++ [c]) = val l * 256 + c.toNat := by simp [val]
theorem snoc_ind {P : List UInt8 → Prop} (h0 : P []) (h1 : ∀ l c, P l → P (l ++ [c])) (l : List UInt8) : P l := by
  rw [← List.reverse_reverse l]
  induction l.reverse with
  | nil => exact h0
  | cons c r ih => rw [List.reverse_cons]; exact h1 _ _ ih
theorem val_lt (l : List UInt8) : val l < 256 ^ l.length := by
  induction l using snoc_ind with
  | h0 => simp [val]
  | h1 l c ih =>
    rw [val_snoc, List.length_append, List.length_singleton, Nat.pow_succ]
    have := c.toNat_lt
    omega
theorem be_val (l : List UInt8) : be (val l) l.length = l := by
  induction l using snoc_ind with
  | h0 => rfl
  | h1 l c ih =>
    rw [List.length_append, List.length_singleton]
    show be (val (l ++ [c]) / 256) l.length ++ [UInt8.ofNat (val (l ++ [c]))] = _
    have hc := c.toNat_lt
    rw [val_snoc, show (val l * 256 + c.toNat) / 256 = val l by omega, ih]
    congr 2
    apply UInt8.toNat_inj.1
    rw [UInt8.toNat_ofNat']
    omega
theorem val_be (L : Nat) : ∀ n, n < 256 ^ L → val (be n L) = n := by
  induction L with
  | zero => intro n h; simp at h; subst h; rfl
  | succ L ih =>
    intro n h
    show val (be (n / 256) L ++ [UInt8.ofNat n]) = n
    rw [Nat.pow_succ] at h
    rw [val_snoc, ih (n / 256) (by omega), UInt8.toNat_ofNat']
    omega

def isK (k : UInt8) : Bool := k == 83 || k == 76 || k == 73 || k == 66

structure Pg where
  kind : UInt8
  addr : Int
  gen : Nat
  body : List UInt8

def okP (p : Pg) : Prop := isK p.kind = true ∧ 0 ≤ p.addr ∧ p.addr ≤ 511 ∧ p.body.length ≤ 238
def headP (p : Pg) : List UInt8 := [p.kind, 0] ++ be p.addr.toNat 2 ++ be p.gen 8 ++ be p.body.length 2 ++ p.body ++ List.replicate (238 - p.body.length) 0
def putP (p : Pg) : List UInt8 := headP p ++ le (sumN (headP p)) 4

theorem length_headP (p : Pg) (h : p.body.length ≤ 238) : (headP p).length = 252 := by
  simp [headP, length_be]
  omega
theorem length_putP (p : Pg) (h : p.body.length ≤ 238) : (putP p).length = 256 := by
  rw [putP, List.length_append, length_headP p h, length_le]

end PageM
end Go.Proofs.Ytgkddhncfaeidaa
