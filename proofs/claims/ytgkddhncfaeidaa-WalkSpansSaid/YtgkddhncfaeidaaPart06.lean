/- Several texts in one: The plain arithmetic of layer 3: numbers as bytes, a page as bytes. No program is named here. Package node's calls that lay numbers as bytes: their contracts. Package node's Right, and what it calls, at the example. Keys and entries of nodes as plain data; what package node asks of each, whatever it is. -/
import Derived.Test.YtgkddhncfaeidaaPart02
import Derived.Test.YtgkddhncfaeidaaChecked
import Derived.Test.YtgkddhncfaeidaaPart01
import Derived.Lib.MinMax
import Derived.Lib.SlBytesConst
import Derived.Lib.BufferMore
import Derived.KernelRfl
import Derived.Handy
import Derived.WalkSpells
import Derived.WalkLawsBesides
import Derived.Test.YtgkddhncfaeidaaPart03
import Derived.Deep.MidRow
set_option linter.unusedSimpArgs false
set_option linter.unusedVariables false
namespace Go.Proofs.Ytgkddhncfaeidaa
namespace PageM
open CrcM

/-- A number in so many bytes, the highest first. -/
def be (n : Nat) : Nat → List UInt8
  | 0 => []
  | L + 1 => be (n / 256) L ++ [UInt8.ofNat n]
/-- A number in so many bytes, the lowest first. -/
def le (s : Nat) : Nat → List UInt8
  | 0 => []
  | k + 1 => le s k ++ [UInt8.ofNat (s / 2 ^ (8 * k))]

theorem length_be (L : Nat) : ∀ n, (be n L).length = L := by
  induction L with
  | zero => intro n; rfl
  | succ L ih => intro n; simp [be, ih]
theorem length_le (s k : Nat) : (le s k).length = k := by
  induction k with
  | zero => rfl
  | succ k ih => simp [le, ih]
theorem be_cons (j : Nat) : ∀ n, be n (j + 1) = UInt8.ofNat (n / 256 ^ j) :: be n j := by
  induction j with
  | zero => intro n; simp [be]
  | succ j ih =>
    intro n
    show be (n / 256) (j + 1) ++ [UInt8.ofNat n] = _
    rw [ih (n / 256), List.cons_append]
    show _ :: be n (j + 1) = _
    rw [Nat.div_div_eq_div_mul, Nat.pow_succ, Nat.mul_comm]

/-- The number that so many bytes are, the highest first. -/
def val (l : List UInt8) : Nat := l.foldl (fun n c => n * 256 + c.toNat) 0
theorem val_snoc (l : List UInt8) (c : UInt8) : val (l ++ [c]) = val l * 256 + c.toNat := by simp [val]
theorem snoc_ind {P : List UInt8 → Prop} (h0 : P []) (h1 : ∀ l c, P l → P (l ++ [c])) (l : List UInt8) : P l := by
  rw [← List.reverse_reverse l]
  induction l.reverse with
  | nil => exact h0
  | cons c r ih => rw [List.reverse_cons]; exact h1 _ _ ih
theorem val_lt (l : List UInt8) : val l < 256 ^ l.length := by
  induction l using snoc_ind with
  | h0 => simp [val]
  | h1 l c ih =>
    rw [val_snoc, List.length_append, List.length_singleton, Nat.pow_succ]
    have := c.toNat_lt
    omega
theorem val_be (L : Nat) : ∀ n, n < 256 ^ L → val (be n L) = n := by
  induction L with
  | zero => intro n h; simp at h; subst h; rfl
  | succ L ih =>
    intro n h
    show val (be (n / 256) L ++ [UInt8.ofNat n]) = n
    rw [Nat.pow_succ] at h
    rw [val_snoc, ih (n / 256) (by omega), UInt8.toNat_ofNat']
    omega

def isK (k : UInt8) : Bool := k == 83 || k == 76 || k == 73 || k == 66

structure Pg where
  kind : UInt8
  addr : Int
  gen : Nat
  body : List UInt8

def okP (p : Pg) : Prop := isK p.kind = true ∧ 0 ≤ p.addr ∧ p.addr ≤ 511 ∧ p.body.length ≤ 238
def headP (p : Pg) : List UInt8 := [p.kind, 0] ++ be p.addr.toNat 2 ++ be p.gen 8 ++ be p.body.length 2 ++ p.body ++ List.replicate (238 - p.body.length) 0
def putP (p : Pg) : List UInt8 := headP p ++ le (sumN (headP p)) 4

theorem length_headP (p : Pg) (h : p.body.length ≤ 238) : (headP p).length = 252 := by
  simp [headP, length_be]
  omega
theorem length_putP (p : Pg) (h : p.body.length ≤ 238) : (putP p).length = 256 := by
  rw [putP, List.length_append, length_headP p h, length_le]

end PageM
end Go.Proofs.Ytgkddhncfaeidaa

namespace Go.Proofs.Ytgkddhncfaeidaa
open Go.RowKit CrcM PageM
set_option linter.unusedVariables false

theorem infoB : (Try.prog.info? 5).map (fun i => (i.zero, i.size, i.bytes)) = some (some (.int .u8 0), 1, 1) := by kernel_rfl

theorem nd_byte (n t : Nat) : ((n : Int) / 2 ^ (8 * t)) % 256 = ((UInt8.ofNat (n / 256 ^ t)).toNat : Int) := by
  rw [UInt8.toNat_ofNat', show (256 : Nat) ^ t = 2 ^ (8 * t) by rw [show (256 : Nat) = 2 ^ 8 from rfl, ← Nat.pow_mul]]
  simp

set_option maxRecDepth 100000 in
theorem putHigh_nd (B len : Nat) (A : Option Addr) (c : Nat) (xs : List UInt8) (w : World) (hlen : xs.length = len) (ho : OwnS w B (.slice A len c) 5 xs) (hB : B ≤ w.heap.size) (z : Int) (s : Nat) (hz : z = (s : Int)) (hs : s ≤ 8) (n : Nat) (hn : n < 18446744073709551616) (hl : len ≤ 1000000) :
    Calls Try.prog 35 #[.slice A len c, .int .i64 z, .int .u64 n] w fun e w' => ∃ A' c', e = .returned (.slice A' (len + s) c') ∧ OwnS w' B (.slice A' (len + s) c') 5 (xs ++ be n s) ∧ w.grownBy w' (Value.slice A len c).ownBlock ∧ Moved w (Value.slice A len c).ownBlock (Value.slice A' (len + s) c').ownBlock := by
  subst hz hlen
  obtain ⟨r0, hr0⟩ : ∃ r0, r0 = (Value.slice A xs.length c).ownBlock := ⟨_, rfl⟩
  rw [← hr0]
  have HR := Lib.hid hr0
  clear hr0
  go_enter Try.func35, Try.ntmps35
  go_wp2_with fail
  go_loopw [0, 7] (fun v i wr => ∃ (t : Nat) (done : List UInt8) (A1 : Option Addr) (c1 : Nat), t ≤ s ∧ done ++ be n t = be n s ∧ i = .int .i64 ((t : Int) - 1) ∧ v = .slice A1 (xs ++ done).length c1 ∧ OwnS wr B (.slice A1 (xs ++ done).length c1) 5 (xs ++ done) ∧ w.grownBy wr r0 ∧ Moved w r0 (Value.slice A1 (xs ++ done).length c1).ownBlock) (fun _ i _ => (intOf i + 1).toNat)
  case atStart => exact ⟨s, [], A, c, Nat.le_refl _, rfl, rfl, by rw [List.append_nil], by rw [List.append_nil]; exact ho, World.grownBy.refl w _, .inl (by rw [List.append_nil]; exact HR.out.symm)⟩
  case round =>
    obtain ⟨t, done, A1, c1, ht, hd, rfl, rfl, hor, hg, hm⟩ := hrel
    cases t with
    | succ t =>
      have e1 : ((t + 1 : Nat) : Int) - 1 = (t : Int) := by omega
      rw [e1]
      have hdl : (xs ++ done).length + 1 ≤ 140737488355328 := by
        have h1 := congrArg List.length hd
        simp [length_be] at h1 ⊢
        omega
      have hy := Lib.hid (nd_byte n t)
      have HD := Lib.hid hd
      clear hd e1
      go_wp2_with (at_builtin; refine wpList_append_s2' rfl (.tmp 14) (.tmp 20) 27 rfl Try.underlying27 infoB rfl (hor.alloc _) _ _ 1 [UInt8.ofNat (n / 256 ^ t)] rfl rfl (bytesAt_one _ _ _ _ hy.out) hdl (by have := hg.size; simp; omega) ?_; intro A3 c3 w3 ho3 hg3 how3)
      go_roundw
      case rel =>
        refine ⟨t, done ++ [UInt8.ofNat (n / 256 ^ t)], A3, c3, by omega, ?_, rfl, ?_, ?_, grown_chain' hg _ hm hg3, ?_⟩
        · rw [← HD.out, be_cons, List.append_assoc]; rfl
        · rw [← List.append_assoc]; simp
        · rw [← List.append_assoc]; exact ho3
        · rw [← List.append_assoc]; exact own_chain' hg.size _ hm how3
      case measure => simp [intOf]
    | zero =>
      go_wp2_with fail
      go_ret
      have hd2 : done = be n s := by rw [← hd]; simp [be]
      have e3 : (xs ++ be n s).length = xs.length + s := by simp [length_be]
      refine ⟨A1, c1, by rw [hd2, e3]; rfl, by rw [← e3, ← hd2]; exact hor, hg, by rw [← e3, ← hd2]; exact hm⟩

set_option maxRecDepth 100000 in
theorem putKey_nd (B len : Nat) (A : Option Addr) (c : Nat) (xs : List UInt8) (w : World) (hlen : xs.length = len) (ho : OwnS w B (.slice A len c) 5 xs) (hB : B ≤ w.heap.size) (s t : Int) (n m : Nat) (hn : IntKind.u64.wrap s = (n : Int)) (hm : IntKind.u64.wrap t = (m : Int)) (hn2 : n < 18446744073709551616) (hm2 : m < 18446744073709551616) (hl : len ≤ 100000) :
    Calls Try.prog 34 #[.slice A len c, .agg #[.int .i64 s, .int .i64 t]] w fun e w' => ∃ A' c', e = .returned (.slice A' (len + 12) c') ∧ OwnS w' B (.slice A' (len + 12) c') 5 (xs ++ be n 4 ++ be m 8) ∧ w.grownBy w' (Value.slice A len c).ownBlock ∧ Moved w (Value.slice A len c).ownBlock (Value.slice A' (len + 12) c').ownBlock := by
  have HN := Lib.hid hn
  have HM := Lib.hid hm
  have HL := Lib.hid hlen
  clear hn hm hlen
  go_enter Try.func34, Try.ntmps34
  have hne : (Value.slice A len c).ownBlock ≠ some w.heap.size := fun h => by have := (ho.block _ h).2; omega
  go_wp2_with (first
    | (go_at_call 35; rw [HN.out]; refine (putHigh_nd B len A c xs _ HL.out (ho.alloc _) (by simp; omega) 4 4 rfl (by omega) n hn2 (by omega)).mono ?_; rintro e w1 ⟨A1, c1, rfl, ho1, hg1, hm1⟩; have hblk := (hg1.block w.heap.size (by simp) (fun h => hne h.symm)).trans (heap_alloc_new w _); have k1 : w1.cell? ⟨w.heap.size, 1, none⟩ = some (.int .i64 t) := (cell_of_row w1 w.heap.size 1 _ _ _ hblk).trans rfl; have hs1 := hg1.size)
    | (go_at_call 35; rw [HM.out]; refine (putHigh_nd B (len + 4) A1 c1 (xs ++ be n 4) _ (by rw [List.length_append, HL.out, length_be]) ho1 (by simp at hs1; omega) 8 8 rfl (by omega) m hm2 (by omega)).mono ?_; rintro e w2 ⟨A2, c2, rfl, ho2, hg2, hm2'⟩))
  go_ret
  refine ⟨A2, c2, rfl, ho2, grown_trans ((grown_alloc w _ _).trans' hg1) hm1.of_alloc hg2, ?_⟩
  exact hm1.of_alloc.trans (by simp at hs1; omega) hm2'
end Go.Proofs.Ytgkddhncfaeidaa

namespace Go.Proofs.Ytgkddhncfaeidaa
open Go.RowKit CrcM PageM
set_option linter.unusedVariables false

theorem nd_cell {w1 : World} {g : Nat} {cs : Array Value} {t : TypeId} (h : w1.heap[g]? = some (.cells cs t (0, 0))) (i : Nat) (v : Value) (hv : cs[i]? = some v) : w1.cell? ⟨g, i, none⟩ = some v := (cell_of_row w1 g i cs t _ h).trans hv

end Go.Proofs.Ytgkddhncfaeidaa

namespace Go.Proofs.Ytgkddhncfaeidaa
open Go.ChangeShapes Go.WideShapes Go.ChangeAt Go.RowKit CrcM PageM
set_option linter.unusedVariables false

/-- A key. -/
structure KeyD where
  se : Int
  st : Int
/-- An entry. -/
structure EntD where
  se : Int
  st : Int
  en : Int
  ad : Int
  le : Int
  cn : Int
  co : Int
  cr : Int
def kyC (k : KeyD) : List Value := [.int .i64 k.se, .int .i64 k.st]
def enC (e : EntD) : List Value := [.int .i64 e.se, .int .i64 e.st, .int .i64 e.en, .int .i64 e.ad, .int .i64 e.le, .int .i64 e.cn, .int .i64 e.co, .int .u32 e.cr]
def EntD.key (e : EntD) : KeyD := ⟨e.se, e.st⟩
def okKey (s : Int) : Prop := 0 ≤ s ∧ s ≤ 4294967295
instance (s : Int) : Decidable (okKey s) := by unfold okKey; infer_instance
def okAddr (a : Int) : Prop := 2 ≤ a ∧ a < 512
instance (s : Int) : Decidable (okAddr s) := by unfold okAddr; infer_instance
def okEnt (e : EntD) : Prop := okKey e.se ∧ e.st ≤ e.en ∧ 1 ≤ e.le ∧ e.le ≤ 65535 ∧ okAddr e.ad ∧ e.ad + (e.le + 255) / 256 ≤ 512 ∧ 1 ≤ e.cn ∧ e.cn ≤ 200 ∧ 0 ≤ e.co ∧ e.co < 16
instance (e : EntD) : Decidable (okEnt e) := by unfold okEnt; infer_instance
/-- Is one key ahead of another? -/
def lessB (a b : KeyD) : Bool := decide (a.se < b.se ∨ a.se = b.se ∧ a.st < b.st)
def apartB (a b : EntD) : Bool := lessB a.key b.key && (decide (a.se ≠ b.se) || decide (a.en < b.st))

theorem nd_retB {a b : Bool} (h : a = b) : Ending.returned (Value.bool a) = Ending.returned (.bool b) := by rw [h]

theorem rightKey_any (s t : Int) (w : World) :
    Calls Try.prog 62 #[.agg #[.int .i64 s, .int .i64 t]] w fun e w' => e = .returned (.bool (decide (okKey s))) ∧ Below w.heap.size w w' := by
  by_cases h1 : 0 ≤ s
  · have d1 : decide ((0 : Int) ≤ s) = true := by simpa using h1
    go_enter Try.func62, Try.ntmps62
    go_wp2_with fail
    go_ret
    exact ⟨nd_retB (by first | (simp [okKey, h1]; done) | (symm; exact decide_eq_false (fun h => by have := h.1; omega)) | (simp [okKey]; omega)), (Below.refl _ _).alloc (Nat.le_refl _) _⟩
  · have d1 : decide ((0 : Int) ≤ s) = false := by simpa using h1
    go_enter Try.func62, Try.ntmps62
    go_wp2_with fail
    go_ret
    exact ⟨nd_retB (by first | (simp [okKey]; done) | (symm; exact decide_eq_false (fun h => by have := h.1; omega)) | (simp [okKey]; omega)), (Below.refl _ _).alloc (Nat.le_refl _) _⟩

theorem isAddr_any (a : Int) (w : World) :
    Calls Try.prog 64 #[.int .i64 a] w fun e w' => e = .returned (.bool (decide (okAddr a))) ∧ Below w.heap.size w w' := by
  by_cases h1 : 2 ≤ a
  · have d1 : decide ((2 : Int) ≤ a) = true := by simpa using h1
    go_enter Try.func64, Try.ntmps64
    go_wp2_with fail
    go_ret
    exact ⟨nd_retB (by first | (simp [okAddr, h1]; done) | (symm; exact decide_eq_false (fun h => by have := h.1; omega)) | (simp [okAddr]; omega)), Below.refl _ _⟩
  · have d1 : decide ((2 : Int) ≤ a) = false := by simpa using h1
    go_enter Try.func64, Try.ntmps64
    go_wp2_with fail
    go_ret
    exact ⟨nd_retB (by first | (simp [okAddr]; done) | (symm; exact decide_eq_false (fun h => by have := h.1; omega)) | (simp [okAddr]; omega)), Below.refl _ _⟩

theorem npages_any (e : EntD) (h1 : 1 ≤ e.le) (h2 : e.le ≤ 65535) (w : World) :
    Calls Try.prog 84 #[.agg #[.int .i64 e.se, .int .i64 e.st, .int .i64 e.en, .int .i64 e.ad, .int .i64 e.le, .int .i64 e.cn, .int .i64 e.co, .int .u32 e.cr]] w fun e' w' => e' = .returned (.int .i64 ((e.le + 255) / 256)) ∧ Below w.heap.size w w' := by
  obtain ⟨v, hv⟩ := Int.eq_ofNat_of_zero_le (show 0 ≤ e.le by omega)
  rw [hv] at h1 h2 ⊢
  go_enter Try.func84, Try.ntmps84
  go_wp2_with fail
  go_ret
  refine ⟨congrArg (fun x => Ending.returned (Value.int .i64 x)) (?_ : ((v : Int) + 256 - 1) / 256 = _), (Below.refl _ _).alloc (Nat.le_refl _) _⟩
  omega

theorem less_any (a b : KeyD) (w : World) :
    Calls Try.prog 63 #[.agg #[.int .i64 a.se, .int .i64 a.st], .agg #[.int .i64 b.se, .int .i64 b.st]] w fun e w' => e = .returned (.bool (lessB a b)) ∧ Below w.heap.size w w' := by
  by_cases h : a.se = b.se
  · have hb : (a.se != b.se) = false := by simp [h]
    go_enter Try.func63, Try.ntmps63
    go_wp2_with fail
    go_ret
    exact ⟨nd_retB (by simp [lessB, h]), ((Below.refl _ _).alloc (Nat.le_refl _) _).alloc (by simp) _⟩
  · have hb : (a.se != b.se) = true := by simp [h]
    go_enter Try.func63, Try.ntmps63
    go_wp2_with fail
    go_ret
    exact ⟨nd_retB (by simp [lessB, h]), ((Below.refl _ _).alloc (Nat.le_refl _) _).alloc (by simp) _⟩

theorem rightKey_r (s t : Int) (r : Bool) (hr : r = decide (okKey s)) (w : World) :
    Calls Try.prog 62 #[.agg #[.int .i64 s, .int .i64 t]] w fun e w' => e = .returned (.bool r) ∧ Below w.heap.size w w' := by subst hr; exact rightKey_any s t w
theorem isAddr_r (a : Int) (r : Bool) (hr : r = decide (okAddr a)) (w : World) :
    Calls Try.prog 64 #[.int .i64 a] w fun e w' => e = .returned (.bool r) ∧ Below w.heap.size w w' := by subst hr; exact isAddr_any a w
theorem pages_r (e : EntD) (h1 : 1 ≤ e.le) (h2 : e.le ≤ 65535) (P : Int) (hP : P = (e.le + 255) / 256) (w : World) :
    Calls Try.prog 84 #[.agg #[.int .i64 e.se, .int .i64 e.st, .int .i64 e.en, .int .i64 e.ad, .int .i64 e.le, .int .i64 e.cn, .int .i64 e.co, .int .u32 e.cr]] w fun e' w' => e' = .returned (.int .i64 P) ∧ Below w.heap.size w w' := by subst hP; exact npages_any e h1 h2 w
set_option maxHeartbeats 4000000 in
set_option maxRecDepth 100000 in
theorem rightEntry_any (e : EntD) (r : Bool) (hr : decide (okEnt e) = r) (w : World) :
    Calls Try.prog 60 #[.agg #[.int .i64 e.se, .int .i64 e.st, .int .i64 e.en, .int .i64 e.ad, .int .i64 e.le, .int .i64 e.cn, .int .i64 e.co, .int .u32 e.cr]] w fun e' w' => e' = .returned (.bool r) ∧ Below w.heap.size w w' := by
  obtain ⟨W, eW⟩ : ∃ W, W = w.alloc (.cells #[.int .i64 e.se, .int .i64 e.st, .int .i64 e.en, .int .i64 e.ad, .int .i64 e.le, .int .i64 e.cn, .int .i64 e.co, .int .u32 e.cr] 77) := ⟨_, rfl⟩
  have hrow : W.heap[w.heap.size]? = some (.cells #[.int .i64 e.se, .int .i64 e.st, .int .i64 e.en, .int .i64 e.ad, .int .i64 e.le, .int .i64 e.cn, .int .i64 e.co, .int .u32 e.cr] 77 (0, 0)) := by rw [eW]; exact heap_alloc_new _ _
  have hbel : Below w.heap.size w W := by rw [eW]; exact (Below.refl _ _).alloc (Nat.le_refl _) _
  have EW := Lib.hid eW.symm
  have HB := Lib.hid hbel
  have G0 : ∀ y : SubW W.heap.size W, y.at_.cell? ⟨w.heap.size, 0, none⟩ = some (.int .i64 e.se) := fun y => nd_cell ((y.ok_.block _ (Array.getElem?_eq_some_iff.1 hrow).1).trans hrow) 0 _ rfl
  have G1 : ∀ y : SubW W.heap.size W, y.at_.cell? ⟨w.heap.size, 1, none⟩ = some (.int .i64 e.st) := fun y => nd_cell ((y.ok_.block _ (Array.getElem?_eq_some_iff.1 hrow).1).trans hrow) 1 _ rfl
  have G2 : ∀ y : SubW W.heap.size W, y.at_.cell? ⟨w.heap.size, 2, none⟩ = some (.int .i64 e.en) := fun y => nd_cell ((y.ok_.block _ (Array.getElem?_eq_some_iff.1 hrow).1).trans hrow) 2 _ rfl
  have G3 : ∀ y : SubW W.heap.size W, y.at_.cell? ⟨w.heap.size, 3, none⟩ = some (.int .i64 e.ad) := fun y => nd_cell ((y.ok_.block _ (Array.getElem?_eq_some_iff.1 hrow).1).trans hrow) 3 _ rfl
  have G4 : ∀ y : SubW W.heap.size W, y.at_.cell? ⟨w.heap.size, 4, none⟩ = some (.int .i64 e.le) := fun y => nd_cell ((y.ok_.block _ (Array.getElem?_eq_some_iff.1 hrow).1).trans hrow) 4 _ rfl
  have G5 : ∀ y : SubW W.heap.size W, y.at_.cell? ⟨w.heap.size, 5, none⟩ = some (.int .i64 e.cn) := fun y => nd_cell ((y.ok_.block _ (Array.getElem?_eq_some_iff.1 hrow).1).trans hrow) 5 _ rfl
  have G6 : ∀ y : SubW W.heap.size W, y.at_.cell? ⟨w.heap.size, 6, none⟩ = some (.int .i64 e.co) := fun y => nd_cell ((y.ok_.block _ (Array.getElem?_eq_some_iff.1 hrow).1).trans hrow) 6 _ rfl
  have G7 : ∀ y : SubW W.heap.size W, y.at_.cell? ⟨w.heap.size, 7, none⟩ = some (.int .u32 e.cr) := fun y => nd_cell ((y.ok_.block _ (Array.getElem?_eq_some_iff.1 hrow).1).trans hrow) 7 _ rfl
  obtain ⟨P, hP⟩ : ∃ P, P = (e.le + 255) / 256 := ⟨_, rfl⟩
  obtain ⟨rk, hrk⟩ : ∃ x, x = decide (okKey e.se) := ⟨_, rfl⟩
  obtain ⟨ia, hia⟩ : ∃ x, x = decide (okAddr e.ad) := ⟨_, rfl⟩
  have HRK := Lib.hid hrk
  have HIA := Lib.hid hia
  have HP := Lib.hid hP
  have HR := Lib.hid hr
  clear hrk hia hr hP hrow hbel eW
  by_cases h0 : rk = true
  · subst h0
    by_cases h1 : e.st ≤ e.en
    · have d1 : decide (e.st ≤ e.en) = true := by simpa using h1
      by_cases h2 : 1 ≤ e.le
      · have d2 : decide ((1 : Int) ≤ e.le) = true := by simpa using h2
        by_cases h3 : e.le ≤ 65535
        · have d3 : decide (e.le ≤ 65535) = true := by simpa using h3
          by_cases h4 : ia = true
          · subst h4
            have hwr : wrap64 (e.ad + P) = e.ad + P := by have hq : okAddr e.ad := of_decide_eq_true HIA.out.symm; have hp := HP.out; unfold okAddr at hq; exact IntWalk.wrap64_in _ ⟨by omega, by omega⟩
            by_cases h5 : e.ad + P ≤ 512
            · have d5 : decide (e.ad + P ≤ 512) = true := by simpa using h5
              by_cases h6 : 1 ≤ e.cn
              · have d6 : decide ((1 : Int) ≤ e.cn) = true := by simpa using h6
                by_cases h7 : e.cn ≤ 200
                · have d7 : decide (e.cn ≤ 200) = true := by simpa using h7
                  by_cases h8 : 0 ≤ e.co
                  · have d8 : decide ((0 : Int) ≤ e.co) = true := by simpa using h8
                    go_enter Try.func60, Try.ntmps60
                    go_upto_region 1 with fail
                    rw [EW.out]
                    refine region_below W.heap.size W (Below.refl _ _) (by kernel_rfl) (by kernel_rfl) ?_
                    repeat (go_big_quiet_step ((first | (go_at_call 62; exact calls_sub (Nat.le_refl _) (rightKey_r _ _ _ HRK.out _)) | (go_at_call 64; exact calls_sub (Nat.le_refl _) (isAddr_r _ _ HIA.out _)) | (go_at_call 84; exact calls_sub (Nat.le_refl _) (pages_r e h2 h3 P HP.out _)))))
                    refine wpQuiet_nil ?_
                    rintro w' ⟨y, rfl⟩
                    have HY := Lib.hid (HB.out.trans (y.ok_.mono HB.out.size))
                    clear G0 G1 G2 G3 G4 G5 G6 G7
                    go_wp2_with fail
                    go_ret
                    refine ⟨nd_retB ?_, HY.out⟩
                    rw [← HR.out, Bool.eq_iff_iff, decide_eq_true_eq, decide_eq_true_eq]
                    unfold okEnt
                    have e0 := HRK.out; have e4 := HIA.out; have eP := HP.out
                    replace e0 := of_decide_eq_true e0.symm; replace e4 := of_decide_eq_true e4.symm; subst eP
                    exact ⟨fun h => ⟨e0, h1, h2, h3, e4, h5, h6, h7, h8, h⟩, fun h => h.2.2.2.2.2.2.2.2.2⟩
                  · have d8 : decide ((0 : Int) ≤ e.co) = false := by simpa using h8
                    go_enter Try.func60, Try.ntmps60
                    go_upto_region 1 with fail
                    rw [EW.out]
                    refine region_below W.heap.size W (Below.refl _ _) (by kernel_rfl) (by kernel_rfl) ?_
                    repeat (go_big_quiet_step ((first | (go_at_call 62; exact calls_sub (Nat.le_refl _) (rightKey_r _ _ _ HRK.out _)) | (go_at_call 64; exact calls_sub (Nat.le_refl _) (isAddr_r _ _ HIA.out _)) | (go_at_call 84; exact calls_sub (Nat.le_refl _) (pages_r e h2 h3 P HP.out _)))))
                    refine wpQuiet_nil ?_
                    rintro w' ⟨y, rfl⟩
                    have HY := Lib.hid (HB.out.trans (y.ok_.mono HB.out.size))
                    clear G0 G1 G2 G3 G4 G5 G6 G7
                    go_wp2_with fail
                    go_ret
                    refine ⟨nd_retB ?_, HY.out⟩
                    rw [← HR.out]; symm; rw [decide_eq_false_iff_not]; unfold okEnt; intro hx
                    have h' := hx.2.2.2.2.2.2.2.2.1; omega
                · have d7 : decide (e.cn ≤ 200) = false := by simpa using h7
                  go_enter Try.func60, Try.ntmps60
                  go_upto_region 1 with fail
                  rw [EW.out]
                  refine region_below W.heap.size W (Below.refl _ _) (by kernel_rfl) (by kernel_rfl) ?_
                  repeat (go_big_quiet_step ((first | (go_at_call 62; exact calls_sub (Nat.le_refl _) (rightKey_r _ _ _ HRK.out _)) | (go_at_call 64; exact calls_sub (Nat.le_refl _) (isAddr_r _ _ HIA.out _)) | (go_at_call 84; exact calls_sub (Nat.le_refl _) (pages_r e h2 h3 P HP.out _)))))
                  refine wpQuiet_nil ?_
                  rintro w' ⟨y, rfl⟩
                  have HY := Lib.hid (HB.out.trans (y.ok_.mono HB.out.size))
                  clear G0 G1 G2 G3 G4 G5 G6 G7
                  go_wp2_with fail
                  go_ret
                  refine ⟨nd_retB ?_, HY.out⟩
                  rw [← HR.out]; symm; rw [decide_eq_false_iff_not]; unfold okEnt; intro hx
                  have h' := hx.2.2.2.2.2.2.2.1; omega
              · have d6 : decide ((1 : Int) ≤ e.cn) = false := by simpa using h6
                go_enter Try.func60, Try.ntmps60
                go_upto_region 1 with fail
                rw [EW.out]
                refine region_below W.heap.size W (Below.refl _ _) (by kernel_rfl) (by kernel_rfl) ?_
                repeat (go_big_quiet_step ((first | (go_at_call 62; exact calls_sub (Nat.le_refl _) (rightKey_r _ _ _ HRK.out _)) | (go_at_call 64; exact calls_sub (Nat.le_refl _) (isAddr_r _ _ HIA.out _)) | (go_at_call 84; exact calls_sub (Nat.le_refl _) (pages_r e h2 h3 P HP.out _)))))
                refine wpQuiet_nil ?_
                rintro w' ⟨y, rfl⟩
                have HY := Lib.hid (HB.out.trans (y.ok_.mono HB.out.size))
                clear G0 G1 G2 G3 G4 G5 G6 G7
                go_wp2_with fail
                go_ret
                refine ⟨nd_retB ?_, HY.out⟩
                rw [← HR.out]; symm; rw [decide_eq_false_iff_not]; unfold okEnt; intro hx
                have h' := hx.2.2.2.2.2.2.1; omega
            · have d5 : decide (e.ad + P ≤ 512) = false := by simpa using h5
              go_enter Try.func60, Try.ntmps60
              go_upto_region 1 with fail
              rw [EW.out]
              refine region_below W.heap.size W (Below.refl _ _) (by kernel_rfl) (by kernel_rfl) ?_
              repeat (go_big_quiet_step ((first | (go_at_call 62; exact calls_sub (Nat.le_refl _) (rightKey_r _ _ _ HRK.out _)) | (go_at_call 64; exact calls_sub (Nat.le_refl _) (isAddr_r _ _ HIA.out _)) | (go_at_call 84; exact calls_sub (Nat.le_refl _) (pages_r e h2 h3 P HP.out _)))))
              refine wpQuiet_nil ?_
              rintro w' ⟨y, rfl⟩
              have HY := Lib.hid (HB.out.trans (y.ok_.mono HB.out.size))
              clear G0 G1 G2 G3 G4 G5 G6 G7
              go_wp2_with fail
              go_ret
              refine ⟨nd_retB ?_, HY.out⟩
              rw [← HR.out]; symm; rw [decide_eq_false_iff_not]; unfold okEnt; intro hx
              have eP := HP.out; have h' := hx.2.2.2.2.2.1; omega
          · have d4 : ia = false := by simpa using h4
            subst d4
            clear h4
            go_enter Try.func60, Try.ntmps60
            go_upto_region 1 with fail
            rw [EW.out]
            refine region_below W.heap.size W (Below.refl _ _) (by kernel_rfl) (by kernel_rfl) ?_
            repeat (go_big_quiet_step ((first | (go_at_call 62; exact calls_sub (Nat.le_refl _) (rightKey_r _ _ _ HRK.out _)) | (go_at_call 64; exact calls_sub (Nat.le_refl _) (isAddr_r _ _ HIA.out _)) | (go_at_call 84; exact calls_sub (Nat.le_refl _) (pages_r e h2 h3 P HP.out _)))))
            refine wpQuiet_nil ?_
            rintro w' ⟨y, rfl⟩
            have HY := Lib.hid (HB.out.trans (y.ok_.mono HB.out.size))
            clear G0 G1 G2 G3 G4 G5 G6 G7
            go_wp2_with fail
            go_ret
            refine ⟨nd_retB ?_, HY.out⟩
            rw [← HR.out]; symm; rw [decide_eq_false_iff_not]; unfold okEnt; intro hx
            have e4 := HIA.out; rw [decide_eq_true hx.2.2.2.2.1] at e4; cases e4
        · have d3 : decide (e.le ≤ 65535) = false := by simpa using h3
          go_enter Try.func60, Try.ntmps60
          go_upto_region 1 with fail
          rw [EW.out]
          refine region_below W.heap.size W (Below.refl _ _) (by kernel_rfl) (by kernel_rfl) ?_
          repeat (go_big_quiet_step ((first | (go_at_call 62; exact calls_sub (Nat.le_refl _) (rightKey_r _ _ _ HRK.out _)) | (go_at_call 64; exact calls_sub (Nat.le_refl _) (isAddr_r _ _ HIA.out _)) | (go_at_call 84; exact calls_sub (Nat.le_refl _) (pages_r e h2 h3 P HP.out _)))))
          refine wpQuiet_nil ?_
          rintro w' ⟨y, rfl⟩
          have HY := Lib.hid (HB.out.trans (y.ok_.mono HB.out.size))
          clear G0 G1 G2 G3 G4 G5 G6 G7
          go_wp2_with fail
          go_ret
          refine ⟨nd_retB ?_, HY.out⟩
          rw [← HR.out]; symm; rw [decide_eq_false_iff_not]; unfold okEnt; intro hx
          have h' := hx.2.2.2.1; omega
      · have d2 : decide ((1 : Int) ≤ e.le) = false := by simpa using h2
        go_enter Try.func60, Try.ntmps60
        go_upto_region 1 with fail
        rw [EW.out]
        refine region_below W.heap.size W (Below.refl _ _) (by kernel_rfl) (by kernel_rfl) ?_
        repeat (go_big_quiet_step ((first | (go_at_call 62; exact calls_sub (Nat.le_refl _) (rightKey_r _ _ _ HRK.out _)) | (go_at_call 64; exact calls_sub (Nat.le_refl _) (isAddr_r _ _ HIA.out _)) | (go_at_call 84; exact calls_sub (Nat.le_refl _) (pages_r e h2 h3 P HP.out _)))))
        refine wpQuiet_nil ?_
        rintro w' ⟨y, rfl⟩
        have HY := Lib.hid (HB.out.trans (y.ok_.mono HB.out.size))
        clear G0 G1 G2 G3 G4 G5 G6 G7
        go_wp2_with fail
        go_ret
        refine ⟨nd_retB ?_, HY.out⟩
        rw [← HR.out]; symm; rw [decide_eq_false_iff_not]; unfold okEnt; intro hx
        have h' := hx.2.2.1; omega
    · have d1 : decide (e.st ≤ e.en) = false := by simpa using h1
      go_enter Try.func60, Try.ntmps60
      go_upto_region 1 with fail
      rw [EW.out]
      refine region_below W.heap.size W (Below.refl _ _) (by kernel_rfl) (by kernel_rfl) ?_
      repeat (go_big_quiet_step ((first | (go_at_call 62; exact calls_sub (Nat.le_refl _) (rightKey_r _ _ _ HRK.out _)) | (go_at_call 64; exact calls_sub (Nat.le_refl _) (isAddr_r _ _ HIA.out _)) | (go_at_call 84; exact calls_sub (Nat.le_refl _) (pages_r e h2 h3 P HP.out _)))))
      refine wpQuiet_nil ?_
      rintro w' ⟨y, rfl⟩
      have HY := Lib.hid (HB.out.trans (y.ok_.mono HB.out.size))
      clear G0 G1 G2 G3 G4 G5 G6 G7
      go_wp2_with fail
      go_ret
      refine ⟨nd_retB ?_, HY.out⟩
      rw [← HR.out]; symm; rw [decide_eq_false_iff_not]; unfold okEnt; intro hx
      have h' := hx.2.1; omega
  · have d0 : rk = false := by simpa using h0
    subst d0
    clear h0
    go_enter Try.func60, Try.ntmps60
    go_upto_region 1 with fail
    rw [EW.out]
    refine region_below W.heap.size W (Below.refl _ _) (by kernel_rfl) (by kernel_rfl) ?_
    repeat (go_big_quiet_step ((first | (go_at_call 62; exact calls_sub (Nat.le_refl _) (rightKey_r _ _ _ HRK.out _)) | (go_at_call 64; exact calls_sub (Nat.le_refl _) (isAddr_r _ _ HIA.out _)) | (go_at_call 84; exact calls_sub (Nat.le_refl _) (pages_r e h2 h3 P HP.out _)))))
    refine wpQuiet_nil ?_
    rintro w' ⟨y, rfl⟩
    have HY := Lib.hid (HB.out.trans (y.ok_.mono HB.out.size))
    clear G0 G1 G2 G3 G4 G5 G6 G7
    go_wp2_with fail
    go_ret
    refine ⟨nd_retB ?_, HY.out⟩
    rw [← HR.out]; symm; rw [decide_eq_false_iff_not]; unfold okEnt; intro hx
    have e0 := HRK.out; rw [decide_eq_true hx.1] at e0; cases e0
end Go.Proofs.Ytgkddhncfaeidaa
