/- Several texts in one: append to a row of elements of whatever size, of a row, or of so many noughts to no row. No program is named here. Nodes turned into the reference's, and back. Package node's cursor, and Get at the example. The cursor of package node's Get over whatever bytes: high, key, entry. The cursor's entry over whatever bytes. -/
import Derived.Test.YtgkddhncfaeidaaPart09
import Derived.Maps.AppendAt
import Derived.Lib.AppendZeros
import Derived.Test.YtgkddhncfaeidaaPart06
set_option linter.unusedSimpArgs false
set_option linter.unusedVariables false
namespace Go.Proofs.Ytgkddhncfaeidaa
open Go.RowKit
set_option linter.unusedVariables false
section
variable {P : Program} {w w2 : World} {base sz n : Nat} {E : TypeId} {us vs : List Value}

theorem row_cases {v : Value} (h : w.ownsRow base E sz v n us) : (v = .slice none 0 0 ∧ n = 0 ∧ us = []) ∨ ∃ g cap, v = .slice (some ⟨g, 0, none⟩) n cap ∧ base ≤ g ∧ n ≤ cap ∧ cap ≤ maxLen := by
  have hl := h.1
  rcases h.2 with ⟨h1, h2⟩ | ⟨g, cap, cur, hv, hb, hh, h3, h4, _⟩
  · subst h2
    rw [Nat.zero_mul] at hl
    exact .inl ⟨h1, rfl, List.eq_nil_of_length_eq_zero hl⟩
  · exact .inr ⟨g, cap, hv, hb, h3, h4⟩
theorem run_append_row (t ty : TypeId) (ht : P.underlying t = some (.slice E)) (z : Value) (bytes : Nat) (hi : (P.info? E).map (fun i => (i.zero, i.size, i.bytes)) = some (some z, sz, bytes)) (hz1 : z.cells.size = sz) (hsz : 0 < sz)
    {v : Value} (hown : w.ownsRow base E sz v n us) (A : Option Addr) (c m : Nat) (hm : vs.length = m * sz) (hA : CellsAt w A vs) (h1 : ∀ u ∈ vs, u.oneCell' = true) (hl : (n + m) * bytes ≤ 140737488355328) (h63 : n + m ≤ maxLen) (hbase : base ≤ w.heap.size) :
    ∃ A' c' w', (Builtin.append_ #[t, t] ty #[v, .slice A m c]).run P w = .ok (.slice A' (n + m) c') w' ∧ w'.ownsRow base E sz (.slice A' (n + m) c') (n + m) (us ++ vs) ∧ w.grownBy w' v.ownBlock := by
  obtain ⟨i, hi0, hz, hs, hb⟩ := info_parts hi
  by_cases hy : vs = []
  · subst hy
    have hm0 : m = 0 := by
      have : m * sz = 0 := by simpa using hm.symm
      rcases Nat.mul_eq_zero.1 this with h | h
      · exact h
      · omega
    subst hm0
    rcases row_cases hown with ⟨rfl, rfl, rfl⟩ | ⟨g, cap, rfl, h2, h3, h4⟩
    · refine ⟨none, 0, w, ?_, by simpa using World.ownsRow_nil w base E sz, World.grownBy.refl w _⟩
      cases A <;> simp [Builtin.append_, run_underlying ht, sizeOf, typeInfo, hi0, Builtin.lenOf, Builtin.firstCells, loadCells, loadCellsFrom]
    · refine ⟨some ⟨g, 0, none⟩, cap, w, ?_, by simpa using hown, World.grownBy.refl w _⟩
      cases A <;> simp [Builtin.append_, run_underlying ht, sizeOf, typeInfo, hi0, Builtin.lenOf, Builtin.firstCells, h3, storeCells, loadCells, loadCellsFrom]
  · obtain ⟨ad, rfl, hc⟩ := hA.cells hy
    obtain ⟨v', w', hr, h2, h3, _, _⟩ := run_append_own_at (P := P) w base t ty E i z sz bytes ht hi0 hz hs hb hz1 hsz v n us hown ad m c vs hm hc h1 h63 hl hbase
    rcases row_cases h2 with ⟨_, _, h4⟩ | ⟨g', cap', rfl, _⟩
    · exact absurd (List.append_eq_nil_iff.1 h4).2 hy
    · exact ⟨_, cap', w', hr, h2, h3⟩
theorem wpList_append_row {ops : Array Oper} {rest : List Oper} {o : Oper} {a : Act} {Q : Exit → Act → World → Prop} (hgd : o.guard = none) (s x : Operand) (t : TypeId)
    (ho : o.op = .call { callee := .builtin .append, args := #[s, x], argTypes := #[t, t] }) (ht : P.underlying t = some (.slice E)) (z : Value) (bytes : Nat) (hi : (P.info? E).map (fun i => (i.zero, i.size, i.bytes)) = some (some z, sz, bytes)) (hz1 : z.cells.size = sz) (hsz : 0 < sz)
    (v : Value) (hs : a.eval s = v) (hown : w.ownsRow base E sz v n us) (A : Option Addr) (c m : Nat) (hx : a.eval x = .slice A m c) (hm : vs.length = m * sz) (hA : CellsAt w A vs) (h1 : ∀ u ∈ vs, u.oneCell' = true)
    (hl : (n + m) * bytes ≤ 140737488355328) (h63 : n + m ≤ maxLen) (hbase : base ≤ w.heap.size) (k : Nat) (hk : n + m = k) (zs : List Value) (hzs : us ++ vs = zs)
    (h : ∀ A' c' w', w'.ownsRow base E sz (.slice A' k c') k zs → w.grownBy w' v.ownBlock → wpList P ops Q rest (a.put o.dst (.slice A' k c')) w') : wpList P ops Q (o :: rest) a w :=
  wpList_plain hgd fun _ hK => by
    subst hk hzs
    obtain ⟨A', c', w', hr, h2, h3⟩ := run_append_row (P := P) t o.type ht z bytes hi hz1 hsz hown A c m hm hA h1 hl h63 hbase
    unfold Oper.wp execOp
    simp only [ho, resolve, invoke, builtin, Sem.run_bind, Sem.run_pure, Result.andThen_ok, List.map_toArray, List.map_cons, List.map_nil, hs, hx, hr]
    exact hK _ _ (h A' c' w' h2 h3)
end
end Go.Proofs.Ytgkddhncfaeidaa

namespace Go.Proofs.Ytgkddhncfaeidaa
open Go.ChangeShapes Go.WideShapes Go.ChangeAt Go.RowKit CrcM PageM
set_option linter.unusedVariables false

theorem infoIntN : (Try.prog.info? 3).map (fun i => (i.zero, i.size, i.bytes)) = some (some (.int .i64 0), 1, 8) := by kernel_rfl
theorem infoEnt_to_any : (Try.prog.info? 77).map (fun i => (i.zero, i.size, i.bytes)) = some (some (.agg #[.int .i64 0, .int .i64 0, .int .i64 0, .int .i64 0, .int .i64 0, .int .i64 0, .int .i64 0, .int .u32 0]), 8, 64) := by kernel_rfl
theorem infoKey_to_any : (Try.prog.info? 46).map (fun i => (i.zero, i.size, i.bytes)) = some (some (.agg #[.int .i64 0, .int .i64 0]), 2, 16) := by kernel_rfl
theorem infoEnt_from_any : (Try.prog.info? 51).map (fun i => (i.zero, i.size, i.bytes)) = some (some (.agg #[.int .i64 0, .int .i64 0, .int .i64 0, .int .i64 0, .int .i64 0, .int .i64 0, .int .i64 0, .int .u32 0]), 8, 64) := by kernel_rfl
end Go.Proofs.Ytgkddhncfaeidaa

namespace Go.Proofs.Ytgkddhncfaeidaa
open Go.RowKit CrcM PageM
set_option linter.unusedVariables false

theorem or_u64n (a : Nat) (c : UInt8) (ha : a < 72057594037927936) : bits BinOp.or IntKind.u64 ((a : Int) * 256) (c.toNat : Int) = ((a * 256 + c.toNat : Nat) : Int) := by
  have hc := c.toNat_lt
  have e : bits BinOp.or IntKind.u64 ((a * 256 : Nat) : Int) ((c.toNat : Nat) : Int) = ((a * 256 ||| c.toNat : Nat) : Int) := u64_or_nat _ _ (by omega) (by omega)
  rw [nat_join 8 (a * 256) c.toNat (by omega) (by omega)] at e
  exact e

set_option maxRecDepth 100000 in
theorem high_nd (r g o len cap : Nat) (xs : List UInt8) (w : World) (hr : w.heap[r]? = some (.cells #[.slice (some ⟨g, o, none⟩) len cap] 95 (0, 0))) (hx : BytesAt w (some ⟨g, o, none⟩) xs) (hlen : xs.length = len) (hc : len ≤ cap) (hcm : cap ≤ maxLen) (z : Int) (s : Nat) (hz : z = (s : Int)) (hs : s ≤ len) (hs8 : s ≤ 8) :
    Calls Try.prog 46 #[.pointer (some ⟨r, 0, none⟩), .int .i64 z] w fun e w' => e = .returned (.int .u64 (val (xs.take s))) ∧ ∃ A', w' = w.setCell ⟨r, 0, none⟩ (.slice A' (len - s) (cap - s)) ∧ (s < len → A' = some ⟨g, o + s, none⟩) := by
  subst hz hlen
  unfold maxLen at hcm
  have h0 := nd_cell hr 0 _ rfl
  have hfz : w.frozen? ⟨r, 0, none⟩ = false := by simp [World.frozen?, hr]
  go_enter Try.func46, Try.ntmps46
  go_wp2_with fail
  go_loop [5, 14] (fun v i => ∃ k : Nat, k ≤ s ∧ i = .int .i64 k ∧ v = .int .u64 (val (xs.take k))) (fun _ i => s - (intOf i).toNat)
  case atStart => exact ⟨0, by omega, rfl, by simp [val]⟩
  case round =>
    obtain ⟨k, hk, rfl, rfl⟩ := hrel
    by_cases hlt : k < s
    · obtain ⟨b, off, hbo, hcl⟩ := hx (by intro h; subst h; simp at hs; omega)
      injection hbo with hbo
      injection hbo with e1 e2 e3
      subst e1 e2
      have hck := hcl k (by omega)
      clear hcl
      have hv : val (xs.take k) < 72057594037927936 := by
        have := val_lt (xs.take k)
        have h2 : 256 ^ (xs.take k).length ≤ 256 ^ 7 := Nat.pow_le_pow_right (by omega) (by simp; omega)
        omega
      go_wp2_with fail
      go_round
      case rel =>
        refine ⟨k + 1, by omega, by go_num, ?_⟩
        have hlt2 : k < xs.length := by omega
        have hw : IntKind.u64.wrap (xs[k].toNat : Int) = (xs[k].toNat : Int) := by have := xs[k].toNat_lt; rw [IntKind.wrap_u64]; omega
        rw [hw, or_u64n _ _ hv, List.take_succ_eq_append_getElem hlt2, val_snoc]
      case measure => simp [intOf]; omega
    · obtain rfl : k = s := by omega
      by_cases hcs : cap = k
      · subst hcs
        go_wp2_with fail
        go_ret
        exact ⟨rfl, _, rfl, fun h => by omega⟩
      · go_wp2_with fail
        go_ret
        exact ⟨rfl, _, rfl, fun _ => rfl⟩

theorem _root_.Go.World.grownBy.setCell_own {w w' : World} {g : Nat} (h : w.grownBy w' (some g)) (i : Nat) (v : Value) : w.grownBy (w'.setCell ⟨g, i, none⟩ v) (some g) :=
  ⟨h.os, h.tape, h.output, by simpa using h.size, fun k hk hne => (Below.heap_setCell w' ⟨g, i, none⟩ v k (fun e => hne (by rw [e]))).trans (h.block k hk hne)⟩
theorem bytes_grown {w w' : World} {g o r : Nat} {xs : List UInt8} (h : BytesAt w (some ⟨g, o, none⟩) xs) (hg : w.grownBy w' (some r)) (hne : g ≠ r) : BytesAt w' (some ⟨g, o, none⟩) xs := fun hx => by
  obtain ⟨b, off, hbo, hc⟩ := h hx
  injection hbo with hbo
  injection hbo with e1 e2 e3
  subst e1 e2
  exact ⟨g, o, rfl, fun k hk => (World.cell?_of_block (a := ⟨g, o + k, none⟩) (hg.block g (World.block_lt_of_cell? _ _ (hc k hk)) (fun e => hne (by injection e)))).trans (hc k hk)⟩

end Go.Proofs.Ytgkddhncfaeidaa

namespace Go.Proofs.Ytgkddhncfaeidaa
open Go.ChangeShapes Go.WideShapes Go.ChangeAt Go.RowKit CrcM PageM
set_option linter.unusedVariables false

/-- A cursor: the bytes that are left. -/
def CurAt (w : World) (r : Nat) (xs : List UInt8) : Prop := ∃ A cap, w.heap[r]? = some (.cells #[.slice A xs.length cap] 95 (0, 0)) ∧ xs.length ≤ cap ∧ cap ≤ maxLen ∧ BytesAt w A xs ∧ (xs ≠ [] → ∀ a, A = some a → a.block < r)
theorem CurAt.below {w w' : World} {r : Nat} {xs : List UInt8} (h : CurAt w r xs) (hb : Below w.heap.size w w') : CurAt w' r xs := by
  obtain ⟨A, cap, h1, h2, h3, h4, h5⟩ := h
  exact ⟨A, cap, (hb.block r (Array.getElem?_eq_some_iff.1 h1).1).trans h1, h2, h3, h4.below hb, h5⟩
theorem CurAt.lt {w : World} {r : Nat} {xs : List UInt8} (h : CurAt w r xs) : r < w.heap.size := by
  obtain ⟨A, cap, h1, _⟩ := h
  exact (Array.getElem?_eq_some_iff.1 h1).1
theorem high_cur (w : World) (r : Nat) (xs : List UInt8) (h : CurAt w r xs) (z : Int) (s : Nat) (hz : z = (s : Int)) (h1 : 1 ≤ s) (hs : s ≤ xs.length) (hs8 : s ≤ 8) :
    Calls Try.prog 46 #[.pointer (some ⟨r, 0, none⟩), .int .i64 z] w fun e w' => e = .returned (.int .u64 (val (xs.take s))) ∧ CurAt w' r (xs.drop s) ∧ w.grownBy w' (some r) ∧ w'.heap.size = w.heap.size := by
  obtain ⟨A, cap, k1, k2, k3, k4, k5⟩ := h
  obtain ⟨g, o, rfl, hc⟩ := k4 (by intro e; rw [e] at hs; simp at hs; omega)
  refine (high_nd r g o xs.length cap xs w k1 (fun _ => ⟨g, o, rfl, hc⟩) rfl k2 k3 z s hz hs hs8).mono ?_
  rintro e w' ⟨rfl, A', rfl, hA⟩
  have hg : w.grownBy (w.setCell ⟨r, 0, none⟩ (.slice A' (xs.length - s) (cap - s))) (some r) := World.grownBy.setCell_own (World.grownBy.refl w _) 0 _
  have hlt0 : g < r := k5 (by intro e; rw [e] at hs; simp at hs; omega) _ rfl
  have hne : g ≠ r := by omega
  refine ⟨rfl, ⟨A', cap - s, ?_, by rw [List.length_drop]; omega, by omega, ?_, ?_⟩, hg, by simp⟩
  · rw [heap_setCell_same w r 0 _ _ _ k1, List.length_drop]
    rfl
  · intro hne'
    have hlt : s < xs.length := by
      rcases Nat.lt_or_ge s xs.length with h | h
      · exact h
      · exact absurd (List.drop_eq_nil_of_le h) hne'
    obtain rfl := hA hlt
    have hb := bytes_grown (fun _ => ⟨g, o, rfl, hc⟩ : BytesAt w (some ⟨g, o, none⟩) xs) hg hne
    exact hb.cut s (some ⟨g, o + s, none⟩) (fun _ => by rw [Option.map_some]; congr 1; unfold Addr.add; split <;> simp_all) hne'
  · intro hne' a ha
    have hlt : s < xs.length := by
      rcases Nat.lt_or_ge s xs.length with h | h
      · exact h
      · exact absurd (List.drop_eq_nil_of_le h) hne'
    obtain rfl := hA hlt
    injection ha with ha
    rw [← ha]
    exact hlt0
/-- Another block is written whole: the cursor stays where its bytes lie elsewhere. -/
theorem CurAt.setRow {w : World} {r g : Nat} {xs : List UInt8} {cs cs' : Array Value} {T : TypeId} (h : CurAt w r xs) (hg : w.heap[g]? = some (.cells cs T (0, 0))) (hne : g ≠ r) (hcs : ∀ (i : Nat) (z : Int), cs[i]? ≠ some (.int .u8 z)) : CurAt (w.setRow g cs') r xs := by
  obtain ⟨A, cap, h1, h2, h3, h4, h5⟩ := h
  refine ⟨A, cap, (setRow_other w g r cs' (Ne.symm hne)).trans h1, h2, h3, fun hx => ?_, h5⟩
  obtain ⟨b, off, hA, hc⟩ := h4 hx
  refine ⟨b, off, hA, fun k hk => ?_⟩
  have hb : b ≠ g := fun e => by
    subst e
    have h6 := hc k hk
    rw [cell_of_row w b (off + k) _ _ _ hg] at h6
    exact hcs _ _ h6
  exact (World.cell?_of_block (a := ⟨b, off + k, none⟩) (setRow_other w g b cs' hb)).trans (hc k hk)
/-- What eight bytes are as a number with a sign. -/
def s64 (n : Nat) : Int := wrap64 (n : Int)
def keyP (b : List UInt8) : KeyD := ⟨s64 (val (b.take 4)), s64 (val ((b.drop 4).take 8))⟩

set_option maxRecDepth 100000 in
theorem key_cur (w : World) (r : Nat) (xs : List UInt8) (h : CurAt w r xs) (hl : 12 ≤ xs.length) :
    Calls Try.prog 45 #[.pointer (some ⟨r, 0, none⟩)] w fun e w' => e = .returned (.agg #[.int .i64 (keyP xs).se, .int .i64 (keyP xs).st]) ∧ CurAt w' r (xs.drop 12) ∧ w.grownBy w' (some r) := by
  have hlt := h.lt
  have hra := h.below ((Below.refl w.heap.size w).alloc (Nat.le_refl _) (.cells #[.int .i64 0, .int .i64 0] 46))
  have hkr : (w.alloc (.cells #[.int .i64 0, .int .i64 0] 46)).heap[w.heap.size]? = _ := heap_alloc_new w _
  have HRA := Lib.hid hra
  have HKR := Lib.hid hkr
  obtain ⟨n4, h4⟩ : ∃ n, val (xs.take 4) = n := ⟨_, rfl⟩
  obtain ⟨n8, h8⟩ : ∃ n, val ((xs.drop 4).take 8) = n := ⟨_, rfl⟩
  obtain ⟨z4, hz4⟩ : ∃ z, wrap64 (n4 : Int) = z := ⟨_, rfl⟩
  obtain ⟨z8, hz8⟩ : ∃ z, wrap64 (n8 : Int) = z := ⟨_, rfl⟩
  have hk : keyP xs = ⟨z4, z8⟩ := by unfold keyP s64; rw [h4, h8, hz4, hz8]
  rw [hk]
  dsimp only
  have H4 := Lib.hid h4
  have H8 := Lib.hid h8
  have H84 : Hid ((xs.drop 4).drop 8 = xs.drop 12) := Lib.hid (by rw [List.drop_drop])
  have q1 : 4 ≤ xs.length := by omega
  have q2 : 8 ≤ (xs.drop 4).length := by rw [List.length_drop]; omega
  have Q1 := Lib.hid q1
  have Q2 := Lib.hid q2
  have HHI4 : Hid (∀ W, CurAt W r xs → Calls Try.prog 46 #[.pointer (some ⟨r, 0, none⟩), .int .i64 4] W fun e w' => e = .returned (.int .u64 n4) ∧ CurAt w' r (xs.drop 4) ∧ W.grownBy w' (some r)) := Lib.hid (fun W hW => (high_cur W r xs hW 4 4 (by decide) (by decide) q1 (by decide)).mono (fun e w' ⟨a, b, c, _⟩ => ⟨h4 ▸ a, b, c⟩))
  have HHI8 : Hid (∀ W, CurAt W r (xs.drop 4) → Calls Try.prog 46 #[.pointer (some ⟨r, 0, none⟩), .int .i64 8] W fun e w' => e = .returned (.int .u64 n8) ∧ CurAt w' r (xs.drop 12) ∧ W.grownBy w' (some r)) := Lib.hid (fun W hW => (high_cur W r (xs.drop 4) hW 8 8 (by decide) (by decide) q2 (by decide)).mono (fun e w' ⟨a, b, c, _⟩ => ⟨h8 ▸ a, by rw [List.drop_drop] at b; exact b, c⟩))
  clear h hra hkr h4 h8 hk q1 q2 H4 H8 H84
  go_enter Try.func45, Try.ntmps45
  go_wp2_with (first
    | (go_at_call 46; (with_reducible refine (HHI4.out _ HRA.out).mono ?_); rintro e w1 ⟨rfl, hc1, hg1⟩; have HC1 := Lib.hid hc1; clear hc1)
    | (go_at_call 46; (with_reducible refine (HHI8.out _ HC1.out).mono ?_); rintro e w2 ⟨rfl, hc2, hg2⟩; have HC2 := Lib.hid hc2; clear hc2; have hk2 := (hg2.block w.heap.size (by have := hg1.size; simp at this; omega) (by intro e; injection e; omega)).trans ((hg1.block w.heap.size (by simp) (by intro e; injection e; omega)).trans HKR.out))
    | (refine wpList_store_row rfl 46 (.tmp 2) (.tmp 9) rfl w.heap.size _ rfl rfl 46 _ hk2 (by kernel_rfl) (by kernel_rfl) (by kernel_rfl) ?_))
  have hlt1 : w.heap.size < w1.heap.size := by have := hg1.size; simp at this; omega
  have hlt2 : w.heap.size < w2.heap.size := Nat.lt_of_lt_of_le hlt1 hg2.size
  have hg : w.grownBy w2 (some r) := (grown_alloc w _ _).trans' (hg1.trans' hg2)
  refine bodyPost_ret (v := .agg #[.int .i64 z4, .int .i64 z8]) (results_cell_row (p := 2) (ty := 46) rfl _ _ w.heap.size 46 #[.int .i64 z4, .int .i64 z8] (0, 0) _ rfl (setRow_heap _ _ _ _ _ _ hk2) Try.underlying46 rfl (by kernel_rfl)) rfl ⟨rfl, ?_, ?_⟩
  · exact HC2.out.setRow hk2 (by omega) (fun i z => by match i with | 0 => simp | 1 => simp | i + 2 => simp)
  · exact ⟨hg.os, hg.tape, hg.output, by simpa using hg.size, fun k hk hne => (setRow_other _ _ _ _ (by omega)).trans (hg.block k hk hne)⟩
end Go.Proofs.Ytgkddhncfaeidaa

namespace Go.Proofs.Ytgkddhncfaeidaa
open Go.ChangeShapes Go.WideShapes Go.ChangeAt Go.RowKit CrcM PageM
set_option linter.unusedVariables false

/-- Four bytes as a number. -/
def u32n (n : Nat) : Int := IntKind.u32.wrap (n : Int)
def entP (b : List UInt8) : EntD := ⟨(keyP b).se, (keyP b).st, s64 (val ((b.drop 12).take 8)), s64 (val ((b.drop 20).take 2)), s64 (val ((b.drop 22).take 2)), s64 (val ((b.drop 24).take 1)), s64 (val ((b.drop 25).take 1)), u32n (val ((b.drop 26).take 4))⟩

theorem high_at (xs : List UInt8) (r o s : Nat) (n : Nat) (hn : val ((xs.drop o).take s) = n) (h1 : 1 ≤ s) (h8 : s ≤ 8) (hl : o + s ≤ xs.length) (z : Int) (hz : z = (s : Int)) (o2 : Nat) (ho : o2 = o + s) (W : World) (hW : CurAt W r (xs.drop o)) :
    Calls Try.prog 46 #[.pointer (some ⟨r, 0, none⟩), .int .i64 z] W fun e w' => e = .returned (.int .u64 n) ∧ CurAt w' r (xs.drop o2) ∧ W.grownBy w' (some r) := by
  subst ho
  refine (high_cur W r (xs.drop o) hW z s hz h1 (by rw [List.length_drop]; omega) h8).mono (fun e w' ⟨a, b, c, _⟩ => ⟨hn ▸ a, ?_, c⟩)
  rw [List.drop_drop] at b
  exact b

set_option maxRecDepth 100000 in
set_option maxHeartbeats 4000000 in
theorem entry_cur (w : World) (r : Nat) (xs : List UInt8) (h : CurAt w r xs) (hl : 30 ≤ xs.length) :
    Calls Try.prog 44 #[.pointer (some ⟨r, 0, none⟩)] w fun e' w' => e' = .returned (.agg #[.int .i64 (entP xs).se, .int .i64 (entP xs).st, .int .i64 (entP xs).en, .int .i64 (entP xs).ad, .int .i64 (entP xs).le, .int .i64 (entP xs).cn, .int .i64 (entP xs).co, .int .u32 (entP xs).cr]) ∧ CurAt w' r (xs.drop 30) ∧ w.grownBy w' (some r) := by
  have hlt := h.lt
  obtain ⟨W, eW⟩ : ∃ W, W = w.alloc (.cells #[.int .i64 0, .int .i64 0, .int .i64 0, .int .i64 0, .int .i64 0, .int .i64 0, .int .i64 0, .int .u32 0] 77) := ⟨_, rfl⟩
  have hra : CurAt W r xs := by rw [eW]; exact h.below ((Below.refl w.heap.size w).alloc (Nat.le_refl _) _)
  have hkr : W.heap[w.heap.size]? = some (.cells #[.int .i64 0, .int .i64 0, .int .i64 0, .int .i64 0, .int .i64 0, .int .i64 0, .int .i64 0, .int .u32 0] 77 (0, 0)) := by rw [eW]; exact heap_alloc_new w _
  have hgr : w.grownBy W (some r) := by rw [eW]; exact grown_alloc w _ _
  have EW := Lib.hid eW.symm
  have HRA := Lib.hid hra
  have HKR := Lib.hid hkr
  have HG := Lib.hid hgr
  obtain ⟨kk, hkk⟩ : ∃ k, keyP xs = k := ⟨_, rfl⟩
  obtain ⟨n_en, h_en⟩ : ∃ n, val ((xs.drop 12).take 8) = n := ⟨_, rfl⟩
  obtain ⟨z_en, y_en⟩ : ∃ z, wrap64 (n_en : Int) = z := ⟨_, rfl⟩
  obtain ⟨n_ad, h_ad⟩ : ∃ n, val ((xs.drop 20).take 2) = n := ⟨_, rfl⟩
  obtain ⟨z_ad, y_ad⟩ : ∃ z, wrap64 (n_ad : Int) = z := ⟨_, rfl⟩
  obtain ⟨n_le, h_le⟩ : ∃ n, val ((xs.drop 22).take 2) = n := ⟨_, rfl⟩
  obtain ⟨z_le, y_le⟩ : ∃ z, wrap64 (n_le : Int) = z := ⟨_, rfl⟩
  obtain ⟨n_cn, h_cn⟩ : ∃ n, val ((xs.drop 24).take 1) = n := ⟨_, rfl⟩
  obtain ⟨z_cn, y_cn⟩ : ∃ z, wrap64 (n_cn : Int) = z := ⟨_, rfl⟩
  obtain ⟨n_co, h_co⟩ : ∃ n, val ((xs.drop 25).take 1) = n := ⟨_, rfl⟩
  obtain ⟨z_co, y_co⟩ : ∃ z, wrap64 (n_co : Int) = z := ⟨_, rfl⟩
  obtain ⟨n_cr, h_cr⟩ : ∃ n, val ((xs.drop 26).take 4) = n := ⟨_, rfl⟩
  obtain ⟨z_cr, y_cr⟩ : ∃ z, IntKind.u32.wrap (n_cr : Int) = z := ⟨_, rfl⟩
  have hk : entP xs = ⟨kk.se, kk.st, z_en, z_ad, z_le, z_cn, z_co, z_cr⟩ := by unfold entP s64 u32n; rw [hkk, h_en, h_ad, h_le, h_cn, h_co, h_cr, y_en, y_ad, y_le, y_cn, y_co, y_cr]
  rw [hk]
  dsimp only
  have HK0 : Hid (∀ W, CurAt W r xs → Calls Try.prog 45 #[.pointer (some ⟨r, 0, none⟩)] W fun e w' => e = .returned (.agg #[.int .i64 kk.se, .int .i64 kk.st]) ∧ CurAt w' r (xs.drop 12) ∧ W.grownBy w' (some r)) := Lib.hid (fun W hW => hkk ▸ key_cur W r xs hW (by omega))
  have H_en : Hid (∀ W, CurAt W r (xs.drop 12) → Calls Try.prog 46 #[.pointer (some ⟨r, 0, none⟩), .int .i64 8] W fun e w' => e = .returned (.int .u64 n_en) ∧ CurAt w' r (xs.drop 20) ∧ W.grownBy w' (some r)) := Lib.hid (fun W hW => high_at xs r 12 8 n_en h_en (by decide) (by decide) (by omega) 8 (by decide) 20 rfl W hW)
  have H_ad : Hid (∀ W, CurAt W r (xs.drop 20) → Calls Try.prog 46 #[.pointer (some ⟨r, 0, none⟩), .int .i64 2] W fun e w' => e = .returned (.int .u64 n_ad) ∧ CurAt w' r (xs.drop 22) ∧ W.grownBy w' (some r)) := Lib.hid (fun W hW => high_at xs r 20 2 n_ad h_ad (by decide) (by decide) (by omega) 2 (by decide) 22 rfl W hW)
  have H_le : Hid (∀ W, CurAt W r (xs.drop 22) → Calls Try.prog 46 #[.pointer (some ⟨r, 0, none⟩), .int .i64 2] W fun e w' => e = .returned (.int .u64 n_le) ∧ CurAt w' r (xs.drop 24) ∧ W.grownBy w' (some r)) := Lib.hid (fun W hW => high_at xs r 22 2 n_le h_le (by decide) (by decide) (by omega) 2 (by decide) 24 rfl W hW)
  have H_cn : Hid (∀ W, CurAt W r (xs.drop 24) → Calls Try.prog 46 #[.pointer (some ⟨r, 0, none⟩), .int .i64 1] W fun e w' => e = .returned (.int .u64 n_cn) ∧ CurAt w' r (xs.drop 25) ∧ W.grownBy w' (some r)) := Lib.hid (fun W hW => high_at xs r 24 1 n_cn h_cn (by decide) (by decide) (by omega) 1 (by decide) 25 rfl W hW)
  have H_co : Hid (∀ W, CurAt W r (xs.drop 25) → Calls Try.prog 46 #[.pointer (some ⟨r, 0, none⟩), .int .i64 1] W fun e w' => e = .returned (.int .u64 n_co) ∧ CurAt w' r (xs.drop 26) ∧ W.grownBy w' (some r)) := Lib.hid (fun W hW => high_at xs r 25 1 n_co h_co (by decide) (by decide) (by omega) 1 (by decide) 26 rfl W hW)
  have H_cr : Hid (∀ W, CurAt W r (xs.drop 26) → Calls Try.prog 46 #[.pointer (some ⟨r, 0, none⟩), .int .i64 4] W fun e w' => e = .returned (.int .u64 n_cr) ∧ CurAt w' r (xs.drop 30) ∧ W.grownBy w' (some r)) := Lib.hid (fun W hW => high_at xs r 26 4 n_cr h_cr (by decide) (by decide) (by omega) 4 (by decide) 30 rfl W hW)
  clear h hra hkr hgr eW hkk hk hl h_en h_ad h_le h_cn h_co h_cr
  have y_cr2 : (n_cr : Int) % 4294967296 = z_cr := by rw [← y_cr, IntKind.wrap_u32]
  go_enter Try.func44, Try.ntmps44
  go_upto_region 1 with fail
  rw [EW.out]
  go_wp2_with (first
    | (go_at_call 45; (with_reducible refine (HK0.out _ HRA.out).mono ?_); rintro e w1 ⟨rfl, hc1, hg1⟩; have HC1 := Lib.hid hc1; have HG1 := Lib.hid (HG.out.trans' hg1); have HR1 := Lib.hid ((hg1.block w.heap.size (Array.getElem?_eq_some_iff.1 HKR.out).1 (by intro e; injection e; omega)).trans HKR.out); clear hc1 hg1)
    | (go_at_call 46; (with_reducible refine (H_en.out _ HC1.out).mono ?_); rintro e w2 ⟨rfl, hc2, hg2⟩; have HC2 := Lib.hid hc2; have HG2 := Lib.hid (HG1.out.trans' hg2); have HR2 := Lib.hid ((hg2.block w.heap.size (Array.getElem?_eq_some_iff.1 HR1.out).1 (by intro e; injection e; omega)).trans HR1.out); clear hc2 hg2)
    | (go_at_call 46; (with_reducible refine (H_ad.out _ HC2.out).mono ?_); rintro e w3 ⟨rfl, hc3, hg3⟩; have HC3 := Lib.hid hc3; have HG3 := Lib.hid (HG2.out.trans' hg3); have HR3 := Lib.hid ((hg3.block w.heap.size (Array.getElem?_eq_some_iff.1 HR2.out).1 (by intro e; injection e; omega)).trans HR2.out); clear hc3 hg3)
    | (go_at_call 46; (with_reducible refine (H_le.out _ HC3.out).mono ?_); rintro e w4 ⟨rfl, hc4, hg4⟩; have HC4 := Lib.hid hc4; have HG4 := Lib.hid (HG3.out.trans' hg4); have HR4 := Lib.hid ((hg4.block w.heap.size (Array.getElem?_eq_some_iff.1 HR3.out).1 (by intro e; injection e; omega)).trans HR3.out); clear hc4 hg4)
    | (go_at_call 46; (with_reducible refine (H_cn.out _ HC4.out).mono ?_); rintro e w5 ⟨rfl, hc5, hg5⟩; have HC5 := Lib.hid hc5; have HG5 := Lib.hid (HG4.out.trans' hg5); have HR5 := Lib.hid ((hg5.block w.heap.size (Array.getElem?_eq_some_iff.1 HR4.out).1 (by intro e; injection e; omega)).trans HR4.out); clear hc5 hg5)
    | (go_at_call 46; (with_reducible refine (H_co.out _ HC5.out).mono ?_); rintro e w6 ⟨rfl, hc6, hg6⟩; have HC6 := Lib.hid hc6; have HG6 := Lib.hid (HG5.out.trans' hg6); have HR6 := Lib.hid ((hg6.block w.heap.size (Array.getElem?_eq_some_iff.1 HR5.out).1 (by intro e; injection e; omega)).trans HR5.out); clear hc6 hg6)
    | (go_at_call 46; (with_reducible refine (H_cr.out _ HC6.out).mono ?_); rintro e w7 ⟨rfl, hc7, hg7⟩; have HC7 := Lib.hid hc7; have HG7 := Lib.hid (HG6.out.trans' hg7); have HR7 := Lib.hid ((hg7.block w.heap.size (Array.getElem?_eq_some_iff.1 HR6.out).1 (by intro e; injection e; omega)).trans HR6.out); clear hc7 hg7)
    | (refine wpList_store_row rfl 77 (.tmp 2) (.tmp 23) rfl w.heap.size _ rfl rfl 77 _ HR7.out (by kernel_rfl) (by kernel_rfl) (by kernel_rfl) ?_))
  refine bodyPost_ret (v := .agg #[.int .i64 kk.se, .int .i64 kk.st, .int .i64 z_en, .int .i64 z_ad, .int .i64 z_le, .int .i64 z_cn, .int .i64 z_co, .int .u32 z_cr]) (results_cell_row (p := 2) (ty := 77) rfl _ _ w.heap.size 77 #[.int .i64 kk.se, .int .i64 kk.st, .int .i64 z_en, .int .i64 z_ad, .int .i64 z_le, .int .i64 z_cn, .int .i64 z_co, .int .u32 z_cr] (0, 0) _ rfl (setRow_heap _ _ _ _ _ _ HR7.out) Try.underlying77 rfl (by kernel_rfl)) rfl ⟨rfl, ?_, ?_⟩
  · exact HC7.out.setRow HR7.out (by omega) (fun i z => by match i with | 0 => simp | 1 => simp | 2 => simp | 3 => simp | 4 => simp | 5 => simp | 6 => simp | 7 => simp | i + 8 => simp)
  · have hg := HG7.out
    exact ⟨hg.os, hg.tape, hg.output, by simpa using hg.size, fun k hk hne => (setRow_other _ _ _ _ (by omega)).trans (hg.block k hk hne)⟩
end Go.Proofs.Ytgkddhncfaeidaa
