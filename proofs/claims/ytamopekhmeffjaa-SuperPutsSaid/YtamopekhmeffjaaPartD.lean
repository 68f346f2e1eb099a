/- Several texts in one: SuperPuts: its walk. SuperPuts: its walk. -/
import Derived.Test.YtamopekhmeffjaaPartC
import Derived.Test.YtamopekhmeffjaaPartA
import Derived.Laws.StructEq
import Derived.ChangeKeysEq
import Derived.Test.YtamopekhmeffjaaRowKit
import Derived.Lib.SmallJoins
import Derived.Test.YtamopekhmeffjaaPartE
import Derived.Test.YtamopekhmeffjaaWays4
namespace Go.Proofs.Ytamopekhmeffjaa
open Go.ChangeShapes Go.WideShapes Go.ChangeAt Go.RowKit Go.Joins CrcM PageM SupM
set_option linter.unusedVariables false

theorem array5 {α : Type} {cs : Array α} (h : cs.size = 5) : ∃ c0 c1 c2 c3 c4, cs = #[c0, c1, c2, c3, c4] := by
  obtain ⟨l⟩ := cs
  match l, h with
  | [c0, c1, c2, c3, c4], _ => exact ⟨c0, c1, c2, c3, c4, rfl⟩

set_option maxRecDepth 100000 in
/-- How a superblock that came in is told to a walk. -/
theorem open_sup {H : Type} {enc : TypeId × Value → H} {W : World} {base b0 : Nat} {spare : Nat → Bool} {held : Bool} {r : Reach} {v : Value} {d : DataW H} {p : List MemPlace}
    (hv : Value.okWide Try.prog W r b0 77 v) (h : DataW.Trod enc Try.prog W base spare held 77 v d p) :
    ∃ s : Sup, v = .agg (supC s) ∧ s.gen < 18446744073709551616 ∧ (-9223372036854775808 ≤ s.addr ∧ s.addr ≤ 9223372036854775807) ∧ (-9223372036854775808 ≤ s.height ∧ s.height ≤ 9223372036854775807) ∧ (-9223372036854775808 ≤ s.bitmap ∧ s.bitmap ≤ 9223372036854775807) ∧ (-9223372036854775808 ≤ s.pages ∧ s.pages ≤ 9223372036854775807) := by
  obtain ⟨cs, rfl, hsz⟩ := okWide_struct Try.underlying77 hv
  obtain ⟨c0, c1, c2, c3, c4, rfl⟩ := array5 (hsz.trans (by kernel_rfl))
  obtain ⟨fuel, hf⟩ := h
  obtain ⟨xs, n, _, _, hl, hlen, hx⟩ := DataW.trod_struct Try.underlying77 hf
  have k64 : Try.prog.cellsOf 43 = 1 := by kernel_rfl
  have ki : Try.prog.cellsOf 3 = 1 := by kernel_rfl
  have hs2 : xs.length = 5 := hlen
  have h0 : DataW.trod enc Try.prog W base spare held n 43 (([c0, c1, c2, c3, c4].drop 0).take (Try.prog.cellsOf 43)) = some (xs[0]'(by omega)) := (hx 0 _ rfl).trans (List.getElem?_eq_getElem (by omega))
  have h1 : DataW.trod enc Try.prog W base spare held n 3 (([c0, c1, c2, c3, c4].drop 1).take (Try.prog.cellsOf 3)) = some (xs[1]'(by omega)) := (hx 1 _ rfl).trans (List.getElem?_eq_getElem (by omega))
  have h2 : DataW.trod enc Try.prog W base spare held n 3 (([c0, c1, c2, c3, c4].drop 2).take (Try.prog.cellsOf 3)) = some (xs[2]'(by omega)) := (hx 2 _ rfl).trans (List.getElem?_eq_getElem (by omega))
  have h3 : DataW.trod enc Try.prog W base spare held n 3 (([c0, c1, c2, c3, c4].drop 3).take (Try.prog.cellsOf 3)) = some (xs[3]'(by omega)) := (hx 3 _ rfl).trans (List.getElem?_eq_getElem (by omega))
  have h4 : DataW.trod enc Try.prog W base spare held n 3 (([c0, c1, c2, c3, c4].drop 4).take (Try.prog.cellsOf 3)) = some (xs[4]'(by omega)) := (hx 4 _ rfl).trans (List.getElem?_eq_getElem (by omega))
  rw [k64] at h0
  rw [ki] at h1 h2 h3 h4
  obtain ⟨z0, e0, _, w0⟩ := DataW.trod_int Try.underlying43 h0
  obtain ⟨z1, e1, _, w1⟩ := DataW.trod_int Try.underlying3 h1
  obtain ⟨z2, e2, _, w2⟩ := DataW.trod_int Try.underlying3 h2
  obtain ⟨z3, e3, _, w3⟩ := DataW.trod_int Try.underlying3 h3
  obtain ⟨z4, e4, _, w4⟩ := DataW.trod_int Try.underlying3 h4
  simp at e0 e1 e2 e3 e4
  subst e0 e1 e2 e3 e4
  have q0 := bounds_u64 w0
  obtain ⟨g, rfl⟩ := Int.eq_ofNat_of_zero_le q0.1
  exact ⟨⟨g, z1, z2, z3, z4⟩, rfl, by show g < _; omega, bounds_i64 w1, bounds_i64 w2, bounds_i64 w3, bounds_i64 w4⟩

theorem wpList_binOp {P : Program} {w : World} {ops : Array Oper} {rest : List Oper} {o : Oper} {a : Act} {Q : Exit → Act → World → Prop} (hgd : o.guard = none) (op : BinOp) (ty : TypeId) (x y : Operand) (t2 : TypeId)
    (ho : o.op = .binOp op ty x y t2) (vx vy v : Value) (hx : a.eval x = vx) (hy : a.eval y = vy) (hg : (eqGuard op ty x y vx vy).run P w = .ok () w) (hr : (binOp op ty vx vy).run P w = .ok v w)
    (h : wpList P ops Q rest (a.put o.dst v) w) : wpList P ops Q (o :: rest) a w :=
  wpList_plain hgd fun _ hK => by
    unfold Oper.wp execOp
    simp only [ho, Sem.run_bind, Sem.run_pure, Result.andThen_ok, hx, hy, hg, hr]
    exact hK _ _ h
theorem quiet_binOp {P : Program} {o : Oper} {a : Act} {B : Nat} {w0 : World} {K : Act → Prop} (op : BinOp) (ty : TypeId) (x y : Operand) (t2 : TypeId) (ho : o.op = .binOp op ty x y t2) (vx vy v : Value) (hx : a.eval x = vx) (hy : a.eval y = vy)
    (hg : ∀ W, (eqGuard op ty x y vx vy).run P W = .ok () W) (hr : ∀ W, (binOp op ty vx vy).run P W = .ok v W) (h : K (a.put o.dst v)) : o.quiet P a (fun w' => ∃ x : SubW B w0, w' = x.at_) K := by
  refine ⟨v, ?_, h⟩
  rintro w ⟨y, rfl⟩
  unfold Oper.quietAt execOp
  simp only [ho, Sem.run_bind, Sem.run_pure, Result.andThen_ok, hx, hy, hg, hr]
  exact ⟨rfl, rfl⟩

set_option maxRecDepth 100000 in
theorem eq_ref (k : Nat) (hk : 3 ≤ k) (s : Sup) (w : World) : (Op.equalIn k 77 (.agg (supC s)) (.agg (supC s))).run Try.prog w = .ok true w := by
  obtain ⟨d, rfl⟩ : ∃ d, k = d + 1 + 1 := ⟨k - 2, by omega⟩
  have ht : Try.prog.underlying 77 = some (.struct (Try.prog.fieldsOf 77)) := by kernel_rfl
  have hp : Try.prog.stoodInHeld 77 = false := by kernel_rfl
  have hf : (Try.prog.fieldsOf 77).toList = [⟨"Gen", 43, 0, false, "", "", 0⟩, ⟨"Addr", 3, 1, false, "", "", 8⟩, ⟨"Height", 3, 2, false, "", "", 16⟩, ⟨"Bitmap", 3, 3, false, "", "", 24⟩, ⟨"Pages", 3, 4, false, "", "", 32⟩] := by kernel_rfl
  have h := run_equalIn_agg (P := Try.prog) w (d + 1) 77 (supC s) (supC s) ht hp
  rw [hf] at h
  rw [h]
  have hk64 : Try.prog.plainKey 43 = true := by kernel_rfl
  have hki : Try.prog.plainKey 3 = true := by kernel_rfl
  have e0 := run_part_plain (P := Try.prog) w hk64 (xs := supC s) (off := 0) (v := .int .u64 (s.gen : Int)) rfl
  have e1 := run_part_plain (P := Try.prog) w hki (xs := supC s) (off := 1) (v := .int .i64 s.addr) rfl
  have e2 := run_part_plain (P := Try.prog) w hki (xs := supC s) (off := 2) (v := .int .i64 s.height) rfl
  have e3 := run_part_plain (P := Try.prog) w hki (xs := supC s) (off := 3) (v := .int .i64 s.bitmap) rfl
  have e4 := run_part_plain (P := Try.prog) w hki (xs := supC s) (off := 4) (v := .int .i64 s.pages) rfl
  have q0 := run_equalIn_int (P := Try.prog) w d 43 .u64 .u64 (s.gen : Int) s.gen Try.underlying43
  have qi := fun z : Int => run_equalIn_int (P := Try.prog) w d 3 .i64 .i64 z z Try.underlying3
  simp [Op.eqFields, Sem.run_bind, e0, e1, e2, e3, e4, q0, qi]
theorem neq_ref (s : Sup) (w : World) : (binOp .neq 77 (.agg (supC s)) (.agg (supC s))).run Try.prog w = .ok (.bool false) w := by
  rw [run_neq_struct, eq_ref 10000 (by decide) s w]
  rfl
theorem eql_ref (s : Sup) (w : World) : (binOp .eql 77 (.agg (supC s)) (.agg (supC s))).run Try.prog w = .ok (.bool true) w := by
  rw [run_eql_struct, eq_ref 10000 (by decide) s w]
  rfl
theorem guard_ref (op : BinOp) (x y : Operand) (C D : Array Value) (w : World) : (eqGuard op 77 x y (.agg C) (.agg D)).run Try.prog w = .ok () w := run_eqGuard_agg w op _ x y C D (by kernel_rfl)
theorem guard_sup (op : BinOp) (x y : Operand) (C D : Array Value) (w : World) : (eqGuard op 82 x y (.agg C) (.agg D)).run Try.prog w = .ok () w := run_eqGuard_agg w op _ x y C D (by kernel_rfl)

theorem eql_sup0 (w : World) : (binOp .eql 82 (.agg (supC zeroS)) (.agg #[.int .u64 0, .int .i64 0, .int .i64 0, .int .i64 0, .int .i64 0])).run Try.prog w = .ok (.bool true) w := by
  rw [run_eql_struct]
  have h : (Op.equalIn 10000 82 (.agg (supC zeroS)) (.agg #[.int .u64 0, .int .i64 0, .int .i64 0, .int .i64 0, .int .i64 0])).run Try.prog w = .ok true w := by kernel_rfl
  rw [h]
  rfl
end Go.Proofs.Ytamopekhmeffjaa

namespace Go.Proofs.Ytamopekhmeffjaa
open Go.ChangeShapes Go.WideShapes Go.ChangeAt Go.RowKit CrcM PageM SupM
set_option linter.unusedVariables false

theorem cells5 {W : World} {k g : Nat} {t : TypeId} {a h b p : Int} (hq : W.heap[k]? = some (.cells #[.int .u64 (g : Int), .int .i64 a, .int .i64 h, .int .i64 b, .int .i64 p] t (0, 0))) :
    W.cell? ⟨k, 0, none⟩ = some (.int .u64 (g : Int)) ∧ W.cell? ⟨k, 1, none⟩ = some (.int .i64 a) ∧ W.cell? ⟨k, 2, none⟩ = some (.int .i64 h) ∧ W.cell? ⟨k, 3, none⟩ = some (.int .i64 b) ∧ W.cell? ⟨k, 4, none⟩ = some (.int .i64 p) :=
  ⟨cell_of_row _ _ _ _ _ _ hq, cell_of_row _ _ _ _ _ _ hq, cell_of_row _ _ _ _ _ _ hq, cell_of_row _ _ _ _ _ _ hq, cell_of_row _ _ _ _ _ _ hq⟩

set_option maxHeartbeats 8000000 in
set_option maxRecDepth 100000 in
theorem superPuts_walk (s : Sup) (ra : s.gen < 18446744073709551616 ∧ (-9223372036854775808 ≤ s.addr ∧ s.addr ≤ 9223372036854775807) ∧ (-9223372036854775808 ≤ s.height ∧ s.height ≤ 9223372036854775807) ∧ (-9223372036854775808 ≤ s.bitmap ∧ s.bitmap ≤ 9223372036854775807) ∧ (-9223372036854775808 ≤ s.pages ∧ s.pages ≤ 9223372036854775807))
    (A : Option Addr) (cap : Nat) (xs : List UInt8) {w : World} (hx : BytesAt w A xs) (lc : xs.length ≤ cap) (cm : cap ≤ maxLen) :
    Calls Try.prog 6 #[.agg (supC s), .slice A xs.length cap] w fun e w' => e = .returned (.bool true) ∧ Below w.heap.size w w' := by
  unfold maxLen at cm
  have hgen := ra.1
  clear ra
  obtain ⟨g, a, h, b, p⟩ := s
  dsimp only at hgen
  obtain ⟨n2, hn2⟩ : ∃ n2, n2 = min xs.length 40 := ⟨_, rfl⟩
  obtain ⟨len, hlen⟩ : ∃ n, n = xs.length := ⟨_, rfl⟩
  rw [← hlen] at hn2 lc ⊢
  have hmin : min (len : Int) 40 = (n2 : Int) := by omega
  have hn2c : n2 ≤ cap := by omega
  have hn2c' : (n2 : Int) ≤ (cap : Int) := by omega
  obtain ⟨ys, hys⟩ : ∃ ys, ys = xs.take n2 := ⟨_, rfl⟩
  have HYN : Hid (ys.length = n2) := Lib.hid (by rw [hys, List.length_take]; omega)
  have HXX : Hid (BytesAt w A ys) := Lib.hid (by rw [hys]; exact hx.take n2)
  obtain ⟨T, hT⟩ : ∃ T, T = toldS ys := ⟨_, rfl⟩
  obtain ⟨m, hm⟩ : ∃ m, m = numS ys := ⟨_, rfl⟩
  have hfact : (m = 0 ∧ okS T ∧ supB T = ys ∧ T.gen < 18446744073709551616) ∨ (m = 3 ∧ T = zeroS) := by
    by_cases hg : goodS ys
    · have e1 : T = parseS ys := by rw [hT]; exact if_pos hg
      have e2 : m = 0 := by rw [hm]; exact if_pos hg
      exact .inl ⟨e2, by rw [e1]; exact hg.2, by rw [e1]; exact sup_parse hg.1, by rw [e1]; exact (parse_lt ys hg.1).1⟩
    · exact .inr ⟨by rw [hm]; exact if_neg hg, by rw [hT]; exact if_neg hg⟩
  obtain ⟨tg, ta, th, tb, tp⟩ := T
  have HGT : Hid (∀ W, BytesAt W A ys → Calls Try.prog 43 #[.slice A n2 cap] W fun e w' => e = .returned (.tuple #[.agg #[.int .u64 (tg : Int), .int .i64 ta, .int .i64 th, .int .i64 tb, .int .i64 tp], .int .i64 (m : Int)]) ∧ Below W.heap.size W w') := Lib.hid (fun W hW => by
    have := sget_any A cap n2 ys W HYN.out (by omega) hW hn2c
    rw [← hT, ← hm] at this
    exact this)
  have HM : Hid ((m = 0 ∧ okS ⟨tg, ta, th, tb, tp⟩ ∧ supB ⟨tg, ta, th, tb, tp⟩ = ys ∧ tg < 18446744073709551616) ∨ (m = 3 ∧ tg = 0 ∧ ta = 0 ∧ th = 0 ∧ tb = 0 ∧ tp = 0)) := Lib.hid (hfact.imp id (fun h => ⟨h.1, by have := h.2; unfold zeroS at this; injection this with h1 h2 h3 h4 h5; exact ⟨h1, h2, h3, h4, h5⟩⟩))
  clear hfact hT hm hys hn2 hx hlen
  unfold supC
  dsimp only
  have hg2 : (w.alloc (.cells #[.int .u64 (g : Int), .int .i64 a, .int .i64 h, .int .i64 b, .int .i64 p] 77)).heap[w.heap.size]? = some (.cells #[.int .u64 (g : Int), .int .i64 a, .int .i64 h, .int .i64 b, .int .i64 p] 77 (0, 0)) := heap_alloc_new _ _
  have hb0 : Below w.heap.size w (w.alloc (.cells #[.int .u64 (g : Int), .int .i64 a, .int .i64 h, .int .i64 b, .int .i64 p] 77)) := (Below.refl _ _).alloc (Nat.le_refl _) _
  have HG2 := Lib.hid hg2
  have HB0 := Lib.hid hb0
  clear hg2 hb0
  by_cases hs : okS ⟨g, a, h, b, p⟩
  · have HRT : Hid (∀ W, Calls Try.prog 42 #[.agg #[.int .u64 (g : Int), .int .i64 a, .int .i64 h, .int .i64 b, .int .i64 p]] W fun e w' => e = .returned (.bool true) ∧ Below W.heap.size W w') := Lib.hid (fun W => by have := right_ref ⟨g, a, h, b, p⟩ W; rw [decide_eq_true hs] at this; exact this)
    obtain ⟨X, hX⟩ : ∃ X, X = supB ⟨g, a, h, b, p⟩ := ⟨_, rfl⟩
    have HXL : Hid (X.length = 15) := Lib.hid (by rw [hX, length_supB])
    have HPT : Hid (∀ W, Calls Try.prog 39 #[.agg #[.int .u64 (g : Int), .int .i64 a, .int .i64 h, .int .i64 b, .int .i64 p]] W fun e w' => ∃ q, e = .returned (.tuple #[.slice (some ⟨q, 0, none⟩) 15 15, .int .i64 0]) ∧ OwnB w' W.heap.size q 15 5 X ∧ Below W.heap.size W w') := Lib.hid (fun W => by rw [hX]; exact sput_ok _ hs hgen W _ rfl)
    have HRP : Hid (∀ W, Calls Try.prog 44 #[.agg #[.int .u64 (g : Int), .int .i64 a, .int .i64 h, .int .i64 b, .int .i64 p]] W fun e w' => ∃ A' c', e = .returned (.slice A' 15 c') ∧ OwnS w' (W.heap.size + 1) (.slice A' 15 c') 5 X ∧ Below W.heap.size W w') := Lib.hid (fun W => by rw [hX]; exact put_ref _ hs hgen W)
    obtain ⟨hgd, htd⟩ := good_supB hs hgen
    have HGX : Hid (∀ (q : Nat) W, BytesAt W (some ⟨q, 0, none⟩) X → Calls Try.prog 43 #[.slice (some ⟨q, 0, none⟩) 15 15] W fun e w' => e = .returned (.tuple #[.agg #[.int .u64 (g : Int), .int .i64 a, .int .i64 h, .int .i64 b, .int .i64 p], .int .i64 0]) ∧ Below W.heap.size W w') := Lib.hid (fun q W hW => by
      have := sget_any (some ⟨q, 0, none⟩) 15 15 X W HXL.out (by decide) hW (by decide)
      have e2 : numS (supB ⟨g, a, h, b, p⟩) = 0 := if_pos hgd
      rw [hX, htd, e2] at this
      exact this)
    clear hX hgd htd hs
    go_enter Try.func6, Try.ntmps6
    go_upto_region 6 with (first
      | (go_at_call 40; (refine (to_su ⟨g, a, h, b, p⟩ _).mono ?_); rintro e w1 ⟨rfl, hb1⟩; have hq1 := (hb1.block w.heap.size (by simp)).trans HG2.out)
      | (go_at_call 39; (refine (HPT.out _).mono ?_); rintro e w2 ⟨q, rfl, ho2, hb2⟩; have HO2 := Lib.hid ho2; clear ho2; have hq2 := (hb2.block w.heap.size (by have := hb1.size; simp at this; omega)).trans hq1; obtain ⟨f0, f1, f2, f3, f4⟩ := cells5 hq2)
      | (go_at_call 41; (refine (counts_any _).mono ?_); rintro e w3 ⟨rfl, hb3⟩; have hl2 : w.heap.size < w2.heap.size := (Array.getElem?_eq_some_iff.1 hq2).1; have hq3 := (hb3.block w.heap.size hl2).trans hq2; obtain ⟨f0, f1, f2, f3, f4⟩ := cells5 hq3)
      | (go_at_call 42; (refine (HRT.out _).mono ?_); rintro e w4 ⟨rfl, hb4⟩; have hl3 : w.heap.size < w3.heap.size := (Array.getElem?_eq_some_iff.1 hq3).1; have hq4 := (hb4.block w.heap.size hl3).trans hq3)
      | (go_at_call 43; (refine (HGX.out q _ ((HO2.out.bytes.below hb3).below hb4)).mono ?_); rintro e w5 ⟨rfl, hb5⟩)
      | (refine wpList_store_row rfl 82 (.tmp 7) (.tmp 39) rfl w5.heap.size #[.int .u64 (g : Int), .int .i64 a, .int .i64 h, .int .i64 b, .int .i64 p] rfl rfl 82 Try.zeroCells82 (heap_alloc_new _ _) infoSup (by kernel_rfl) (by simp [Value.oneCell']) ?_; rw [World.setRow_alloc_new]))
    have hl4 : w.heap.size < w4.heap.size := (Array.getElem?_eq_some_iff.1 hq4).1
    have hq5 := (hb5.block w.heap.size hl4).trans hq4
    have hl5 : w.heap.size < w5.heap.size := (Array.getElem?_eq_some_iff.1 hq5).1
    have s1 := hb1.size
    have s2 := hb2.size
    have s3 := hb3.size
    have s4 := hb4.size
    have s5 := hb5.size
    have hb15 : Below w.heap.size w w5 := ((((HB0.out.trans (hb1.mono (by simp))).trans (hb2.mono (by simp at s1; omega))).trans (hb3.mono (by simp at s1; omega))).trans (hb4.mono (by simp at s1; omega))).trans (hb5.mono (by simp at s1; omega))
    have hb7 : Below w.heap.size w (w5.alloc (.cells #[.int .u64 (g : Int), .int .i64 a, .int .i64 h, .int .i64 b, .int .i64 p] 82)) := hb15.alloc (by omega) _
    have hq7 : (w5.alloc (.cells #[.int .u64 (g : Int), .int .i64 a, .int .i64 h, .int .i64 b, .int .i64 p] 82)).heap[w.heap.size]? = some (.cells #[.int .u64 (g : Int), .int .i64 a, .int .i64 h, .int .i64 b, .int .i64 p] 77 (0, 0)) := (Below.heap_alloc w5 _ _ hl5).trans hq5
    have h77 : (w5.alloc (.cells #[.int .u64 (g : Int), .int .i64 a, .int .i64 h, .int .i64 b, .int .i64 p] 82)).heap[w5.heap.size]? = some (.cells #[.int .u64 (g : Int), .int .i64 a, .int .i64 h, .int .i64 b, .int .i64 p] 82 (0, 0)) := heap_alloc_new _ _
    have ho7 : BytesAt (w5.alloc (.cells #[.int .u64 (g : Int), .int .i64 a, .int .i64 h, .int .i64 b, .int .i64 p] 82)) (some ⟨q, 0, none⟩) X := (((HO2.out.bytes.below hb3).below hb4).below hb5).below ((Below.refl _ _).alloc (Nat.le_refl _) _)
    obtain ⟨W7, eW7⟩ : ∃ W7, W7 = w5.alloc (.cells #[.int .u64 (g : Int), .int .i64 a, .int .i64 h, .int .i64 b, .int .i64 p] 82) := ⟨_, rfl⟩
    obtain ⟨g7, hg7⟩ : ∃ g7, g7 = w5.heap.size := ⟨_, rfl⟩
    rw [← eW7] at hb7 hq7 h77 ho7 ⊢
    rw [← hg7] at h77 ⊢
    have HB7 := Lib.hid hb7
    have HO7 := Lib.hid ho7
    have HQ2 : Hid (∀ y : SubW W7.heap.size W7, y.at_.heap[w.heap.size]? = some (.cells #[.int .u64 (g : Int), .int .i64 a, .int .i64 h, .int .i64 b, .int .i64 p] 77 (0, 0))) := Lib.hid (fun y => (y.ok_.block _ (Array.getElem?_eq_some_iff.1 hq7).1).trans hq7)
    have HQ7 : Hid (∀ y : SubW W7.heap.size W7, y.at_.heap[g7]? = some (.cells #[.int .u64 (g : Int), .int .i64 a, .int .i64 h, .int .i64 b, .int .i64 p] 82 (0, 0))) := Lib.hid (fun y => (y.ok_.block _ (Array.getElem?_eq_some_iff.1 h77).1).trans h77)
    clear eW7 hg7 hb7 hq7 h77 ho7 hb15 hb1 hb2 hb3 hb4 hb5 hq1 hq2 hq3 hq4 hq5 s1 s2 s3 s4 s5 hl2 hl3 hl4 hl5 f0 f1 f2 f3 f4 HO2 HPT HRT HGX HG2 HB0
    go_cut [56] (fun s56 wx => s56 = .bool false ∧ Hid (Below W7.heap.size W7 wx))
    case first =>
      refine region_ways4 W7.heap.size (Nat.le_refl _) (.two [0, 2] 1 (.one [] 3 (.one [] 4 (.one [5, 6, 7, 8, 9, 10, 11, 13] 12 (.done [14, 15])))) 3 (.two [] 1 (.one [] 4 (.one [5, 6, 7, 8, 9, 10, 11, 13] 12 (.done [14, 15]))) 4 (.one [] 1 (.one [5, 6, 7, 8, 9, 10, 11, 13] 12 (.done [14, 15]))))) (by kernel_rfl) (by kernel_rfl) ?_
      rintro wd hbd
      have hxp0 := HO7.out.below hbd
      have tp_0 := text_n (some ⟨q, 0, none⟩) 15 15 X HXL.out hxp0
      rw [wpWays_two4]
      try simp only [List.map_cons, List.map_nil, opAt, List.getElem?_toArray, List.getElem?_cons_zero, List.getElem?_cons_succ, Option.getD_some]
      repeat (first
        | (go_big_quiet_want; refine quiet_load_row 77 (.tmp 2) rfl w.heap.size rfl 77 #[.int .u64 (g : Int), .int .i64 a, .int .i64 h, .int .i64 b, .int .i64 p] (0, 0) _ HQ2.out Try.underlying77 rfl infoRef ?_; simp only [Act.put, List.setIfInBounds_toArray, List.set_cons_zero, List.set_cons_succ]; go_big_quiet_on)
        | (go_big_quiet_want; refine quiet_binOp .neq 77 (.tmp 53) (.tmp 54) 77 rfl _ _ (.bool false) rfl rfl (fun W => guard_ref .neq _ _ _ _ W) (fun W => neq_ref ⟨g, a, h, b, p⟩ W) ?_; simp only [Act.put, List.setIfInBounds_toArray, List.set_cons_zero, List.set_cons_succ]; go_big_quiet_on)
        | (go_big_quiet_step (fail)))
      refine wpQuiet_nil ⟨?_, ?_⟩
      · go_wp2_with (fail)
        refine ⟨⟨⟨_, hbd⟩, rfl⟩, ?_⟩
        rw [wpWays_one4]
        try simp only [List.map_cons, List.map_nil, opAt, List.getElem?_toArray, List.getElem?_cons_zero, List.getElem?_cons_succ, Option.getD_some]
        repeat (first
          | (go_big_quiet_want; refine quiet_load_row 77 (.tmp 2) rfl w.heap.size rfl 77 #[.int .u64 (g : Int), .int .i64 a, .int .i64 h, .int .i64 b, .int .i64 p] (0, 0) _ HQ2.out Try.underlying77 rfl infoRef ?_; simp only [Act.put, List.setIfInBounds_toArray, List.set_cons_zero, List.set_cons_succ]; go_big_quiet_on)
          | (go_big_quiet_want; refine quiet_binOp .neq 77 (.tmp 53) (.tmp 54) 77 rfl _ _ (.bool false) rfl rfl (fun W => guard_ref .neq _ _ _ _ W) (fun W => neq_ref ⟨g, a, h, b, p⟩ W) ?_; simp only [Act.put, List.setIfInBounds_toArray, List.set_cons_zero, List.set_cons_succ]; go_big_quiet_on)
          | (go_big_quiet_step (fail)))
        refine wpQuiet_nil ?_
        go_wp2_with (go_at_call 44; (refine (HRP.out _).mono ?_); rintro e v2 ⟨A2, c2, rfl, ho2, hv2⟩)
        have b2 := hbd.trans (hv2.mono hbd.size)
        have hxp_2 := hxp0.below hv2
        have tp_2 := text_n (some ⟨q, 0, none⟩) 15 15 X HXL.out hxp_2
        have tr_2 := text_n A2 15 c2 X HXL.out ho2.bytes
        refine ⟨⟨⟨_, b2⟩, rfl⟩, ?_⟩
        rw [wpWays_one4]
        try simp only [List.map_cons, List.map_nil, opAt, List.getElem?_toArray, List.getElem?_cons_zero, List.getElem?_cons_succ, Option.getD_some]
        repeat (first
          | (go_big_quiet_want; refine quiet_load_row 77 (.tmp 2) rfl w.heap.size rfl 77 #[.int .u64 (g : Int), .int .i64 a, .int .i64 h, .int .i64 b, .int .i64 p] (0, 0) _ HQ2.out Try.underlying77 rfl infoRef ?_; simp only [Act.put, List.setIfInBounds_toArray, List.set_cons_zero, List.set_cons_succ]; go_big_quiet_on)
          | (go_big_quiet_want; refine quiet_binOp .neq 77 (.tmp 53) (.tmp 54) 77 rfl _ _ (.bool false) rfl rfl (fun W => guard_ref .neq _ _ _ _ W) (fun W => neq_ref ⟨g, a, h, b, p⟩ W) ?_; simp only [Act.put, List.setIfInBounds_toArray, List.set_cons_zero, List.set_cons_succ]; go_big_quiet_on)
          | (go_big_quiet_step (fail)))
        refine wpQuiet_nil ?_
        go_wp2_with (fail)
        refine ⟨⟨⟨_, b2⟩, rfl⟩, ?_⟩
        rw [wpWays_one4]
        try simp only [List.map_cons, List.map_nil, opAt, List.getElem?_toArray, List.getElem?_cons_zero, List.getElem?_cons_succ, Option.getD_some]
        repeat (first
          | (go_big_quiet_want; refine quiet_load_row 77 (.tmp 2) rfl w.heap.size rfl 77 #[.int .u64 (g : Int), .int .i64 a, .int .i64 h, .int .i64 b, .int .i64 p] (0, 0) _ HQ2.out Try.underlying77 rfl infoRef ?_; simp only [Act.put, List.setIfInBounds_toArray, List.set_cons_zero, List.set_cons_succ]; go_big_quiet_on)
          | (go_big_quiet_want; refine quiet_load_row 82 (.tmp 7) rfl g7 rfl 82 #[.int .u64 (g : Int), .int .i64 a, .int .i64 h, .int .i64 b, .int .i64 p] (0, 0) _ HQ7.out Try.underlying82 rfl infoSup ?_; simp only [Act.put, List.setIfInBounds_toArray, List.set_cons_zero, List.set_cons_succ]; go_big_quiet_on)
          | (go_big_quiet_want; refine quiet_binOp .neq 77 (.tmp 53) (.tmp 54) 77 rfl _ _ (.bool false) rfl rfl (fun W => guard_ref .neq _ _ _ _ W) (fun W => neq_ref ⟨g, a, h, b, p⟩ W) ?_; simp only [Act.put, List.setIfInBounds_toArray, List.set_cons_zero, List.set_cons_succ]; go_big_quiet_on)
          | (go_big_quiet_step (fail)))
        refine wpQuiet_nil ?_
        go_wp2_with (go_at_call 45; (refine (from_su ⟨g, a, h, b, p⟩ _).mono ?_); rintro e v3 ⟨rfl, hv3⟩)
        have b3 := b2.trans (hv3.mono b2.size)
        have hxp_3 := hxp_2.below hv3
        have tp_3 := text_n (some ⟨q, 0, none⟩) 15 15 X HXL.out hxp_3
        have hxr_3 := ho2.bytes.below hv3
        have tr_3 := text_n A2 15 c2 X HXL.out hxr_3
        refine ⟨⟨⟨_, b3⟩, rfl⟩, ?_⟩
        rw [wpWays_done4]
        try simp only [List.map_cons, List.map_nil, opAt, List.getElem?_toArray, List.getElem?_cons_zero, List.getElem?_cons_succ, Option.getD_some]
        repeat (first
          | (go_big_quiet_want; refine quiet_binOp .neq 77 (.tmp 53) (.tmp 54) 77 rfl _ _ (.bool false) rfl rfl (fun W => guard_ref .neq _ _ _ _ W) (fun W => neq_ref ⟨g, a, h, b, p⟩ W) ?_; simp only [Act.put, List.setIfInBounds_toArray, List.set_cons_zero, List.set_cons_succ]; go_big_quiet_on)
          | (go_big_quiet_step (fail)))
        refine wpQuiet_nil ?_
        go_wp2_with fail
        go_meet
        exact ⟨rfl, Lib.hid b3⟩
      · go_wp2_with (go_at_call 44; (refine (HRP.out _).mono ?_); rintro e v1 ⟨A1, c1, rfl, ho1, hv1⟩)
        have b1 := hbd.trans (hv1.mono hbd.size)
        have hxp_1 := hxp0.below hv1
        have tp_1 := text_n (some ⟨q, 0, none⟩) 15 15 X HXL.out hxp_1
        have tr_1 := text_n A1 15 c1 X HXL.out ho1.bytes
        refine ⟨⟨⟨_, b1⟩, rfl⟩, ?_⟩
        rw [wpWays_two4]
        try simp only [List.map_cons, List.map_nil, opAt, List.getElem?_toArray, List.getElem?_cons_zero, List.getElem?_cons_succ, Option.getD_some]
        repeat (first
          | (go_big_quiet_want; refine quiet_load_row 77 (.tmp 2) rfl w.heap.size rfl 77 #[.int .u64 (g : Int), .int .i64 a, .int .i64 h, .int .i64 b, .int .i64 p] (0, 0) _ HQ2.out Try.underlying77 rfl infoRef ?_; simp only [Act.put, List.setIfInBounds_toArray, List.set_cons_zero, List.set_cons_succ]; go_big_quiet_on)
          | (go_big_quiet_want; refine quiet_binOp .neq 77 (.tmp 53) (.tmp 54) 77 rfl _ _ (.bool false) rfl rfl (fun W => guard_ref .neq _ _ _ _ W) (fun W => neq_ref ⟨g, a, h, b, p⟩ W) ?_; simp only [Act.put, List.setIfInBounds_toArray, List.set_cons_zero, List.set_cons_succ]; go_big_quiet_on)
          | (go_big_quiet_step (fail)))
        refine wpQuiet_nil ⟨?_, ?_⟩
        · go_wp2_with (fail)
          refine ⟨⟨⟨_, b1⟩, rfl⟩, ?_⟩
          rw [wpWays_one4]
          try simp only [List.map_cons, List.map_nil, opAt, List.getElem?_toArray, List.getElem?_cons_zero, List.getElem?_cons_succ, Option.getD_some]
          repeat (first
            | (go_big_quiet_want; refine quiet_load_row 77 (.tmp 2) rfl w.heap.size rfl 77 #[.int .u64 (g : Int), .int .i64 a, .int .i64 h, .int .i64 b, .int .i64 p] (0, 0) _ HQ2.out Try.underlying77 rfl infoRef ?_; simp only [Act.put, List.setIfInBounds_toArray, List.set_cons_zero, List.set_cons_succ]; go_big_quiet_on)
            | (go_big_quiet_want; refine quiet_binOp .neq 77 (.tmp 53) (.tmp 54) 77 rfl _ _ (.bool false) rfl rfl (fun W => guard_ref .neq _ _ _ _ W) (fun W => neq_ref ⟨g, a, h, b, p⟩ W) ?_; simp only [Act.put, List.setIfInBounds_toArray, List.set_cons_zero, List.set_cons_succ]; go_big_quiet_on)
            | (go_big_quiet_step (fail)))
          refine wpQuiet_nil ?_
          go_wp2_with (fail)
          refine ⟨⟨⟨_, b1⟩, rfl⟩, ?_⟩
          rw [wpWays_one4]
          try simp only [List.map_cons, List.map_nil, opAt, List.getElem?_toArray, List.getElem?_cons_zero, List.getElem?_cons_succ, Option.getD_some]
          repeat (first
            | (go_big_quiet_want; refine quiet_load_row 77 (.tmp 2) rfl w.heap.size rfl 77 #[.int .u64 (g : Int), .int .i64 a, .int .i64 h, .int .i64 b, .int .i64 p] (0, 0) _ HQ2.out Try.underlying77 rfl infoRef ?_; simp only [Act.put, List.setIfInBounds_toArray, List.set_cons_zero, List.set_cons_succ]; go_big_quiet_on)
            | (go_big_quiet_want; refine quiet_load_row 82 (.tmp 7) rfl g7 rfl 82 #[.int .u64 (g : Int), .int .i64 a, .int .i64 h, .int .i64 b, .int .i64 p] (0, 0) _ HQ7.out Try.underlying82 rfl infoSup ?_; simp only [Act.put, List.setIfInBounds_toArray, List.set_cons_zero, List.set_cons_succ]; go_big_quiet_on)
            | (go_big_quiet_want; refine quiet_binOp .neq 77 (.tmp 53) (.tmp 54) 77 rfl _ _ (.bool false) rfl rfl (fun W => guard_ref .neq _ _ _ _ W) (fun W => neq_ref ⟨g, a, h, b, p⟩ W) ?_; simp only [Act.put, List.setIfInBounds_toArray, List.set_cons_zero, List.set_cons_succ]; go_big_quiet_on)
            | (go_big_quiet_step (fail)))
          refine wpQuiet_nil ?_
          go_wp2_with (go_at_call 45; (refine (from_su ⟨g, a, h, b, p⟩ _).mono ?_); rintro e v4 ⟨rfl, hv4⟩)
          have b4 := b1.trans (hv4.mono b1.size)
          have hxp_4 := hxp_1.below hv4
          have tp_4 := text_n (some ⟨q, 0, none⟩) 15 15 X HXL.out hxp_4
          have hxr_4 := ho1.bytes.below hv4
          have tr_4 := text_n A1 15 c1 X HXL.out hxr_4
          refine ⟨⟨⟨_, b4⟩, rfl⟩, ?_⟩
          rw [wpWays_done4]
          try simp only [List.map_cons, List.map_nil, opAt, List.getElem?_toArray, List.getElem?_cons_zero, List.getElem?_cons_succ, Option.getD_some]
          repeat (first
            | (go_big_quiet_want; refine quiet_binOp .neq 77 (.tmp 53) (.tmp 54) 77 rfl _ _ (.bool false) rfl rfl (fun W => guard_ref .neq _ _ _ _ W) (fun W => neq_ref ⟨g, a, h, b, p⟩ W) ?_; simp only [Act.put, List.setIfInBounds_toArray, List.set_cons_zero, List.set_cons_succ]; go_big_quiet_on)
            | (go_big_quiet_step (fail)))
          refine wpQuiet_nil ?_
          go_wp2_with fail
          go_meet
          exact ⟨rfl, Lib.hid b4⟩
        · go_wp2_with (fail)
          refine ⟨⟨⟨_, b1⟩, rfl⟩, ?_⟩
          rw [wpWays_one4]
          try simp only [List.map_cons, List.map_nil, opAt, List.getElem?_toArray, List.getElem?_cons_zero, List.getElem?_cons_succ, Option.getD_some]
          repeat (first
            | (go_big_quiet_want; refine quiet_load_row 77 (.tmp 2) rfl w.heap.size rfl 77 #[.int .u64 (g : Int), .int .i64 a, .int .i64 h, .int .i64 b, .int .i64 p] (0, 0) _ HQ2.out Try.underlying77 rfl infoRef ?_; simp only [Act.put, List.setIfInBounds_toArray, List.set_cons_zero, List.set_cons_succ]; go_big_quiet_on)
            | (go_big_quiet_want; refine quiet_binOp .neq 77 (.tmp 53) (.tmp 54) 77 rfl _ _ (.bool false) rfl rfl (fun W => guard_ref .neq _ _ _ _ W) (fun W => neq_ref ⟨g, a, h, b, p⟩ W) ?_; simp only [Act.put, List.setIfInBounds_toArray, List.set_cons_zero, List.set_cons_succ]; go_big_quiet_on)
            | (go_big_quiet_step (fail)))
          refine wpQuiet_nil ?_
          go_wp2_with (fail)
          refine ⟨⟨⟨_, b1⟩, rfl⟩, ?_⟩
          rw [wpWays_one4]
          try simp only [List.map_cons, List.map_nil, opAt, List.getElem?_toArray, List.getElem?_cons_zero, List.getElem?_cons_succ, Option.getD_some]
          repeat (first
            | (go_big_quiet_want; refine quiet_load_row 77 (.tmp 2) rfl w.heap.size rfl 77 #[.int .u64 (g : Int), .int .i64 a, .int .i64 h, .int .i64 b, .int .i64 p] (0, 0) _ HQ2.out Try.underlying77 rfl infoRef ?_; simp only [Act.put, List.setIfInBounds_toArray, List.set_cons_zero, List.set_cons_succ]; go_big_quiet_on)
            | (go_big_quiet_want; refine quiet_load_row 82 (.tmp 7) rfl g7 rfl 82 #[.int .u64 (g : Int), .int .i64 a, .int .i64 h, .int .i64 b, .int .i64 p] (0, 0) _ HQ7.out Try.underlying82 rfl infoSup ?_; simp only [Act.put, List.setIfInBounds_toArray, List.set_cons_zero, List.set_cons_succ]; go_big_quiet_on)
            | (go_big_quiet_want; refine quiet_binOp .neq 77 (.tmp 53) (.tmp 54) 77 rfl _ _ (.bool false) rfl rfl (fun W => guard_ref .neq _ _ _ _ W) (fun W => neq_ref ⟨g, a, h, b, p⟩ W) ?_; simp only [Act.put, List.setIfInBounds_toArray, List.set_cons_zero, List.set_cons_succ]; go_big_quiet_on)
            | (go_big_quiet_step (fail)))
          refine wpQuiet_nil ?_
          go_wp2_with (go_at_call 45; (refine (from_su ⟨g, a, h, b, p⟩ _).mono ?_); rintro e v5 ⟨rfl, hv5⟩)
          have b5 := b1.trans (hv5.mono b1.size)
          have hxp_5 := hxp_1.below hv5
          have tp_5 := text_n (some ⟨q, 0, none⟩) 15 15 X HXL.out hxp_5
          have hxr_5 := ho1.bytes.below hv5
          have tr_5 := text_n A1 15 c1 X HXL.out hxr_5
          refine ⟨⟨⟨_, b5⟩, rfl⟩, ?_⟩
          rw [wpWays_done4]
          try simp only [List.map_cons, List.map_nil, opAt, List.getElem?_toArray, List.getElem?_cons_zero, List.getElem?_cons_succ, Option.getD_some]
          repeat (first
            | (go_big_quiet_want; refine quiet_binOp .neq 77 (.tmp 53) (.tmp 54) 77 rfl _ _ (.bool false) rfl rfl (fun W => guard_ref .neq _ _ _ _ W) (fun W => neq_ref ⟨g, a, h, b, p⟩ W) ?_; simp only [Act.put, List.setIfInBounds_toArray, List.set_cons_zero, List.set_cons_succ]; go_big_quiet_on)
            | (go_big_quiet_step (fail)))
          refine wpQuiet_nil ?_
          go_wp2_with fail
          go_meet
          exact ⟨rfl, Lib.hid b5⟩
    case rest =>
      obtain ⟨rfl, HBC⟩ := hcut
      have HBn : Hid (Below w.heap.size w wc) := Lib.hid (HB7.out.trans (HBC.out.mono HB7.out.size))
      clear HBC HB7 HO7 HQ2 HQ7 HRP HXL
      go_upto_region 10 with (first
        | (go_at_call 43; (refine (HGT.out _ (HXX.out.below HBn.out)).mono ?_); rintro e w9 ⟨rfl, hb9⟩)
        | (refine wpList_store_row rfl 82 (.tmp 9) (.tmp 65) rfl w9.heap.size #[.int .u64 (tg : Int), .int .i64 ta, .int .i64 th, .int .i64 tb, .int .i64 tp] rfl rfl 82 Try.zeroCells82 (heap_alloc_new _ _) infoSup (by kernel_rfl) (by simp [Value.oneCell']) ?_; rw [World.setRow_alloc_new]))
      rcases HM.out with ⟨rfl, hok9, hsb9, htg9⟩ | ⟨rfl, hz9⟩
      · obtain ⟨g9, hg9⟩ : ∃ g9, g9 = w9.heap.size := ⟨_, rfl⟩
        rw [← hg9]
        have hbw : Below w.heap.size w (w9.alloc (.cells #[.int .u64 (tg : Int), .int .i64 ta, .int .i64 th, .int .i64 tb, .int .i64 tp] 82)) := (HBn.out.trans (hb9.mono HBn.out.size)).alloc (by have := HBn.out.size; have := hb9.size; omega) _
        have h99 : (w9.alloc (.cells #[.int .u64 (tg : Int), .int .i64 ta, .int .i64 th, .int .i64 tb, .int .i64 tp] 82)).heap[g9]? = some (.cells #[.int .u64 (tg : Int), .int .i64 ta, .int .i64 th, .int .i64 tb, .int .i64 tp] 82 (0, 0)) := by rw [hg9]; exact heap_alloc_new _ _
        obtain ⟨W9, eW9⟩ : ∃ W9, W9 = w9.alloc (.cells #[.int .u64 (tg : Int), .int .i64 ta, .int .i64 th, .int .i64 tb, .int .i64 tp] 82) := ⟨_, rfl⟩
        rw [← eW9] at hbw h99 ⊢
        have HQ9 : Hid (∀ y : SubW W9.heap.size W9, y.at_.heap[g9]? = some (.cells #[.int .u64 (tg : Int), .int .i64 ta, .int .i64 th, .int .i64 tb, .int .i64 tp] 82 (0, 0))) := Lib.hid (fun y => (y.ok_.block _ (Array.getElem?_eq_some_iff.1 h99).1).trans h99)
        have HX9 := Lib.hid (HXX.out.below hbw)
        have HRT9 : Hid (∀ W, Calls Try.prog 42 #[.agg #[.int .u64 (tg : Int), .int .i64 ta, .int .i64 th, .int .i64 tb, .int .i64 tp]] W fun e w' => e = .returned (.bool true) ∧ Below W.heap.size W w') := Lib.hid (fun W => by have := right_ref ⟨tg, ta, th, tb, tp⟩ W; rw [decide_eq_true hok9] at this; exact this)
        have HRP9 : Hid (∀ W, Calls Try.prog 44 #[.agg #[.int .u64 (tg : Int), .int .i64 ta, .int .i64 th, .int .i64 tb, .int .i64 tp]] W fun e w' => ∃ A' c', e = .returned (.slice A' 15 c') ∧ OwnS w' (W.heap.size + 1) (.slice A' 15 c') 5 ys ∧ Below W.heap.size W w') := Lib.hid (fun W => by have := put_ref ⟨tg, ta, th, tb, tp⟩ hok9 htg9 W; rw [hsb9] at this; exact this)
        have HYL : Hid (ys.length = 15) := Lib.hid (by rw [← hsb9, length_supB])
        clear eW9 h99 hb9 hg9 hok9 hsb9 htg9 HGT HM
        go_upto_region 12 with fail
        refine region_ways4 W9.heap.size (Nat.le_refl _) (.one [0] 1 (.one [] 2 (.two [3, 4, 8] 5 (.two [] 6 (.two [] 7 (.one [] 9 (.done [10, 11, 12])) 9 (.one [] 7 (.done [10, 11, 12]))) 9 (.one [] 6 (.one [] 7 (.done [10, 11, 12])))) 9 (.one [] 5 (.one [] 6 (.one [] 7 (.done [10, 11, 12]))))))) (by kernel_rfl) (by kernel_rfl) ?_
        rintro wd hbd
        have hxb0 := HX9.out.below hbd
        have tb_0 := text_n A n2 cap ys HYN.out hxb0
        rw [wpWays_one4]
        try simp only [List.map_cons, List.map_nil, opAt, List.getElem?_toArray, List.getElem?_cons_zero, List.getElem?_cons_succ, Option.getD_some]
        repeat (first
          | (go_big_quiet_want; refine quiet_load_row 82 (.tmp 9) rfl g9 rfl 82 #[.int .u64 (tg : Int), .int .i64 ta, .int .i64 th, .int .i64 tb, .int .i64 tp] (0, 0) _ HQ9.out Try.underlying82 rfl infoSup ?_; simp only [Act.put, List.setIfInBounds_toArray, List.set_cons_zero, List.set_cons_succ]; go_big_quiet_on)
          | (go_big_quiet_step (fail)))
        refine wpQuiet_nil ?_
        go_wp2_with (go_at_call 45; (refine (from_su ⟨tg, ta, th, tb, tp⟩ _).mono ?_); rintro e v6 ⟨rfl, hv6⟩)
        have b6 := hbd.trans (hv6.mono hbd.size)
        have hxb_6 := hxb0.below hv6
        have tb_6 := text_n A n2 cap ys HYN.out hxb_6
        refine ⟨⟨⟨_, b6⟩, rfl⟩, ?_⟩
        rw [wpWays_one4]
        try simp only [List.map_cons, List.map_nil, opAt, List.getElem?_toArray, List.getElem?_cons_zero, List.getElem?_cons_succ, Option.getD_some]
        repeat (first
          | (go_big_quiet_want; refine quiet_load_row 82 (.tmp 9) rfl g9 rfl 82 #[.int .u64 (tg : Int), .int .i64 ta, .int .i64 th, .int .i64 tb, .int .i64 tp] (0, 0) _ HQ9.out Try.underlying82 rfl infoSup ?_; simp only [Act.put, List.setIfInBounds_toArray, List.set_cons_zero, List.set_cons_succ]; go_big_quiet_on)
          | (go_big_quiet_step (fail)))
        refine wpQuiet_nil ?_
        go_wp2_with (go_at_call 42; (refine (HRT9.out _).mono ?_); rintro e v7 ⟨rfl, hv7⟩)
        have b7 := b6.trans (hv7.mono b6.size)
        have hxb_7 := hxb_6.below hv7
        have tb_7 := text_n A n2 cap ys HYN.out hxb_7
        refine ⟨⟨⟨_, b7⟩, rfl⟩, ?_⟩
        rw [wpWays_two4]
        try simp only [List.map_cons, List.map_nil, opAt, List.getElem?_toArray, List.getElem?_cons_zero, List.getElem?_cons_succ, Option.getD_some]
        repeat (first
          | (go_big_quiet_want; refine quiet_load_row 82 (.tmp 9) rfl g9 rfl 82 #[.int .u64 (tg : Int), .int .i64 ta, .int .i64 th, .int .i64 tb, .int .i64 tp] (0, 0) _ HQ9.out Try.underlying82 rfl infoSup ?_; simp only [Act.put, List.setIfInBounds_toArray, List.set_cons_zero, List.set_cons_succ]; go_big_quiet_on)
          | (go_big_quiet_step (fail)))
        refine wpQuiet_nil ⟨?_, ?_⟩
        · go_wp2_with (go_at_call 45; (refine (from_su ⟨tg, ta, th, tb, tp⟩ _).mono ?_); rintro e v8 ⟨rfl, hv8⟩)
          have b8 := b7.trans (hv8.mono b7.size)
          have hxb_8 := hxb_7.below hv8
          have tb_8 := text_n A n2 cap ys HYN.out hxb_8
          refine ⟨⟨⟨_, b8⟩, rfl⟩, ?_⟩
          rw [wpWays_two4]
          try simp only [List.map_cons, List.map_nil, opAt, List.getElem?_toArray, List.getElem?_cons_zero, List.getElem?_cons_succ, Option.getD_some]
          repeat (first
            | (go_big_quiet_want; refine quiet_load_row 82 (.tmp 9) rfl g9 rfl 82 #[.int .u64 (tg : Int), .int .i64 ta, .int .i64 th, .int .i64 tb, .int .i64 tp] (0, 0) _ HQ9.out Try.underlying82 rfl infoSup ?_; simp only [Act.put, List.setIfInBounds_toArray, List.set_cons_zero, List.set_cons_succ]; go_big_quiet_on)
            | (go_big_quiet_step (fail)))
          refine wpQuiet_nil ⟨?_, ?_⟩
          · go_wp2_with (go_at_call 44; (refine (HRP9.out _).mono ?_); rintro e v9 ⟨A9, c9, rfl, ho9, hv9⟩)
            have b9 := b8.trans (hv9.mono b8.size)
            have hxb_9 := hxb_8.below hv9
            have tb_9 := text_n A n2 cap ys HYN.out hxb_9
            have tr_9 := text_n A9 15 c9 ys HYL.out ho9.bytes
            refine ⟨⟨⟨_, b9⟩, rfl⟩, ?_⟩
            rw [wpWays_two4]
            try simp only [List.map_cons, List.map_nil, opAt, List.getElem?_toArray, List.getElem?_cons_zero, List.getElem?_cons_succ, Option.getD_some]
            repeat (first
              | (go_big_quiet_want; refine quiet_load_row 82 (.tmp 9) rfl g9 rfl 82 #[.int .u64 (tg : Int), .int .i64 ta, .int .i64 th, .int .i64 tb, .int .i64 tp] (0, 0) _ HQ9.out Try.underlying82 rfl infoSup ?_; simp only [Act.put, List.setIfInBounds_toArray, List.set_cons_zero, List.set_cons_succ]; go_big_quiet_on)
              | (go_big_quiet_step (fail)))
            refine wpQuiet_nil ⟨?_, ?_⟩
            · go_wp2_with (fail)
              refine ⟨⟨⟨_, b9⟩, rfl⟩, ?_⟩
              rw [wpWays_one4]
              try simp only [List.map_cons, List.map_nil, opAt, List.getElem?_toArray, List.getElem?_cons_zero, List.getElem?_cons_succ, Option.getD_some]
              repeat (first
                | (go_big_quiet_want; refine quiet_load_row 82 (.tmp 9) rfl g9 rfl 82 #[.int .u64 (tg : Int), .int .i64 ta, .int .i64 th, .int .i64 tb, .int .i64 tp] (0, 0) _ HQ9.out Try.underlying82 rfl infoSup ?_; simp only [Act.put, List.setIfInBounds_toArray, List.set_cons_zero, List.set_cons_succ]; go_big_quiet_on)
                | (go_big_quiet_step (fail)))
              refine wpQuiet_nil ?_
              go_wp2_with (fail)
              refine ⟨⟨⟨_, b9⟩, rfl⟩, ?_⟩
              rw [wpWays_done4]
              try simp only [List.map_cons, List.map_nil, opAt, List.getElem?_toArray, List.getElem?_cons_zero, List.getElem?_cons_succ, Option.getD_some]
              repeat (first
                | (go_big_quiet_step (fail)))
              refine wpQuiet_nil ?_
              go_wp2_with fail
              go_ret
              exact ⟨rfl, hbw.trans (b9.mono hbw.size)⟩
            · go_wp2_with (fail)
              refine ⟨⟨⟨_, b9⟩, rfl⟩, ?_⟩
              rw [wpWays_one4]
              try simp only [List.map_cons, List.map_nil, opAt, List.getElem?_toArray, List.getElem?_cons_zero, List.getElem?_cons_succ, Option.getD_some]
              repeat (first
                | (go_big_quiet_want; refine quiet_load_row 82 (.tmp 9) rfl g9 rfl 82 #[.int .u64 (tg : Int), .int .i64 ta, .int .i64 th, .int .i64 tb, .int .i64 tp] (0, 0) _ HQ9.out Try.underlying82 rfl infoSup ?_; simp only [Act.put, List.setIfInBounds_toArray, List.set_cons_zero, List.set_cons_succ]; go_big_quiet_on)
                | (go_big_quiet_step (fail)))
              refine wpQuiet_nil ?_
              go_wp2_with (fail)
              refine ⟨⟨⟨_, b9⟩, rfl⟩, ?_⟩
              rw [wpWays_done4]
              try simp only [List.map_cons, List.map_nil, opAt, List.getElem?_toArray, List.getElem?_cons_zero, List.getElem?_cons_succ, Option.getD_some]
              repeat (first
                | (go_big_quiet_step (fail)))
              refine wpQuiet_nil ?_
              go_wp2_with fail
              go_ret
              exact ⟨rfl, hbw.trans (b9.mono hbw.size)⟩
          · go_wp2_with (fail)
            refine ⟨⟨⟨_, b8⟩, rfl⟩, ?_⟩
            rw [wpWays_one4]
            try simp only [List.map_cons, List.map_nil, opAt, List.getElem?_toArray, List.getElem?_cons_zero, List.getElem?_cons_succ, Option.getD_some]
            repeat (first
              | (go_big_quiet_want; refine quiet_load_row 82 (.tmp 9) rfl g9 rfl 82 #[.int .u64 (tg : Int), .int .i64 ta, .int .i64 th, .int .i64 tb, .int .i64 tp] (0, 0) _ HQ9.out Try.underlying82 rfl infoSup ?_; simp only [Act.put, List.setIfInBounds_toArray, List.set_cons_zero, List.set_cons_succ]; go_big_quiet_on)
              | (go_big_quiet_step (fail)))
            refine wpQuiet_nil ?_
            go_wp2_with (go_at_call 44; (refine (HRP9.out _).mono ?_); rintro e v10 ⟨A10, c10, rfl, ho10, hv10⟩)
            have b10 := b8.trans (hv10.mono b8.size)
            have hxb_10 := hxb_8.below hv10
            have tb_10 := text_n A n2 cap ys HYN.out hxb_10
            have tr_10 := text_n A10 15 c10 ys HYL.out ho10.bytes
            refine ⟨⟨⟨_, b10⟩, rfl⟩, ?_⟩
            rw [wpWays_one4]
            try simp only [List.map_cons, List.map_nil, opAt, List.getElem?_toArray, List.getElem?_cons_zero, List.getElem?_cons_succ, Option.getD_some]
            repeat (first
              | (go_big_quiet_want; refine quiet_load_row 82 (.tmp 9) rfl g9 rfl 82 #[.int .u64 (tg : Int), .int .i64 ta, .int .i64 th, .int .i64 tb, .int .i64 tp] (0, 0) _ HQ9.out Try.underlying82 rfl infoSup ?_; simp only [Act.put, List.setIfInBounds_toArray, List.set_cons_zero, List.set_cons_succ]; go_big_quiet_on)
              | (go_big_quiet_step (fail)))
            refine wpQuiet_nil ?_
            go_wp2_with (fail)
            refine ⟨⟨⟨_, b10⟩, rfl⟩, ?_⟩
            rw [wpWays_done4]
            try simp only [List.map_cons, List.map_nil, opAt, List.getElem?_toArray, List.getElem?_cons_zero, List.getElem?_cons_succ, Option.getD_some]
            repeat (first
              | (go_big_quiet_step (fail)))
            refine wpQuiet_nil ?_
            go_wp2_with fail
            go_ret
            exact ⟨rfl, hbw.trans (b10.mono hbw.size)⟩
        · go_wp2_with (fail)
          refine ⟨⟨⟨_, b7⟩, rfl⟩, ?_⟩
          rw [wpWays_one4]
          try simp only [List.map_cons, List.map_nil, opAt, List.getElem?_toArray, List.getElem?_cons_zero, List.getElem?_cons_succ, Option.getD_some]
          repeat (first
            | (go_big_quiet_want; refine quiet_load_row 82 (.tmp 9) rfl g9 rfl 82 #[.int .u64 (tg : Int), .int .i64 ta, .int .i64 th, .int .i64 tb, .int .i64 tp] (0, 0) _ HQ9.out Try.underlying82 rfl infoSup ?_; simp only [Act.put, List.setIfInBounds_toArray, List.set_cons_zero, List.set_cons_succ]; go_big_quiet_on)
            | (go_big_quiet_step (fail)))
          refine wpQuiet_nil ?_
          go_wp2_with (go_at_call 45; (refine (from_su ⟨tg, ta, th, tb, tp⟩ _).mono ?_); rintro e v11 ⟨rfl, hv11⟩)
          have b11 := b7.trans (hv11.mono b7.size)
          have hxb_11 := hxb_7.below hv11
          have tb_11 := text_n A n2 cap ys HYN.out hxb_11
          refine ⟨⟨⟨_, b11⟩, rfl⟩, ?_⟩
          rw [wpWays_one4]
          try simp only [List.map_cons, List.map_nil, opAt, List.getElem?_toArray, List.getElem?_cons_zero, List.getElem?_cons_succ, Option.getD_some]
          repeat (first
            | (go_big_quiet_want; refine quiet_load_row 82 (.tmp 9) rfl g9 rfl 82 #[.int .u64 (tg : Int), .int .i64 ta, .int .i64 th, .int .i64 tb, .int .i64 tp] (0, 0) _ HQ9.out Try.underlying82 rfl infoSup ?_; simp only [Act.put, List.setIfInBounds_toArray, List.set_cons_zero, List.set_cons_succ]; go_big_quiet_on)
            | (go_big_quiet_step (fail)))
          refine wpQuiet_nil ?_
          go_wp2_with (go_at_call 44; (refine (HRP9.out _).mono ?_); rintro e v12 ⟨A12, c12, rfl, ho12, hv12⟩)
          have b12 := b11.trans (hv12.mono b11.size)
          have hxb_12 := hxb_11.below hv12
          have tb_12 := text_n A n2 cap ys HYN.out hxb_12
          have tr_12 := text_n A12 15 c12 ys HYL.out ho12.bytes
          refine ⟨⟨⟨_, b12⟩, rfl⟩, ?_⟩
          rw [wpWays_one4]
          try simp only [List.map_cons, List.map_nil, opAt, List.getElem?_toArray, List.getElem?_cons_zero, List.getElem?_cons_succ, Option.getD_some]
          repeat (first
            | (go_big_quiet_want; refine quiet_load_row 82 (.tmp 9) rfl g9 rfl 82 #[.int .u64 (tg : Int), .int .i64 ta, .int .i64 th, .int .i64 tb, .int .i64 tp] (0, 0) _ HQ9.out Try.underlying82 rfl infoSup ?_; simp only [Act.put, List.setIfInBounds_toArray, List.set_cons_zero, List.set_cons_succ]; go_big_quiet_on)
            | (go_big_quiet_step (fail)))
          refine wpQuiet_nil ?_
          go_wp2_with (fail)
          refine ⟨⟨⟨_, b12⟩, rfl⟩, ?_⟩
          rw [wpWays_done4]
          try simp only [List.map_cons, List.map_nil, opAt, List.getElem?_toArray, List.getElem?_cons_zero, List.getElem?_cons_succ, Option.getD_some]
          repeat (first
            | (go_big_quiet_step (fail)))
          refine wpQuiet_nil ?_
          go_wp2_with fail
          go_ret
          exact ⟨rfl, hbw.trans (b12.mono hbw.size)⟩
      · obtain ⟨rfl, rfl, rfl, rfl, rfl⟩ := hz9
        have hbw : Below w.heap.size w (w9.alloc (.cells #[.int .u64 ((0 : Nat) : Int), .int .i64 0, .int .i64 0, .int .i64 0, .int .i64 0] 82)) := (HBn.out.trans (hb9.mono HBn.out.size)).alloc (by have := HBn.out.size; have := hb9.size; omega) _
        go_wp2_with fail
        go_ret
        exact ⟨rfl, hbw⟩
  · have HRT : Hid (∀ W, Calls Try.prog 42 #[.agg #[.int .u64 (g : Int), .int .i64 a, .int .i64 h, .int .i64 b, .int .i64 p]] W fun e w' => e = .returned (.bool false) ∧ Below W.heap.size W w') := Lib.hid (fun W => by have := right_ref ⟨g, a, h, b, p⟩ W; rw [decide_eq_false hs] at this; exact this)
    have HPT : Hid (∀ W, Calls Try.prog 39 #[.agg #[.int .u64 (g : Int), .int .i64 a, .int .i64 h, .int .i64 b, .int .i64 p]] W fun e w' => e = .returned (.tuple #[.slice none 0 0, .int .i64 1]) ∧ Below W.heap.size W w') := Lib.hid (fun W => sput_err _ hs W _ rfl)
    clear hs
    go_enter Try.func6, Try.ntmps6
    go_upto_region 8 with (first
      | (go_at_call 40; (refine (to_su ⟨g, a, h, b, p⟩ _).mono ?_); rintro e w1 ⟨rfl, hb1⟩; have hq1 := (hb1.block w.heap.size (by simp)).trans HG2.out)
      | (go_at_call 39; (refine (HPT.out _).mono ?_); rintro e w2 ⟨rfl, hb2⟩; have hq2 := (hb2.block w.heap.size (by have := hb1.size; simp at this; omega)).trans hq1; obtain ⟨f0, f1, f2, f3, f4⟩ := cells5 hq2)
      | (go_at_call 41; (refine (counts_any _).mono ?_); rintro e w3 ⟨rfl, hb3⟩; have hl2 : w.heap.size < w2.heap.size := (Array.getElem?_eq_some_iff.1 hq2).1; have hq3 := (hb3.block w.heap.size hl2).trans hq2; obtain ⟨f0, f1, f2, f3, f4⟩ := cells5 hq3)
      | (go_at_call 42; (refine (HRT.out _).mono ?_); rintro e w4 ⟨rfl, hb4⟩))
    have s1 := hb1.size
    have s2 := hb2.size
    have s3 := hb3.size
    have s4 := hb4.size
    have HBn : Hid (Below w.heap.size w w4) := Lib.hid ((((HB0.out.trans (hb1.mono (by simp))).trans (hb2.mono (by simp at s1; omega))).trans (hb3.mono (by simp at s1; omega))).trans (hb4.mono (by simp at s1; omega)))
    clear hb1 hb2 hb3 hb4 hq1 hq2 hq3 hl2 f0 f1 f2 f3 f4 s1 s2 s3 s4 HPT HRT HG2 HB0
    go_upto_region 10 with (first
      | (go_at_call 43; (refine (HGT.out _ (HXX.out.below HBn.out)).mono ?_); rintro e w9 ⟨rfl, hb9⟩)
      | (refine wpList_store_row rfl 82 (.tmp 9) (.tmp 65) rfl w9.heap.size #[.int .u64 (tg : Int), .int .i64 ta, .int .i64 th, .int .i64 tb, .int .i64 tp] rfl rfl 82 Try.zeroCells82 (heap_alloc_new _ _) infoSup (by kernel_rfl) (by simp [Value.oneCell']) ?_; rw [World.setRow_alloc_new]))
    rcases HM.out with ⟨rfl, hok9, hsb9, htg9⟩ | ⟨rfl, hz9⟩
    · obtain ⟨g9, hg9⟩ : ∃ g9, g9 = w9.heap.size := ⟨_, rfl⟩
      rw [← hg9]
      have hbw : Below w.heap.size w (w9.alloc (.cells #[.int .u64 (tg : Int), .int .i64 ta, .int .i64 th, .int .i64 tb, .int .i64 tp] 82)) := (HBn.out.trans (hb9.mono HBn.out.size)).alloc (by have := HBn.out.size; have := hb9.size; omega) _
      have h99 : (w9.alloc (.cells #[.int .u64 (tg : Int), .int .i64 ta, .int .i64 th, .int .i64 tb, .int .i64 tp] 82)).heap[g9]? = some (.cells #[.int .u64 (tg : Int), .int .i64 ta, .int .i64 th, .int .i64 tb, .int .i64 tp] 82 (0, 0)) := by rw [hg9]; exact heap_alloc_new _ _
      obtain ⟨W9, eW9⟩ : ∃ W9, W9 = w9.alloc (.cells #[.int .u64 (tg : Int), .int .i64 ta, .int .i64 th, .int .i64 tb, .int .i64 tp] 82) := ⟨_, rfl⟩
      rw [← eW9] at hbw h99 ⊢
      have HQ9 : Hid (∀ y : SubW W9.heap.size W9, y.at_.heap[g9]? = some (.cells #[.int .u64 (tg : Int), .int .i64 ta, .int .i64 th, .int .i64 tb, .int .i64 tp] 82 (0, 0))) := Lib.hid (fun y => (y.ok_.block _ (Array.getElem?_eq_some_iff.1 h99).1).trans h99)
      have HX9 := Lib.hid (HXX.out.below hbw)
      have HRT9 : Hid (∀ W, Calls Try.prog 42 #[.agg #[.int .u64 (tg : Int), .int .i64 ta, .int .i64 th, .int .i64 tb, .int .i64 tp]] W fun e w' => e = .returned (.bool true) ∧ Below W.heap.size W w') := Lib.hid (fun W => by have := right_ref ⟨tg, ta, th, tb, tp⟩ W; rw [decide_eq_true hok9] at this; exact this)
      have HRP9 : Hid (∀ W, Calls Try.prog 44 #[.agg #[.int .u64 (tg : Int), .int .i64 ta, .int .i64 th, .int .i64 tb, .int .i64 tp]] W fun e w' => ∃ A' c', e = .returned (.slice A' 15 c') ∧ OwnS w' (W.heap.size + 1) (.slice A' 15 c') 5 ys ∧ Below W.heap.size W w') := Lib.hid (fun W => by have := put_ref ⟨tg, ta, th, tb, tp⟩ hok9 htg9 W; rw [hsb9] at this; exact this)
      have HYL : Hid (ys.length = 15) := Lib.hid (by rw [← hsb9, length_supB])
      clear eW9 h99 hb9 hg9 hok9 hsb9 htg9 HGT HM
      go_upto_region 12 with fail
      refine region_ways4 W9.heap.size (Nat.le_refl _) (.one [0] 1 (.one [] 2 (.two [3, 4, 8] 5 (.two [] 6 (.two [] 7 (.one [] 9 (.done [10, 11, 12])) 9 (.one [] 7 (.done [10, 11, 12]))) 9 (.one [] 6 (.one [] 7 (.done [10, 11, 12])))) 9 (.one [] 5 (.one [] 6 (.one [] 7 (.done [10, 11, 12]))))))) (by kernel_rfl) (by kernel_rfl) ?_
      rintro wd hbd
      have hxb0 := HX9.out.below hbd
      have tb_0 := text_n A n2 cap ys HYN.out hxb0
      rw [wpWays_one4]
      try simp only [List.map_cons, List.map_nil, opAt, List.getElem?_toArray, List.getElem?_cons_zero, List.getElem?_cons_succ, Option.getD_some]
      repeat (first
        | (go_big_quiet_want; refine quiet_load_row 82 (.tmp 9) rfl g9 rfl 82 #[.int .u64 (tg : Int), .int .i64 ta, .int .i64 th, .int .i64 tb, .int .i64 tp] (0, 0) _ HQ9.out Try.underlying82 rfl infoSup ?_; simp only [Act.put, List.setIfInBounds_toArray, List.set_cons_zero, List.set_cons_succ]; go_big_quiet_on)
        | (go_big_quiet_step (fail)))
      refine wpQuiet_nil ?_
      go_wp2_with (go_at_call 45; (refine (from_su ⟨tg, ta, th, tb, tp⟩ _).mono ?_); rintro e v6 ⟨rfl, hv6⟩)
      have b6 := hbd.trans (hv6.mono hbd.size)
      have hxb_6 := hxb0.below hv6
      have tb_6 := text_n A n2 cap ys HYN.out hxb_6
      refine ⟨⟨⟨_, b6⟩, rfl⟩, ?_⟩
      rw [wpWays_one4]
      try simp only [List.map_cons, List.map_nil, opAt, List.getElem?_toArray, List.getElem?_cons_zero, List.getElem?_cons_succ, Option.getD_some]
      repeat (first
        | (go_big_quiet_want; refine quiet_load_row 82 (.tmp 9) rfl g9 rfl 82 #[.int .u64 (tg : Int), .int .i64 ta, .int .i64 th, .int .i64 tb, .int .i64 tp] (0, 0) _ HQ9.out Try.underlying82 rfl infoSup ?_; simp only [Act.put, List.setIfInBounds_toArray, List.set_cons_zero, List.set_cons_succ]; go_big_quiet_on)
        | (go_big_quiet_step (fail)))
      refine wpQuiet_nil ?_
      go_wp2_with (go_at_call 42; (refine (HRT9.out _).mono ?_); rintro e v7 ⟨rfl, hv7⟩)
      have b7 := b6.trans (hv7.mono b6.size)
      have hxb_7 := hxb_6.below hv7
      have tb_7 := text_n A n2 cap ys HYN.out hxb_7
      refine ⟨⟨⟨_, b7⟩, rfl⟩, ?_⟩
      rw [wpWays_two4]
      try simp only [List.map_cons, List.map_nil, opAt, List.getElem?_toArray, List.getElem?_cons_zero, List.getElem?_cons_succ, Option.getD_some]
      repeat (first
        | (go_big_quiet_want; refine quiet_load_row 82 (.tmp 9) rfl g9 rfl 82 #[.int .u64 (tg : Int), .int .i64 ta, .int .i64 th, .int .i64 tb, .int .i64 tp] (0, 0) _ HQ9.out Try.underlying82 rfl infoSup ?_; simp only [Act.put, List.setIfInBounds_toArray, List.set_cons_zero, List.set_cons_succ]; go_big_quiet_on)
        | (go_big_quiet_step (fail)))
      refine wpQuiet_nil ⟨?_, ?_⟩
      · go_wp2_with (go_at_call 45; (refine (from_su ⟨tg, ta, th, tb, tp⟩ _).mono ?_); rintro e v8 ⟨rfl, hv8⟩)
        have b8 := b7.trans (hv8.mono b7.size)
        have hxb_8 := hxb_7.below hv8
        have tb_8 := text_n A n2 cap ys HYN.out hxb_8
        refine ⟨⟨⟨_, b8⟩, rfl⟩, ?_⟩
        rw [wpWays_two4]
        try simp only [List.map_cons, List.map_nil, opAt, List.getElem?_toArray, List.getElem?_cons_zero, List.getElem?_cons_succ, Option.getD_some]
        repeat (first
          | (go_big_quiet_want; refine quiet_load_row 82 (.tmp 9) rfl g9 rfl 82 #[.int .u64 (tg : Int), .int .i64 ta, .int .i64 th, .int .i64 tb, .int .i64 tp] (0, 0) _ HQ9.out Try.underlying82 rfl infoSup ?_; simp only [Act.put, List.setIfInBounds_toArray, List.set_cons_zero, List.set_cons_succ]; go_big_quiet_on)
          | (go_big_quiet_step (fail)))
        refine wpQuiet_nil ⟨?_, ?_⟩
        · go_wp2_with (go_at_call 44; (refine (HRP9.out _).mono ?_); rintro e v9 ⟨A9, c9, rfl, ho9, hv9⟩)
          have b9 := b8.trans (hv9.mono b8.size)
          have hxb_9 := hxb_8.below hv9
          have tb_9 := text_n A n2 cap ys HYN.out hxb_9
          have tr_9 := text_n A9 15 c9 ys HYL.out ho9.bytes
          refine ⟨⟨⟨_, b9⟩, rfl⟩, ?_⟩
          rw [wpWays_two4]
          try simp only [List.map_cons, List.map_nil, opAt, List.getElem?_toArray, List.getElem?_cons_zero, List.getElem?_cons_succ, Option.getD_some]
          repeat (first
            | (go_big_quiet_want; refine quiet_load_row 82 (.tmp 9) rfl g9 rfl 82 #[.int .u64 (tg : Int), .int .i64 ta, .int .i64 th, .int .i64 tb, .int .i64 tp] (0, 0) _ HQ9.out Try.underlying82 rfl infoSup ?_; simp only [Act.put, List.setIfInBounds_toArray, List.set_cons_zero, List.set_cons_succ]; go_big_quiet_on)
            | (go_big_quiet_step (fail)))
          refine wpQuiet_nil ⟨?_, ?_⟩
          · go_wp2_with (fail)
            refine ⟨⟨⟨_, b9⟩, rfl⟩, ?_⟩
            rw [wpWays_one4]
            try simp only [List.map_cons, List.map_nil, opAt, List.getElem?_toArray, List.getElem?_cons_zero, List.getElem?_cons_succ, Option.getD_some]
            repeat (first
              | (go_big_quiet_want; refine quiet_load_row 82 (.tmp 9) rfl g9 rfl 82 #[.int .u64 (tg : Int), .int .i64 ta, .int .i64 th, .int .i64 tb, .int .i64 tp] (0, 0) _ HQ9.out Try.underlying82 rfl infoSup ?_; simp only [Act.put, List.setIfInBounds_toArray, List.set_cons_zero, List.set_cons_succ]; go_big_quiet_on)
              | (go_big_quiet_step (fail)))
            refine wpQuiet_nil ?_
            go_wp2_with (fail)
            refine ⟨⟨⟨_, b9⟩, rfl⟩, ?_⟩
            rw [wpWays_done4]
            try simp only [List.map_cons, List.map_nil, opAt, List.getElem?_toArray, List.getElem?_cons_zero, List.getElem?_cons_succ, Option.getD_some]
            repeat (first
              | (go_big_quiet_step (fail)))
            refine wpQuiet_nil ?_
            go_wp2_with fail
            go_ret
            exact ⟨rfl, hbw.trans (b9.mono hbw.size)⟩
          · go_wp2_with (fail)
            refine ⟨⟨⟨_, b9⟩, rfl⟩, ?_⟩
            rw [wpWays_one4]
            try simp only [List.map_cons, List.map_nil, opAt, List.getElem?_toArray, List.getElem?_cons_zero, List.getElem?_cons_succ, Option.getD_some]
            repeat (first
              | (go_big_quiet_want; refine quiet_load_row 82 (.tmp 9) rfl g9 rfl 82 #[.int .u64 (tg : Int), .int .i64 ta, .int .i64 th, .int .i64 tb, .int .i64 tp] (0, 0) _ HQ9.out Try.underlying82 rfl infoSup ?_; simp only [Act.put, List.setIfInBounds_toArray, List.set_cons_zero, List.set_cons_succ]; go_big_quiet_on)
              | (go_big_quiet_step (fail)))
            refine wpQuiet_nil ?_
            go_wp2_with (fail)
            refine ⟨⟨⟨_, b9⟩, rfl⟩, ?_⟩
            rw [wpWays_done4]
            try simp only [List.map_cons, List.map_nil, opAt, List.getElem?_toArray, List.getElem?_cons_zero, List.getElem?_cons_succ, Option.getD_some]
            repeat (first
              | (go_big_quiet_step (fail)))
            refine wpQuiet_nil ?_
            go_wp2_with fail
            go_ret
            exact ⟨rfl, hbw.trans (b9.mono hbw.size)⟩
        · go_wp2_with (fail)
          refine ⟨⟨⟨_, b8⟩, rfl⟩, ?_⟩
          rw [wpWays_one4]
          try simp only [List.map_cons, List.map_nil, opAt, List.getElem?_toArray, List.getElem?_cons_zero, List.getElem?_cons_succ, Option.getD_some]
          repeat (first
            | (go_big_quiet_want; refine quiet_load_row 82 (.tmp 9) rfl g9 rfl 82 #[.int .u64 (tg : Int), .int .i64 ta, .int .i64 th, .int .i64 tb, .int .i64 tp] (0, 0) _ HQ9.out Try.underlying82 rfl infoSup ?_; simp only [Act.put, List.setIfInBounds_toArray, List.set_cons_zero, List.set_cons_succ]; go_big_quiet_on)
            | (go_big_quiet_step (fail)))
          refine wpQuiet_nil ?_
          go_wp2_with (go_at_call 44; (refine (HRP9.out _).mono ?_); rintro e v10 ⟨A10, c10, rfl, ho10, hv10⟩)
          have b10 := b8.trans (hv10.mono b8.size)
          have hxb_10 := hxb_8.below hv10
          have tb_10 := text_n A n2 cap ys HYN.out hxb_10
          have tr_10 := text_n A10 15 c10 ys HYL.out ho10.bytes
          refine ⟨⟨⟨_, b10⟩, rfl⟩, ?_⟩
          rw [wpWays_one4]
          try simp only [List.map_cons, List.map_nil, opAt, List.getElem?_toArray, List.getElem?_cons_zero, List.getElem?_cons_succ, Option.getD_some]
          repeat (first
            | (go_big_quiet_want; refine quiet_load_row 82 (.tmp 9) rfl g9 rfl 82 #[.int .u64 (tg : Int), .int .i64 ta, .int .i64 th, .int .i64 tb, .int .i64 tp] (0, 0) _ HQ9.out Try.underlying82 rfl infoSup ?_; simp only [Act.put, List.setIfInBounds_toArray, List.set_cons_zero, List.set_cons_succ]; go_big_quiet_on)
            | (go_big_quiet_step (fail)))
          refine wpQuiet_nil ?_
          go_wp2_with (fail)
          refine ⟨⟨⟨_, b10⟩, rfl⟩, ?_⟩
          rw [wpWays_done4]
          try simp only [List.map_cons, List.map_nil, opAt, List.getElem?_toArray, List.getElem?_cons_zero, List.getElem?_cons_succ, Option.getD_some]
          repeat (first
            | (go_big_quiet_step (fail)))
          refine wpQuiet_nil ?_
          go_wp2_with fail
          go_ret
          exact ⟨rfl, hbw.trans (b10.mono hbw.size)⟩
      · go_wp2_with (fail)
        refine ⟨⟨⟨_, b7⟩, rfl⟩, ?_⟩
        rw [wpWays_one4]
        try simp only [List.map_cons, List.map_nil, opAt, List.getElem?_toArray, List.getElem?_cons_zero, List.getElem?_cons_succ, Option.getD_some]
        repeat (first
          | (go_big_quiet_want; refine quiet_load_row 82 (.tmp 9) rfl g9 rfl 82 #[.int .u64 (tg : Int), .int .i64 ta, .int .i64 th, .int .i64 tb, .int .i64 tp] (0, 0) _ HQ9.out Try.underlying82 rfl infoSup ?_; simp only [Act.put, List.setIfInBounds_toArray, List.set_cons_zero, List.set_cons_succ]; go_big_quiet_on)
          | (go_big_quiet_step (fail)))
        refine wpQuiet_nil ?_
        go_wp2_with (go_at_call 45; (refine (from_su ⟨tg, ta, th, tb, tp⟩ _).mono ?_); rintro e v11 ⟨rfl, hv11⟩)
        have b11 := b7.trans (hv11.mono b7.size)
        have hxb_11 := hxb_7.below hv11
        have tb_11 := text_n A n2 cap ys HYN.out hxb_11
        refine ⟨⟨⟨_, b11⟩, rfl⟩, ?_⟩
        rw [wpWays_one4]
        try simp only [List.map_cons, List.map_nil, opAt, List.getElem?_toArray, List.getElem?_cons_zero, List.getElem?_cons_succ, Option.getD_some]
        repeat (first
          | (go_big_quiet_want; refine quiet_load_row 82 (.tmp 9) rfl g9 rfl 82 #[.int .u64 (tg : Int), .int .i64 ta, .int .i64 th, .int .i64 tb, .int .i64 tp] (0, 0) _ HQ9.out Try.underlying82 rfl infoSup ?_; simp only [Act.put, List.setIfInBounds_toArray, List.set_cons_zero, List.set_cons_succ]; go_big_quiet_on)
          | (go_big_quiet_step (fail)))
        refine wpQuiet_nil ?_
        go_wp2_with (go_at_call 44; (refine (HRP9.out _).mono ?_); rintro e v12 ⟨A12, c12, rfl, ho12, hv12⟩)
        have b12 := b11.trans (hv12.mono b11.size)
        have hxb_12 := hxb_11.below hv12
        have tb_12 := text_n A n2 cap ys HYN.out hxb_12
        have tr_12 := text_n A12 15 c12 ys HYL.out ho12.bytes
        refine ⟨⟨⟨_, b12⟩, rfl⟩, ?_⟩
        rw [wpWays_one4]
        try simp only [List.map_cons, List.map_nil, opAt, List.getElem?_toArray, List.getElem?_cons_zero, List.getElem?_cons_succ, Option.getD_some]
        repeat (first
          | (go_big_quiet_want; refine quiet_load_row 82 (.tmp 9) rfl g9 rfl 82 #[.int .u64 (tg : Int), .int .i64 ta, .int .i64 th, .int .i64 tb, .int .i64 tp] (0, 0) _ HQ9.out Try.underlying82 rfl infoSup ?_; simp only [Act.put, List.setIfInBounds_toArray, List.set_cons_zero, List.set_cons_succ]; go_big_quiet_on)
          | (go_big_quiet_step (fail)))
        refine wpQuiet_nil ?_
        go_wp2_with (fail)
        refine ⟨⟨⟨_, b12⟩, rfl⟩, ?_⟩
        rw [wpWays_done4]
        try simp only [List.map_cons, List.map_nil, opAt, List.getElem?_toArray, List.getElem?_cons_zero, List.getElem?_cons_succ, Option.getD_some]
        repeat (first
          | (go_big_quiet_step (fail)))
        refine wpQuiet_nil ?_
        go_wp2_with fail
        go_ret
        exact ⟨rfl, hbw.trans (b12.mono hbw.size)⟩
    · obtain ⟨rfl, rfl, rfl, rfl, rfl⟩ := hz9
      have hbw : Below w.heap.size w (w9.alloc (.cells #[.int .u64 ((0 : Nat) : Int), .int .i64 0, .int .i64 0, .int .i64 0, .int .i64 0] 82)) := (HBn.out.trans (hb9.mono HBn.out.size)).alloc (by have := HBn.out.size; have := hb9.size; omega) _
      go_wp2_with fail
      go_ret
      exact ⟨rfl, hbw⟩
end Go.Proofs.Ytamopekhmeffjaa
