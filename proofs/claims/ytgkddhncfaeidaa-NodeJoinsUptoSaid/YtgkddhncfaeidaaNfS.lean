/- The reference's Same of two nodes that are the same. -/
import Derived.Test.YtgkddhncfaeidaaNdT
import Derived.Laws.StructEq
import Derived.ChangeKeysEq
namespace Go.Proofs.Ytgkddhncfaeidaa
open Go.ChangeShapes Go.WideShapes Go.ChangeAt Go.RowKit CrcM PageM
set_option linter.unusedVariables false

set_option maxRecDepth 100000 in
theorem part_key (a b : Int) (r : List Value) (w : World) : (part 48 (Array.mk (.int .i64 a :: .int .i64 b :: r)) 0).run Try.prog w = .ok (.agg #[.int .i64 a, .int .i64 b]) w := by
  have hu : Try.prog.underlying 48 = some (.struct (Try.prog.fieldsOf 48)) := by kernel_rfl
  have hs : (Try.prog.info? 48).map (·.size) = some 2 := by kernel_rfl
  unfold part
  cases hq : Try.prog.info? 48 with
  | none => rw [hq] at hs; cases hs
  | some i =>
    rw [hq] at hs
    have h2 : i.size = 2 := by simpa using hs
    simp [isAgg, sizeOf, typeInfo, hq, h2, Sem.run_bind, run_underlying hu]

set_option maxRecDepth 100000 in
theorem eq_key (k : Nat) (hk : 2 ≤ k) (a b : Int) (w : World) : (Op.equalIn k 48 (.agg #[.int .i64 a, .int .i64 b]) (.agg #[.int .i64 a, .int .i64 b])).run Try.prog w = .ok true w := by
  obtain ⟨d, rfl⟩ : ∃ d, k = d + 1 + 1 := ⟨k - 2, by omega⟩
  have ht : Try.prog.underlying 48 = some (.struct (Try.prog.fieldsOf 48)) := by kernel_rfl
  have hp : Try.prog.stoodInHeld 48 = false := by kernel_rfl
  have hf : (Try.prog.fieldsOf 48).toList = [⟨"Series", 3, 0, false, "", "", 0⟩, ⟨"Start", 2, 1, false, "", "", 8⟩] := by kernel_rfl
  have h := run_equalIn_agg (P := Try.prog) w (d + 1) 48 #[.int .i64 a, .int .i64 b] #[.int .i64 a, .int .i64 b] ht hp
  rw [hf] at h
  rw [h]
  have hki : Try.prog.plainKey 3 = true := by kernel_rfl
  have hk6 : Try.prog.plainKey 2 = true := by kernel_rfl
  have e0 := run_part_plain (P := Try.prog) w hki (xs := #[.int .i64 a, .int .i64 b]) (off := 0) (v := .int .i64 a) rfl
  have e1 := run_part_plain (P := Try.prog) w hk6 (xs := #[.int .i64 a, .int .i64 b]) (off := 1) (v := .int .i64 b) rfl
  have qi := fun z : Int => run_equalIn_int (P := Try.prog) w d 3 .i64 .i64 z z Try.underlying3
  have q6 := fun z : Int => run_equalIn_int (P := Try.prog) w d 2 .i64 .i64 z z Try.underlying2
  simp [Op.eqFields, Sem.run_bind, e0, e1, qi, q6]

set_option maxRecDepth 100000 in
theorem eq_ent (k : Nat) (hk : 3 ≤ k) (e : EntD) (w : World) : (Op.equalIn k 51 (.agg #[.int .i64 e.se, .int .i64 e.st, .int .i64 e.en, .int .i64 e.ad, .int .i64 e.le, .int .i64 e.cn, .int .i64 e.co, .int .u32 e.cr]) (.agg #[.int .i64 e.se, .int .i64 e.st, .int .i64 e.en, .int .i64 e.ad, .int .i64 e.le, .int .i64 e.cn, .int .i64 e.co, .int .u32 e.cr])).run Try.prog w = .ok true w := by
  obtain ⟨d, rfl⟩ : ∃ d, k = d + 1 + 1 + 1 := ⟨k - 3, by omega⟩
  obtain ⟨xs, hxs⟩ : ∃ xs, xs = #[.int .i64 e.se, .int .i64 e.st, .int .i64 e.en, .int .i64 e.ad, .int .i64 e.le, .int .i64 e.cn, .int .i64 e.co, Value.int .u32 e.cr] := ⟨_, rfl⟩
  rw [← hxs]
  have ht : Try.prog.underlying 51 = some (.struct (Try.prog.fieldsOf 51)) := by kernel_rfl
  have hp : Try.prog.stoodInHeld 51 = false := by kernel_rfl
  have hf : (Try.prog.fieldsOf 51).toList = [⟨"Key", 48, 0, false, "", "", 0⟩, ⟨"End", 2, 2, false, "", "", 16⟩, ⟨"Addr", 3, 3, false, "", "", 24⟩, ⟨"Len", 3, 4, false, "", "", 32⟩, ⟨"Count", 3, 5, false, "", "", 40⟩, ⟨"Codec", 3, 6, false, "", "", 48⟩, ⟨"Crc", 49, 7, false, "", "", 56⟩] := by kernel_rfl
  have h := run_equalIn_agg (P := Try.prog) w (d + 1 + 1) 51 xs xs ht hp
  rw [hf] at h
  rw [h]
  have hki : Try.prog.plainKey 3 = true := by kernel_rfl
  have hk6 : Try.prog.plainKey 2 = true := by kernel_rfl
  have hk3 : Try.prog.plainKey 49 = true := by kernel_rfl
  have e0 : (part 48 xs 0).run Try.prog w = .ok (.agg #[.int .i64 e.se, .int .i64 e.st]) w := by rw [hxs]; exact part_key _ _ _ w
  have e2 := run_part_plain (P := Try.prog) w hk6 (xs := xs) (off := 2) (v := .int .i64 e.en) (by rw [hxs]; rfl)
  have e3 := run_part_plain (P := Try.prog) w hki (xs := xs) (off := 3) (v := .int .i64 e.ad) (by rw [hxs]; rfl)
  have e4 := run_part_plain (P := Try.prog) w hki (xs := xs) (off := 4) (v := .int .i64 e.le) (by rw [hxs]; rfl)
  have e5 := run_part_plain (P := Try.prog) w hki (xs := xs) (off := 5) (v := .int .i64 e.cn) (by rw [hxs]; rfl)
  have e6 := run_part_plain (P := Try.prog) w hki (xs := xs) (off := 6) (v := .int .i64 e.co) (by rw [hxs]; rfl)
  have e7 := run_part_plain (P := Try.prog) w hk3 (xs := xs) (off := 7) (v := .int .u32 e.cr) (by rw [hxs]; rfl)
  have q0 := eq_key (d + 1 + 1) (by omega) e.se e.st w
  have qi := fun z : Int => run_equalIn_int (P := Try.prog) w (d + 1) 3 .i64 .i64 z z Try.underlying3
  have q6 := fun z : Int => run_equalIn_int (P := Try.prog) w (d + 1) 2 .i64 .i64 z z Try.underlying2
  have q3 := fun z : Int => run_equalIn_int (P := Try.prog) w (d + 1) 49 .u32 .u32 z z Try.underlying49
  simp [Op.eqFields, Sem.run_bind, e0, e2, e3, e4, e5, e6, e7, q0, qi, q6, q3]

theorem neq_key (a b : Int) (w : World) : (binOp .neq 48 (.agg #[.int .i64 a, .int .i64 b]) (.agg #[.int .i64 a, .int .i64 b])).run Try.prog w = .ok (.bool false) w := by
  rw [run_neq_struct, eq_key 10000 (by decide) a b w]
  rfl
theorem neq_ent (e : EntD) (w : World) : (binOp .neq 51 (.agg #[.int .i64 e.se, .int .i64 e.st, .int .i64 e.en, .int .i64 e.ad, .int .i64 e.le, .int .i64 e.cn, .int .i64 e.co, .int .u32 e.cr]) (.agg #[.int .i64 e.se, .int .i64 e.st, .int .i64 e.en, .int .i64 e.ad, .int .i64 e.le, .int .i64 e.cn, .int .i64 e.co, .int .u32 e.cr])).run Try.prog w = .ok (.bool false) w := by
  rw [run_neq_struct, eq_ent 10000 (by decide) e w]
  rfl
theorem guard_ent (op : BinOp) (x y : Operand) (C D : Array Value) (w : World) : (eqGuard op 51 x y (.agg C) (.agg D)).run Try.prog w = .ok () w := run_eqGuard_agg w op _ x y C D (by kernel_rfl)
theorem guard_key (op : BinOp) (x y : Operand) (C D : Array Value) (w : World) : (eqGuard op 48 x y (.agg C) (.agg D)).run Try.prog w = .ok () w := run_eqGuard_agg w op _ x y C D (by kernel_rfl)
theorem quiet_binOpN {P : Program} {o : Oper} {a : Act} {B : Nat} {w0 : World} {K : Act → Prop} (op : BinOp) (ty : TypeId) (x y : Operand) (t2 : TypeId) (ho : o.op = .binOp op ty x y t2) (vx vy v : Value) (hx : a.eval x = vx) (hy : a.eval y = vy)
    (hg : ∀ W, (eqGuard op ty x y vx vy).run P W = .ok () W) (hr : ∀ W, (binOp op ty vx vy).run P W = .ok v W) (h : K (a.put o.dst v)) : o.quiet P a (fun w' => ∃ x : SubW B w0, w' = x.at_) K := by
  refine ⟨v, ?_, h⟩
  rintro w ⟨y, rfl⟩
  unfold Oper.quietAt execOp
  simp only [ho, Sem.run_bind, Sem.run_pure, Result.andThen_ok, hx, hy, hg, hr]
  exact ⟨rfl, rfl⟩
end Go.Proofs.Ytgkddhncfaeidaa
