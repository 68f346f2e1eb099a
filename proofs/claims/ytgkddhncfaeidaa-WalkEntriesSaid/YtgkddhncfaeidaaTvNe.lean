/- Whether two entries are the same, as the language compares them. -/
import Derived.Test.YtgkddhncfaeidaaPart13
set_option linter.unusedSimpArgs false
set_option linter.unusedVariables false
namespace Go.Proofs.Ytgkddhncfaeidaa
open Go.ChangeShapes Go.WideShapes Go.ChangeAt Go.RowKit CrcM PageM
set_option linter.unusedVariables false

def eqE (a b : EntD) : Bool := (a.se == b.se && a.st == b.st) && (a.en == b.en && (a.ad == b.ad && (a.le == b.le && (a.cn == b.cn && (a.co == b.co && a.cr == b.cr)))))
theorem eqE_iff {a b : EntD} : eqE a b = true ↔ a = b := by
  cases a; cases b
  simp [eqE, and_assoc]
set_option maxRecDepth 100000 in
theorem eq_key2 (k : Nat) (hk : 2 ≤ k) (a b a' b' : Int) (w : World) : (Op.equalIn k 48 (.agg #[.int .i64 a, .int .i64 b]) (.agg #[.int .i64 a', .int .i64 b'])).run Try.prog w = .ok (a == a' && b == b') w := by
  obtain ⟨d, rfl⟩ : ∃ d, k = d + 1 + 1 := ⟨k - 2, by omega⟩
  have ht : Try.prog.underlying 48 = some (.struct (Try.prog.fieldsOf 48)) := by kernel_rfl
  have hp : Try.prog.stoodInHeld 48 = false := by kernel_rfl
  have hf : (Try.prog.fieldsOf 48).toList = [⟨"Series", 3, 0, false, "", "", 0⟩, ⟨"Start", 2, 1, false, "", "", 8⟩] := by kernel_rfl
  have h := run_equalIn_agg (P := Try.prog) w (d + 1) 48 #[.int .i64 a, .int .i64 b] #[.int .i64 a', .int .i64 b'] ht hp
  rw [hf] at h
  rw [h]
  have hki : Try.prog.plainKey 3 = true := by kernel_rfl
  have hk6 : Try.prog.plainKey 2 = true := by kernel_rfl
  have e0 := run_part_plain (P := Try.prog) w hki (xs := #[.int .i64 a, .int .i64 b]) (off := 0) (v := .int .i64 a) rfl
  have e1 := run_part_plain (P := Try.prog) w hk6 (xs := #[.int .i64 a, .int .i64 b]) (off := 1) (v := .int .i64 b) rfl
  have f0 := run_part_plain (P := Try.prog) w hki (xs := #[.int .i64 a', .int .i64 b']) (off := 0) (v := .int .i64 a') rfl
  have f1 := run_part_plain (P := Try.prog) w hk6 (xs := #[.int .i64 a', .int .i64 b']) (off := 1) (v := .int .i64 b') rfl
  have qi := run_equalIn_int (P := Try.prog) w d 3 .i64 .i64 a a' Try.underlying3
  have q6 := run_equalIn_int (P := Try.prog) w d 2 .i64 .i64 b b' Try.underlying2
  obtain ⟨b0, hb0⟩ : ∃ x, x = (a == a') := ⟨_, rfl⟩
  obtain ⟨b1, hb1⟩ : ∃ x, x = (b == b') := ⟨_, rfl⟩
  rw [← hb0] at qi ⊢
  rw [← hb1] at q6 ⊢
  clear h hb0 hb1
  cases b0 <;> cases b1 <;> simp [Op.eqFields, Sem.run_bind, e0, e1, f0, f1, qi, q6]

set_option maxRecDepth 100000 in
set_option maxHeartbeats 2000000 in
theorem eq_ent2 (k : Nat) (hk : 3 ≤ k) (e f : EntD) (w : World) : (Op.equalIn k 51 (.agg #[.int .i64 e.se, .int .i64 e.st, .int .i64 e.en, .int .i64 e.ad, .int .i64 e.le, .int .i64 e.cn, .int .i64 e.co, .int .u32 e.cr]) (.agg #[.int .i64 f.se, .int .i64 f.st, .int .i64 f.en, .int .i64 f.ad, .int .i64 f.le, .int .i64 f.cn, .int .i64 f.co, .int .u32 f.cr])).run Try.prog w = .ok (eqE e f) w := by
  obtain ⟨d, rfl⟩ : ∃ d, k = d + 1 + 1 + 1 := ⟨k - 3, by omega⟩
  obtain ⟨xs, hxs⟩ : ∃ xs, xs = #[.int .i64 e.se, .int .i64 e.st, .int .i64 e.en, .int .i64 e.ad, .int .i64 e.le, .int .i64 e.cn, .int .i64 e.co, Value.int .u32 e.cr] := ⟨_, rfl⟩
  obtain ⟨ys, hys⟩ : ∃ ys, ys = #[.int .i64 f.se, .int .i64 f.st, .int .i64 f.en, .int .i64 f.ad, .int .i64 f.le, .int .i64 f.cn, .int .i64 f.co, Value.int .u32 f.cr] := ⟨_, rfl⟩
  rw [← hxs, ← hys]
  have ht : Try.prog.underlying 51 = some (.struct (Try.prog.fieldsOf 51)) := by kernel_rfl
  have hp : Try.prog.stoodInHeld 51 = false := by kernel_rfl
  have hf : (Try.prog.fieldsOf 51).toList = [⟨"Key", 48, 0, false, "", "", 0⟩, ⟨"End", 2, 2, false, "", "", 16⟩, ⟨"Addr", 3, 3, false, "", "", 24⟩, ⟨"Len", 3, 4, false, "", "", 32⟩, ⟨"Count", 3, 5, false, "", "", 40⟩, ⟨"Codec", 3, 6, false, "", "", 48⟩, ⟨"Crc", 49, 7, false, "", "", 56⟩] := by kernel_rfl
  have h := run_equalIn_agg (P := Try.prog) w (d + 1 + 1) 51 xs ys ht hp
  rw [hf] at h
  rw [h]
  have hki : Try.prog.plainKey 3 = true := by kernel_rfl
  have hk6 : Try.prog.plainKey 2 = true := by kernel_rfl
  have hk3 : Try.prog.plainKey 49 = true := by kernel_rfl
  have p0 : (part 48 xs 0).run Try.prog w = .ok (.agg #[.int .i64 e.se, .int .i64 e.st]) w := by rw [hxs]; exact part_key _ _ _ w
  have p2 := run_part_plain (P := Try.prog) w hk6 (xs := xs) (off := 2) (v := .int .i64 e.en) (by rw [hxs]; rfl)
  have p3 := run_part_plain (P := Try.prog) w hki (xs := xs) (off := 3) (v := .int .i64 e.ad) (by rw [hxs]; rfl)
  have p4 := run_part_plain (P := Try.prog) w hki (xs := xs) (off := 4) (v := .int .i64 e.le) (by rw [hxs]; rfl)
  have p5 := run_part_plain (P := Try.prog) w hki (xs := xs) (off := 5) (v := .int .i64 e.cn) (by rw [hxs]; rfl)
  have p6 := run_part_plain (P := Try.prog) w hki (xs := xs) (off := 6) (v := .int .i64 e.co) (by rw [hxs]; rfl)
  have p7 := run_part_plain (P := Try.prog) w hk3 (xs := xs) (off := 7) (v := .int .u32 e.cr) (by rw [hxs]; rfl)
  have q0 : (part 48 ys 0).run Try.prog w = .ok (.agg #[.int .i64 f.se, .int .i64 f.st]) w := by rw [hys]; exact part_key _ _ _ w
  have q2 := run_part_plain (P := Try.prog) w hk6 (xs := ys) (off := 2) (v := .int .i64 f.en) (by rw [hys]; rfl)
  have q3 := run_part_plain (P := Try.prog) w hki (xs := ys) (off := 3) (v := .int .i64 f.ad) (by rw [hys]; rfl)
  have q4 := run_part_plain (P := Try.prog) w hki (xs := ys) (off := 4) (v := .int .i64 f.le) (by rw [hys]; rfl)
  have q5 := run_part_plain (P := Try.prog) w hki (xs := ys) (off := 5) (v := .int .i64 f.cn) (by rw [hys]; rfl)
  have q6 := run_part_plain (P := Try.prog) w hki (xs := ys) (off := 6) (v := .int .i64 f.co) (by rw [hys]; rfl)
  have q7 := run_part_plain (P := Try.prog) w hk3 (xs := ys) (off := 7) (v := .int .u32 f.cr) (by rw [hys]; rfl)
  have r0 := eq_key2 (d + 1 + 1) (by omega) e.se e.st f.se f.st w
  clear h hxs hys
  obtain ⟨b0, hb0⟩ : ∃ b, b = (e.se == f.se && e.st == f.st) := ⟨_, rfl⟩
  have r2 := run_equalIn_int (P := Try.prog) w (d + 1) 2 .i64 .i64 e.en f.en Try.underlying2
  obtain ⟨b2, hb2⟩ : ∃ b, b = (e.en == f.en) := ⟨_, rfl⟩
  have r3 := run_equalIn_int (P := Try.prog) w (d + 1) 3 .i64 .i64 e.ad f.ad Try.underlying3
  obtain ⟨b3, hb3⟩ : ∃ b, b = (e.ad == f.ad) := ⟨_, rfl⟩
  have r4 := run_equalIn_int (P := Try.prog) w (d + 1) 3 .i64 .i64 e.le f.le Try.underlying3
  obtain ⟨b4, hb4⟩ : ∃ b, b = (e.le == f.le) := ⟨_, rfl⟩
  have r5 := run_equalIn_int (P := Try.prog) w (d + 1) 3 .i64 .i64 e.cn f.cn Try.underlying3
  obtain ⟨b5, hb5⟩ : ∃ b, b = (e.cn == f.cn) := ⟨_, rfl⟩
  have r6 := run_equalIn_int (P := Try.prog) w (d + 1) 3 .i64 .i64 e.co f.co Try.underlying3
  obtain ⟨b6, hb6⟩ : ∃ b, b = (e.co == f.co) := ⟨_, rfl⟩
  have r7 := run_equalIn_int (P := Try.prog) w (d + 1) 49 .u32 .u32 e.cr f.cr Try.underlying49
  obtain ⟨b7, hb7⟩ : ∃ b, b = (e.cr == f.cr) := ⟨_, rfl⟩
  unfold eqE
  rw [← hb0] at r0 ⊢
  rw [← hb2] at r2 ⊢
  rw [← hb3] at r3 ⊢
  rw [← hb4] at r4 ⊢
  rw [← hb5] at r5 ⊢
  rw [← hb6] at r6 ⊢
  rw [← hb7] at r7 ⊢
  clear hb0 hb2 hb3 hb4 hb5 hb6 hb7
  cases b0
  · simp [Op.eqFields, Sem.run_bind, p0, q0, r0]
  cases b2
  · simp [Op.eqFields, Sem.run_bind, p0, q0, r0, p2, q2, r2]
  cases b3
  · simp [Op.eqFields, Sem.run_bind, p0, q0, r0, p2, q2, r2, p3, q3, r3]
  cases b4
  · simp [Op.eqFields, Sem.run_bind, p0, q0, r0, p2, q2, r2, p3, q3, r3, p4, q4, r4]
  cases b5
  · simp [Op.eqFields, Sem.run_bind, p0, q0, r0, p2, q2, r2, p3, q3, r3, p4, q4, r4, p5, q5, r5]
  cases b6
  · simp [Op.eqFields, Sem.run_bind, p0, q0, r0, p2, q2, r2, p3, q3, r3, p4, q4, r4, p5, q5, r5, p6, q6, r6]
  cases b7 <;> simp [Op.eqFields, Sem.run_bind, p0, q0, r0, p2, q2, r2, p3, q3, r3, p4, q4, r4, p5, q5, r5, p6, q6, r6, p7, q7, r7]
theorem neq_ent2 (e f : EntD) (w : World) : (binOp .neq 51 (.agg #[.int .i64 e.se, .int .i64 e.st, .int .i64 e.en, .int .i64 e.ad, .int .i64 e.le, .int .i64 e.cn, .int .i64 e.co, .int .u32 e.cr]) (.agg #[.int .i64 f.se, .int .i64 f.st, .int .i64 f.en, .int .i64 f.ad, .int .i64 f.le, .int .i64 f.cn, .int .i64 f.co, .int .u32 f.cr])).run Try.prog w = .ok (.bool (!eqE e f)) w := by
  rw [run_neq_struct, eq_ent2 10000 (by decide) e f w]
  rfl
end Go.Proofs.Ytgkddhncfaeidaa
