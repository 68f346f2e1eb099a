/- A map compared with itself; a comparison met by a walk. -/
import Derived.Test.YtobfepkeikecoaaBmB
import Derived.Laws.StructEq
import Derived.ChangeKeysEq
namespace Go.Proofs.Ytobfepkeikecoaa
open Go.RowKit PageM
set_option linter.unusedVariables false

theorem wpList_binOp {P : Program} {w : World} {ops : Array Oper} {rest : List Oper} {o : Oper} {a : Act} {Q : Exit → Act → World → Prop} (hgd : o.guard = none) (op : BinOp) (ty : TypeId) (x y : Operand) (t2 : TypeId)
    (ho : o.op = .binOp op ty x y t2) (vx vy v : Value) (hx : a.eval x = vx) (hy : a.eval y = vy) (hg : (eqGuard op ty x y vx vy).run P w = .ok () w) (hr : (binOp op ty vx vy).run P w = .ok v w)
    (h : wpList P ops Q rest (a.put o.dst v) w) : wpList P ops Q (o :: rest) a w :=
  wpList_plain hgd fun _ hK => by
    unfold Oper.wp execOp
    simp only [ho, Sem.run_bind, Sem.run_pure, Result.andThen_ok, hx, hy, hg, hr]
    exact hK _ _ h

theorem eqItems_same {P : Program} (w : World) (d : Nat) {e : TypeId} (he : P.plainKey e = true) (hb : P.underlying e = some .bool) (xs : Array Value) : ∀ (is : List Nat), (∀ i ∈ is, ∃ b, xs[i]? = some (.bool b)) →
    (Op.eqItems (d + 1) e 1 xs xs is).run P w = .ok true w
  | [], _ => by simp [Op.eqItems]
  | i :: is, h => by
    obtain ⟨b, hb1⟩ := h i (by simp)
    have hp := run_part_plain (P := P) w he (xs := xs) (off := i * 1) (v := .bool b) (by rw [Nat.mul_one]; exact hb1)
    have ih := eqItems_same w d he hb xs is (fun j hj => h j (by simp [hj]))
    have hq := run_equalIn_bool' (P := P) w d e b b hb
    simp only [Op.eqItems, Sem.run_bind, hp, Result.andThen_ok, hq]
    simpa using ih

theorem eqFields_two {P : Program} (w : World) (d : Nat) (xs : Array Value) (f1 f2 : Field) (n1 : f1.name ≠ "_") (n2 : f2.name ≠ "_") (a1 a2 : Value) (p1 : (part f1.type xs f1.offset).run P w = .ok a1 w) (q1 : (Op.equalIn d f1.type a1 a1).run P w = .ok true w)
    (p2 : (part f2.type xs f2.offset).run P w = .ok a2 w) (q2 : (Op.equalIn d f2.type a2 a2).run P w = .ok true w) : (Op.eqFields d xs xs [f1, f2]).run P w = .ok true w := by
  simp [Op.eqFields, n1, n2, Sem.run_bind, p1, q1, p2, q2]

theorem map_extract (p : Int) (U : List Bool) (hU : U.length = 512) : (mapC p U).extract 1 513 = (U.map Value.bool).toArray := by
  have h : ∀ l : List Value, l.length = 512 → ((Value.int .i64 p :: l).toArray).extract 1 513 = l.toArray := fun l hl => by
    rw [List.extract_toArray]
    congr 1
    show (l.drop 0).take 512 = l
    rw [List.drop_zero]
    exact List.take_of_length_le (by omega)
  exact h _ (by rw [List.length_map]; exact hU)

theorem eq_map_d (d : Nat) (p : Int) (U : List Bool) (hU : U.length = 512) (w : World) : (Op.equalIn (d + 1 + 1 + 1) 25 (.agg (mapC p U)) (.agg (mapC p U))).run Try.prog w = .ok true w := by
  have ht : Try.prog.underlying 25 = some (.struct (Try.prog.fieldsOf 25)) := by kernel_rfl
  have hp : Try.prog.stoodInHeld 25 = false := by kernel_rfl
  have hc1 : Try.prog.cellsOf 4 = 1 := by kernel_rfl
  have hf : (Try.prog.fieldsOf 25).toList = [⟨"Pages", 3, 0, false, "", "", 0⟩, ⟨"Used", 23, 1, false, "", "", 8⟩] := by kernel_rfl
  have hk : Try.prog.plainKey 3 = true := by kernel_rfl
  have hkb : Try.prog.plainKey 4 = true := by kernel_rfl
  have hua : Try.prog.underlying 23 = some (.array 512 4) := by kernel_rfl
  obtain ⟨ib, hib⟩ := Option.isSome_iff_exists.1 (show (Try.prog.info? 4).isSome = true by kernel_rfl)
  obtain ⟨ia, hia⟩ := Option.isSome_iff_exists.1 (show (Try.prog.info? 23).isSome = true by kernel_rfl)
  have hc5 : Try.prog.cellsOf 23 = 512 := by kernel_rfl
  have hsz := run_sizeOf w hia
  rw [hc5] at hsz
  have e1 := run_part_plain (P := Try.prog) w hk (xs := mapC p U) (off := 0) (mapC_0 p U)
  have e2 := run_equalIn_int (P := Try.prog) w (d + 1) 3 .i64 .i64 p p Try.underlying3
  have hA : (isAgg 23).run Try.prog w = .ok true w := by simp [isAgg, run_underlying hua]
  have e3 : (part 23 (mapC p U) 1).run Try.prog w = .ok (.agg (U.map Value.bool).toArray) w := by
    simp only [part, Sem.run_bind, hA, Result.andThen_ok, if_true, hsz, Sem.run_pure, map_extract p U hU]
  have e4 := run_equalIn_array (P := Try.prog) w (d + 1) (U.map Value.bool).toArray (U.map Value.bool).toArray hua hib
  rw [hc1] at e4
  have e5 := eqItems_same (P := Try.prog) w d hkb Try.underlying4 (U.map Value.bool).toArray (List.range 512) (fun i hi => by
    have hi' : i < U.length := by rw [hU]; exact List.mem_range.1 hi
    exact ⟨U[i]'hi', by rw [List.getElem?_toArray, List.getElem?_map, List.getElem?_eq_getElem hi']; rfl⟩)
  have e6 := run_equalIn_agg (P := Try.prog) w (d + 1 + 1) 25 (mapC p U) (mapC p U) ht hp
  rw [hf] at e6
  rw [e6]
  rw [e5] at e4
  exact eqFields_two w (d + 1 + 1) (mapC p U) _ _ (by decide) (by decide) _ _ e1 (by rw [e2]; simp) e3 e4
theorem eq_map_k (k : Nat) (hk : 3 ≤ k) (p : Int) (U : List Bool) (hU : U.length = 512) (w : World) : (Op.equalIn k 25 (.agg (mapC p U)) (.agg (mapC p U))).run Try.prog w = .ok true w := by
  obtain ⟨d, rfl⟩ : ∃ d, k = d + 1 + 1 + 1 := ⟨k - 3, by omega⟩
  exact eq_map_d d p U hU w
theorem eq_map (p : Int) (U : List Bool) (hU : U.length = 512) (w : World) : (binOp .eql 25 (.agg (mapC p U)) (.agg (mapC p U))).run Try.prog w = .ok (.bool true) w := by
  have h := run_eql_struct (P := Try.prog) w 25 (mapC p U) (mapC p U)
  rw [h, eq_map_k 10000 (by decide) p U hU w]
  rfl
theorem guard_map (x y : Operand) (C D : Array Value) (w : World) : (eqGuard .eql 25 x y (.agg C) (.agg D)).run Try.prog w = .ok () w := run_eqGuard_agg w .eql _ x y C D (by kernel_rfl)
end Go.Proofs.Ytobfepkeikecoaa
