/- Several texts in one: Rows that a call makes grow, and where they lie behind it. No program is named here. Package bitmap's calls: their contracts. An array of bools by value: its places. New, together, Free, Run of package bitmap. BitmapTurns: what is taken and given back, as plain mathematics. No program is named here. New, Free, Take, Give, Run of package bitmap. -/
import Derived.Test.YtgkddhncfaeidaaPart00
import Derived.Lib.MinMax
import Derived.Lib.SlBytesConst
import Derived.Lib.BufferMore
import Derived.KernelRfl
import Derived.Handy
import Derived.WalkSpells
import Derived.WalkLawsBesides
import Derived.Test.YtgkddhncfaeidaaChecked
set_option linter.unusedSimpArgs false
set_option linter.unusedVariables false
namespace Go.Proofs.Ytgkddhncfaeidaa
open Go.RowKit
theorem grown_chain' {w wr w3 : World} {r0 r : Option Nat} (hg : w.grownBy wr r0) (o : Obj) (hr : r = r0 ∨ ∃ q, r = some q ∧ w.heap.size ≤ q) (h3 : (wr.alloc o).grownBy w3 r) : w.grownBy w3 r0 := by
  refine ⟨h3.os.trans hg.os, h3.tape.trans hg.tape, h3.output.trans hg.output, ?_, fun k hk hkr => ?_⟩
  · have := h3.size
    have := hg.size
    simp at *
    omega
  · have hk2 : k < wr.heap.size := Nat.lt_of_lt_of_le hk hg.size
    rw [h3.block k (by simp; omega) (by
      rcases hr with rfl | ⟨q, rfl, hq⟩
      · exact hkr
      · intro h
        injection h with h
        omega), Below.heap_alloc wr o k hk2]
    exact hg.block k hk hkr
theorem own_chain' {w wr : World} {r0 r r3 : Option Nat} (hs : w.heap.size ≤ wr.heap.size) (o : Obj) (hr : r = r0 ∨ ∃ q, r = some q ∧ w.heap.size ≤ q) (h3 : r3 = r ∨ r3 = some (wr.alloc o).heap.size) : r3 = r0 ∨ ∃ q, r3 = some q ∧ w.heap.size ≤ q := by
  rcases h3 with rfl | rfl
  · exact hr
  · exact .inr ⟨_, rfl, by simp; omega⟩

section
variable {w w' : World} {base : Nat} {v : Value} {E : TypeId} {xs ys : List UInt8} {P : Program}
theorem run_append_s2' (t ty : TypeId) (ht : P.underlying t = some (.slice E)) (hi : (P.info? E).map (fun i => (i.zero, i.size, i.bytes)) = some (some (.int .u8 0), 1, 1))
    (hown : OwnS w base v E xs) (A : Option Addr) (c n : Nat) (hn : ys.length = n) (hA : BytesAt w A ys) (hl : xs.length + n ≤ 140737488355328) (hbase : base ≤ w.heap.size) :
    ∃ A' c' w', (Builtin.append_ #[t, t] ty #[v, .slice A n c]).run P w = .ok (.slice A' (xs ++ ys).length c') w' ∧
      OwnS w' base (.slice A' (xs ++ ys).length c') E (xs ++ ys) ∧ w.grownBy w' v.ownBlock ∧ ((Value.slice A' (xs ++ ys).length c').ownBlock = v.ownBlock ∨ (Value.slice A' (xs ++ ys).length c').ownBlock = some w.heap.size) := by
  obtain ⟨i, hi0, hz, hs, hb⟩ := info_parts hi
  subst hn
  by_cases hy : ys = []
  · subst hy
    rcases hown.cases with ⟨rfl, rfl⟩ | ⟨g, cap, rfl, ho⟩
    · refine ⟨none, 0, w, ?_, OwnS.nil w base E, World.grownBy.refl w _, .inl rfl⟩
      cases A <;> simp [Builtin.append_, run_underlying ht, sizeOf, typeInfo, hi0, Builtin.lenOf, Builtin.firstCells, loadCells, loadCellsFrom]
    · obtain ⟨_, hn, _⟩ := ho.parts
      refine ⟨some ⟨g, 0, none⟩, cap, w, ?_, by simpa using hown, World.grownBy.refl w _, .inl rfl⟩
      cases A <;> simp [Builtin.append_, run_underlying ht, sizeOf, typeInfo, hi0, Builtin.lenOf, Builtin.firstCells, hn, storeCells, loadCells, loadCellsFrom]
  · obtain ⟨ad, rfl, hc⟩ := byteV_cells hA hy
    obtain ⟨v', w', hr, h2, h3, _, h5⟩ := run_append_own_at (P := P) w base t ty E i _ 1 1 ht hi0 hz hs hb rfl (by omega) v xs.length (xs.map bv) hown
      ad ys.length c (ys.map bv) (by simp) hc (bv_one ys) (by unfold maxLen; omega) (by omega) hbase
    have h2' : OwnS w' base v' E (xs ++ ys) := by
      unfold OwnS
      rw [List.length_append, List.map_append]
      exact h2
    obtain ⟨A', c', rfl, _⟩ := h2'.slice
    exact ⟨A', c', w', hr, h2', h3, h5⟩

theorem wpList_append_s2' {ops : Array Oper} {rest : List Oper} {o : Oper} {a : Act} {Q : Exit → Act → World → Prop} (hgd : o.guard = none) (s x : Operand) (t : TypeId)
    (ho : o.op = .call { callee := .builtin .append, args := #[s, x], argTypes := #[t, t] }) (ht : P.underlying t = some (.slice E)) (hi : (P.info? E).map (fun i => (i.zero, i.size, i.bytes)) = some (some (.int .u8 0), 1, 1))
    (hs : a.eval s = v) (hown : OwnS w base v E xs) (A : Option Addr) (c n : Nat) (ys : List UInt8) (hx : a.eval x = .slice A n c) (hn : ys.length = n) (hA : BytesAt w A ys)
    (hl : xs.length + n ≤ 140737488355328) (hbase : base ≤ w.heap.size)
    (h : ∀ A' c' w', OwnS w' base (.slice A' (xs ++ ys).length c') E (xs ++ ys) → w.grownBy w' v.ownBlock → ((Value.slice A' (xs ++ ys).length c').ownBlock = v.ownBlock ∨ (Value.slice A' (xs ++ ys).length c').ownBlock = some w.heap.size) → wpList P ops Q rest (a.put o.dst (.slice A' (xs ++ ys).length c')) w') : wpList P ops Q (o :: rest) a w :=
  wpList_plain hgd fun _ hK => by
    obtain ⟨A', c', w', hr, h2, h3, h5⟩ := run_append_s2' (P := P) t o.type ht hi hown A c n hn hA hl hbase
    unfold Oper.wp execOp
    simp only [ho, resolve, invoke, builtin, Sem.run_bind, Sem.run_pure, Result.andThen_ok, List.map_toArray, List.map_cons, List.map_nil, hs, hx, hr]
    exact hK _ _ (h A' c' w' h2 h3 h5)

end


/-- Where the row of a slice lies behind a call: where it lay, or in new memory. -/
def Moved (w : World) (r0 r : Option Nat) : Prop := r = r0 ∨ ∃ q, r = some q ∧ w.heap.size ≤ q
theorem Moved.trans {w w1 : World} {r0 r1 r2 : Option Nat} (h1 : Moved w r0 r1) (hs : w.heap.size ≤ w1.heap.size) (h2 : Moved w1 r1 r2) : Moved w r0 r2 := by
  rcases h2 with rfl | ⟨q, rfl, hq⟩
  · exact h1
  · exact .inr ⟨q, rfl, by omega⟩
theorem Moved.of_alloc {w : World} {o : Obj} {r0 r : Option Nat} (h : Moved (w.alloc o) r0 r) : Moved w r0 r := by
  rcases h with rfl | ⟨q, rfl, hq⟩
  · exact .inl rfl
  · exact .inr ⟨q, rfl, by simp at hq; omega⟩
theorem grown_trans {w w1 w2 : World} {r0 r1 : Option Nat} (h1 : w.grownBy w1 r0) (hm : Moved w r0 r1) (h2 : w1.grownBy w2 r1) : w.grownBy w2 r0 := by
  refine ⟨h2.os.trans h1.os, h2.tape.trans h1.tape, h2.output.trans h1.output, Nat.le_trans h1.size h2.size, fun k hk hkr => ?_⟩
  refine (h2.block k (Nat.lt_of_lt_of_le hk h1.size) ?_).trans (h1.block k hk hkr)
  rcases hm with rfl | ⟨q, rfl, hq⟩
  · exact hkr
  · intro h
    injection h with h
    omega
theorem grown_alloc (w : World) (o : Obj) (r : Option Nat) : w.grownBy (w.alloc o) r :=
  ⟨rfl, rfl, rfl, by simp, fun k hk _ => Below.heap_alloc w o k hk⟩
theorem _root_.Go.World.grownBy.trans' {w w1 w2 : World} {r : Option Nat} (h1 : w.grownBy w1 r) (h2 : w1.grownBy w2 r) : w.grownBy w2 r := grown_trans h1 (.inl rfl) h2
end Go.Proofs.Ytgkddhncfaeidaa

namespace Go.Proofs.Ytgkddhncfaeidaa
open Go.RowKit
set_option linter.unusedVariables false

theorem infoMap : (Try.prog.info? 115).map (·.size) = some 513 := by kernel_rfl
theorem size_zeroMap : (Try.zeroCells115).size = 513 := by kernel_rfl
theorem below_setCM {B : Nat} {a w : World} (h : Below B a w) {g i : Nat} {v : Value} (hg : B ≤ g) : Below B a (w.setCell ⟨g, i, none⟩ v) :=
  h.trans ⟨rfl, rfl, rfl, by simp, fun k hk => Below.heap_setCell w ⟨g, i, none⟩ v k (fun e => by simp at e; omega)⟩

set_option maxRecDepth 100000 in
theorem marked_any (p : Int) (U : List Bool) (hU : U.length = 512) (za zn : Int) (a n : Nat) (hza : za = (a : Int)) (hzn : zn = (n : Int)) (han : a + n ≤ 512) (b : Bool) (w : World) :
    Calls Try.prog 75 #[.agg (mapC p U), .int .i64 za, .int .i64 zn, .bool b] w fun e w' => e = .returned (.agg (mapC p (markN U a b n))) ∧ Below w.heap.size w w' := by
  subst hza hzn
  obtain ⟨C, eC⟩ : ∃ C, C = mapC p U := ⟨_, rfl⟩
  have hm0 : Hid (MapAt ((w.alloc (.cells C 115)).alloc (.cells Try.zeroCells115 115)) w.heap.size 115 p U) := Lib.hid (by rw [eC]; exact (MapAt.new w _ p U).alloc _)
  have hz0 : Hid (((w.alloc (.cells C 115)).alloc (.cells Try.zeroCells115 115)).heap[w.heap.size + 1]? = some (.cells Try.zeroCells115 115 (0, 0))) := Lib.hid (by have := heap_alloc_new (w.alloc (.cells C 115)) (.cells Try.zeroCells115 115); simpa using this)
  have hb0 : Hid (Below w.heap.size w ((w.alloc (.cells C 115)).alloc (.cells Try.zeroCells115 115))) := Lib.hid (((Below.refl _ _).alloc (Nat.le_refl _) _).alloc (by simp) _)
  rw [← eC]
  clear eC
  go_enter Try.func75, Try.ntmps75
  go_wp2_with fail
  go_loopw [11] (fun i wr => ∃ k : Nat, k ≤ n ∧ i = .int .i64 k ∧ Hid (MapAt wr w.heap.size 115 p (markN U a b k)) ∧ Hid (wr.heap[w.heap.size + 1]? = some (.cells Try.zeroCells115 115 (0, 0))) ∧ Hid (Below w.heap.size w wr)) (fun i _ => n - (intOf i).toNat)
  case atStart => exact ⟨0, by omega, rfl, hm0, hz0, hb0⟩
  case round =>
    obtain ⟨k, hk, rfl, hm, hz, hB⟩ := hrel
    by_cases hlt : k < n
    · have hc := hm.out.cs (a + k) (by rw [length_markN, hU]; omega)
      have hf := hm.out.fr (1 + (a + k))
      go_wp2_with fail
      go_roundw
      case rel => exact ⟨k + 1, by omega, by go_num, Lib.hid (hm.out.set (a + k) b), Lib.hid ((heap_setCell_other wr ⟨w.heap.size, 1 + (a + k), none⟩ (w.heap.size + 1) _ (by show w.heap.size + 1 ≠ w.heap.size; omega)).trans hz.out), Lib.hid (below_setCM hB.out (Nat.le_refl _))⟩
      case measure => simp [intOf]; omega
    · obtain rfl : k = n := by omega
      have hS : Hid (some 513 = some (mapC p (markN U a b k)).size) := Lib.hid (by rw [size_mapC (by rw [length_markN, hU])])
      obtain ⟨C', eC'⟩ : ∃ C', C' = mapC p (markN U a b k) := ⟨_, rfl⟩
      have hm' := hm.out
      unfold MapAt at hm'
      rw [← eC'] at hS hm'
      have EC' := Lib.hid eC'
      have HM := Lib.hid hm'
      have hC1 : C'.all (·.oneCell') = true := by rw [eC']; exact one_mapC _ _
      clear hm' eC'
      go_wp2_with (first
        | (refine wpList_load_row rfl 115 (.tmp 4) rfl w.heap.size rfl 115 C' (0, 0) _ HM.out Try.underlying115 rfl (infoMap.trans hS.out) ?_)
        | (refine wpList_store_row rfl 115 (.tmp 8) (.tmp 21) rfl (w.heap.size + 1) C' rfl rfl 115 Try.zeroCells115 hz.out (infoMap.trans hS.out) (size_zeroMap.trans (Option.some.inj hS.out)) hC1 ?_))
      refine bodyPost_ret (v := .agg C') (results_cell_row (p := 8) (ty := 115) rfl _ _ (w.heap.size + 1) 115 C' (0, 0) _ rfl (setRow_heap _ _ Try.zeroCells115 _ _ _ hz.out) Try.underlying115 rfl (infoMap.trans hS.out)) rfl ⟨by rw [EC'.out], ?_⟩
      exact below_setRow hB.out (Nat.le_succ _) _
end Go.Proofs.Ytgkddhncfaeidaa

namespace Go.Proofs.Ytgkddhncfaeidaa
open Go.RowKit
set_option linter.unusedVariables false
theorem run_idx (U : List Bool) (hU : U.length = 512) (k : Nat) (hk : k < 512) (w : World) :
    (Instr.index 113 (.agg (U.map Value.bool).toArray) (.int .i64 (k : Int))).run Try.prog w = .ok (.bool (U.getD k false)) w := by
  have hu : Try.prog.underlying 113 = some (.array 512 4) := by kernel_rfl
  have hi : 0 ≤ (k : Int) ∧ (k : Int) < ((512 : Nat) : Int) := by omega
  simp [Instr.index, run_underlying hu, asIntOf, hk, go_sem]
  rw [List.getElem?_eq_getElem (by omega)]
  rfl

theorem retBm {a b : Bool} (h : a = b) : Ending.returned (.bool a) = Ending.returned (.bool b) := by rw [h]
theorem okM_no {p : Int} {U : List Bool} {j : Nat} (hj : j < 512) (h : okAt p U j = false) : decide (okM p U) = false := by
  rw [decide_eq_false_iff_not]
  intro hk
  rw [hk.2.2 j hj] at h
  cases h

set_option maxHeartbeats 1000000 in
set_option maxRecDepth 100000 in
theorem right_bm (p : Int) (U : List Bool) (hU : U.length = 512) (w : World) :
    Calls Try.prog 87 #[.agg (mapC p U)] w fun e w' => e = .returned (.bool (decide (okM p U))) ∧ Below w.heap.size w w' := by
  obtain ⟨C, eC⟩ : ∃ C, C = mapC p U := ⟨_, rfl⟩
  have hm0 : MapAt (w.alloc (.cells C 115)) w.heap.size 115 p U := by rw [eC]; exact MapAt.new w _ p U
  have c0 := hm0.c0
  have HM0 := Lib.hid hm0
  have HR := Lib.hid hm0.range
  have hL : Hid (some 512 = some (U.map Value.bool).length) := Lib.hid (by simp [hU])
  have infoA : (Try.prog.info? 113).map (·.size) = some 512 := by kernel_rfl
  have IA := Lib.hid infoA
  have hbl : Hid (Below w.heap.size w (w.alloc (.cells C 115))) := Lib.hid ((Below.refl _ _).alloc (Nat.le_refl _) _)
  have HU := Lib.hid hU
  rw [← eC]
  clear eC hm0 infoA hU
  by_cases h8 : p < 8
  · have d1 : decide (p < 8) = true := by simpa using h8
    go_enter Try.func87, Try.ntmps87
    go_wp2_with fail
    go_ret
    exact ⟨retBm (by symm; rw [decide_eq_false_iff_not]; intro h; have := h.1; omega), hbl.out⟩
  · have d1 : decide (p < 8) = false := by simpa using h8
    by_cases h5 : 512 < p
    · have d2 : decide (512 < p) = true := by simpa using h5
      go_enter Try.func87, Try.ntmps87
      go_wp2_with fail
      go_ret
      exact ⟨retBm (by symm; rw [decide_eq_false_iff_not]; intro h; have := h.2.1; omega), hbl.out⟩
    · have d2 : decide (512 < p) = false := by simpa using h5
      obtain ⟨q, rfl⟩ := Int.eq_ofNat_of_zero_le (show 0 ≤ p by omega)
      go_enter Try.func87, Try.ntmps87
      go_wp2_with (refine wpList_load_mid rfl 113 _ rfl w.heap.size 1 rfl _ _ HR.out Try.underlying113 rfl (IA.out.trans hL.out) ?_)
      go_loop [15] (fun i => ∃ k : Nat, k ≤ 512 ∧ i = .int .i64 k ∧ Hid (∀ j, j < k → okAt (q : Int) U j = true)) (fun i => 512 - (intOf i).toNat)
      case atStart => exact ⟨0, by omega, rfl, Lib.hid (fun j hj => by omega)⟩
      case round =>
        obtain ⟨k, hk, rfl, hall⟩ := hrel
        by_cases hlt : k < 512
        · have hidx := fun W => run_idx U HU.out k hlt W
          obtain ⟨u, hu⟩ : ∃ u, u = U.getD k false := ⟨_, rfl⟩
          rw [← hu] at hidx
          have HUU := Lib.hid hu
          clear hu
          by_cases h2 : k < 2
          · have e2 : decide ((k : Int) < 2) = true := by simp; omega
            cases u
            · go_wp2_with fail
              go_ret
              exact ⟨retBm (okM_no hlt (by unfold okAt; rw [← HUU.out]; simp [h2])).symm, hbl.out⟩
            · have e3 : decide ((q : Int) ≤ (k : Int)) = false := by simp; omega
              go_wp2_with fail
              go_round
              case rel =>
                refine ⟨k + 1, by omega, by go_num, Lib.hid (fun j hj => ?_)⟩
                rcases Nat.lt_or_ge j k with h | h
                · exact hall.out j h
                · obtain rfl : j = k := by omega
                  unfold okAt; rw [← HUU.out]; simp; omega
              case measure => simp [intOf]; omega
          · have e2 : decide ((k : Int) < 2) = false := by simp; omega
            by_cases h3 : q ≤ k
            · have e3 : decide ((q : Int) ≤ (k : Int)) = true := by simp; omega
              cases u
              · go_wp2_with fail
                go_round
                case rel =>
                  refine ⟨k + 1, by omega, by go_num, Lib.hid (fun j hj => ?_)⟩
                  rcases Nat.lt_or_ge j k with h | h
                  · exact hall.out j h
                  · obtain rfl : j = k := by omega
                    unfold okAt; rw [← HUU.out]; simp; omega
                case measure => simp [intOf]; omega
              · go_wp2_with fail
                go_ret
                exact ⟨retBm (okM_no hlt (by unfold okAt; rw [← HUU.out]; simp [h3])).symm, hbl.out⟩
            · have e3 : decide ((q : Int) ≤ (k : Int)) = false := by simp; omega
              go_wp2_with fail
              go_round
              case rel =>
                refine ⟨k + 1, by omega, by go_num, Lib.hid (fun j hj => ?_)⟩
                rcases Nat.lt_or_ge j k with h | h
                · exact hall.out j h
                · obtain rfl : j = k := by omega
                  unfold okAt; simp; omega
              case measure => simp [intOf]; omega
        · obtain rfl : k = 512 := by omega
          go_wp2_with fail
          go_ret
          exact ⟨retBm (by symm; rw [decide_eq_true_eq]; exact ⟨by omega, by omega, hall.out⟩), hbl.out⟩
end Go.Proofs.Ytgkddhncfaeidaa

namespace Go.Proofs.Ytgkddhncfaeidaa
open Go.RowKit
set_option linter.unusedVariables false

theorem zeroMap : Try.zeroCells115 = mapC 0 (List.replicate 512 false) := by kernel_rfl

theorem right_bmC (p : Int) (U : List Bool) (hU : U.length = 512) (w : World) (C : Array Value) (eC : C = mapC p U) (r : Bool) (hr : r = decide (okM p U)) :
    Calls Try.prog 87 #[.agg C] w fun e w' => e = .returned (.bool r) ∧ Below w.heap.size w w' := by
  rw [eC, hr]
  exact right_bm p U hU w

set_option maxHeartbeats 1000000 in
set_option maxRecDepth 100000 in
theorem together_bm (p q : Int) (U V : List Bool) (hU : U.length = 512) (hV : V.length = 512) (w : World) (C D : Array Value) (eC : C = mapC p U) (eD : D = mapC q V) (r : Bool) (hr : r = (decide (okM p U) && decide (okM q V) && decide (p = q))) :
    Calls Try.prog 119 #[.agg C, .agg D] w fun e w' => e = .returned (.bool r) ∧ Below w.heap.size w w' := by
  have EC := Lib.hid eC
  have ED := Lib.hid eD
  have HU := Lib.hid hU
  have HV := Lib.hid hV
  have hS : Hid (some 513 = some C.size) := Lib.hid (by rw [eC, size_mapC hU])
  have hT : Hid (some 513 = some D.size) := Lib.hid (by rw [eD, size_mapC hV])
  obtain ⟨W, eW⟩ : ∃ W, W = (w.alloc (.cells C 115)).alloc (.cells D 115) := ⟨_, rfl⟩
  have hbW : Below w.heap.size w W := by rw [eW]; exact ((Below.refl _ _).alloc (Nat.le_refl _) _).alloc (by simp) _
  have hm : MapAt W w.heap.size 115 p U := by rw [eW, eC]; exact (MapAt.new w _ p U).alloc _
  have hm2 : MapAt W (w.heap.size + 1) 115 q V := by rw [eW, eD]; have := MapAt.new (w.alloc (.cells C 115)) 115 q V; simpa using this
  have hWs : W.heap.size = w.heap.size + 2 := by rw [eW]; simp
  have EW := Lib.hid eW.symm
  have HR := Lib.hid hr
  clear eC eD hU hV eW hr
  obtain ⟨x, hx⟩ : ∃ x, x = decide (okM p U) := ⟨_, rfl⟩
  obtain ⟨y, hy⟩ : ∃ y, y = decide (okM q V) := ⟨_, rfl⟩
  have HX := Lib.hid hx
  have HY := Lib.hid hy
  have HM := Lib.hid hm
  have HM2 := Lib.hid hm2
  have HWS := Lib.hid hWs
  clear hx hy hm hm2 hWs
  have hg1 : Hid (W.heap[w.heap.size]? = some (.cells C 115 (0, 0))) := Lib.hid (by rw [EC.out]; exact HM.out)
  have hg2 : Hid (W.heap[w.heap.size + 1]? = some (.cells D 115 (0, 0))) := Lib.hid (by rw [ED.out]; exact HM2.out)
  obtain ⟨z, hz⟩ : ∃ z, z = decide (p = q) := ⟨_, rfl⟩
  have dpq : (p == q) = z := by rw [hz]; rfl
  have HZ := Lib.hid hz
  clear hz
  have hfin : Hid (r = (x && y && z)) := Lib.hid (by rw [HR.out, HX.out, HY.out, HZ.out])
  cases x
  · go_enter Try.func119, Try.ntmps119
    go_upto_region 1 with fail
    rw [EW.out]
    go_wp2_with (first
      | (refine wpList_load_row rfl 115 (.tmp 2) rfl w.heap.size rfl 115 C (0, 0) _ hg1.out Try.underlying115 rfl (infoMap.trans hS.out) ?_)
      | (go_at_call 87; (refine (right_bmC p U HU.out _ C EC.out _ HX.out).mono ?_); rintro e w1 ⟨rfl, hb1⟩; have hbA := hbW.trans (hb1.mono hbW.size); have hg3 := (hb1.block (w.heap.size + 1) (by rw [HWS.out]; omega)).trans hg2.out; have k1 := (HM.out.below hb1 (by rw [HWS.out]; omega)).c0; have k2 := (HM2.out.below hb1 (by rw [HWS.out]; omega)).c0))
    all_goals go_ret
    all_goals exact ⟨by rw [hfin.out]; rfl, hbA⟩
  · cases y
    all_goals
      go_enter Try.func119, Try.ntmps119
      go_upto_region 1 with fail
      rw [EW.out]
      go_wp2_with (first
        | (refine wpList_load_row rfl 115 (.tmp 2) rfl w.heap.size rfl 115 C (0, 0) _ hg1.out Try.underlying115 rfl (infoMap.trans hS.out) ?_)
        | (go_at_call 87; (refine (right_bmC p U HU.out _ C EC.out _ HX.out).mono ?_); rintro e w1 ⟨rfl, hb1⟩; have hbA := hbW.trans (hb1.mono hbW.size); have hg3 := (hb1.block (w.heap.size + 1) (by rw [HWS.out]; omega)).trans hg2.out; have k1 := (HM.out.below hb1 (by rw [HWS.out]; omega)).c0; have k2 := (HM2.out.below hb1 (by rw [HWS.out]; omega)).c0))
      refine wp_load_row 115 (.tmp 3) rfl (w.heap.size + 1) rfl 115 D (0, 0) _ hg3 Try.underlying115 rfl (infoMap.trans hT.out) ?_
      rename_i K2 hK2
      refine hK2 _ _ ?_
      simp only [Act.put, List.setIfInBounds_toArray, List.set_cons_zero, List.set_cons_succ]
      go_wp2_with (go_at_call 87; (refine (right_bmC q V HV.out _ D ED.out _ HY.out).mono ?_); rintro e w2 ⟨rfl, hb2⟩; have hbA := hbA.trans (hb2.mono hbA.size); have k1 := ((HM.out.below hb1 (by rw [HWS.out]; omega)).below hb2 (by have := hb1.size; rw [HWS.out] at this; omega)).c0; have k2 := ((HM2.out.below hb1 (by rw [HWS.out]; omega)).below hb2 (by have := hb1.size; rw [HWS.out] at this; omega)).c0)
      all_goals go_ret
      all_goals exact ⟨by rw [hfin.out]; simp, hbA⟩
end Go.Proofs.Ytgkddhncfaeidaa

namespace Go.Proofs.Ytgkddhncfaeidaa
set_option linter.unusedVariables false

def map0 : List Bool := markN (List.replicate 512 false) 0 true 2
theorem length_map0 : map0.length = 512 := by unfold map0; rw [length_markN]; exact List.length_replicate
theorem get_map0 (j : Nat) : map0.getD j false = decide (j < 2) := by
  unfold map0
  rw [getD_markN _ _ _ _ _ (by rw [List.length_replicate]; omega)]
  by_cases h : j < 2
  · rw [if_pos (by omega), decide_eq_true h]
  · rw [if_neg (by omega), decide_eq_false h, List.getD_eq_getElem?_getD, List.getElem?_replicate]
    split <;> rfl

/-- A map of k pages in which, beside the first two, just these are in use. -/
structure BtInv (k : Nat) (U : List Bool) (had : List Nat) : Prop where
  len : U.length = 512
  nod : had.Nodup
  rng : ∀ a ∈ had, 2 ≤ a ∧ a < k
  bit : ∀ j, U.getD j false = (decide (j < 2) || decide (j ∈ had))

theorem BtInv.init (k : Nat) : BtInv k map0 [] := ⟨length_map0, List.nodup_nil, (fun a h => by cases h), fun j => by rw [get_map0]; simp⟩
theorem ok_of {k : Nat} {U : List Bool} (hk : 8 ≤ k) (hk2 : k ≤ 512) (h1 : ∀ j, j < 2 → U.getD j false = true) (h2 : ∀ j, k ≤ j → U.getD j false = false) : okM (k : Int) U := by
  refine ⟨by omega, by omega, fun j hj => ?_⟩
  unfold okAt
  by_cases ha : j < 2
  · rw [h1 j ha]; simp; omega
  · by_cases hb : k ≤ j
    · rw [h2 j hb]; simp; omega
    · have e1 : decide (j < 2) = false := by simpa using ha
      have e2 : decide ((k : Int) ≤ (j : Int)) = false := by simp; omega
      rw [e1, e2]; rfl
theorem BtInv.ok {k : Nat} {U : List Bool} {had : List Nat} (h : BtInv k U had) (hk : 8 ≤ k) (hk2 : k ≤ 512) : okM (k : Int) U :=
  ok_of hk hk2 (fun j hj => by rw [h.bit, decide_eq_true hj]; rfl) (fun j hj => by
    rw [h.bit, decide_eq_false (by omega : ¬ j < 2), decide_eq_false (fun hm => by have := (h.rng j hm).2; omega)]; rfl)
def below (had : List Nat) (n : Nat) : Nat := (had.filter (fun a => decide (a < n))).length
end Go.Proofs.Ytgkddhncfaeidaa

namespace Go.Proofs.Ytgkddhncfaeidaa
open Go.RowKit
set_option linter.unusedVariables false



theorem built_map (z : Int) : (Try.zeroCells115).setIfInBounds 0 (.int .i64 z) = mapC z (List.replicate 512 false) := by rw [zeroMap]; unfold mapC; rw [List.setIfInBounds_toArray, List.set_cons_zero]

set_option maxHeartbeats 1000000 in
set_option maxRecDepth 100000 in
theorem new_bm (z : Int) (q : Nat) (hq : min (max z 8) 512 = (q : Int)) (w : World) :
    Calls Try.prog 55 #[.int .i64 z] w fun e w' => e = .returned (.agg (mapC (q : Int) map0)) ∧ Below w.heap.size w w' := by
  have HQ := Lib.hid hq
  clear hq
  obtain ⟨C0, eC0⟩ : ∃ C0, C0 = mapC (q : Int) (List.replicate 512 false) := ⟨_, rfl⟩
  have hbu : (Try.zeroCells115).setIfInBounds 0 (.int .i64 (q : Int)) = C0 := by rw [eC0]; exact built_map _
  have HBU := Lib.hid hbu
  have hS0 : Hid (some 513 = some C0.size) := Lib.hid (by rw [eC0, size_mapC List.length_replicate])
  have hO0 : Hid (C0.all (·.oneCell') = true) := Lib.hid (by rw [eC0]; exact one_mapC _ _)
  have EC0 := Lib.hid eC0
  obtain ⟨C1, eC1⟩ : ∃ C1, C1 = mapC (q : Int) map0 := ⟨_, rfl⟩
  have hS1 : Hid (some 513 = some C1.size) := Lib.hid (by rw [eC1, size_mapC length_map0])
  have hO1 : Hid (C1.all (·.oneCell') = true) := Lib.hid (by rw [eC1]; exact one_mapC _ _)
  have EC1 := Lib.hid eC1
  have hmk : Hid (∀ W : World, Calls Try.prog 75 #[.agg C0, .int .i64 0, .int .i64 2, .bool true] W fun e w' => e = .returned (.agg C1) ∧ Below W.heap.size W w') := Lib.hid (fun W => by rw [eC0, eC1]; exact marked_any (q : Int) (List.replicate 512 false) List.length_replicate 0 2 0 2 rfl rfl (by omega) true W)
  rw [← eC1]
  clear hbu eC0 eC1
  go_enter Try.func55, Try.ntmps55
  go_wp2_with (first
    | (rw [HQ.out, HBU.out]; refine wpList_store_row rfl 115 (.tmp 3) (.tmp 7) rfl (w.heap.size + 1) C0 rfl rfl 115 Try.zeroCells115 (heap_alloc2_new _ _ _) (infoMap.trans hS0.out) (size_zeroMap.trans (Option.some.inj hS0.out)) hO0.out ?_)
    | (refine wpList_load_row rfl 115 (.tmp 3) rfl (w.heap.size + 1) rfl 115 C0 (0, 0) _ (setRow_heap _ _ _ _ _ _ (heap_alloc2_new _ _ _)) Try.underlying115 rfl (infoMap.trans hS0.out) ?_)
    | (go_at_call 75; (refine (hmk.out _).mono ?_); rintro e w1 ⟨rfl, hb1⟩)
    | (refine wpList_store_row rfl 115 (.tmp 2) (.tmp 9) rfl w.heap.size C1 rfl rfl 115 Try.zeroCells115 ((hb1.block w.heap.size (by simp; omega)).trans ((setRow_other _ _ _ _ (by omega)).trans (heap_alloc2_old _ _ _))) (infoMap.trans hS1.out) (size_zeroMap.trans (Option.some.inj hS1.out)) hO1.out ?_))
  have hb2 : Below w.heap.size w w1 := ((((Below.refl _ _).alloc (Nat.le_refl _) _).alloc (by simp) _ : Below w.heap.size w ((w.alloc (.cells Try.zeroCells115 115)).alloc (.cells Try.zeroCells115 115)))).trans ((below_setRow (Below.refl _ _) (Nat.le_succ _) C0).trans (hb1.mono (by simp; omega)))
  have hz1 := (hb1.block w.heap.size (by simp; omega)).trans ((setRow_other _ _ _ _ (by omega)).trans (heap_alloc2_old _ _ _))
  exact bodyPost_ret (v := .agg C1) (results_cell_row (p := 2) (ty := 115) rfl _ _ w.heap.size 115 C1 (0, 0) _ rfl (setRow_heap _ _ Try.zeroCells115 _ _ _ hz1) Try.underlying115 rfl (infoMap.trans hS1.out)) rfl ⟨rfl, below_setRow hb2 (Nat.le_refl _) _⟩
end Go.Proofs.Ytgkddhncfaeidaa
