/- The reference's Get: its contract. -/
import Derived.Test.YtmmkmpjhmbocfaaPageRound
import Derived.Test.YtmmkmpjhmbocfaaMid
import Derived.StillTailTactics
namespace Go.Proofs.Ytmmkmpjhmbocfaa
open Go.RowKit CrcM PageM
set_option linter.unusedVariables false

theorem val_two (xs : List UInt8) (k : Nat) (h : k + 2 ≤ xs.length) : val ((xs.drop k).take 2) = (xs.getD k 0).toNat * 256 + (xs.getD (k + 1) 0).toNat := by
  have e : (xs.drop k).take 2 = [xs.getD k 0, xs.getD (k + 1) 0] := by
    rw [List.drop_eq_getElem_cons (by omega), List.take_succ_cons, List.drop_eq_getElem_cons (by omega), List.take_succ_cons, List.take_zero]
    simp [List.getElem?_eq_getElem (show k < xs.length by omega), List.getElem?_eq_getElem (show k + 1 < xs.length by omega)]
  rw [e]
  simp [val]

section
variable {P : Program} {w w' : World} {E : TypeId}
/-- append onto an empty row, as a step of a region that draws its order. -/
theorem step_append_empty {ops : Array Oper} {o : Oper} {a : Act} {K : Act → World → Prop} {Q : Exit → Act → World → Prop} {F : Prop} (hgd : o.guard = none) (s x : Operand) (t : TypeId)
    (ho : o.op = .call { callee := .builtin .append, args := #[s, x], argTypes := #[t, t] })
    (ht : P.underlying t = some (.slice E)) (hi : (P.info? E).map (fun i => (i.zero, i.size, i.bytes)) = some (some (.int .u8 0), 1, 1))
    (g : Nat) (hs : a.eval s = .slice (some ⟨g, 0, none⟩) 0 0) (hg : w.heap[g]? = some (.cells #[] E (0, 0))) (A : Option Addr) (c n : Nat) (ys : List UInt8) (hx : a.eval x = .slice A n c) (hn : ys.length = n) (hA : BytesAt w A ys) (hl : n ≤ 140737488355328)
    (h : ∀ g' c' w', BytesAt w' (some ⟨g', 0, none⟩) ys → n ≤ c' → w.grownBy w' (some g) → (g' = g ∨ g' = w.heap.size) → g' < w'.heap.size → K (a.put o.dst (.slice (some ⟨g', 0, none⟩) n c')) w') :
    if Region.wanted o (yielded ops a.tmps) = true then Oper.wp P o a w K Q else F := by
  have hw : Region.wanted o (yielded ops a.tmps) = true := by simp [Region.wanted, hgd]
  rw [if_pos hw]
  subst hn
  have hlt : g < w.heap.size := (Array.getElem?_eq_some_iff.1 hg).1
  have hown : OwnB w g g 0 E [] := ⟨by simp, .inr ⟨g, 0, #[], rfl, Nat.le_refl _, hg, Nat.le_refl _, by unfold maxLen; omega, by simp, by simp⟩⟩
  obtain ⟨g', c', w', hr, h2, h3, h4⟩ := run_append_bytes (P := P) t o.type ht hi hown A c hA (by simpa using hl) (Nat.le_of_lt hlt)
  rw [List.nil_append] at hr h2
  unfold Oper.wp execOp
  simp only [ho, resolve, invoke, builtin, Sem.run_bind, Sem.run_pure, Result.andThen_ok, List.map_toArray, List.map_cons, List.map_nil, hs, hx]
  simp only [List.length_nil] at hr
  rw [hr]
  exact h g' c' w' h2.bytes (h2.parts.2.1) h3 h4 h2.lt

theorem below_grown_at {B g : Nat} {w0 : World} (hB : B ≤ w0.heap.size) (hg : B ≤ g) (hb : Below B w0 w) (h : w.grownBy w' (some g)) : Below B w0 w' :=
  hb.trans ⟨h.os, h.tape, h.output, h.size, fun k hk => h.block k (Nat.lt_of_lt_of_le hk (Nat.le_trans hB hb.size)) (by simp; omega)⟩

theorem bytes_set4_ne {g : Nat} {A : Option Addr} {ys : List UInt8} (h : BytesAt w A ys) (hg : ∀ a, A = some a → a.block ≠ g) (a' b' c' d' : Value) :
    BytesAt ((((w.setCell ⟨g, 0, none⟩ a').setCell ⟨g, 1, none⟩ b').setCell ⟨g, 2, none⟩ c').setCell ⟨g, 3, none⟩ d') A ys := fun hne => by
  obtain ⟨b, o, rfl, hc⟩ := h hne
  have hb : b ≠ g := hg _ rfl
  refine ⟨b, o, rfl, fun k hk => ?_⟩
  rw [← hc k hk]
  refine World.cell?_of_block ?_
  rw [heap_setCell_other _ _ _ _ hb, heap_setCell_other _ _ _ _ hb, heap_setCell_other _ _ _ _ hb, heap_setCell_other _ _ _ _ hb]
end

theorem bytes_setCell {w : World} {g i : Nat} {A : Option Addr} {ys : List UInt8} (h : BytesAt w A ys) (hg : ∀ a, A = some a → a.block ≠ g) (u : Value) : BytesAt (w.setCell ⟨g, i, none⟩ u) A ys := fun hne => by
  obtain ⟨b, o, rfl, hc⟩ := h hne
  refine ⟨b, o, rfl, fun k hk => ?_⟩
  rw [← hc k hk]
  exact World.cell?_of_block (heap_setCell_other _ _ _ _ (hg ⟨b, o, none⟩ rfl))
theorem refPut_err_len (p : Pg) (hp : ¬ okP p) (hc : bodyC p) (n : Nat) (hn : p.body.length = n) (A : Option Addr) (c : Nat) (w : World) :
    Calls Try.prog 30 #[.agg #[.int .u8 (p.kind.toNat : Int), .int .i64 p.addr, .int .u64 (p.gen : Int), .slice A n c]] w fun e w' => e = .returned (.tuple #[.slice none 0 0, .bool false]) ∧ Below w.heap.size w w' := by
  subst hn
  exact refPut_err p hp hc A c w
theorem refPut_ok_len (k : UInt8) (m g : Nat) (b : List UInt8) (n : Nat) (hn : b.length = n) (hk : isK k = true) (hm : m < 512) (hg : g < 18446744073709551616) (hb : n ≤ 238) (A : Option Addr) (c : Nat) (w : World) (hx : BytesAt w A b) (hbc : n ≤ c) :
    Calls Try.prog 30 #[.agg #[.int .u8 (k.toNat : Int), .int .i64 (m : Int), .int .u64 (g : Int), .slice A n c]] w fun e w' => e = .returned (.tuple #[.slice (some ⟨w.heap.size + 1, 0, none⟩) 256 256, .bool true]) ∧ BytesAt w' (some ⟨w.heap.size + 1, 0, none⟩) (putP ⟨k, (m : Int), g, b⟩) ∧ Below w.heap.size w w' := by
  subst hn
  exact (refPut_ok k m g b hk hm hg hb A c w hx hbc).mono fun e w' ⟨h1, h2, h3⟩ => ⟨h1, h2.bytes, h3⟩

theorem refGet_short (A : Option Addr) (cap : Nat) (xs : List UInt8) (w : World) (hl : xs.length ≤ 140737488355328) (h : xs.length ≠ 256) :
    Calls Try.prog 47 #[.slice A xs.length cap] w fun e w' => e = .returned (.tuple #[zeroPage, .int .i64 4]) ∧ Below w.heap.size w w' := by
  have d1 : ((xs.length : Int) != 256) = true := by rw [bne_iff_ne]; omega
  go_enter Try.func47, Try.ntmps47
  go_wp2_with fail
  exact bodyPost_ret (v := .tuple #[zeroPage, .int .i64 4]) (results_cell_tmp (p := 2) (u := 3) (ty := 58) rfl _ _ w.heap.size 58 #[.int .u8 0, .int .i64 0, .int .u64 0, .slice none 0 0] (0, 0) _ rfl (heap_alloc_new _ _) Try.underlying58 rfl size_refPage) rfl
    ⟨rfl, (Below.refl _ _).alloc (Nat.le_refl _) _⟩

set_option maxHeartbeats 1000000 in
set_option maxRecDepth 100000 in
theorem refGet_size (A : Option Addr) (cap : Nat) (xs : List UInt8) (w : World) (hx : BytesAt w A xs) (hc : xs.length ≤ cap) (h : xs.length = 256) (hs : 238 < sizeOfPage xs) :
    Calls Try.prog 47 #[.slice A 256 cap] w fun e w' => e = .returned (.tuple #[zeroPage, .int .i64 3]) ∧ Below w.heap.size w w' := by
  have hb : Below w.heap.size w (w.alloc (.cells #[.int .u8 0, .int .i64 0, .int .u64 0, .slice none 0 0] 58)) := (Below.refl _ _).alloc (Nat.le_refl _) _
  obtain ⟨ab, ao, rfl, hcell⟩ := (hx.below hb) (by intro h0; subst h0; simp at h)
  obtain ⟨x, ex⟩ : ∃ x, x = xs.getD 12 0 := ⟨_, rfl⟩
  obtain ⟨y, ey⟩ : ∃ y, y = xs.getD 13 0 := ⟨_, rfl⟩
  have c12 := hcell 12 (by omega)
  have c13 := hcell 13 (by omega)
  rw [show xs[12]'(by omega) = x by rw [ex]; simp [List.getElem?_eq_getElem (show 12 < xs.length by omega)]] at c12
  rw [show xs[13]'(by omega) = y by rw [ey]; simp [List.getElem?_eq_getElem (show 13 < xs.length by omega)]] at c13
  have hsz : sizeOfPage xs = x.toNat * 256 + y.toNat := by unfold sizeOfPage; rw [val_two xs 12 (by omega), ← ex, ← ey]
  have hx1 := x.toNat_lt
  have hy1 := y.toNat_lt
  have e1 : IntKind.i64.wrap ((x.toNat : Int) * 256) = (x.toNat : Int) * 256 := by simp only [IntKind.wrap_i64]; omega
  have e2 : IntKind.i64.wrap ((x.toNat : Int) * 256 + (y.toNat : Int)) = (x.toNat : Int) * 256 + (y.toNat : Int) := by simp only [IntKind.wrap_i64]; omega
  have d1 : decide ((238 : Int) < (x.toNat : Int) * 256 + (y.toNat : Int)) = true := by simp; omega
  have hlt : ab < (w.alloc (.cells #[.int .u8 0, .int .i64 0, .int .u64 0, .slice none 0 0] 58)).heap.size := block_lt_of_cell c12
  have H := Lib.hid h
  clear h hsz ex ey hcell hs
  go_enter Try.func47, Try.ntmps47
  go_wp2_with fail
  have f12 := fun y : SubW (w.alloc (.cells #[.int .u8 0, .int .i64 0, .int .u64 0, .slice none 0 0] 58)).heap.size (w.alloc (.cells #[.int .u8 0, .int .i64 0, .int .u64 0, .slice none 0 0] 58)) => (World.cell?_of_block (a := ⟨ab, ao + 12, none⟩) (y.ok_.block _ hlt)).trans c12
  have f13 := fun y : SubW (w.alloc (.cells #[.int .u8 0, .int .i64 0, .int .u64 0, .slice none 0 0] 58)).heap.size (w.alloc (.cells #[.int .u8 0, .int .i64 0, .int .u64 0, .slice none 0 0] 58)) => (World.cell?_of_block (a := ⟨ab, ao + 13, none⟩) (y.ok_.block _ hlt)).trans c13
  refine region_below (w.alloc (.cells #[.int .u8 0, .int .i64 0, .int .u64 0, .slice none 0 0] 58)).heap.size (w.alloc (.cells #[.int .u8 0, .int .i64 0, .int .u64 0, .slice none 0 0] 58)) (Below.refl _ _) (by kernel_rfl) (by kernel_rfl) ?_
  repeat (go_big_quiet_step (fail))
  refine wpQuiet_nil ?_
  rintro w' ⟨y', rfl⟩
  have hR := (y'.ok_.block _ (by simp)).trans (heap_alloc_new w (.cells #[.int .u8 0, .int .i64 0, .int .u64 0, .slice none 0 0] 58))
  have hbY := hb.trans (y'.ok_.mono (by simp))
  have HR := Lib.hid hR
  clear f12 f13 hR
  go_wp2_with (first
    | (refine wpList_store_row rfl 58 (.tmp 2) (.tmp 25) rfl w.heap.size #[.int .u8 0, .int .i64 0, .int .u64 0, .slice none 0 0] rfl rfl 58 #[.int .u8 0, .int .i64 0, .int .u64 0, .slice none 0 0] HR.out size_refPage rfl (by simp [Value.oneCell']) ?_))
  exact bodyPost_ret (v := .tuple #[zeroPage, .int .i64 3]) (results_cell_tmp (p := 2) (u := 3) (ty := 58) rfl _ _ w.heap.size 58 #[.int .u8 0, .int .i64 0, .int .u64 0, .slice none 0 0] (0, 0) _ rfl (setRow_heap _ _ #[.int .u8 0, .int .i64 0, .int .u64 0, .slice none 0 0] _ _ _ HR.out) Try.underlying58 rfl size_refPage) rfl
    ⟨rfl, below_setRow hbY (Nat.le_refl _) _⟩

set_option maxHeartbeats 8000000 in
set_option maxRecDepth 100000 in
theorem refGet_rest (A : Option Addr) (cap : Nat) (xs : List UInt8) (w : World) (hx : BytesAt w A xs) (hc : xs.length ≤ cap) (h : xs.length = 256) (hs : sizeOfPage xs ≤ 238) :
    Calls Try.prog 47 #[.slice A 256 cap] w (GetRet xs w) := by
  have hb : Below w.heap.size w (w.alloc (.cells #[.int .u8 0, .int .i64 0, .int .u64 0, .slice none 0 0] 58)) := (Below.refl _ _).alloc (Nat.le_refl _) _
  obtain ⟨ab, ao, rfl, hcell⟩ := (hx.below hb) (by intro h0; subst h0; simp at h)
  obtain ⟨x, ex⟩ : ∃ x, x = xs.getD 12 0 := ⟨_, rfl⟩
  obtain ⟨y, ey⟩ : ∃ y, y = xs.getD 13 0 := ⟨_, rfl⟩
  have c12 := hcell 12 (by omega)
  have c13 := hcell 13 (by omega)
  rw [show xs[12]'(by omega) = x by rw [ex]; simp [List.getElem?_eq_getElem (show 12 < xs.length by omega)]] at c12
  rw [show xs[13]'(by omega) = y by rw [ey]; simp [List.getElem?_eq_getElem (show 13 < xs.length by omega)]] at c13
  have hsz : sizeOfPage xs = x.toNat * 256 + y.toNat := by unfold sizeOfPage; rw [val_two xs 12 (by omega), ← ex, ← ey]
  have hx1 := x.toNat_lt
  have hy1 := y.toNat_lt
  have e1 : IntKind.i64.wrap ((x.toNat : Int) * 256) = (x.toNat : Int) * 256 := by simp only [IntKind.wrap_i64]; omega
  have e2 : IntKind.i64.wrap ((x.toNat : Int) * 256 + (y.toNat : Int)) = (x.toNat : Int) * 256 + (y.toNat : Int) := by simp only [IntKind.wrap_i64]; omega
  obtain ⟨s, es⟩ : ∃ s : Nat, (s : Int) = (x.toNat : Int) * 256 + (y.toNat : Int) := ⟨x.toNat * 256 + y.toNat, by push_cast; rfl⟩
  have hss : s = sizeOfPage xs := by rw [hsz]; omega
  have hs2 : s ≤ 238 := by omega
  have hs3 : decide ((238 : Int) < (s : Int)) = false := by simp; omega
  replace e2 := e2.trans es.symm
  obtain ⟨k, ek⟩ : ∃ k, k = xs.getD 0 0 := ⟨_, rfl⟩
  obtain ⟨m1, e1m⟩ : ∃ m1, m1 = xs.getD 2 0 := ⟨_, rfl⟩
  obtain ⟨m2, e2m⟩ : ∃ m2, m2 = xs.getD 3 0 := ⟨_, rfl⟩
  have c0 := hcell 0 (by omega)
  have c2 := hcell 2 (by omega)
  have c3 := hcell 3 (by omega)
  rw [show xs[0]'(by omega) = k by rw [ek]; simp [List.getElem?_eq_getElem (show 0 < xs.length by omega)]] at c0
  rw [show xs[2]'(by omega) = m1 by rw [e1m]; simp [List.getElem?_eq_getElem (show 2 < xs.length by omega)]] at c2
  rw [show xs[3]'(by omega) = m2 by rw [e2m]; simp [List.getElem?_eq_getElem (show 3 < xs.length by omega)]] at c3
  have hm1 := m1.toNat_lt
  have hm2 := m2.toNat_lt
  obtain ⟨m, em⟩ : ∃ m : Nat, (m : Int) = (m1.toNat : Int) * 256 + (m2.toNat : Int) := ⟨m1.toNat * 256 + m2.toNat, by push_cast; rfl⟩
  have q1 : IntKind.i64.wrap ((m1.toNat : Int) * 256) = (m1.toNat : Int) * 256 := by simp only [IntKind.wrap_i64]; omega
  have q2 : IntKind.i64.wrap ((m1.toNat : Int) * 256 + (m2.toNat : Int)) = (m : Int) := by simp only [IntKind.wrap_i64]; omega
  have hmv : m = val ((xs.drop 2).take 2) := by rw [val_two xs 2 (by omega), ← e1m, ← e2m]; omega
  have hlt : ab < (w.alloc (.cells #[.int .u8 0, .int .i64 0, .int .u64 0, .slice none 0 0] 58)).heap.size := block_lt_of_cell c12
  have HLS : Hid (((xs.drop 14).take s).length = s) := Lib.hid (by simp; omega)
  have H := Lib.hid h
  have C0 := Lib.hid c0
  have C2 := Lib.hid c2
  have C3 := Lib.hid c3
  have EM := Lib.hid hmv
  have EK := Lib.hid ek
  have ES := Lib.hid hss
  have Q1 := Lib.hid q1
  have Q2 := Lib.hid q2
  clear h hsz ex ey hcell hs es em q1 q2 c0 c2 c3 hmv ek e1m e2m hss
  go_enter Try.func47, Try.ntmps47
  go_wp2_with fail
  have f12 := fun y : SubW (w.alloc (.cells #[.int .u8 0, .int .i64 0, .int .u64 0, .slice none 0 0] 58)).heap.size (w.alloc (.cells #[.int .u8 0, .int .i64 0, .int .u64 0, .slice none 0 0] 58)) => (World.cell?_of_block (a := ⟨ab, ao + 12, none⟩) (y.ok_.block _ hlt)).trans c12
  have f13 := fun y : SubW (w.alloc (.cells #[.int .u8 0, .int .i64 0, .int .u64 0, .slice none 0 0] 58)).heap.size (w.alloc (.cells #[.int .u8 0, .int .i64 0, .int .u64 0, .slice none 0 0] 58)) => (World.cell?_of_block (a := ⟨ab, ao + 13, none⟩) (y.ok_.block _ hlt)).trans c13
  refine region_below (w.alloc (.cells #[.int .u8 0, .int .i64 0, .int .u64 0, .slice none 0 0] 58)).heap.size (w.alloc (.cells #[.int .u8 0, .int .i64 0, .int .u64 0, .slice none 0 0] 58)) (Below.refl _ _) (by kernel_rfl) (by kernel_rfl) ?_
  repeat (go_big_quiet_step (fail))
  refine wpQuiet_nil ?_
  rintro w' ⟨y', rfl⟩
  have hbY := hb.trans (y'.ok_.mono (by simp))
  have HR := Lib.hid ((y'.ok_.block _ (by simp)).trans (heap_alloc_new w (.cells #[.int .u8 0, .int .i64 0, .int .u64 0, .slice none 0 0] 58)))
  have D0 := Lib.hid ((World.cell?_of_block (a := ⟨ab, ao + 0, none⟩) (y'.ok_.block _ hlt)).trans C0.out)
  have D2 := Lib.hid ((World.cell?_of_block (a := ⟨ab, ao + 2, none⟩) (y'.ok_.block _ hlt)).trans C2.out)
  have D3 := Lib.hid ((World.cell?_of_block (a := ⟨ab, ao + 3, none⟩) (y'.ok_.block _ hlt)).trans C3.out)
  have hltY : ab < y'.at_.heap.size := Nat.lt_of_lt_of_le hlt y'.ok_.size
  have hwY : w.heap.size < y'.at_.heap.size := by have := y'.ok_.size; simp at this; omega
  generalize eY : y'.at_ = Y at HR D0 D2 D3 hbY hltY hwY
  clear f12 f13 eY y' C0 C2 C3 c12 c13 hb
  go_upto_region 6 with fail
  have cutS := (piece (hx.below hbY) 14 s (by omega))
  have hZ1 : Hid (((Y.alloc (.cells #[] 5)).alloc (.cells #[.int .u8 0, .int .i64 0, .int .u64 0, .slice none 0 0] 58)).heap[Y.heap.size + 1]? = some (.cells #[.int .u8 0, .int .i64 0, .int .u64 0, .slice none 0 0] 58 (0, 0))) := Lib.hid (heap_alloc2_new _ _ _)
  have hZ0 : Hid (((Y.alloc (.cells #[.int .u8 0, .int .i64 0, .int .u64 0, .slice none 0 0] 58)).alloc (.cells #[] 5)).heap[Y.heap.size]? = some (.cells #[.int .u8 0, .int .i64 0, .int .u64 0, .slice none 0 0] 58 (0, 0))) := Lib.hid (heap_alloc2_old _ _ _)
  have KB : ∀ {W : World}, Below Y.heap.size Y W → Below Y.heap.size Y W ∧ W.cell? ⟨ab, ao, none⟩ = some (.int .u8 (k.toNat : Int)) ∧ W.cell? ⟨ab, ao + 2, none⟩ = some (.int .u8 (m1.toNat : Int)) ∧ W.cell? ⟨ab, ao + 3, none⟩ = some (.int .u8 (m2.toNat : Int)) := fun h =>
    ⟨h, (World.cell?_of_block (h.block _ hltY)).trans D0.out, (World.cell?_of_block (h.block _ hltY)).trans D2.out, (World.cell?_of_block (h.block _ hltY)).trans D3.out⟩
  have hsw : IntKind.i64.wrap (14 + (s : Int)) = 14 + (s : Int) := by simp only [IntKind.wrap_i64]; omega
  have hsn : (14 + (s : Int)).toNat - 14 = s := by omega
  have hs4 : (14 : Int) ≤ 14 + (s : Int) := by omega
  have hs5 : 14 + (s : Int) ≤ (cap : Int) := by have := H.out; omega
  have hn14 : ¬ cap = 14 := by have := H.out; omega
  have q1 := Q1.out
  have q2 := Q2.out
  have r1 : IntKind.i64.wrap (m1.toNat : Int) = (m1.toNat : Int) := by simp only [IntKind.wrap_i64]; omega
  have r2 : IntKind.i64.wrap (m2.toNat : Int) = (m2.toNat : Int) := by simp only [IntKind.wrap_i64]; omega
  have KBH : Hid (∀ {W : World}, Below Y.heap.size Y W → Below Y.heap.size Y W ∧ W.cell? ⟨ab, ao, none⟩ = some (.int .u8 (k.toNat : Int)) ∧ W.cell? ⟨ab, ao + 2, none⟩ = some (.int .u8 (m1.toNat : Int)) ∧ W.cell? ⟨ab, ao + 3, none⟩ = some (.int .u8 (m2.toNat : Int))) := @KB
  clear KB
  go_cut [5] (fun s5 wx => ∃ p A' c', s5 = .pointer (some ⟨p, 0, none⟩) ∧ Y.heap.size ≤ p ∧ Below Y.heap.size Y wx ∧
    wx.heap[p]? = some (.cells #[.int .u8 (k.toNat : Int), .int .i64 (m : Int), .int .u64 0, .slice A' s c'] 58 (0, 0)) ∧ BytesAt wx A' ((xs.drop 14).take s) ∧ s ≤ c' ∧ ∀ a, A' = some a → a.block ≠ p ∧ Y.heap.size ≤ a.block)
  case first =>
    go_region_held3 (fun w' => Below Y.heap.size Y w' ∧ w'.cell? ⟨ab, ao, none⟩ = some (.int .u8 (k.toNat : Int)) ∧ w'.cell? ⟨ab, ao + 2, none⟩ = some (.int .u8 (m1.toNat : Int)) ∧ w'.cell? ⟨ab, ao + 3, none⟩ = some (.int .u8 (m2.toNat : Int)))
      (first
        | assumption
        | (with_reducible refine KBH.out ?_; assumption)
        | (with_reducible refine KBH.out (below_set4 ?_ (by omega) _ _ _ _); first | assumption | (apply And.left; assumption))
        | (with_reducible refine KBH.out (below_alloc (Nat.le_refl _) ?_ _); first | assumption | (apply And.left; assumption))
        | (exact KBH.out (below_drewN (Below.refl _ _) 1))
        | (exact KBH.out (below_drewN (below_alloc (Nat.le_refl _) (Below.refl _ _) _) 1))
        | (exact KBH.out (below_drewN (below_alloc (Nat.le_refl _) (below_alloc (Nat.le_refl _) (Below.refl _ _) _) _) 1)))
      (first
        | (refine step_append_empty rfl _ _ 27 rfl Try.underlying27 (by kernel_rfl) _ rfl (by first | exact heap_alloc_new _ _ | exact heap_alloc2_old _ _ _ | exact heap_alloc2_new _ _ _) _ _ _ _ rfl HLS.out (cutS.below ?_) (by omega) ?_; (first | assumption | (apply And.left; assumption)); intro g2 c' w2 hA2 hc2 hg2 hn2' hlt2; have HN2 := Lib.hid hn2'; clear hn2'; have hb2 := below_grown_at (Nat.le_refl Y.heap.size) (by omega) (by first | assumption | (apply And.left; assumption)) hg2; (try (have hp2 := (hg2.block (Y.heap.size + 1) (by first | (simp; done) | (simp; omega)) (by first | (simp; done) | (simp; omega))).trans hZ1.out; obtain ⟨p0, p1, p2, p3, f0, f1, f2, f3⟩ := four_cells hp2; have HP2 := Lib.hid hp2; clear hp2)); try (have hp2 := (hg2.block Y.heap.size (by first | (simp; done) | (simp; omega)) (by first | (simp; done) | (simp; omega))).trans hZ0.out; obtain ⟨p0, p1, p2, p3, f0, f1, f2, f3⟩ := four_cells hp2; have HP2 := Lib.hid hp2; clear hp2))
        | (trace_state; fail))
    all_goals (go_wp2_with fail; go_meet)
    · exact ⟨_, some ⟨g2, 0, none⟩, c', rfl, hb2.size, below_alloc (Nat.le_refl _) hb2 _, heap_alloc_new _ _, hA2.below ((Below.refl _ _).alloc (Nat.le_refl _) _), hc2, fun a ha => by cases ha; have := HN2.out; simp at this ⊢; omega⟩
    all_goals exact ⟨_, some ⟨g2, 0, none⟩, c', rfl, by omega, below_set4 hb2 (by omega) _ _ _ _, set_four HP2.out _ _ _ _, bytes_set4_ne hA2 (fun a ha => by cases ha; have := HN2.out; simp at this ⊢; omega) _ _ _ _, hc2, fun a ha => by cases ha; have := HN2.out; simp at this ⊢; omega⟩
  case rest =>
    obtain ⟨p, A', c', rfl, hYp, hbx, hp, hA, hc', hA1⟩ := hcut
    have hcellY := (hx.below hbY)
    have HA1 := Lib.hid hA1
    have HBX := Lib.hid hbx
    clear hA1 q1 q2 r1 r2 hsw hsn e1 e2
    go_wp2_with fail
    go_loopw [6] (fun i wr => ∃ j : Nat, j ≤ 8 ∧ i = .int .i64 j ∧ Below Y.heap.size Y wr ∧ Hid (wr.heap[p]? = some (.cells #[.int .u8 (k.toNat : Int), .int .i64 (m : Int), .int .u64 (val ((xs.drop 4).take j) : Int), .slice A' s c'] 58 (0, 0))) ∧ BytesAt wr A' ((xs.drop 14).take s)) (fun i _ => 8 - (intOf i).toNat)
    case atStart => exact ⟨0, by omega, rfl, hbx, hp, hA⟩
    case round =>
      obtain ⟨j, hj, rfl, hbr, hrow, hAr⟩ := hrel
      by_cases hlt : j < 8
      · obtain ⟨b', o', he, hcl⟩ := (hcellY.below (hbr.mono (Nat.le_refl _))) (by intro h0; have := H.out; subst h0; simp at this)
        have cb := hcl (4 + j) (by have := H.out; omega)
        cases he
        clear hcl
        obtain ⟨v, ev⟩ : ∃ v, v = val ((xs.drop 4).take j) := ⟨_, rfl⟩
        rw [← ev] at hrow
        obtain ⟨bj, ebj⟩ : ∃ bj : UInt8, bj = xs[4 + j]'(by have := H.out; omega) := ⟨_, rfl⟩
        rw [← ebj] at cb
        have hv : v < 72057594037927936 := by
          have h1 := val_lt ((xs.drop 4).take j)
          have h2 : 256 ^ ((xs.drop 4).take j).length ≤ 256 ^ 7 := Nat.pow_le_pow_right (by omega) (by simp; omega)
          omega
        have hsnoc : val ((xs.drop 4).take (j + 1)) = v * 256 + bj.toNat := by
          rw [List.take_succ_eq_append_getElem (by have := H.out; simp; omega), val_snoc, ← ev, ebj]
          simp
        have hor := or_u64 v bj hv
        have hw1 : IntKind.i64.wrap (4 + (j : Int)) = 4 + (j : Int) := by simp only [IntKind.wrap_i64]; omega
        have hw2 : IntKind.u64.wrap (bj.toNat : Int) = (bj.toNat : Int) := by have := bj.toNat_lt; rw [IntKind.wrap_u64]; omega
        have i0 : (0 : Int) ≤ 4 + (j : Int) := by omega
        have i1 : 4 + (j : Int) < 256 := by omega
        have i2 : (j : Int) < 8 := by omega
        have i3 : (4 + (j : Int)).toNat = 4 + j := by omega
        obtain ⟨p0, p1, p2, p3, f0, f1, f2, f3⟩ := four_cells hrow.out
        have HS := Lib.hid hsnoc
        have EV := Lib.hid ev
        have EB := Lib.hid ebj
        clear hsnoc ev ebj
        go_wp2_with fail
        go_still_tail 11, (by kernel_rfl)
        change wpList _ _ _ _ _ wr.drew
        go_wp2_with fail
        go_roundw
        case rel =>
          refine ⟨j + 1, by omega, by go_num, (hbr.setCell hYp _).drew, ?_, bytes_setCell hAr (fun a ha => (HA1.out a ha).1) _⟩
          have hh := heap_setCell_same wr p 2 _ _ (.int .u64 ((v : Int) * 256 + (bj.toNat : Int))) hrow.out
          rw [HS.out]
          push_cast
          exact hh
        case measure => simp [intOf]; omega
      · obtain rfl : j = 8 := by omega
        obtain ⟨g, eg⟩ : ∃ g, g = val ((xs.drop 4).take 8) := ⟨_, rfl⟩
        rw [← eg] at hrow
        have hg8 : g < 18446744073709551616 := by rw [eg]; exact val8_lt _ (piece_len H.out 4 8 (by omega))
        have hpar : parse xs = ⟨k, (m : Int), g, (xs.drop 14).take s⟩ := by rw [EK.out, EM.out, eg, ES.out]; rfl
        have HG : Hid (okP ⟨k, (m : Int), g, (xs.drop 14).take s⟩ ∧ putP ⟨k, (m : Int), g, (xs.drop 14).take s⟩ = xs → good xs) := fun h0 => ⟨H.out, by rw [← ES.out]; exact hs2, by rw [hpar]; exact h0.1, by rw [hpar]; exact h0.2⟩
        have HB : Hid (¬ (okP ⟨k, (m : Int), g, (xs.drop 14).take s⟩ ∧ putP ⟨k, (m : Int), g, (xs.drop 14).take s⟩ = xs) → ¬ good xs) := fun h0 hg0 => h0 (by rw [← hpar]; exact hg0.2.2)
        have HPAR := Lib.hid hpar
        have hm6 : m < 65536 := by rw [EM.out]; exact val2_lt _ (piece_len H.out 2 2 (by omega))
        have HC : Hid (bodyC ⟨k, (m : Int), g, (xs.drop 14).take s⟩) := ⟨hg8, by have := HLS.out; show ((xs.drop 14).take s).length ≤ _; omega, by show (-9223372036854775808 : Int) ≤ (m : Int); omega, by show (m : Int) ≤ _; omega⟩
        have hbw : Below w.heap.size w wr := hbY.trans (hbr.mono (by omega))
        have HWl : Hid (w.heap.size < wr.heap.size) := Nat.lt_of_lt_of_le hwY hbr.size
        have HRr : Hid (wr.heap[w.heap.size]? = some (.cells #[.int .u8 0, .int .i64 0, .int .u64 0, .slice none 0 0] 58 (0, 0))) := (hbr.block _ hwY).trans HR.out
        have HPl : Hid (p < wr.heap.size) := (Array.getElem?_eq_some_iff.1 hrow.out).1
        have HP := Lib.hid hrow.out
        have HX : BytesAt wr (some ⟨ab, ao, none⟩) xs := hx.below hbw
        have HA3 : Hid (∀ a, A' = some a → w.heap.size < a.block) := fun a ha => Nat.lt_of_lt_of_le hwY (HA1.out a ha).2
        clear hpar eg hrow
        by_cases hok : isK k = true ∧ m < 512
        · have hok' : okP ⟨k, (m : Int), g, (xs.drop 14).take s⟩ := ⟨hok.1, by show (0 : Int) ≤ (m : Int); omega, by show (m : Int) ≤ 511; omega, by have := HLS.out; show ((xs.drop 14).take s).length ≤ 238; omega⟩
          have HLP := Lib.hid (length_putP ⟨k, (m : Int), g, (xs.drop 14).take s⟩ hok'.2.2.2)
          have HK := Lib.hid hok.1
          have hm5 := hok.2
          by_cases heq : putP ⟨k, (m : Int), g, (xs.drop 14).take s⟩ = xs
          · have HGD := Lib.hid (HG.out ⟨hok', heq⟩)
            have HEQ := Lib.hid heq
            clear heq hok hok'
            go_wp2_with (first
          | (go_at_call 30; refine (refPut_ok_len k m g ((xs.drop 14).take s) s HLS.out HK.out hm5 hg8 hs2 A' c' _ hAr hc').mono ?_; rintro e w3 ⟨rfl, hby, hb3⟩; have t1 := run_text (P := Try.prog) (w := w3) (xs := putP ⟨k, (m : Int), g, (xs.drop 14).take s⟩) 27 9 Try.underlying27 Try.underlying5 Try.underlying9 (some ⟨wr.heap.size + 1, 0, none⟩) 256 hby; have t2 := run_text (P := Try.prog) (w := w3) (xs := xs) 27 9 Try.underlying27 Try.underlying5 Try.underlying9 (some ⟨ab, ao, none⟩) cap (HX.below hb3); rw [HLP.out] at t1; rw [H.out] at t2; rw [HEQ.out] at t1)
          | (refine wpList_load_row rfl 58 (.tmp 5) rfl p rfl 58 #[.int .u8 (k.toNat : Int), .int .i64 (m : Int), .int .u64 (g : Int), .slice A' s c'] (0, 0) _ HP.out Try.underlying58 rfl size_refPage ?_)
          | (refine wpList_load_row rfl 58 (.tmp 5) rfl p rfl 58 #[.int .u8 (k.toNat : Int), .int .i64 (m : Int), .int .u64 (g : Int), .slice A' s c'] (0, 0) _ ((hb3.block _ HPl.out).trans HP.out) Try.underlying58 rfl size_refPage ?_)
          | (refine wpList_store_row rfl 58 (.tmp 2) (.tmp 75) rfl w.heap.size #[.int .u8 0, .int .i64 0, .int .u64 0, .slice none 0 0] rfl rfl 58 #[.int .u8 0, .int .i64 0, .int .u64 0, .slice none 0 0] ((hb3.block _ HWl.out).trans HRr.out) size_refPage rfl (by simp [Value.oneCell']) ?_)
          | (refine wpList_store_row rfl 58 (.tmp 2) (.tmp 76) rfl w.heap.size #[.int .u8 (k.toNat : Int), .int .i64 (m : Int), .int .u64 (g : Int), .slice A' s c'] rfl rfl 58 #[.int .u8 0, .int .i64 0, .int .u64 0, .slice none 0 0] ((hb3.block _ HWl.out).trans HRr.out) size_refPage rfl (by simp [Value.oneCell']) ?_))
            refine bodyPost_ret (v := .tuple #[.agg #[.int .u8 (k.toNat : Int), .int .i64 (m : Int), .int .u64 (g : Int), .slice A' s c'], .int .i64 0]) (results_cell_tmp (p := 2) (u := 3) (ty := 58) rfl _ _ w.heap.size 58 #[.int .u8 (k.toNat : Int), .int .i64 (m : Int), .int .u64 (g : Int), .slice A' s c'] (0, 0) _ rfl (setRow_heap _ _ #[.int .u8 0, .int .i64 0, .int .u64 0, .slice none 0 0] _ _ _ ((hb3.block _ HWl.out).trans HRr.out)) Try.underlying58 rfl size_refPage) rfl
              ⟨below_setRow (hbw.trans (hb3.mono hbw.size)) (Nat.le_refl _) _, .inr ⟨HGD.out, A', c', ?_, ?_, ?_⟩⟩
            · rw [HPAR.out]; unfold pageV; rw [HLS.out]
            · rw [HPAR.out]; exact bytes_setRow (hAr.below hb3) HA3.out _
            · rw [HPAR.out]; show ((xs.drop 14).take s).length ≤ c'; rw [HLS.out]; exact hc'
          · have HNE := Lib.hid heq
            have hd : (putP ⟨k, (m : Int), g, (xs.drop 14).take s⟩ == xs) = false := by simpa using heq
            clear heq hok hok'
            go_wp2_with (first
          | (go_at_call 30; refine (refPut_ok_len k m g ((xs.drop 14).take s) s HLS.out HK.out hm5 hg8 hs2 A' c' _ hAr hc').mono ?_; rintro e w3 ⟨rfl, hby, hb3⟩; have t1 := run_text (P := Try.prog) (w := w3) (xs := putP ⟨k, (m : Int), g, (xs.drop 14).take s⟩) 27 9 Try.underlying27 Try.underlying5 Try.underlying9 (some ⟨wr.heap.size + 1, 0, none⟩) 256 hby; have t2 := run_text (P := Try.prog) (w := w3) (xs := xs) 27 9 Try.underlying27 Try.underlying5 Try.underlying9 (some ⟨ab, ao, none⟩) cap (HX.below hb3); rw [HLP.out] at t1; rw [H.out] at t2)
          | (refine wpList_load_row rfl 58 (.tmp 5) rfl p rfl 58 #[.int .u8 (k.toNat : Int), .int .i64 (m : Int), .int .u64 (g : Int), .slice A' s c'] (0, 0) _ HP.out Try.underlying58 rfl size_refPage ?_)
          | (refine wpList_load_row rfl 58 (.tmp 5) rfl p rfl 58 #[.int .u8 (k.toNat : Int), .int .i64 (m : Int), .int .u64 (g : Int), .slice A' s c'] (0, 0) _ ((hb3.block _ HPl.out).trans HP.out) Try.underlying58 rfl size_refPage ?_)
          | (refine wpList_store_row rfl 58 (.tmp 2) (.tmp 75) rfl w.heap.size #[.int .u8 0, .int .i64 0, .int .u64 0, .slice none 0 0] rfl rfl 58 #[.int .u8 0, .int .i64 0, .int .u64 0, .slice none 0 0] ((hb3.block _ HWl.out).trans HRr.out) size_refPage rfl (by simp [Value.oneCell']) ?_)
          | (refine wpList_store_row rfl 58 (.tmp 2) (.tmp 76) rfl w.heap.size #[.int .u8 (k.toNat : Int), .int .i64 (m : Int), .int .u64 (g : Int), .slice A' s c'] rfl rfl 58 #[.int .u8 0, .int .i64 0, .int .u64 0, .slice none 0 0] ((hb3.block _ HWl.out).trans HRr.out) size_refPage rfl (by simp [Value.oneCell']) ?_))
            exact bodyPost_ret (v := .tuple #[zeroPage, .int .i64 3]) (results_cell_tmp (p := 2) (u := 3) (ty := 58) rfl _ _ w.heap.size 58 #[.int .u8 0, .int .i64 0, .int .u64 0, .slice none 0 0] (0, 0) _ rfl (setRow_heap _ _ #[.int .u8 0, .int .i64 0, .int .u64 0, .slice none 0 0] _ _ _ ((hb3.block _ HWl.out).trans HRr.out)) Try.underlying58 rfl size_refPage) rfl
              ⟨below_setRow (hbw.trans (hb3.mono hbw.size)) (Nat.le_refl _) _, .inl ⟨HB.out (fun h => HNE.out h.2), rfl⟩⟩
        · have HNB : Hid (¬ okP ⟨k, (m : Int), g, (xs.drop 14).take s⟩) := fun h => hok ⟨h.1, by have := h.2.2.1; simp at this; omega⟩
          clear hok
          have t2 := fun W => run_text (P := Try.prog) (w := W) (xs := []) 27 9 Try.underlying27 Try.underlying5 Try.underlying9 none 0 (fun h => absurd rfl h)
          go_wp2_with (first
          | (go_at_call 30; refine (refPut_err_len ⟨k, (m : Int), g, (xs.drop 14).take s⟩ HNB.out HC.out s HLS.out A' c' _).mono ?_; rintro e w3 ⟨rfl, hb3⟩)
          | (refine wpList_load_row rfl 58 (.tmp 5) rfl p rfl 58 #[.int .u8 (k.toNat : Int), .int .i64 (m : Int), .int .u64 (g : Int), .slice A' s c'] (0, 0) _ HP.out Try.underlying58 rfl size_refPage ?_)
          | (refine wpList_load_row rfl 58 (.tmp 5) rfl p rfl 58 #[.int .u8 (k.toNat : Int), .int .i64 (m : Int), .int .u64 (g : Int), .slice A' s c'] (0, 0) _ ((hb3.block _ HPl.out).trans HP.out) Try.underlying58 rfl size_refPage ?_)
          | (refine wpList_store_row rfl 58 (.tmp 2) (.tmp 75) rfl w.heap.size #[.int .u8 0, .int .i64 0, .int .u64 0, .slice none 0 0] rfl rfl 58 #[.int .u8 0, .int .i64 0, .int .u64 0, .slice none 0 0] ((hb3.block _ HWl.out).trans HRr.out) size_refPage rfl (by simp [Value.oneCell']) ?_)
          | (refine wpList_store_row rfl 58 (.tmp 2) (.tmp 76) rfl w.heap.size #[.int .u8 (k.toNat : Int), .int .i64 (m : Int), .int .u64 (g : Int), .slice A' s c'] rfl rfl 58 #[.int .u8 0, .int .i64 0, .int .u64 0, .slice none 0 0] ((hb3.block _ HWl.out).trans HRr.out) size_refPage rfl (by simp [Value.oneCell']) ?_))
          exact bodyPost_ret (v := .tuple #[zeroPage, .int .i64 3]) (results_cell_tmp (p := 2) (u := 3) (ty := 58) rfl _ _ w.heap.size 58 #[.int .u8 0, .int .i64 0, .int .u64 0, .slice none 0 0] (0, 0) _ rfl (setRow_heap _ _ #[.int .u8 0, .int .i64 0, .int .u64 0, .slice none 0 0] _ _ _ ((hb3.block _ HWl.out).trans HRr.out)) Try.underlying58 rfl size_refPage) rfl
              ⟨below_setRow (hbw.trans (hb3.mono hbw.size)) (Nat.le_refl _) _, .inl ⟨HB.out (fun h => HNB.out h.1), rfl⟩⟩
end Go.Proofs.Ytmmkmpjhmbocfaa
