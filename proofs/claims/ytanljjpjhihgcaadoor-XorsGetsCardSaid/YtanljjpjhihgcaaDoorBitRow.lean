/- The reference's Put beside a Writer; rows of puts; what is read back of many puts. -/
import Derived.Test.YtanljjpjhihgcaaDoorBitTk
import Derived.Test.YtanljjpjhihgcaaDoorRowKit
import Derived.Deep.SlicePairs
namespace BitM
/-- Behind the puts of a row: how many bits, and their value. -/
def tot : List (Nat × Int) → Nat × Nat := fun ps => ps.foldl (fun s q => (s.1 + Go.Proofs.YtanljjpjhihgcaaDoor.wi q.2, s.2 * 2 ^ Go.Proofs.YtanljjpjhihgcaaDoor.wi q.2 + q.1 % 2 ^ Go.Proofs.YtanljjpjhihgcaaDoor.wi q.2)) (0, 0)
theorem tot_succ (ps : List (Nat × Int)) (k : Nat) (h : k < ps.length) : tot (ps.take (k + 1)) = ((tot (ps.take k)).1 + Go.Proofs.YtanljjpjhihgcaaDoor.wi ps[k].2, (tot (ps.take k)).2 * 2 ^ Go.Proofs.YtanljjpjhihgcaaDoor.wi ps[k].2 + ps[k].1 % 2 ^ Go.Proofs.YtanljjpjhihgcaaDoor.wi ps[k].2) := by
  unfold tot
  rw [List.take_succ_eq_append_getElem h, List.foldl_append]
  rfl
theorem tot_le (ps : List (Nat × Int)) : ∀ k, k ≤ ps.length → (tot (ps.take k)).1 ≤ 64 * k
  | 0, _ => by simp [tot]
  | k + 1, h => by
    rw [tot_succ ps k (by omega)]
    have h1 := tot_le ps k (by omega)
    have h2 := Go.Proofs.YtanljjpjhihgcaaDoor.wi_le ps[k].2
    simp only
    omega
theorem tot_mono (ps : List (Nat × Int)) (j : Nat) : ∀ d, j + d ≤ ps.length → (tot (ps.take j)).1 ≤ (tot (ps.take (j + d))).1 ∧ (tot (ps.take (j + d))).2 / 2 ^ ((tot (ps.take (j + d))).1 - (tot (ps.take j)).1) = (tot (ps.take j)).2
  | 0, _ => by simp
  | d + 1, h => by
    obtain ⟨h1, h2⟩ := tot_mono ps j d (by omega)
    have h3 := tot_succ ps (j + d) (by omega)
    rw [show j + (d + 1) = j + d + 1 by omega, h3]
    simp only
    refine ⟨by omega, ?_⟩
    rw [show (tot (ps.take (j + d))).1 + Go.Proofs.YtanljjpjhihgcaaDoor.wi ps[j + d].2 - (tot (ps.take j)).1 = Go.Proofs.YtanljjpjhihgcaaDoor.wi ps[j + d].2 + ((tot (ps.take (j + d))).1 - (tot (ps.take j)).1) by omega, Nat.pow_add, ← Nat.div_div_eq_div_mul]
    rw [Nat.mul_comm, Nat.mul_add_div (Nat.pow_pos (by omega)), Nat.div_eq_of_lt (Nat.mod_lt _ (Nat.pow_pos (by omega))), Nat.add_zero, h2]
/-- The i-th of K puts, read back. -/
theorem tot_mid (ps : List (Nat × Int)) (i K : Nat) (hi : i < K) (hK : K ≤ ps.length) :
    mid (tot (ps.take K)).2 (tot (ps.take K)).1 (tot (ps.take i)).1 ((tot (ps.take i)).1 + Go.Proofs.YtanljjpjhihgcaaDoor.wi (ps[i]'(by omega)).2) = (ps[i]'(by omega)).1 % 2 ^ Go.Proofs.YtanljjpjhihgcaaDoor.wi (ps[i]'(by omega)).2 := by
  obtain ⟨h1, h2⟩ := tot_mono ps (i + 1) (K - (i + 1)) (by omega)
  rw [show i + 1 + (K - (i + 1)) = K by omega] at h1 h2
  have h3 := tot_succ ps i (by omega)
  have e1 : (tot (ps.take (i + 1))).1 = (tot (ps.take i)).1 + Go.Proofs.YtanljjpjhihgcaaDoor.wi (ps[i]'(by omega)).2 := by rw [h3]
  unfold mid
  rw [← e1, h2, e1, Nat.add_sub_cancel_left, h3]
  simp only
  rw [Nat.mul_comm, Nat.mul_add_mod, Nat.mod_mod]
end BitM
namespace Go.Proofs.YtanljjpjhihgcaaDoor
open Go.RowKit BitM Go.Deep
set_option linter.unusedVariables false

/-- A row of puts in memory. -/
def PutsAt (w : World) (A : Option Addr) (ps : List (Nat × Int)) : Prop :=
  (∀ q ∈ ps, q.1 < 18446744073709551616) ∧ (ps ≠ [] → ∃ b off, A = some ⟨b, off, none⟩ ∧ ∀ i (h : i < ps.length), w.cell? ⟨b, off + i * 2, none⟩ = some (.int .u64 (ps[i].1 : Int)) ∧ w.cell? ⟨b, off + i * 2 + 1, none⟩ = some (.int .i64 ps[i].2))

theorem putsRow_of {H : Type} {enc : TypeId × Value → H} {W : World} {base : Nat} {spare : Nat → Bool} {held : Bool} {t e : TypeId} {f0 f1 : Field} {a : Option Addr} {len cap fuel : Nat} {x : DataW H × List MemPlace}
    (ht : Tryd.prog.underlying t = some (.slice e)) (he : Tryd.prog.underlying e = some (.struct #[f0, f1])) (ce : Tryd.prog.cellsOf e = 2) (o0 : f0.offset = 0) (o1 : f1.offset = 1) (c0 : Tryd.prog.cellsOf f0.type = 1) (c1 : Tryd.prog.cellsOf f1.type = 1)
    (u0 : Tryd.prog.underlying f0.type = some (.int .u64)) (u1 : Tryd.prog.underlying f1.type = some (.int .i64))
    (h : DataW.trod enc Tryd.prog W base spare held fuel t [.slice a len cap] = some x) : ∃ ps : List (Nat × Int), ps.length = len ∧ len ≤ cap ∧ cap ≤ maxLen ∧ PutsAt W a ps := by
  rcases open_slice_pairs ht he ce o0 o1 c0 c1 h with ⟨hcs, _⟩ | ⟨ad, l, c, m, n, V0, V1, D0, D1, P0, P1, hcs, _, hl, hm, hmm, _, hx⟩
  · simp at hcs
    obtain ⟨rfl, rfl, rfl⟩ := hcs
    exact ⟨[], rfl, Nat.le_refl _, by unfold maxLen; omega, by simp, fun h => absurd rfl h⟩
  · simp at hcs
    obtain ⟨rfl, rfl, rfl⟩ := hcs
    have hlm : len ≤ m := by rw [hmm]; split <;> omega
    have hone : ∀ i, i < len → ∃ q : Nat × Int, q.1 < 18446744073709551616 ∧ W.cell? (ad.add (i * 2)) = some (.int .u64 (q.1 : Int)) ∧ W.cell? (ad.add (i * 2 + 1)) = some (.int .i64 q.2) := fun i hi => by
      obtain ⟨e0, e1, t0, t1⟩ := hx i (by omega)
      obtain ⟨n0, g0, _, w0⟩ := DataW.trod_int u0 t0
      obtain ⟨n1, g1, _, w1⟩ := DataW.trod_int u1 t1
      have b0 := bounds_u64 w0
      simp at g0 g1
      refine ⟨(n0.toNat, n1), by simp only; omega, ?_, ?_⟩
      · rw [e0, g0, Int.toNat_of_nonneg (by omega)]
      · rw [e1, g1]
    obtain ⟨q, hq⟩ := choose_lt hone
    refine ⟨(List.range len).map q, by simp, hl, hm, fun y hy => ?_, fun hne => ?_⟩
    · obtain ⟨i, hi, rfl⟩ := List.mem_map.1 hy
      exact (hq i (List.mem_range.1 hi)).1
    · have hpos : 0 < len := by
        rcases Nat.eq_zero_or_pos len with h0 | h0
        · subst h0; simp at hne
        · exact h0
      obtain ⟨b, off, spot⟩ := ad
      have hc0 := (hq 0 hpos).2.1
      have hspot : spot = none := by simpa [Addr.add] using World.cell?_spot hc0
      subst hspot
      refine ⟨b, off, rfl, fun i hi => ?_⟩
      have hi' : i < len := by simpa using hi
      obtain ⟨_, h1, h2⟩ := hq i hi'
      have hadd : ∀ k, (⟨b, off, none⟩ : Addr).add k = ⟨b, off + k, none⟩ := fun k => by unfold Addr.add; split <;> simp_all
      rw [hadd] at h1 h2
      rw [List.getElem_map, List.getElem_range]
      exact ⟨h1, by rw [Nat.add_assoc]; exact h2⟩

theorem grown_chain {w wr w3 : World} {r0 r : Option Nat} (hg : w.grownBy wr r0) (o : Obj) (hr : r = r0 ∨ ∃ q, r = some q ∧ w.heap.size ≤ q) (h3 : (wr.alloc o).grownBy w3 r) : w.grownBy w3 r0 := by
  refine ⟨h3.os.trans hg.os, h3.tape.trans hg.tape, h3.output.trans hg.output, ?_, fun k hk hkr => ?_⟩
  · have := h3.size
    have := hg.size
    simp at *
    omega
  · have hk2 : k < wr.heap.size := Nat.lt_of_lt_of_le hk hg.size
    rw [h3.block k (by simp; omega) (by
      rcases hr with rfl | ⟨q, rfl, hq⟩
      · exact hkr
      · intro h
        injection h with h
        omega), Below.heap_alloc wr o k hk2]
    exact hg.block k hk hkr
theorem own_chain {w wr : World} {r0 r r3 : Option Nat} (hs : w.heap.size ≤ wr.heap.size) (o : Obj) (hr : r = r0 ∨ ∃ q, r = some q ∧ w.heap.size ≤ q) (h3 : r3 = r ∨ r3 = some (wr.alloc o).heap.size) : r3 = r0 ∨ ∃ q, r3 = some q ∧ w.heap.size ≤ q := by
  rcases h3 with rfl | rfl
  · exact hr
  · exact .inr ⟨_, rfl, by simp; omega⟩

theorem OwnS.cellsAt {w : World} {base : Nat} {v : Value} {E : TypeId} {xs : List UInt8} (h : OwnS w base v E xs) {q : Nat} (hq : v.ownBlock = some q) : ∃ cur, w.heap[q]? = some (.cells cur E (0, 0)) := by
  rcases h.2 with ⟨h0, h1⟩ | ⟨g', cap', cur, hv, hb, hh, _⟩
  · subst h0
    simp [Value.ownBlock] at hq
  · subst hv
    simp [Value.ownBlock] at hq
    subst hq
    exact ⟨_, hh⟩

theorem WSt.past {w w' : World} {base g L V base' : Nat} {v : Value} {xs : List UInt8} (h : WSt w base g L V) (ho : OwnS w base' v 5 xs) (hg : w.grownBy w' v.ownBlock) : WSt w' base g L V := by
  obtain ⟨ws, r, m, ⟨f, h1, h2, h3, h4, h5, h6⟩, e1, e2⟩ := h
  refine ⟨ws, r, m, ⟨f, ?_, h2, h3, h4, h5, h6.keep fun b x f' _ hx => ?_⟩, e1, e2⟩
  · refine (hg.block g (Array.getElem?_eq_some_iff.1 h1).1 fun hq => ?_).trans h1
    obtain ⟨cur, hc⟩ := ho.cellsAt hq.symm
    rw [h1] at hc
    simp at hc
  · refine hg.block b (Array.getElem?_eq_some_iff.1 hx).1 fun hq => ?_
    obtain ⟨cur, hc⟩ := ho.cellsAt hq.symm
    rw [hx] at hc
    simp at hc
theorem OwnS.past {w w' : World} {base g L V base' : Nat} {v : Value} {xs : List UInt8} (ho : OwnS w base' v 5 xs) (h : WSt w base g L V) (hg : w.grownBy w' (some g)) : OwnS w' base' v 5 xs := by
  refine ho.keep fun q hq => hg.block q (ho.block q hq).2 fun he => ?_
  injection he with he
  subst he
  obtain ⟨cur, hc⟩ := ho.cellsAt hq
  obtain ⟨ws, r, m, ⟨f, h1, _⟩, _⟩ := h
  rw [h1] at hc
  simp at hc

section
variable {w w' : World} {base : Nat} {v : Value} {E : TypeId} {xs ys : List UInt8} {P : Program}
theorem run_append_s2 (t ty : TypeId) (ht : P.underlying t = some (.slice E)) (hi : (P.info? E).map (fun i => (i.zero, i.size, i.bytes)) = some (some (.int .u8 0), 1, 1))
    (hown : OwnS w base v E xs) (A : Option Addr) (c n : Nat) (hn : ys.length = n) (hA : BytesAt w A ys) (hl : xs.length + n ≤ 140737488355328) (hbase : base ≤ w.heap.size) :
    ∃ A' c' w', (Builtin.append_ #[t, t] ty #[v, .slice A n c]).run P w = .ok (.slice A' (xs ++ ys).length c') w' ∧
      OwnS w' base (.slice A' (xs ++ ys).length c') E (xs ++ ys) ∧ w.grownBy w' v.ownBlock ∧ ((Value.slice A' (xs ++ ys).length c').ownBlock = v.ownBlock ∨ (Value.slice A' (xs ++ ys).length c').ownBlock = some w.heap.size) := by
  obtain ⟨i, hi0, hz, hs, hb⟩ := info_parts hi
  subst hn
  by_cases hy : ys = []
  · subst hy
    rcases hown.cases with ⟨rfl, rfl⟩ | ⟨g, cap, rfl, ho⟩
    · refine ⟨none, 0, w, ?_, OwnS.nil w base E, World.grownBy.refl w _, .inl rfl⟩
      cases A <;> simp [Builtin.append_, run_underlying ht, sizeOf, typeInfo, hi0, Builtin.lenOf, Builtin.firstCells, storeCells, loadCells, loadCellsFrom]
    · obtain ⟨_, hn, _⟩ := ho.parts
      refine ⟨some ⟨g, 0, none⟩, cap, w, ?_, by simpa using hown, World.grownBy.refl w _, .inl rfl⟩
      cases A <;> simp [Builtin.append_, run_underlying ht, sizeOf, typeInfo, hi0, Builtin.lenOf, Builtin.firstCells, hn, storeCells, loadCells, loadCellsFrom]
  · obtain ⟨ad, rfl, hc⟩ := byteV_cells hA hy
    obtain ⟨v', w', hr, h2, h3, _, h5⟩ := run_append_own_at (P := P) w base t ty E i _ 1 1 ht hi0 hz hs hb rfl (by omega) v xs.length (xs.map bv) hown
      ad ys.length c (ys.map bv) (by simp) hc (bv_one ys) (by unfold maxLen; omega) (by omega) hbase
    have h2' : OwnS w' base v' E (xs ++ ys) := by
      unfold OwnS
      rw [List.length_append, List.map_append]
      exact h2
    obtain ⟨A', c', rfl, _⟩ := h2'.slice
    exact ⟨A', c', w', hr, h2', h3, h5⟩

theorem wpList_append_s2 {ops : Array Oper} {rest : List Oper} {o : Oper} {a : Act} {Q : Exit → Act → World → Prop} (hgd : o.guard = none) (s x : Operand) (t : TypeId)
    (ho : o.op = .call { callee := .builtin .append, args := #[s, x], argTypes := #[t, t] }) (ht : P.underlying t = some (.slice E)) (hi : (P.info? E).map (fun i => (i.zero, i.size, i.bytes)) = some (some (.int .u8 0), 1, 1))
    (hs : a.eval s = v) (hown : OwnS w base v E xs) (A : Option Addr) (c n : Nat) (ys : List UInt8) (hx : a.eval x = .slice A n c) (hn : ys.length = n) (hA : BytesAt w A ys)
    (hl : xs.length + n ≤ 140737488355328) (hbase : base ≤ w.heap.size)
    (h : ∀ A' c' w', OwnS w' base (.slice A' (xs ++ ys).length c') E (xs ++ ys) → w.grownBy w' v.ownBlock → ((Value.slice A' (xs ++ ys).length c').ownBlock = v.ownBlock ∨ (Value.slice A' (xs ++ ys).length c').ownBlock = some w.heap.size) → wpList P ops Q rest (a.put o.dst (.slice A' (xs ++ ys).length c')) w') : wpList P ops Q (o :: rest) a w :=
  wpList_plain hgd fun _ hK => by
    obtain ⟨A', c', w', hr, h2, h3, h5⟩ := run_append_s2 (P := P) t o.type ht hi hown A c n hn hA hl hbase
    unfold Oper.wp execOp
    simp only [ho, resolve, invoke, builtin, Sem.run_bind, Sem.run_pure, Result.andThen_ok, List.map_toArray, List.map_cons, List.map_nil, hs, hx, hr]
    exact hK _ _ (h A' c' w' h2 h3 h5)

theorem wpList_append_z2 {ops : Array Oper} {rest : List Oper} {o : Oper} {a : Act} {Q : Exit → Act → World → Prop} (hgd : o.guard = none) (s x : Operand) (t : TypeId)
    (ho : o.op = .call { callee := .builtin .append, args := #[s, x], argTypes := #[t, t] }) (ht : P.underlying t = some (.slice E)) (hi : (P.info? E).map (fun i => (i.zero, i.size, i.bytes)) = some (some (.int .u8 0), 1, 1))
    (hs : a.eval s = v) (hown : OwnS w base v E xs) (A : Option Addr) (c n : Nat) (ys zs : List UInt8) (hx : a.eval x = .slice A n c) (hn : ys.length = n) (hA : BytesAt w A ys) (hz : xs ++ ys = zs)
    (hl : xs.length + n ≤ 140737488355328) (hbase : base ≤ w.heap.size)
    (h : ∀ A' c' w', OwnS w' base (.slice A' zs.length c') E zs → w.grownBy w' v.ownBlock → ((Value.slice A' zs.length c').ownBlock = v.ownBlock ∨ (Value.slice A' zs.length c').ownBlock = some w.heap.size) → wpList P ops Q rest (a.put o.dst (.slice A' zs.length c')) w') : wpList P ops Q (o :: rest) a w := by
  subst hz
  exact wpList_append_s2 hgd s x t ho ht hi hs hown A c n ys hx hn hA hl hbase h

end

set_option maxHeartbeats 400000 in
set_option maxRecDepth 100000 in
theorem refBitPut_w (A : Option Addr) (len c L V v : Nat) (n : Int) (w : World) (base : Nat) (ho : OwnS w base (.slice A len c) 5 (bl L V)) (hbase : base ≤ w.heap.size) (hl : len ≤ 100000000) (hv : v < 18446744073709551616) :
    Calls Tryd.prog 38 #[.slice A len c, .int .u64 (v : Int), .int .i64 n] w fun e w' => ∃ A' c', e = .returned (.slice A' (L + wi n) c') ∧ OwnS w' base (.slice A' (L + wi n) c') 5 (bl (L + wi n) (V * 2 ^ wi n + v % 2 ^ wi n)) ∧ Below base w w' ∧ w.grownBy w' (Value.slice A len c).ownBlock := by
  have hcap := ho.caps
  have hL : L = len := by rw [← hcap.1, length_bl]
  subst hL
  have hwl := wi_le n
  have hval := wi_val n
  obtain ⟨m, hm⟩ : ∃ m, m = wi n := ⟨_, rfl⟩
  rw [← hm] at hwl hval ⊢
  rw [← upto_all]
  clear hm hcap
  have HVAL := Lib.hid hval
  go_enter Tryd.func38, Tryd.ntmps38
  go_wp2_with fail
  go_loopw [0, 7] (fun l i wr => ∃ (j nl cl : Nat) (Al : Option Addr), j ≤ m ∧ Hid (nl = L + j) ∧ i = .int .i64 ((m : Int) - (j : Int) - 1) ∧ l = .slice Al nl cl ∧ OwnS wr base (.slice Al nl cl) 5 (bl nl (upto V v m j)) ∧ Below base w wr ∧ w.grownBy wr (Value.slice A L c).ownBlock ∧ ((Value.slice Al nl cl).ownBlock = (Value.slice A L c).ownBlock ∨ ∃ q, (Value.slice Al nl cl).ownBlock = some q ∧ w.heap.size ≤ q)) (fun _ i _ => (intOf i + 1).toNat)
  case atStart =>
    refine ⟨0, L, c, A, by omega, Lib.hid rfl, ?_, rfl, by rw [upto_zero]; exact ho, Below.refl _ _, World.grownBy.refl w _, .inl rfl⟩
    congr 1
  case round =>
    obtain ⟨j, nl, cl, Al, hj, HNL, rfl, rfl, hol, hb, hgr, hown⟩ := hrel
    by_cases hlt : j < m
    · obtain ⟨i, hi⟩ : ∃ i, i = m - (j + 1) := ⟨_, rfl⟩
      have hii : (m : Int) - (j : Int) - 1 = (i : Int) := by omega
      rw [hii]
      have hx : v / 2 ^ i < 18446744073709551616 := Nat.lt_of_le_of_lt (Nat.div_le_self _ _) hv
      have hbit := and_one _ hx
      obtain ⟨t, ht⟩ : ∃ t, t = v / 2 ^ i % 2 := ⟨_, rfl⟩
      have ht2 : t < 2 := by omega
      rw [← ht] at hbit
      have hup := upto_succ V v m j hlt
      rw [← hi, ← ht] at hup
      have hz : bits BinOp.and IntKind.u64 ((v : Int) / 2 ^ i) 1 % 256 = ((UInt8.ofNat t).toNat : Int) := by
        have e : ((v : Int) / 2 ^ i) = ((v / 2 ^ i : Nat) : Int) := by simp
        rw [e, hbit, UInt8.toNat_ofNat']
        omega
      have hsn := bl_snoc nl (upto V v m j) t ht2
      rw [← hup] at hsn
      have hi64 : i < 64 := by omega
      have HSN := Lib.hid hsn.symm
      have HI := Lib.hid hi
      have HZ := Lib.hid hz
      have hlen : (bl nl (upto V v m j)).length + 1 ≤ 140737488355328 := by rw [length_bl]; have := HNL.out; omega
      have hl2 : (bl (nl + 1) (upto V v m (j + 1))).length = nl + 1 := length_bl _ _
      have HL2 := Lib.hid hl2
      clear hii hbit ht hup hz hsn hi hl2
      go_wp2_with (at_builtin; refine wpList_append_z2 rfl (.tmp 16) (.tmp 22) 24 rfl Tryd.underlying24 infoU8 rfl (hol.alloc _) _ _ 1 [UInt8.ofNat t] (bl (nl + 1) (upto V v m (j + 1))) rfl rfl (bytesAt_one _ _ _ _ HZ.out) HSN.out hlen (by have := hb.size; simp; omega) ?_; rw [HL2.out]; intro A3 c3 w3 ho3 hg3 how3)
      go_roundw
      case rel =>
        refine ⟨j + 1, nl + 1, c3, A3, by omega, Lib.hid (by have := HNL.out; omega), ?_, rfl, ho3, (hol.alloc _).belowGrown (Nat.le_refl _) (by have := hb.size; simp; omega) (below_alloc hbase hb _) hg3, grown_chain hgr _ hown hg3, own_chain hgr.size _ hown how3⟩
        have := HI.out
        have e : (m : Int) - ((j + 1 : Nat) : Int) - 1 = (i : Int) - 1 := by omega
        rw [e]
      case measure => simp [intOf]
    · obtain rfl : j = m := by omega
      have e : (j : Int) - (j : Int) - 1 = -1 := by omega
      rw [e]
      have hnl := HNL.out
      subst hnl
      go_wp2_with fail
      go_ret
      exact ⟨Al, cl, rfl, hol, hb, hgr⟩
end Go.Proofs.YtanljjpjhihgcaaDoor
