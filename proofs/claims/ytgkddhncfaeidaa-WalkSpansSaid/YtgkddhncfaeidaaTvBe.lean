/- beneath: a tree's entries are told from a node down. -/
import Derived.Test.YtgkddhncfaeidaaPart30
set_option linter.unusedSimpArgs false
set_option linter.unusedVariables false
namespace Go.Proofs.Ytgkddhncfaeidaa
open Go.RowKit Go.Shelf CrcM PageM
set_option linter.unusedVariables false
attribute [local go_sem] Oper.semAt_some

set_option maxRecDepth 100000 in
set_option maxHeartbeats 8000000 in
theorem beneath_node (l gl gv n₀ NN g gen p : Nat) (U V : List Bool) {B N gs gn Ls cs cn : Nat} {rw : Value} {st nw : List UInt8} {ws : List (Nat × List UInt8)} (C : World → Nat → Prop) (J Jx : List EntD → World → Prop) (w0 : World) (hn₀ : n₀ = w0.heap.size) (hgl : n₀ ≤ gl)
    (hv : ViewAt w0 gv g gen (p : Int) U V) (hd : Dk w0 B N g gs gn rw Ls cs cn st nw ws true (-1))
    (hJT : ∀ s A B, J s A → TL n₀ A B → J s B) (hJC : ∀ s A, J s A → n₀ ≤ A.heap.size ∧ ∀ k, C A k → k < A.heap.size) (hCT : ∀ s A B, J s A → TL n₀ A B → ∀ k, C B k → C A k)
    (hY : ∀ m pre x W, J pre W → pre.length < NN → YieldAt Fence.wide m Try.prog l #[enV x, .int .i64 0] W fun e W' => (e = .returned (.bool true) ∧ J (pre ++ [x]) W' ∧ KpC n₀ C W W') ∨ (e = .returned (.bool false) ∧ Jx (pre ++ [x]) W' ∧ KpC n₀ C W W'))
    (h a : Nat) (n : NodeD) (es : List EntD) (h4 : h ≤ 4) (hr : rdP nw Ls a n) (parts : List (Nat × (NodeD × List EntD))) (hds : n.ds = parts.map fun x => kidI x.1) (hlf : n.leaf = decide (h = 0)) (hes : es = n.es ++ parts.flatMap fun x => x.2.2) (hl1 : 1 ≤ es.length) (hlc : es.length ≤ capH h)
    (hp0 : h = 0 → parts = []) (hpn : h ≠ 0 → n.es = [] ∧ fullB (capH (h - 1)) (parts.map fun x => x.2.2.length) ∧ parts.length ≤ 16 ∧ 1 ≤ parts.length)
    (hk : ∀ x ∈ parts, BeC l gl gv n₀ NN C J Jx w0 (h - 1) x.1 x.2.2) : BeC l gl gv n₀ NN C J Jx w0 h a es := by
  intro m pre W c hj hb hlk hng hNN hcb
  have hro : Fence.wide.round = none := rfl
  refine callsIn_of_wp Try.func83 rfl trivial ?_ hro
  simp only [Try.ntmps83, List.size_toArray, List.length_cons, List.length_nil, Nat.reduceAdd, Nat.reduceSub, Array.replicate_succ, Array.replicate_zero, List.push_toArray, List.append_toArray, List.nil_append, List.cons_append]
  obtain ⟨zh, hzh⟩ : ∃ zh : Int, zh = ((h + 1 : Nat) : Int) := ⟨_, rfl⟩
  rw [← hzh]
  obtain ⟨lf, hlfe⟩ : ∃ lf, lf = n.leaf := ⟨_, rfl⟩
  have hz1 : (zh == 1) = lf := by
    rw [hzh, hlfe, hlf]
    by_cases h0 : h = 0
    · simp [h0]
    · simp [h0]; omega
  obtain ⟨wx, hwx⟩ : ∃ wx, wx = W.alloc (.cells #[.int .i64 (a : Int), .int .i64 zh] 63) := ⟨_, rfl⟩
  have GX : Hid (wx.heap[W.heap.size]? = some (.cells #[.int .i64 (a : Int), .int .i64 zh] 63 (0, 0))) := Lib.hid (by rw [hwx]; exact heap_alloc_new _ _)
  have BX := Lib.hid (alloc_bel hwx)
  have XSZ : Hid (wx.heap.size = W.heap.size + 1) := Lib.hid (by rw [hwx]; exact World.size_alloc _ _)
  have HLK : Hid (∀ X, Below wx.heap.size wx X → Lk X gl gv c) := Lib.hid (fun X hX => row_stays (row_stays hlk BX.out) hX)
  have HN1 : Hid (∀ X, Below wx.heap.size wx X → Calls Try.prog 95 #[.pointer (some ⟨gv, 0, none⟩), .int .i64 (a : Int), .bool lf] X fun e w' => (∃ l' : NdL, e = .returned (.tuple #[.agg #[.bool lf, .slice l'.EA n.es.length l'.ec, .slice l'.KA n.ks.length l'.kc, .slice l'.DA n.ds.length l'.dc], .int .i64 0]) ∧ NodeAt w' n l' ∧ NdNew X.heap.size l') ∧ Below X.heap.size X w') := Lib.hid (fun X hX => by
    obtain ⟨o1, o2, o3, gg, o4, o5⟩ := hr
    have hbX : Below w0.heap.size w0 X := hb.trans ((BX.out.trans (hX.mono BX.out.size)).mono hb.size)
    have h1 := node_yes gv g gen p a gg U V n o1 o2 o3 o4 o5 lf hlfe (a : Int) rfl X (hv.below hbX) (hd.below hbX)
    rw [← hlfe] at h1
    exact h1)
  have HCH : Hid (capH h ≤ 500000) := Lib.hid (by
    have h1 : (16 : Nat) ^ h ≤ 16 ^ 4 := Nat.pow_le_pow_right (by decide) h4
    have h2 : (16 : Nat) ^ 4 = 65536 := by decide
    unfold capH
    omega)
  have HJ := Lib.hid hj
  have HGL := Lib.hid hgl
  have HB := Lib.hid hb
  have HLK0 := Lib.hid hlk
  have HNG := Lib.hid hng
  have HNN := Lib.hid hNN
  have HCB := Lib.hid hcb
  have HJT := Lib.hid hJT
  have HJC := Lib.hid hJC
  have HCT := Lib.hid hCT
  have HY := Lib.hid hY
  have HES := Lib.hid hes
  have HDS := Lib.hid hds
  have HL1 := Lib.hid hl1
  have HLC := Lib.hid hlc
  have HP0 := Lib.hid hp0
  have HPN := Lib.hid hpn
  have HKI := Lib.hid hk
  have HZH := Lib.hid hzh
  have HN0 := Lib.hid hn₀
  have H4 := Lib.hid h4
  have HLE := Lib.hid hlfe
  have HLF := Lib.hid hlf
  clear hj hb hlk hng hNN hcb hJT hJC hCT hY hes hds hl1 hlc hp0 hpn hk hzh hn₀ h4 hlfe hlf hr hv hd hgl
  gi_wp2
  rw [← hwx]
  clear hwx
  refine wpIn_wide.2 ?_
  have g1 : ∀ y : SubW wx.heap.size wx, y.at_.cell? ⟨gl, 0, none⟩ = some (.pointer (some ⟨gv, 0, none⟩)) := fun y => nd_cell (HLK.out _ y.ok_) 0 _ rfl
  have g2 : ∀ y : SubW wx.heap.size wx, y.at_.cell? ⟨W.heap.size, 0, none⟩ = some (.int .i64 (a : Int)) := fun y => nd_cell (row_stays GX.out y.ok_) 0 _ rfl
  have g3 : ∀ y : SubW wx.heap.size wx, y.at_.cell? ⟨W.heap.size, 1, none⟩ = some (.int .i64 zh) := fun y => nd_cell (row_stays GX.out y.ok_) 1 _ rfl
  refine region_ways4 wx.heap.size (Nat.le_refl _) (.two [0, 1, 2, 3, 4, 5, 6, 7, 8] 9 (.one [10, 11, 12] 13 (.one [] 14 (.done [15]))) 13 (.one [] 9 (.one [10, 11, 12] 14 (.done [15])))) (by kernel_rfl) (by kernel_rfl) ?_
  rintro wd hbd
  have BD := Lib.hid hbd
  clear hbd
  rw [wpWays_two4]
  try simp only [List.map_cons, List.map_nil, opAt, List.getElem?_toArray, List.getElem?_cons_zero, List.getElem?_cons_succ, Option.getD_some]
  repeat (first
    | go_big_quiet_step (fail))
  clear g1 g2 g3
  refine wpQuiet_nil ⟨?_, ?_⟩
  · go_wp2_with (go_at_call 95; refine (HN1.out _ BD.out).mono ?_; rintro e w1 ⟨⟨l', rfl, hn1, hw1⟩, hb1⟩; have N1 := Lib.hid hn1; have NW : Hid (NdNew wx.heap.size l') := Lib.hid ⟨fun a h => Nat.le_trans BD.out.size (hw1.e a h), fun a h => Nat.le_trans BD.out.size (hw1.k a h), fun a h => Nat.le_trans BD.out.size (hw1.d a h)⟩; have B1 := Lib.hid (BD.out.trans (hb1.mono BD.out.size)); clear hn1 hw1)
    refine ⟨⟨⟨_, B1.out⟩, rfl⟩, ?_⟩
    try simp only [Act.put, List.setIfInBounds_toArray, List.set_cons_zero, List.set_cons_succ]
    rw [wpWays_one4]
    try simp only [List.map_cons, List.map_nil, opAt, List.getElem?_toArray, List.getElem?_cons_zero, List.getElem?_cons_succ, Option.getD_some]
    repeat (first
      | go_big_quiet_step (fail))
    refine wpQuiet_nil ?_
    go_wp2_with fail
    obtain ⟨qa, hqa⟩ : ∃ qa, qa = w1.heap.size := ⟨_, rfl⟩
    obtain ⟨wa, hwa⟩ : ∃ wa, wa = World.alloc w1 (.cells #[.bool false, .slice none 0 0, .slice none 0 0, .slice none 0 0] 34) := ⟨_, rfl⟩
    have GA : Hid (wa.heap[qa]? = some (.cells #[.bool false, .slice none 0 0, .slice none 0 0, .slice none 0 0] 34 (0, 0))) := Lib.hid (by rw [hwa, hqa]; exact heap_alloc_new _ _)
    have AB := Lib.hid (alloc_bel hwa)
    have BA := Lib.hid (B1.out.trans (AB.out.mono B1.out.size))
    have QE : Hid (w1.heap.size ≤ qa) := Lib.hid (by rw [hqa]; exact Nat.le_refl _)
    have QL : Hid (wx.heap.size ≤ qa) := Lib.hid (by rw [hqa]; exact B1.out.size)
    rw [← hwa, ← hqa]
    clear hwa hqa
    refine ⟨⟨⟨_, BA.out⟩, rfl⟩, ?_⟩
    try simp only [Act.put, List.setIfInBounds_toArray, List.set_cons_zero, List.set_cons_succ]
    have NA := Lib.hid (N1.out.below AB.out)
    obtain ⟨cc, hcc⟩ : ∃ cc : Array Value, cc = #[.bool lf, .slice l'.EA n.es.length l'.ec, .slice l'.KA n.ks.length l'.kc, .slice l'.DA n.ds.length l'.dc] := ⟨_, rfl⟩
    rw [← hcc]
    have S1 : Hid ((Try.prog.info? 34).map (·.size) = some cc.size) := Lib.hid (by subst hcc; kernel_rfl)
    have S2 : Hid ((#[.bool false, .slice none 0 0, .slice none 0 0, .slice none 0 0] : Array Value).size = cc.size) := Lib.hid (by subst hcc; rfl)
    have S3 : Hid (cc.all (·.oneCell') = true) := Lib.hid (by subst hcc; simp [Value.oneCell'])
    have HCC := Lib.hid hcc
    clear hcc
    rw [wpWays_one4]
    try simp only [List.map_cons, List.map_nil, opAt, List.getElem?_toArray, List.getElem?_cons_zero, List.getElem?_cons_succ, Option.getD_some]
    repeat (first
      | go_big_quiet_step (fail))
    refine wpQuiet_nil ?_
    go_wp2_with (refine wpList_store_row rfl 34 (.tmp 7) (.tmp 24) rfl qa cc rfl rfl 34 _ GA.out S1.out S2.out S3.out ?_)
    have B3 := Lib.hid (below_setRow BA.out QL.out cc)
    have G3 := Lib.hid (setRow_heap _ qa _ cc _ _ GA.out)
    refine ⟨⟨⟨_, B3.out⟩, rfl⟩, ?_⟩
    try simp only [Act.put, List.setIfInBounds_toArray, List.set_cons_zero, List.set_cons_succ]
    rw [wpWays_done4]
    try simp only [List.map_cons, List.map_nil, opAt, List.getElem?_toArray, List.getElem?_cons_zero, List.getElem?_cons_succ, Option.getD_some]
    repeat (first
      | go_big_quiet_step (fail))
    refine wpQuiet_nil ?_
    have N5 : Hid (NodeAt (World.setRow wa qa cc) n l') := Lib.hid (N1.out.below (below_setRow AB.out QE.out cc))
    obtain ⟨x5, hx5⟩ : ∃ x5, x5 = World.setRow wa qa cc := ⟨_, rfl⟩
    rw [← hx5] at N5 B3 G3 ⊢
    clear hx5
    have GLW : Hid (gl < W.heap.size) := Lib.hid (Array.getElem?_eq_some_iff.1 HLK0.out).1
    have WXS : Hid (wx.heap.size = W.heap.size + 1) := Lib.hid XSZ.out
    have BW : Hid (Below W.heap.size W x5) := Lib.hid (BX.out.trans (B3.out.mono BX.out.size))
    have TG5 : Hid (TG n₀ gl W x5) := Lib.hid (TG.of_below BW.out (HJC.out _ _ HJ.out).1)
    have J5 : Hid (J pre x5) := Lib.hid (HJT.out _ _ _ HJ.out (TG5.out.tl HLK0.out))
    have C5 : Hid (∀ k, C x5 k → C W k) := Lib.hid (HCT.out _ _ _ HJ.out (TG5.out.tl HLK0.out))
    have R5 : Hid (Rr n₀ gl C W x5) := Lib.hid (TG5.out.rr C5.out)
    have L5 : Hid (Lk x5 gl gv c) := Lib.hid (HLK.out _ B3.out)
    have NC5 : Hid (∀ k, W.heap.size ≤ k → ¬ C x5 k) := Lib.hid (fun k hk hc => by have := (HJC.out _ _ HJ.out).2 k (C5.out k hc); omega)
    have M4 : Hid (Mine gl C x5 W.heap.size #[.int .i64 (a : Int), .int .i64 zh] 63 (0, 0)) := Lib.hid ⟨row_stays GX.out B3.out, NC5.out _ (Nat.le_refl _), by have := GLW.out; omega⟩
    have M7 : Hid (Mine gl C x5 qa cc 34 (0, 0)) := Lib.hid ⟨G3.out, NC5.out _ (by have := QL.out; have := WXS.out; omega), by have := GLW.out; have := QL.out; have := WXS.out; omega⟩
    have ME : Hid (n.es ≠ [] → MineR gl C x5 l'.EA) := Lib.hid (fun hne b off e => by
      obtain ⟨b', off', e', hc⟩ := N5.out.e hne
      rw [e] at e'
      cases e'
      obtain ⟨x, r, hxr⟩ := List.exists_cons_of_ne_nil hne
      obtain ⟨k0, _⟩ := hc 0 x (by rw [hxr]; rfl)
      obtain ⟨o, ho, hoc⟩ := cells_of_cell k0
      have hbw := NW.out.e _ e
      cases o with
      | cells cs T fr => exact ⟨cs, T, fr, ho, NC5.out _ (by have := WXS.out; simp at hbw; omega), by have := GLW.out; have := WXS.out; simp at hbw; omega⟩
      | _ => cases hoc)
    have MD : Hid (n.ds ≠ [] → MineR gl C x5 l'.DA) := Lib.hid (fun hne b off e => by
      obtain ⟨b', off', e', hc⟩ := N5.out.d hne
      rw [e] at e'
      cases e'
      obtain ⟨x, r, hxr⟩ := List.exists_cons_of_ne_nil hne
      have k0 := hc 0 x (by rw [hxr]; rfl)
      obtain ⟨o, ho, hoc⟩ := cells_of_cell k0
      have hbw := NW.out.d _ e
      cases o with
      | cells cs T fr => exact ⟨cs, T, fr, ho, NC5.out _ (by have := WXS.out; simp at hbw; omega), by have := GLW.out; have := WXS.out; simp at hbw; omega⟩
      | _ => cases hoc)
    have k1 : x5.cell? ⟨gl, 1, none⟩ = some (.int .i64 (c : Int)) := nd_cell L5.out 1 _ rfl
    have k2 : x5.frozen? ⟨gl, 1, none⟩ = false := by
      have h1 := L5.out
      unfold Lk at h1
      simp [World.frozen?, h1]
    have ND1 : Hid (1 ≤ ND h es.length) := Lib.hid (ND_pos h HL1.out)
    have hw1 : wrap64 ((c : Int) + 1) = (c : Int) + 1 := by have := HCB.out; have := ND1.out; unfold wrap64; omega
    obtain ⟨x6, hx6⟩ : ∃ x6, x6 = x5.setCell ⟨gl, 1, none⟩ (.int .i64 ((c : Int) + 1)) := ⟨_, rfl⟩
    have GR6 : Hid (x5.grownBy x6 (some gl)) := Lib.hid (by rw [hx6]; exact grown_setC (World.grownBy.refl x5 (some gl)) 1 _)
    have L6 : Hid (Lk x6 gl gv (c + 1)) := Lib.hid (by
      have h1 := heap_setCell_same x5 gl 1 _ _ (.int .i64 ((c : Int) + 1)) L5.out
      rw [hx6]
      exact h1)
    have GLN : Hid (n₀ ≤ gl) := Lib.hid HGL.out
    have TG6 : Hid (TG n₀ gl x5 x6) := Lib.hid ⟨⟨GR6.out.os, GR6.out.tape, GR6.out.output, GR6.out.size, fun k hk => GR6.out.block k (by have := GLW.out; have := BW.out.size; have := GLN.out; omega) (fun e => by cases e; have := GLN.out; omega)⟩, fun k hk hne => GR6.out.block k hk (fun e => hne (by cases e; rfl))⟩
    have J6 : Hid (J pre x6) := Lib.hid (HJT.out _ _ _ J5.out (TG6.out.tl L5.out))
    have R56 : Hid (Rr n₀ gl C x5 x6) := Lib.hid (TG6.out.rr (HCT.out _ _ _ J5.out (TG6.out.tl L5.out)))
    have R6 : Hid (Rr n₀ gl C W x6) := Lib.hid (R5.out.trans R56.out)
    have P4 := Lib.hid (M4.out.rr R56.out)
    have P7 := Lib.hid (M7.out.rr R56.out)
    have PE : Hid (n.es ≠ [] → MineR gl C x6 l'.EA) := Lib.hid (fun hne => (ME.out hne).rr R56.out)
    have PD : Hid (n.ds ≠ [] → MineR gl C x6 l'.DA) := Lib.hid (fun hne => (MD.out hne).rr R56.out)
    have AE : Hid (EnAt x6 l'.EA n.es) := Lib.hid (fun hne => enAt_rr (ME.out hne) R56.out N5.out.e hne)
    have AD : Hid (KdAt x6 l'.DA n.ds) := Lib.hid (fun hne => kdAt_rr (MD.out hne) R56.out N5.out.d hne)
    have ELE : Hid (n.es.length ≤ l'.ec ∧ l'.ec ≤ maxLen ∧ n.ds.length ≤ l'.dc ∧ l'.dc ≤ maxLen) := Lib.hid ⟨N5.out.ec, N5.out.em, N5.out.dc, N5.out.dm⟩
    have NC6 : Hid (¬ C x6 gl) := Lib.hid (not_rr HNG.out (Array.getElem?_eq_some_iff.1 HLK0.out).1 R6.out)
    have k3 : (x5.setCell ⟨gl, 1, none⟩ (.int .i64 ((c : Int) + 1))).cell? ⟨qa, 1, none⟩ = some (.slice l'.EA n.es.length l'.ec) := by
      rw [← hx6]
      refine nd_cell P7.out.blk 1 _ ?_
      rw [HCC.out]
      rfl
    clear ME MD M4 M7 N5 TG5 J5 C5 R5 L5 NC5 TG6 GR6
    gi_wp2
    rw [← hx6]
    clear hx6 k1 k2 k3 hw1 R56
    gi_loopw [42] (fun i wr => ∃ k : Nat, k ≤ n.es.length ∧ i = .int .i64 (k : Int) ∧ Hid (J (pre ++ n.es.take k) wr ∧ Rr n₀ gl C x6 wr ∧ Lk wr gl gv (c + 1)))
      (fun i _ => n.es.length - (intOf i).toNat)
    case atStart => exact ⟨0, Nat.zero_le _, rfl, Lib.hid ⟨by simpa using J6.out, Rr.refl _ _ _ _, L6.out⟩⟩
    case round =>
      obtain ⟨k, hk, rfl, HR⟩ := hrel
      by_cases hlt : k < n.es.length
      · have hkm : decide ((k : Int) < (n.es.length : Int)) = true := by simp; omega
        have hne : n.es ≠ [] := fun e => by rw [e] at hlt; simp at hlt
        obtain ⟨eb, eo, hEA, hec⟩ := enAt_rr (PE.out hne) HR.out.2.1 AE.out hne
        have hxk : n.es[k]? = some n.es[k] := List.getElem?_eq_getElem hlt
        obtain ⟨x, hx⟩ : ∃ x, x = n.es[k] := ⟨_, rfl⟩
        rw [← hx] at hxk
        have HER : Hid (wr.rangeAt eb (eo + k * 8) [.int .i64 x.se, .int .i64 x.st, .int .i64 x.en, .int .i64 x.ad, .int .i64 x.le, .int .i64 x.cn, .int .i64 x.co, .int .u32 x.cr]) := Lib.hid (ent_range (hec k x hxk))
        have HXK := Lib.hid hxk
        clear hec hxk hx hne
        rw [hEA]
        obtain ⟨wa2, hwa2⟩ : ∃ wa2, wa2 = wr.alloc (.cells #[.int .i64 x.se, .int .i64 x.st, .int .i64 x.en, .int .i64 x.ad, .int .i64 x.le, .int .i64 x.cn, .int .i64 x.co, .int .u32 x.cr] 77) := ⟨_, rfl⟩
        have B2a := Lib.hid (alloc_bel hwa2)
        have TG2 : Hid (TG n₀ gl wr wa2) := Lib.hid (TG.of_below B2a.out (HJC.out _ _ HR.out.1).1)
        have J2 : Hid (J (pre ++ n.es.take k) wa2) := Lib.hid (HJT.out _ _ _ HR.out.1 (TG2.out.tl HR.out.2.2))
        have R2 : Hid (Rr n₀ gl C wr wa2) := Lib.hid (TG2.out.rr (HCT.out _ _ _ HR.out.1 (TG2.out.tl HR.out.2.2)))
        have L2 : Hid (Lk wa2 gl gv (c + 1)) := Lib.hid (row_stays HR.out.2.2 B2a.out)
        have G10 : Hid (wa2.heap[wr.heap.size]? = some (.cells #[.int .i64 x.se, .int .i64 x.st, .int .i64 x.en, .int .i64 x.ad, .int .i64 x.le, .int .i64 x.cn, .int .i64 x.co, .int .u32 x.cr] 77 (0, 0))) := Lib.hid (by rw [hwa2]; exact heap_alloc_new _ _)
        have RW2 : Hid (Rr n₀ gl C x6 wa2) := Lib.hid (HR.out.2.1.trans R2.out)
        have N2C : Hid (¬ C wa2 gl) := Lib.hid (not_rr NC6.out (Array.getElem?_eq_some_iff.1 L6.out).1 RW2.out)
        have HW2 := Lib.hid hwa2
        clear hwa2
        have HEL : Hid (n.es.length ≤ es.length) := Lib.hid (by rw [HES.out, List.length_append]; exact Nat.le_add_right _ _)
        obtain ⟨fn, tmps, assign, body, hy, hR⟩ := HY.out (m - 1) (pre ++ n.es.take k) x wa2 J2.out (by have := HNN.out; have := HEL.out; rw [List.length_append, List.length_take]; omega)
        dsimp only [enV] at hy
        have HTS : Hid (pre ++ n.es.take k ++ [x] = pre ++ n.es.take (k + 1)) := Lib.hid (by rw [List.append_assoc, take_snoc HXK.out])
        have hkc : eo + k * 8 + 8 ≤ eo + l'.ec * 8 := by have := ELE.out.1; omega
        gi_wp2_with (first
          | (refine wideIn_load_mid rfl 77 (.tmp 44) rfl eb (eo + k * 8) rfl [.int .i64 x.se, .int .i64 x.st, .int .i64 x.en, .int .i64 x.ad, .int .i64 x.le, .int .i64 x.cn, .int .i64 x.co, .int .u32 x.cr] _ HER.out Try.underlying77 rfl (by kernel_rfl) ?_)
          | (refine wideIn_store_row rfl 77 (.tmp 10) (.tmp 45) rfl wr.heap.size #[.int .i64 x.se, .int .i64 x.st, .int .i64 x.en, .int .i64 x.ad, .int .i64 x.le, .int .i64 x.cn, .int .i64 x.co, .int .u32 x.cr] rfl rfl 77 _ (heap_alloc_new _ _) (by kernel_rfl) rfl (by simp [Value.oneCell']) ?_; rw [World.setRow_alloc_new, ← HW2.out])
          | (refine wideIn_load_row rfl 77 (.tmp 10) rfl wr.heap.size rfl 77 #[.int .i64 x.se, .int .i64 x.st, .int .i64 x.en, .int .i64 x.ad, .int .i64 x.le, .int .i64 x.cn, .int .i64 x.co, .int .u32 x.cr] (0, 0) _ G10.out Try.underlying77 rfl (by kernel_rfl) ?_))
        refine ⟨fun h => (by cases h), hR.mono ?_⟩
        rintro e W3 (⟨rfl, hJ3, hk3⟩ | ⟨rfl, hJx3, hk3⟩)
        · have J3 := Lib.hid hJ3
          have K3 := Lib.hid hk3
          clear hJ3 hk3 hR hy
          have hwk : wrap64 ((k : Int) + 1) = ((k + 1 : Nat) : Int) := by have := HCH.out; have := HLC.out; have := HEL.out; unfold wrap64; omega
          gi_wp2
          go_roundw
          case rel => exact ⟨k + 1, by omega, by rw [← hwk], Lib.hid ⟨by rw [← HTS.out]; exact J3.out, RW2.out.trans K3.out.rr, (K3.out.keep _ _ _ _ L2.out N2C.out).trans L2.out⟩⟩
          case measure => exact meas_nat hlt hwk
        · have J3 := Lib.hid hJx3
          have K3 := Lib.hid hk3
          clear hJx3 hk3 hR hy
          gi_wp2
          go_ret
          have h0 : h = 0 := Classical.byContradiction fun h0 => by
            have h1 := (HPN.out h0).1
            rw [h1] at hlt
            simp at hlt
          have hq : (n.es.take (k + 1)).length = k + 1 := by rw [List.length_take]; omega
          have hcnt : ND h (n.es.take (k + 1)).length = 1 := by
            have e1 := HLC.out
            have e2 := HEL.out
            have e7 : capH 0 = 7 := rfl
            rw [h0, e7] at e1
            rw [hq, h0, ND]
            omega
          refine .inr ⟨rfl, n.es.take (k + 1), n.es.drop (k + 1) ++ parts.flatMap (fun x => x.2.2), by rw [HES.out, ← List.append_assoc, List.take_append_drop], fun e => by rw [e] at hq; simp at hq, by rw [← HTS.out]; exact J3.out, R6.out.trans (RW2.out.trans K3.out.rr), ?_⟩
          rw [hcnt]
          exact (K3.out.keep _ _ _ _ L2.out N2C.out).trans L2.out
      · have hkm : decide ((k : Int) < (n.es.length : Int)) = false := by simp; omega
        obtain rfl : k = n.es.length := by omega
        have J7 : Hid (J (pre ++ n.es) wr) := Lib.hid (by have h1 := HR.out.1; rwa [List.take_length] at h1)
        have R7 := Lib.hid HR.out.2.1
        have L7 := Lib.hid HR.out.2.2
        clear HR
        have k4 : wr.cell? ⟨qa, 3, none⟩ = some (.slice l'.DA n.ds.length l'.dc) := by
          refine nd_cell (P7.out.rr R7.out).blk 3 _ ?_
          rw [HCC.out]
          rfl
        have HDL : Hid (n.ds.length = parts.length) := Lib.hid (by rw [HDS.out, List.length_map])
        gi_wp2
        clear k4 hkm
        gi_loopw [54] (fun i wt => ∃ k : Nat, k ≤ parts.length ∧ i = .int .i64 (k : Int) ∧ Hid (J (pre ++ n.es ++ (parts.take k).flatMap fun x => x.2.2) wt ∧ Rr n₀ gl C x6 wt ∧ (k < parts.length ∨ parts.length = 0 → Lk wt gl gv (c + 1 + k * ND (h - 1) (capH (h - 1)))) ∧ (k = parts.length → 1 ≤ parts.length → Lk wt gl gv (c + ND h es.length))))
          (fun i _ => parts.length - (intOf i).toNat)
        case atStart => exact ⟨0, Nat.zero_le _, rfl, Lib.hid ⟨by simpa using J7.out, R7.out, fun _ => by simpa using L7.out, fun h1 h2 => by omega⟩⟩
        case round =>
          obtain ⟨k, hk, rfl, HR⟩ := hrel
          by_cases hlt2 : k < parts.length
          · have hkm : decide ((k : Int) < (parts.length : Int)) = true := by simp; omega
            obtain ⟨x, hxk⟩ : ∃ x, parts[k]? = some x := ⟨_, List.getElem?_eq_getElem hlt2⟩
            have hh0 : h ≠ 0 := fun e => by have h1 := HP0.out e; rw [h1] at hlt2; simp at hlt2
            obtain ⟨hes0, hfb, h16, _⟩ := HPN.out hh0
            obtain ⟨g', hg'⟩ : ∃ g', h = g' + 1 := ⟨h - 1, by omega⟩
            have hgm : h - 1 = g' := by omega
            rw [hgm] at hfb
            have hx1 := part_one hfb hxk
            have hxc := cnt_part hfb h16 hxk hx1 (Nat.le_refl _)
            have hrest := flat_rest hxk
            have hesf : es = parts.flatMap fun x => x.2.2 := by rw [HES.out, hes0, List.nil_append]
            have hlen : ((parts.take k).flatMap fun x => x.2.2).length + x.2.2.length ≤ es.length := by
              rw [hesf, hrest, List.length_append, List.length_append]
              omega
            have hcb2 : c + 1 + k * ND g' (capH g') + ND g' x.2.2.length ≤ 1000000 := by
              have h1 := ND_mono (g' + 1) hlen
              have h2 := HCB.out
              rw [hg'] at h2
              omega
            have JT := Lib.hid HR.out.1
            have RT := Lib.hid HR.out.2.1
            have LT : Hid (Lk wr gl gv (c + 1 + k * ND g' (capH g'))) := Lib.hid (by have h1 := HR.out.2.2.1 (.inl hlt2); rwa [hgm] at h1)
            have NT : Hid (¬ C wr gl) := Lib.hid (not_rr NC6.out (Array.getElem?_eq_some_iff.1 L6.out).1 RT.out)
            have hne : n.ds ≠ [] := fun e => by have := HDL.out; rw [e] at this; simp at this; omega
            obtain ⟨db, dof, hDA, hdc⟩ := kdAt_rr (PD.out hne) RT.out AD.out hne
            have k7 : wr.cell? ⟨db, dof + k, none⟩ = some (.int .i64 (x.1 : Int)) := hdc k (kidI x.1) (by rw [HDS.out, List.getElem?_map, hxk]; rfl)
            have k6 : wr.cell? ⟨W.heap.size, 1, none⟩ = some (.int .i64 zh) := nd_cell (P4.out.rr RT.out).blk 1 _ rfl
            obtain ⟨z2, hz2⟩ : ∃ z2 : Int, z2 = ((h - 1 + 1 : Nat) : Int) := ⟨_, rfl⟩
            have hzz : wrap64 (zh - 1) = z2 := by have := HZH.out; have := H4.out; unfold wrap64; omega
            have HKC : Hid (CallsIn Fence.wide (m - 1) Try.prog 83 #[.pointer (some ⟨gl, 0, none⟩), .agg #[.int .i64 (x.1 : Int), .int .i64 z2], .func (.yield l) #[] #[]] wr (BeR gl gv n₀ C J Jx g' x.2.2 (pre ++ n.es ++ (parts.take k).flatMap fun x => x.2.2) wr (c + 1 + k * ND g' (capH g')))) := Lib.hid (by
              have h1 := HKI.out x (List.mem_of_getElem? hxk) (m - 1) (pre ++ n.es ++ (parts.take k).flatMap fun x => x.2.2) wr (c + 1 + k * ND g' (capH g')) JT.out (HB.out.trans (by rw [← HN0.out]; exact (R6.out.trans RT.out).bel)) LT.out NT.out (by
                have h2 := HNN.out
                rw [List.length_append, List.length_append, hes0, List.length_nil]
                omega) (by rw [hgm]; exact hcb2)
              rw [← hz2, hgm] at h1
              exact h1)
            have HXC := Lib.hid hxc
            have HFB := Lib.hid hfb
            have HXK := Lib.hid hxk
            have HREST := Lib.hid hrest
            have HESF := Lib.hid hesf
            have HE0 := Lib.hid hes0
            clear hxc hfb hxk hrest hesf hes0 hdc hz2 hcb2 hlen HR hne
            have hdcap : k < l'.dc := by have := ELE.out.2.2.1; have := HDL.out; omega
            rw [hDA, HDL.out]
            gi_wp2
            refine ⟨trivial, fun h => (by cases h), HKC.out.mono ?_⟩
            rintro e W3 (⟨rfl, hJ3, hr3, hl3⟩ | ⟨rfl, q, r, he3, hq3, hJ3, hr3, hl3⟩)
            · have J3 := Lib.hid hJ3
              have R3 := Lib.hid hr3
              have L3 := Lib.hid hl3
              clear hJ3 hr3 hl3 k6 k7 hzz
              have hwk : wrap64 ((k : Int) + 1) = ((k + 1 : Nat) : Int) := by unfold wrap64; omega
              gi_wp2
              go_roundw
              case rel => exact ⟨k + 1, by omega, rfl, Lib.hid ⟨by rw [flat_snoc HXK.out, ← List.append_assoc]; exact J3.out, RT.out.trans R3.out, fun hcase => by
                  rcases hcase with hlt3 | h0
                  · have h1 := L3.out
                    rw [part_full HFB.out HXK.out hlt3] at h1
                    rw [hgm, Nat.succ_mul, ← Nat.add_assoc]
                    exact h1
                  · omega, fun hend _ => by
                  have h1 := L3.out
                  have h2 := HXC.out
                  have h3 : ((parts.take k).flatMap fun x => x.2.2).length + x.2.2.length = es.length := by
                    rw [HESF.out, HREST.out, List.drop_eq_nil_of_le (by omega), List.flatMap_nil, List.append_nil, List.length_append]
                  rw [h3] at h2
                  rw [hg', ← h2]
                  have e1 : c + (1 + k * ND g' (capH g') + ND g' x.2.2.length) = c + 1 + k * ND g' (capH g') + ND g' x.2.2.length := by omega
                  rw [e1]
                  exact h1⟩⟩
              case measure => exact meas_nat hlt2 rfl
            · have J3 := Lib.hid hJ3
              have R3 := Lib.hid hr3
              have L3 := Lib.hid hl3
              have HE3 := Lib.hid he3
              clear hJ3 hr3 hl3 k6 k7 hzz he3
              gi_wp2
              go_ret
              have hq1 : 1 ≤ q.length := by
                cases q with
                | nil => exact absurd rfl hq3
                | cons y q => simp
              have hq2 : q.length ≤ x.2.2.length := by rw [HE3.out, List.length_append]; exact Nat.le_add_right _ _
              have hcq := cnt_part HFB.out h16 HXK.out hq1 hq2
              refine .inr ⟨rfl, ((parts.take k).flatMap fun x => x.2.2) ++ q, r ++ (parts.drop (k + 1)).flatMap (fun x => x.2.2), ?_, fun e => ?_, ?_, R6.out.trans (RT.out.trans R3.out), ?_⟩
              · rw [HESF.out, HREST.out, HE3.out]
                simp only [List.append_assoc]
              · rw [List.append_eq_nil_iff] at e
                exact hq3 e.2
              · have h1 := J3.out
                rw [HE0.out, List.append_nil, List.append_assoc] at h1
                exact h1
              · rw [List.length_append, hg', ← hcq]
                have e1 : c + (1 + k * ND g' (capH g') + ND g' q.length) = c + 1 + k * ND g' (capH g') + ND g' q.length := by omega
                rw [e1]
                exact L3.out
          · have hkm : decide ((k : Int) < (parts.length : Int)) = false := by simp; omega
            obtain rfl : k = parts.length := by omega
            rw [HDL.out]
            gi_wp2
            go_ret
            refine .inl ⟨rfl, ?_, R6.out.trans HR.out.2.1, ?_⟩
            · have h1 := HR.out.1
              rw [List.take_length, List.append_assoc, ← HES.out] at h1
              exact h1
            · by_cases hp : parts.length = 0
              · have h1 := HR.out.2.2.1 (.inr hp)
                have h0 : h = 0 := Classical.byContradiction fun h0 => by have := (HPN.out h0).2.2.2; omega
                have e1 := HLC.out
                have e2 := HL1.out
                have e7 : capH 0 = 7 := rfl
                rw [h0, e7] at e1
                rw [hp, Nat.zero_mul, Nat.add_zero] at h1
                have e3 : ND h es.length = 1 := by rw [h0, ND]; omega
                rw [e3]
                exact h1
              · exact HR.out.2.2.2 (by trivial) (by omega)
  · go_wp2_with fail
    obtain ⟨qa, hqa⟩ : ∃ qa, qa = wd.heap.size := ⟨_, rfl⟩
    obtain ⟨wa, hwa⟩ : ∃ wa, wa = World.alloc wd (.cells #[.bool false, .slice none 0 0, .slice none 0 0, .slice none 0 0] 34) := ⟨_, rfl⟩
    have GA : Hid (wa.heap[qa]? = some (.cells #[.bool false, .slice none 0 0, .slice none 0 0, .slice none 0 0] 34 (0, 0))) := Lib.hid (by rw [hwa, hqa]; exact heap_alloc_new _ _)
    have AB := Lib.hid (alloc_bel hwa)
    have BA := Lib.hid (BD.out.trans (AB.out.mono BD.out.size))
    have QE : Hid (wd.heap.size ≤ qa) := Lib.hid (by rw [hqa]; exact Nat.le_refl _)
    have QL : Hid (wx.heap.size ≤ qa) := Lib.hid (by rw [hqa]; exact BD.out.size)
    rw [← hwa, ← hqa]
    clear hwa hqa
    refine ⟨⟨⟨_, BA.out⟩, rfl⟩, ?_⟩
    try simp only [Act.put, List.setIfInBounds_toArray, List.set_cons_zero, List.set_cons_succ]
    rw [wpWays_one4]
    try simp only [List.map_cons, List.map_nil, opAt, List.getElem?_toArray, List.getElem?_cons_zero, List.getElem?_cons_succ, Option.getD_some]
    refine wpQuiet_nil ?_
    go_wp2_with (go_at_call 95; refine (HN1.out _ BA.out).mono ?_; rintro e w1 ⟨⟨l', rfl, hn1, hw1⟩, hb1⟩; have N1 := Lib.hid hn1; have NW : Hid (NdNew wx.heap.size l') := Lib.hid ⟨fun a h => Nat.le_trans BA.out.size (hw1.e a h), fun a h => Nat.le_trans BA.out.size (hw1.k a h), fun a h => Nat.le_trans BA.out.size (hw1.d a h)⟩; have B1 := Lib.hid (BA.out.trans (hb1.mono BA.out.size)); clear hn1 hw1)
    refine ⟨⟨⟨_, B1.out⟩, rfl⟩, ?_⟩
    try simp only [Act.put, List.setIfInBounds_toArray, List.set_cons_zero, List.set_cons_succ]
    have GA1 := Lib.hid (row_stays GA.out hb1)
    clear GA
    have GA := GA1
    obtain ⟨cc, hcc⟩ : ∃ cc : Array Value, cc = #[.bool lf, .slice l'.EA n.es.length l'.ec, .slice l'.KA n.ks.length l'.kc, .slice l'.DA n.ds.length l'.dc] := ⟨_, rfl⟩
    rw [← hcc]
    have S1 : Hid ((Try.prog.info? 34).map (·.size) = some cc.size) := Lib.hid (by subst hcc; kernel_rfl)
    have S2 : Hid ((#[.bool false, .slice none 0 0, .slice none 0 0, .slice none 0 0] : Array Value).size = cc.size) := Lib.hid (by subst hcc; rfl)
    have S3 : Hid (cc.all (·.oneCell') = true) := Lib.hid (by subst hcc; simp [Value.oneCell'])
    have HCC := Lib.hid hcc
    clear hcc
    rw [wpWays_one4]
    try simp only [List.map_cons, List.map_nil, opAt, List.getElem?_toArray, List.getElem?_cons_zero, List.getElem?_cons_succ, Option.getD_some]
    repeat (first
      | go_big_quiet_step (fail))
    refine wpQuiet_nil ?_
    go_wp2_with (refine wpList_store_row rfl 34 (.tmp 7) (.tmp 24) rfl qa cc rfl rfl 34 _ GA.out S1.out S2.out S3.out ?_)
    have B3 := Lib.hid (below_setRow B1.out QL.out cc)
    have G3 := Lib.hid (setRow_heap _ qa _ cc _ _ GA.out)
    refine ⟨⟨⟨_, B3.out⟩, rfl⟩, ?_⟩
    try simp only [Act.put, List.setIfInBounds_toArray, List.set_cons_zero, List.set_cons_succ]
    rw [wpWays_done4]
    try simp only [List.map_cons, List.map_nil, opAt, List.getElem?_toArray, List.getElem?_cons_zero, List.getElem?_cons_succ, Option.getD_some]
    repeat (first
      | go_big_quiet_step (fail))
    refine wpQuiet_nil ?_
    have N5 : Hid (NodeAt (World.setRow w1 qa cc) n l') := Lib.hid (NodeAt.off GA.out (box_ints ⟨_, _, _, rfl⟩ ⟨_, _, _, rfl⟩ ⟨_, _, _, rfl⟩) (fun b hb => setRow_other _ _ _ _ hb) N1.out)
    obtain ⟨x5, hx5⟩ : ∃ x5, x5 = World.setRow w1 qa cc := ⟨_, rfl⟩
    rw [← hx5] at N5 B3 G3 ⊢
    clear hx5
    have GLW : Hid (gl < W.heap.size) := Lib.hid (Array.getElem?_eq_some_iff.1 HLK0.out).1
    have WXS : Hid (wx.heap.size = W.heap.size + 1) := Lib.hid XSZ.out
    have BW : Hid (Below W.heap.size W x5) := Lib.hid (BX.out.trans (B3.out.mono BX.out.size))
    have TG5 : Hid (TG n₀ gl W x5) := Lib.hid (TG.of_below BW.out (HJC.out _ _ HJ.out).1)
    have J5 : Hid (J pre x5) := Lib.hid (HJT.out _ _ _ HJ.out (TG5.out.tl HLK0.out))
    have C5 : Hid (∀ k, C x5 k → C W k) := Lib.hid (HCT.out _ _ _ HJ.out (TG5.out.tl HLK0.out))
    have R5 : Hid (Rr n₀ gl C W x5) := Lib.hid (TG5.out.rr C5.out)
    have L5 : Hid (Lk x5 gl gv c) := Lib.hid (HLK.out _ B3.out)
    have NC5 : Hid (∀ k, W.heap.size ≤ k → ¬ C x5 k) := Lib.hid (fun k hk hc => by have := (HJC.out _ _ HJ.out).2 k (C5.out k hc); omega)
    have M4 : Hid (Mine gl C x5 W.heap.size #[.int .i64 (a : Int), .int .i64 zh] 63 (0, 0)) := Lib.hid ⟨row_stays GX.out B3.out, NC5.out _ (Nat.le_refl _), by have := GLW.out; omega⟩
    have M7 : Hid (Mine gl C x5 qa cc 34 (0, 0)) := Lib.hid ⟨G3.out, NC5.out _ (by have := QL.out; have := WXS.out; omega), by have := GLW.out; have := QL.out; have := WXS.out; omega⟩
    have ME : Hid (n.es ≠ [] → MineR gl C x5 l'.EA) := Lib.hid (fun hne b off e => by
      obtain ⟨b', off', e', hc⟩ := N5.out.e hne
      rw [e] at e'
      cases e'
      obtain ⟨x, r, hxr⟩ := List.exists_cons_of_ne_nil hne
      obtain ⟨k0, _⟩ := hc 0 x (by rw [hxr]; rfl)
      obtain ⟨o, ho, hoc⟩ := cells_of_cell k0
      have hbw := NW.out.e _ e
      cases o with
      | cells cs T fr => exact ⟨cs, T, fr, ho, NC5.out _ (by have := WXS.out; simp at hbw; omega), by have := GLW.out; have := WXS.out; simp at hbw; omega⟩
      | _ => cases hoc)
    have MD : Hid (n.ds ≠ [] → MineR gl C x5 l'.DA) := Lib.hid (fun hne b off e => by
      obtain ⟨b', off', e', hc⟩ := N5.out.d hne
      rw [e] at e'
      cases e'
      obtain ⟨x, r, hxr⟩ := List.exists_cons_of_ne_nil hne
      have k0 := hc 0 x (by rw [hxr]; rfl)
      obtain ⟨o, ho, hoc⟩ := cells_of_cell k0
      have hbw := NW.out.d _ e
      cases o with
      | cells cs T fr => exact ⟨cs, T, fr, ho, NC5.out _ (by have := WXS.out; simp at hbw; omega), by have := GLW.out; have := WXS.out; simp at hbw; omega⟩
      | _ => cases hoc)
    have k1 : x5.cell? ⟨gl, 1, none⟩ = some (.int .i64 (c : Int)) := nd_cell L5.out 1 _ rfl
    have k2 : x5.frozen? ⟨gl, 1, none⟩ = false := by
      have h1 := L5.out
      unfold Lk at h1
      simp [World.frozen?, h1]
    have ND1 : Hid (1 ≤ ND h es.length) := Lib.hid (ND_pos h HL1.out)
    have hw1 : wrap64 ((c : Int) + 1) = (c : Int) + 1 := by have := HCB.out; have := ND1.out; unfold wrap64; omega
    obtain ⟨x6, hx6⟩ : ∃ x6, x6 = x5.setCell ⟨gl, 1, none⟩ (.int .i64 ((c : Int) + 1)) := ⟨_, rfl⟩
    have GR6 : Hid (x5.grownBy x6 (some gl)) := Lib.hid (by rw [hx6]; exact grown_setC (World.grownBy.refl x5 (some gl)) 1 _)
    have L6 : Hid (Lk x6 gl gv (c + 1)) := Lib.hid (by
      have h1 := heap_setCell_same x5 gl 1 _ _ (.int .i64 ((c : Int) + 1)) L5.out
      rw [hx6]
      exact h1)
    have GLN : Hid (n₀ ≤ gl) := Lib.hid HGL.out
    have TG6 : Hid (TG n₀ gl x5 x6) := Lib.hid ⟨⟨GR6.out.os, GR6.out.tape, GR6.out.output, GR6.out.size, fun k hk => GR6.out.block k (by have := GLW.out; have := BW.out.size; have := GLN.out; omega) (fun e => by cases e; have := GLN.out; omega)⟩, fun k hk hne => GR6.out.block k hk (fun e => hne (by cases e; rfl))⟩
    have J6 : Hid (J pre x6) := Lib.hid (HJT.out _ _ _ J5.out (TG6.out.tl L5.out))
    have R56 : Hid (Rr n₀ gl C x5 x6) := Lib.hid (TG6.out.rr (HCT.out _ _ _ J5.out (TG6.out.tl L5.out)))
    have R6 : Hid (Rr n₀ gl C W x6) := Lib.hid (R5.out.trans R56.out)
    have P4 := Lib.hid (M4.out.rr R56.out)
    have P7 := Lib.hid (M7.out.rr R56.out)
    have PE : Hid (n.es ≠ [] → MineR gl C x6 l'.EA) := Lib.hid (fun hne => (ME.out hne).rr R56.out)
    have PD : Hid (n.ds ≠ [] → MineR gl C x6 l'.DA) := Lib.hid (fun hne => (MD.out hne).rr R56.out)
    have AE : Hid (EnAt x6 l'.EA n.es) := Lib.hid (fun hne => enAt_rr (ME.out hne) R56.out N5.out.e hne)
    have AD : Hid (KdAt x6 l'.DA n.ds) := Lib.hid (fun hne => kdAt_rr (MD.out hne) R56.out N5.out.d hne)
    have ELE : Hid (n.es.length ≤ l'.ec ∧ l'.ec ≤ maxLen ∧ n.ds.length ≤ l'.dc ∧ l'.dc ≤ maxLen) := Lib.hid ⟨N5.out.ec, N5.out.em, N5.out.dc, N5.out.dm⟩
    have NC6 : Hid (¬ C x6 gl) := Lib.hid (not_rr HNG.out (Array.getElem?_eq_some_iff.1 HLK0.out).1 R6.out)
    have k3 : (x5.setCell ⟨gl, 1, none⟩ (.int .i64 ((c : Int) + 1))).cell? ⟨qa, 1, none⟩ = some (.slice l'.EA n.es.length l'.ec) := by
      rw [← hx6]
      refine nd_cell P7.out.blk 1 _ ?_
      rw [HCC.out]
      rfl
    clear ME MD M4 M7 N5 TG5 J5 C5 R5 L5 NC5 TG6 GR6
    gi_wp2
    rw [← hx6]
    clear hx6 k1 k2 k3 hw1 R56
    gi_loopw [42] (fun i wr => ∃ k : Nat, k ≤ n.es.length ∧ i = .int .i64 (k : Int) ∧ Hid (J (pre ++ n.es.take k) wr ∧ Rr n₀ gl C x6 wr ∧ Lk wr gl gv (c + 1)))
      (fun i _ => n.es.length - (intOf i).toNat)
    case atStart => exact ⟨0, Nat.zero_le _, rfl, Lib.hid ⟨by simpa using J6.out, Rr.refl _ _ _ _, L6.out⟩⟩
    case round =>
      obtain ⟨k, hk, rfl, HR⟩ := hrel
      by_cases hlt : k < n.es.length
      · have hkm : decide ((k : Int) < (n.es.length : Int)) = true := by simp; omega
        have hne : n.es ≠ [] := fun e => by rw [e] at hlt; simp at hlt
        obtain ⟨eb, eo, hEA, hec⟩ := enAt_rr (PE.out hne) HR.out.2.1 AE.out hne
        have hxk : n.es[k]? = some n.es[k] := List.getElem?_eq_getElem hlt
        obtain ⟨x, hx⟩ : ∃ x, x = n.es[k] := ⟨_, rfl⟩
        rw [← hx] at hxk
        have HER : Hid (wr.rangeAt eb (eo + k * 8) [.int .i64 x.se, .int .i64 x.st, .int .i64 x.en, .int .i64 x.ad, .int .i64 x.le, .int .i64 x.cn, .int .i64 x.co, .int .u32 x.cr]) := Lib.hid (ent_range (hec k x hxk))
        have HXK := Lib.hid hxk
        clear hec hxk hx hne
        rw [hEA]
        obtain ⟨wa2, hwa2⟩ : ∃ wa2, wa2 = wr.alloc (.cells #[.int .i64 x.se, .int .i64 x.st, .int .i64 x.en, .int .i64 x.ad, .int .i64 x.le, .int .i64 x.cn, .int .i64 x.co, .int .u32 x.cr] 77) := ⟨_, rfl⟩
        have B2a := Lib.hid (alloc_bel hwa2)
        have TG2 : Hid (TG n₀ gl wr wa2) := Lib.hid (TG.of_below B2a.out (HJC.out _ _ HR.out.1).1)
        have J2 : Hid (J (pre ++ n.es.take k) wa2) := Lib.hid (HJT.out _ _ _ HR.out.1 (TG2.out.tl HR.out.2.2))
        have R2 : Hid (Rr n₀ gl C wr wa2) := Lib.hid (TG2.out.rr (HCT.out _ _ _ HR.out.1 (TG2.out.tl HR.out.2.2)))
        have L2 : Hid (Lk wa2 gl gv (c + 1)) := Lib.hid (row_stays HR.out.2.2 B2a.out)
        have G10 : Hid (wa2.heap[wr.heap.size]? = some (.cells #[.int .i64 x.se, .int .i64 x.st, .int .i64 x.en, .int .i64 x.ad, .int .i64 x.le, .int .i64 x.cn, .int .i64 x.co, .int .u32 x.cr] 77 (0, 0))) := Lib.hid (by rw [hwa2]; exact heap_alloc_new _ _)
        have RW2 : Hid (Rr n₀ gl C x6 wa2) := Lib.hid (HR.out.2.1.trans R2.out)
        have N2C : Hid (¬ C wa2 gl) := Lib.hid (not_rr NC6.out (Array.getElem?_eq_some_iff.1 L6.out).1 RW2.out)
        have HW2 := Lib.hid hwa2
        clear hwa2
        have HEL : Hid (n.es.length ≤ es.length) := Lib.hid (by rw [HES.out, List.length_append]; exact Nat.le_add_right _ _)
        obtain ⟨fn, tmps, assign, body, hy, hR⟩ := HY.out (m - 1) (pre ++ n.es.take k) x wa2 J2.out (by have := HNN.out; have := HEL.out; rw [List.length_append, List.length_take]; omega)
        dsimp only [enV] at hy
        have HTS : Hid (pre ++ n.es.take k ++ [x] = pre ++ n.es.take (k + 1)) := Lib.hid (by rw [List.append_assoc, take_snoc HXK.out])
        have hkc : eo + k * 8 + 8 ≤ eo + l'.ec * 8 := by have := ELE.out.1; omega
        gi_wp2_with (first
          | (refine wideIn_load_mid rfl 77 (.tmp 44) rfl eb (eo + k * 8) rfl [.int .i64 x.se, .int .i64 x.st, .int .i64 x.en, .int .i64 x.ad, .int .i64 x.le, .int .i64 x.cn, .int .i64 x.co, .int .u32 x.cr] _ HER.out Try.underlying77 rfl (by kernel_rfl) ?_)
          | (refine wideIn_store_row rfl 77 (.tmp 10) (.tmp 45) rfl wr.heap.size #[.int .i64 x.se, .int .i64 x.st, .int .i64 x.en, .int .i64 x.ad, .int .i64 x.le, .int .i64 x.cn, .int .i64 x.co, .int .u32 x.cr] rfl rfl 77 _ (heap_alloc_new _ _) (by kernel_rfl) rfl (by simp [Value.oneCell']) ?_; rw [World.setRow_alloc_new, ← HW2.out])
          | (refine wideIn_load_row rfl 77 (.tmp 10) rfl wr.heap.size rfl 77 #[.int .i64 x.se, .int .i64 x.st, .int .i64 x.en, .int .i64 x.ad, .int .i64 x.le, .int .i64 x.cn, .int .i64 x.co, .int .u32 x.cr] (0, 0) _ G10.out Try.underlying77 rfl (by kernel_rfl) ?_))
        refine ⟨fun h => (by cases h), hR.mono ?_⟩
        rintro e W3 (⟨rfl, hJ3, hk3⟩ | ⟨rfl, hJx3, hk3⟩)
        · have J3 := Lib.hid hJ3
          have K3 := Lib.hid hk3
          clear hJ3 hk3 hR hy
          have hwk : wrap64 ((k : Int) + 1) = ((k + 1 : Nat) : Int) := by have := HCH.out; have := HLC.out; have := HEL.out; unfold wrap64; omega
          gi_wp2
          go_roundw
          case rel => exact ⟨k + 1, by omega, by rw [← hwk], Lib.hid ⟨by rw [← HTS.out]; exact J3.out, RW2.out.trans K3.out.rr, (K3.out.keep _ _ _ _ L2.out N2C.out).trans L2.out⟩⟩
          case measure => exact meas_nat hlt hwk
        · have J3 := Lib.hid hJx3
          have K3 := Lib.hid hk3
          clear hJx3 hk3 hR hy
          gi_wp2
          go_ret
          have h0 : h = 0 := Classical.byContradiction fun h0 => by
            have h1 := (HPN.out h0).1
            rw [h1] at hlt
            simp at hlt
          have hq : (n.es.take (k + 1)).length = k + 1 := by rw [List.length_take]; omega
          have hcnt : ND h (n.es.take (k + 1)).length = 1 := by
            have e1 := HLC.out
            have e2 := HEL.out
            have e7 : capH 0 = 7 := rfl
            rw [h0, e7] at e1
            rw [hq, h0, ND]
            omega
          refine .inr ⟨rfl, n.es.take (k + 1), n.es.drop (k + 1) ++ parts.flatMap (fun x => x.2.2), by rw [HES.out, ← List.append_assoc, List.take_append_drop], fun e => by rw [e] at hq; simp at hq, by rw [← HTS.out]; exact J3.out, R6.out.trans (RW2.out.trans K3.out.rr), ?_⟩
          rw [hcnt]
          exact (K3.out.keep _ _ _ _ L2.out N2C.out).trans L2.out
      · have hkm : decide ((k : Int) < (n.es.length : Int)) = false := by simp; omega
        obtain rfl : k = n.es.length := by omega
        have J7 : Hid (J (pre ++ n.es) wr) := Lib.hid (by have h1 := HR.out.1; rwa [List.take_length] at h1)
        have R7 := Lib.hid HR.out.2.1
        have L7 := Lib.hid HR.out.2.2
        clear HR
        have k4 : wr.cell? ⟨qa, 3, none⟩ = some (.slice l'.DA n.ds.length l'.dc) := by
          refine nd_cell (P7.out.rr R7.out).blk 3 _ ?_
          rw [HCC.out]
          rfl
        have HDL : Hid (n.ds.length = parts.length) := Lib.hid (by rw [HDS.out, List.length_map])
        gi_wp2
        clear k4 hkm
        gi_loopw [54] (fun i wt => ∃ k : Nat, k ≤ parts.length ∧ i = .int .i64 (k : Int) ∧ Hid (J (pre ++ n.es ++ (parts.take k).flatMap fun x => x.2.2) wt ∧ Rr n₀ gl C x6 wt ∧ (k < parts.length ∨ parts.length = 0 → Lk wt gl gv (c + 1 + k * ND (h - 1) (capH (h - 1)))) ∧ (k = parts.length → 1 ≤ parts.length → Lk wt gl gv (c + ND h es.length))))
          (fun i _ => parts.length - (intOf i).toNat)
        case atStart => exact ⟨0, Nat.zero_le _, rfl, Lib.hid ⟨by simpa using J7.out, R7.out, fun _ => by simpa using L7.out, fun h1 h2 => by omega⟩⟩
        case round =>
          obtain ⟨k, hk, rfl, HR⟩ := hrel
          by_cases hlt2 : k < parts.length
          · have hkm : decide ((k : Int) < (parts.length : Int)) = true := by simp; omega
            obtain ⟨x, hxk⟩ : ∃ x, parts[k]? = some x := ⟨_, List.getElem?_eq_getElem hlt2⟩
            have hh0 : h ≠ 0 := fun e => by have h1 := HP0.out e; rw [h1] at hlt2; simp at hlt2
            obtain ⟨hes0, hfb, h16, _⟩ := HPN.out hh0
            obtain ⟨g', hg'⟩ : ∃ g', h = g' + 1 := ⟨h - 1, by omega⟩
            have hgm : h - 1 = g' := by omega
            rw [hgm] at hfb
            have hx1 := part_one hfb hxk
            have hxc := cnt_part hfb h16 hxk hx1 (Nat.le_refl _)
            have hrest := flat_rest hxk
            have hesf : es = parts.flatMap fun x => x.2.2 := by rw [HES.out, hes0, List.nil_append]
            have hlen : ((parts.take k).flatMap fun x => x.2.2).length + x.2.2.length ≤ es.length := by
              rw [hesf, hrest, List.length_append, List.length_append]
              omega
            have hcb2 : c + 1 + k * ND g' (capH g') + ND g' x.2.2.length ≤ 1000000 := by
              have h1 := ND_mono (g' + 1) hlen
              have h2 := HCB.out
              rw [hg'] at h2
              omega
            have JT := Lib.hid HR.out.1
            have RT := Lib.hid HR.out.2.1
            have LT : Hid (Lk wr gl gv (c + 1 + k * ND g' (capH g'))) := Lib.hid (by have h1 := HR.out.2.2.1 (.inl hlt2); rwa [hgm] at h1)
            have NT : Hid (¬ C wr gl) := Lib.hid (not_rr NC6.out (Array.getElem?_eq_some_iff.1 L6.out).1 RT.out)
            have hne : n.ds ≠ [] := fun e => by have := HDL.out; rw [e] at this; simp at this; omega
            obtain ⟨db, dof, hDA, hdc⟩ := kdAt_rr (PD.out hne) RT.out AD.out hne
            have k7 : wr.cell? ⟨db, dof + k, none⟩ = some (.int .i64 (x.1 : Int)) := hdc k (kidI x.1) (by rw [HDS.out, List.getElem?_map, hxk]; rfl)
            have k6 : wr.cell? ⟨W.heap.size, 1, none⟩ = some (.int .i64 zh) := nd_cell (P4.out.rr RT.out).blk 1 _ rfl
            obtain ⟨z2, hz2⟩ : ∃ z2 : Int, z2 = ((h - 1 + 1 : Nat) : Int) := ⟨_, rfl⟩
            have hzz : wrap64 (zh - 1) = z2 := by have := HZH.out; have := H4.out; unfold wrap64; omega
            have HKC : Hid (CallsIn Fence.wide (m - 1) Try.prog 83 #[.pointer (some ⟨gl, 0, none⟩), .agg #[.int .i64 (x.1 : Int), .int .i64 z2], .func (.yield l) #[] #[]] wr (BeR gl gv n₀ C J Jx g' x.2.2 (pre ++ n.es ++ (parts.take k).flatMap fun x => x.2.2) wr (c + 1 + k * ND g' (capH g')))) := Lib.hid (by
              have h1 := HKI.out x (List.mem_of_getElem? hxk) (m - 1) (pre ++ n.es ++ (parts.take k).flatMap fun x => x.2.2) wr (c + 1 + k * ND g' (capH g')) JT.out (HB.out.trans (by rw [← HN0.out]; exact (R6.out.trans RT.out).bel)) LT.out NT.out (by
                have h2 := HNN.out
                rw [List.length_append, List.length_append, hes0, List.length_nil]
                omega) (by rw [hgm]; exact hcb2)
              rw [← hz2, hgm] at h1
              exact h1)
            have HXC := Lib.hid hxc
            have HFB := Lib.hid hfb
            have HXK := Lib.hid hxk
            have HREST := Lib.hid hrest
            have HESF := Lib.hid hesf
            have HE0 := Lib.hid hes0
            clear hxc hfb hxk hrest hesf hes0 hdc hz2 hcb2 hlen HR hne
            have hdcap : k < l'.dc := by have := ELE.out.2.2.1; have := HDL.out; omega
            rw [hDA, HDL.out]
            gi_wp2
            refine ⟨trivial, fun h => (by cases h), HKC.out.mono ?_⟩
            rintro e W3 (⟨rfl, hJ3, hr3, hl3⟩ | ⟨rfl, q, r, he3, hq3, hJ3, hr3, hl3⟩)
            · have J3 := Lib.hid hJ3
              have R3 := Lib.hid hr3
              have L3 := Lib.hid hl3
              clear hJ3 hr3 hl3 k6 k7 hzz
              have hwk : wrap64 ((k : Int) + 1) = ((k + 1 : Nat) : Int) := by unfold wrap64; omega
              gi_wp2
              go_roundw
              case rel => exact ⟨k + 1, by omega, rfl, Lib.hid ⟨by rw [flat_snoc HXK.out, ← List.append_assoc]; exact J3.out, RT.out.trans R3.out, fun hcase => by
                  rcases hcase with hlt3 | h0
                  · have h1 := L3.out
                    rw [part_full HFB.out HXK.out hlt3] at h1
                    rw [hgm, Nat.succ_mul, ← Nat.add_assoc]
                    exact h1
                  · omega, fun hend _ => by
                  have h1 := L3.out
                  have h2 := HXC.out
                  have h3 : ((parts.take k).flatMap fun x => x.2.2).length + x.2.2.length = es.length := by
                    rw [HESF.out, HREST.out, List.drop_eq_nil_of_le (by omega), List.flatMap_nil, List.append_nil, List.length_append]
                  rw [h3] at h2
                  rw [hg', ← h2]
                  have e1 : c + (1 + k * ND g' (capH g') + ND g' x.2.2.length) = c + 1 + k * ND g' (capH g') + ND g' x.2.2.length := by omega
                  rw [e1]
                  exact h1⟩⟩
              case measure => exact meas_nat hlt2 rfl
            · have J3 := Lib.hid hJ3
              have R3 := Lib.hid hr3
              have L3 := Lib.hid hl3
              have HE3 := Lib.hid he3
              clear hJ3 hr3 hl3 k6 k7 hzz he3
              gi_wp2
              go_ret
              have hq1 : 1 ≤ q.length := by
                cases q with
                | nil => exact absurd rfl hq3
                | cons y q => simp
              have hq2 : q.length ≤ x.2.2.length := by rw [HE3.out, List.length_append]; exact Nat.le_add_right _ _
              have hcq := cnt_part HFB.out h16 HXK.out hq1 hq2
              refine .inr ⟨rfl, ((parts.take k).flatMap fun x => x.2.2) ++ q, r ++ (parts.drop (k + 1)).flatMap (fun x => x.2.2), ?_, fun e => ?_, ?_, R6.out.trans (RT.out.trans R3.out), ?_⟩
              · rw [HESF.out, HREST.out, HE3.out]
                simp only [List.append_assoc]
              · rw [List.append_eq_nil_iff] at e
                exact hq3 e.2
              · have h1 := J3.out
                rw [HE0.out, List.append_nil, List.append_assoc] at h1
                exact h1
              · rw [List.length_append, hg', ← hcq]
                have e1 : c + (1 + k * ND g' (capH g') + ND g' q.length) = c + 1 + k * ND g' (capH g') + ND g' q.length := by omega
                rw [e1]
                exact L3.out
          · have hkm : decide ((k : Int) < (parts.length : Int)) = false := by simp; omega
            obtain rfl : k = parts.length := by omega
            rw [HDL.out]
            gi_wp2
            go_ret
            refine .inl ⟨rfl, ?_, R6.out.trans HR.out.2.1, ?_⟩
            · have h1 := HR.out.1
              rw [List.take_length, List.append_assoc, ← HES.out] at h1
              exact h1
            · by_cases hp : parts.length = 0
              · have h1 := HR.out.2.2.1 (.inr hp)
                have h0 : h = 0 := Classical.byContradiction fun h0 => by have := (HPN.out h0).2.2.2; omega
                have e1 := HLC.out
                have e2 := HL1.out
                have e7 : capH 0 = 7 := rfl
                rw [h0, e7] at e1
                rw [hp, Nat.zero_mul, Nat.add_zero] at h1
                have e3 : ND h es.length = 1 := by rw [h0, ND]; omega
                rw [e3]
                exact h1
              · exact HR.out.2.2.2 (by trivial) (by omega)
end Go.Proofs.Ytgkddhncfaeidaa
