/- Several texts in one: Which parts of a sector are kept: package disk's keep. Power goes: Crash of a disk. New disks; the statements' full sectors, and their small test of a torn write: it is true in every world. The statements' small test of a torn write: it is true in every world. Flush of a disk. -/
import Derived.Test.YtmmkmpjhmbocfaaDkWr
import Derived.Test.YtmmkmpjhmbocfaaTail
namespace Go.Proofs.Ytmmkmpjhmbocfaa
open Go.RowKit
set_option linter.unusedVariables false

/-- Behind k parts. -/
def keepN (a : Nat) (old new : List UInt8) : Nat → List UInt8
  | 0 => old
  | k + 1 => if a / 2 ^ k % 2 = 1 then (keepN a old new k).take (8 * k) ++ (new.drop (8 * k)).take 8 ++ ((keepN a old new k).drop (8 * k)).drop 8 else keepN a old new k
theorem length_keepN (a : Nat) (old new : List UInt8) (ho : old.length = 64) (hn : new.length = 64) : ∀ k, k ≤ 8 → (keepN a old new k).length = 64
  | 0, _ => ho
  | k + 1, hk => by
    have ih := length_keepN a old new ho hn k (by omega)
    unfold keepN
    split
    · simp only [List.length_append, List.length_take, List.length_drop, ih, hn]
      omega
    · exact ih

theorem wpList_copy_min {P : Program} {w : World} {ops : Array Oper} {rest : List Oper} {o : Oper} {a : Act} {Q : Exit → Act → World → Prop} (hgd : o.guard = none) (d s : Operand) (dT sT : TypeId)
    (ho : o.op = .call { callee := .builtin .copy, args := #[d, s], argTypes := #[dT, sT] }) (E : TypeId) (hu : P.underlying dT = some (.slice E)) (hsz : (P.info? E).map (·.size) = some 1)
    (base g cap off L c : Nat) (A : Option Addr) (m sc : Nat) (pre tl ys : List UInt8) (hd : a.eval d = .slice (some ⟨g, off, none⟩) L c) (hs : a.eval s = .slice A m sc)
    (hoff : off = pre.length) (hown : OwnB w base g cap E (pre ++ tl)) (hy : BytesAt w A ys) (hm : ys.length = Nat.min m L) (hy0 : ys ≠ []) (hfit : ys.length ≤ tl.length)
    (h : ∀ w', OwnB w' base g cap E (pre ++ ys ++ tl.drop ys.length) → w.grownBy w' (some g) → wpList P ops Q rest (a.put o.dst (goInt (ys.length : Int))) w') : wpList P ops Q (o :: rest) a w := by
  subst hoff
  obtain ⟨ad, rfl, hc⟩ := byteV_cells hy hy0
  obtain ⟨hb, hn, hmx, cur, hh, hs2, ht⟩ := hown.parts
  simp only [List.length_append] at hn
  refine wpList_copy_own hgd d s dT sT ho E hu hsz g pre.length L c ad m sc hd hs cur E hh (ys.map bv) (by rw [List.length_map]; exact hm) hc (by simp; omega) (bv_one ys) ?_
  have hgr : w.grownBy (w.setRow g (cur.toList.take pre.length ++ (ys.map bv ++ cur.toList.drop (pre.length + (ys.map bv).length))).toArray) (some g) :=
    ⟨rfl, rfl, rfl, by simp, fun k hk hne => setRow_other _ _ _ _ (fun e => hne (by rw [e]))⟩
  have := h _ (own_splice hown hh (by have := setRow_heap w g cur (cur.toList.take pre.length ++ (ys.map bv ++ cur.toList.drop (pre.length + (ys.map bv).length))).toArray E (0, 0) hh; rw [List.length_map] at this; rw [List.length_map]; exact this) hfit) hgr
  rw [List.length_map]
  rw [List.length_map] at this
  exact this

theorem bit_and (a k : Nat) (ha : a < 256) : (bits BinOp.and IntKind.u8 ((a : Int) / 2 ^ k) 1 == 1) = decide (a / 2 ^ k % 2 = 1) := by
  have hlt : a / 2 ^ k < 256 := Nat.lt_of_le_of_lt (Nat.div_le_self _ _) ha
  have e : bits BinOp.and IntKind.u8 ((a / 2 ^ k : Nat) : Int) ((1 : Nat) : Int) = ((a / 2 ^ k &&& 1 : Nat) : Int) := u8_and_nat _ _ hlt (by omega)
  rw [Nat.and_one_is_mod] at e
  rw [show ((a : Int) / 2 ^ k) = ((a / 2 ^ k : Nat) : Int) by simp, show (1 : Int) = ((1 : Nat) : Int) from rfl, e]
  rw [Bool.eq_iff_iff, beq_iff_eq, decide_eq_true_eq]
  exact ⟨fun h => Int.ofNat_inj.1 h, fun h => by rw [h]⟩

set_option maxHeartbeats 1000000 in
set_option maxRecDepth 100000 in
theorem keep_any (B g cap c : Nat) (off : Nat) (pre mid post new : List UInt8) (b cb : Nat) (a : Nat) (ha : a < 256) (w : World) (hoff : off = pre.length) (hown : OwnB w B g cap 5 (pre ++ mid ++ post)) (hm : mid.length = 64) (hn : new.length = 64)
    (hx : BytesAt w (some ⟨b, 1, none⟩) new) (hbg : b ≠ g) (hc : 64 ≤ c) (hcm : c ≤ maxLen) :
    Calls Try.prog 50 #[.slice (some ⟨g, off, none⟩) 64 c, .slice (some ⟨b, 1, none⟩) 64 64, .int .u8 (a : Int)] w fun e w' => e = .returned (.tuple #[]) ∧ OwnB w' B g cap 5 (pre ++ keepN a mid new 8 ++ post) ∧ w.grownBy w' (some g) := by
  unfold maxLen at hcm
  have HX := Lib.hid hx
  have HOFF := Lib.hid hoff
  clear hx hoff
  go_enter Try.func50, Try.ntmps50
  go_wp2_with fail
  go_loopw [7] (fun i wr => ∃ k : Nat, k ≤ 8 ∧ i = .int .i64 k ∧ Hid (OwnB wr B g cap 5 (pre ++ keepN a mid new k ++ post)) ∧ Hid (w.grownBy wr (some g))) (fun i _ => 8 - (intOf i).toNat)
  case atStart => exact ⟨0, by omega, rfl, Lib.hid hown, World.grownBy.refl w _⟩
  case round =>
    obtain ⟨k, hk, rfl, ho, hg⟩ := hrel
    by_cases hlt : k < 8
    · have hbit := bit_and a k ha
      have HB := Lib.hid hbit
      clear hbit
      by_cases hb : a / 2 ^ k % 2 = 1
      · have hd : (bits BinOp.and IntKind.u8 ((a : Int) / 2 ^ k) 1 == 1) = true := by rw [HB.out]; simp [hb]
        have HBB := Lib.hid hb
        clear hb
        have hne1 : ¬ c = k * 8 := by omega
        have hne2 : ¬ 64 = k * 8 := by omega
        go_wp2_with fail
        refine region_below_tail 11 wr.heap.size wr (Below.refl _ _) (by kernel_rfl) (by kernel_rfl) ?_
        simp only [List.take_succ_cons, List.take_zero, List.drop_succ_cons, List.drop_zero]
        repeat (go_big_quiet_step (fail))
        refine wpQuiet_nil ?_
        rintro w' ⟨y, rfl⟩
        have hly := length_keepN a mid new hm hn k (by omega)
        have hsp : pre ++ keepN a mid new k ++ post = (pre ++ (keepN a mid new k).take (8 * k)) ++ ((keepN a mid new k).drop (8 * k) ++ post) := by
          conv => lhs; rw [← List.take_append_drop (8 * k) (keepN a mid new k)]
          simp only [List.append_assoc]
        have hoy : OwnB y.at_ B g cap 5 ((pre ++ (keepN a mid new k).take (8 * k)) ++ ((keepN a mid new k).drop (8 * k) ++ post)) := by rw [← hsp]; exact ho.out.keep (y.ok_.block g ho.out.lt)
        have hxy : BytesAt y.at_ (some ⟨b, 1 + k * 8, none⟩) ((new.drop (8 * k)).take 8) := by
          have h1 : BytesAt w (some ⟨b, 1 + k * 8, none⟩) (new.drop (8 * k)) := HX.out.cut (8 * k) _ (fun _ => by rw [Option.map_some]; congr 1; unfold Addr.add; split <;> simp_all [Nat.mul_comm])
          have h2 := bytes_grownA h1 hg.out (fun a ha => by injection ha with ha; subst ha; exact hbg)
          exact (h2.below y.ok_).take 8
        have hlys : ((new.drop (8 * k)).take 8).length = 8 := by simp [hn]; omega
        have hm1 : ((new.drop (8 * k)).take 8).length = Nat.min (64 - k * 8) ((k + 1) * 8 - k * 8) := by rw [hlys, show (k + 1) * 8 - k * 8 = 8 by omega]; exact (Nat.min_eq_right (by omega)).symm
        have hne0 : (new.drop (8 * k)).take 8 ≠ [] := by intro e; rw [e] at hlys; simp at hlys
        have hft : ((new.drop (8 * k)).take 8).length ≤ ((keepN a mid new k).drop (8 * k) ++ post).length := by rw [hlys, List.length_append, List.length_drop, hly]; omega
        have hof : off + k * 8 = (pre ++ (keepN a mid new k).take (8 * k)).length := by rw [List.length_append, List.length_take, hly, HOFF.out]; omega
        have hsz : (Try.prog.info? 5).map (·.size) = some 1 := by kernel_rfl
        have K1 := Lib.hid hoy
        have K2 := Lib.hid hxy
        have K3 := Lib.hid hm1
        have K4 := Lib.hid hne0
        have K5 := Lib.hid hft
        have K6 := Lib.hid hof
        have K7 := Lib.hid hsz
        have K8 := Lib.hid hlys
        have K9 := Lib.hid hly
        clear hoy hxy hm1 hne0 hft hof hsz hsp hlys hly
        go_wp2_with ((with_reducible refine wpList_copy_min rfl (.tmp 21) (.tmp 25) 27 27 rfl 5 Try.underlying27 K7.out B g cap (off + k * 8) ((k + 1) * 8 - k * 8) (c - k * 8) (some ⟨b, 1 + k * 8, none⟩) (64 - k * 8) (64 - k * 8) (pre ++ (keepN a mid new k).take (8 * k)) ((keepN a mid new k).drop (8 * k) ++ post) ((new.drop (8 * k)).take 8) rfl rfl K6.out K1.out K2.out K3.out K4.out K5.out ?_); intro w6 ho6 hg6)
        go_roundw
        case rel =>
          have hgy : wr.grownBy y.at_ (some g) := ⟨y.ok_.os, y.ok_.tape, y.ok_.output, y.ok_.size, fun k hk _ => y.ok_.block k hk⟩
          refine ⟨k + 1, by omega, by go_num, Lib.hid ?_, Lib.hid ((hg.out.trans' hgy).trans' hg6)⟩
          have e : keepN a mid new (k + 1) = (keepN a mid new k).take (8 * k) ++ (new.drop (8 * k)).take 8 ++ ((keepN a mid new k).drop (8 * k)).drop 8 := by conv => lhs; unfold keepN; rw [if_pos HBB.out]
          rw [e]
          rw [K8.out, List.drop_append_of_le_length (by rw [List.length_drop, K9.out]; omega)] at ho6
          simpa only [List.append_assoc] using ho6
        case measure => simp [intOf]; omega
      · have hd : (bits BinOp.and IntKind.u8 ((a : Int) / 2 ^ k) 1 == 1) = false := by rw [HB.out]; simp [hb]
        have HBB := Lib.hid hb
        clear hb
        go_wp2_with fail
        go_roundw
        case rel =>
          refine ⟨k + 1, by omega, by go_num, Lib.hid ?_, hg⟩
          have e : keepN a mid new (k + 1) = keepN a mid new k := by conv => lhs; unfold keepN; rw [if_neg HBB.out]
          rw [e]
          exact ho.out
        case measure => simp [intOf]; omega
    · obtain rfl : k = 8 := by omega
      go_wp2_with fail
      exact bodyPost_end (results_none rfl _ _ _) rfl ⟨rfl, ho.out, hg.out⟩
end Go.Proofs.Ytmmkmpjhmbocfaa

namespace Go.Proofs.Ytmmkmpjhmbocfaa
open Go.RowKit
set_option linter.unusedVariables false

/-- One write that waits, and its fate. -/
def crash1 (S : List UInt8) (p : Nat × List UInt8) : Option (Bool × Nat) → List UInt8
  | some (true, a) => S.take (64 * p.1) ++ keepN a ((S.drop (64 * p.1)).take 64) p.2 8 ++ (S.drop (64 * p.1)).drop 64
  | _ => S
/-- Behind k writes that waited. -/
def crashN (S : List UInt8) (ws : List (Nat × List UInt8)) (fs : List (Bool × Nat)) : Nat → List UInt8
  | 0 => S
  | k + 1 => match ws[k]? with
    | some p => crash1 (crashN S ws fs k) p fs[k]?
    | none => crashN S ws fs k

theorem crashN_succ {S : List UInt8} {ws : List (Nat × List UInt8)} {fs : List (Bool × Nat)} {k : Nat} {p : Nat × List UInt8} (hp : ws[k]? = some p) : crashN S ws fs (k + 1) = crash1 (crashN S ws fs k) p fs[k]? := by
  show (match ws[k]? with | some p => crash1 (crashN S ws fs k) p fs[k]? | none => crashN S ws fs k) = _
  rw [hp]

theorem length_crash1 {S : List UInt8} {p : Nat × List UInt8} {f : Option (Bool × Nat)} (hp : p.2.length = 64) (hi : 64 * p.1 + 64 ≤ S.length) : (crash1 S p f).length = S.length := by
  unfold crash1
  split
  · simp only [List.length_append, List.length_take, List.length_drop]
    rw [length_keepN _ _ _ (by simp; omega) hp 8 (by omega)]
    omega
  · rfl
theorem length_crashN {S : List UInt8} {ws : List (Nat × List UInt8)} {fs : List (Bool × Nat)} (h : ∀ p ∈ ws, p.2.length = 64 ∧ 64 * p.1 + 64 ≤ S.length) : ∀ k, (crashN S ws fs k).length = S.length
  | 0 => rfl
  | k + 1 => by
    have ih := length_crashN (fs := fs) h k
    unfold crashN
    split
    · rename_i p hp
      have := h p (List.mem_of_getElem? hp)
      rw [length_crash1 this.1 (by rw [ih]; exact this.2), ih]
    · exact ih

theorem flat_wr : ∀ (ws : List (Nat × List UInt8)), (∀ p ∈ ws, p.2.length = 64) → ∀ (k : Nat) (p : Nat × List UInt8), ws[k]? = some p → ∀ j, j < 65 → (ws.flatMap wrC)[k * 65 + j]? = (wrC p)[j]?
  | [], _, k, p, hk, j, hj => by simp at hk
  | q :: r, h, k, p, hk, j, hj => by
    have hq : (wrC q).length = 65 := by simp [wrC, h q (by simp)]
    rw [List.flatMap_cons]
    cases k with
    | zero =>
      simp at hk
      subst hk
      rw [List.getElem?_append_left (by omega), Nat.zero_mul, Nat.zero_add]
    | succ k =>
      rw [List.getElem?_append_right (by omega), hq, show (k + 1) * 65 + j - 65 = k * 65 + j by omega]
      exact flat_wr r (fun p hp => h p (by simp [hp])) k p (by simpa using hk) j hj

theorem cell_outer {B N : Nat} {w w' : World} {b i : Nat} {v : Value} (h : w.cell? ⟨b, i, none⟩ = some v) (ho : Outer B N w w') (hb : b < B ∨ N ≤ b) : w'.cell? ⟨b, i, none⟩ = some v :=
  (World.cell?_of_block (a := ⟨b, i, none⟩) (ho.block b (World.block_lt_of_cell? _ _ h) hb)).trans h

section
variable {w w' : World} {B N g gs gn L cs cn : Nat} {rw : Value} {st nw : List UInt8} {ws : List (Nat × List UInt8)} {on : Bool} {left : Int}

/-- The k-th write that waits, in memory. -/
theorem Dk.wr (h : Dk w B N g gs gn rw L cs cn st nw ws on left) (k : Nat) (p : Nat × List UInt8) (hp : ws[k]? = some p) : ∃ gw c, rw = .slice (some ⟨gw, 0, none⟩) ws.length c ∧ ws.length ≤ c ∧ c ≤ maxLen ∧ gw < w.heap.size ∧ w.rangeAt gw (k * 65) (wrC p) := by
  obtain ⟨hk, _⟩ := List.getElem?_eq_some_iff.1 hp
  rcases h.wait.2 with ⟨h0, h1⟩ | ⟨g', cap', cur, hv, hb, hh, hn, hm, _⟩
  · omega
  · subst hv
    refine ⟨g', cap', rfl, hn, hm, (Array.getElem?_eq_some_iff.1 hh).1, fun j v hj => ?_⟩
    obtain ⟨hj1, _⟩ := List.getElem?_eq_some_iff.1 hj
    have h65 : (wrC p).length = 65 := by simp [wrC, (h.fit p (List.mem_of_getElem? hp)).1]
    rw [World.ownsRow.cellAt (g := g') h.wait (k * 65 + j) (by omega), flat_wr ws (fun p hp => (h.fit p hp).1) k p hp j (by omega), hj]

theorem Dk.setStay {st2 : List UInt8} (h : Dk w B N g gs gn rw L cs cn st nw ws on left) (hg : w.grownBy w' (some gs)) (ho : OwnB w' B gs cs 5 st2) (hl : st2.length = L) :
    Dk w' B N g gs gn rw L cs cn st2 nw ws on left := by
  obtain ⟨_, _, _, c2, hh2, _⟩ := h.stay.parts
  have gnn : g ≠ gs := by
    intro e
    rw [← e, h.head] at hh2
    simp at hh2
  have hs := hg.size
  have hN := h.NN
  exact { h with
    head := (hg.block g (Array.getElem?_eq_some_iff.1 h.head).1 (fun e => gnn (by injection e))).trans h.head
    now := h.now.keep (hg.block gn h.now.lt (fun e => h.ne (by injection e with e; exact e.symm)))
    stay := ho
    wait := by
      rcases h.wait.2 with ⟨h0, h1⟩ | ⟨g', cap', cur, hv, hb, hh, hr⟩
      · exact ⟨h.wait.1, .inl ⟨h0, h1⟩⟩
      · refine ⟨h.wait.1, .inr ⟨g', cap', cur, hv, hb, (hg.block g' (Array.getElem?_eq_some_iff.1 hh).1 ?_).trans hh, hr⟩⟩
        intro e
        injection e with e
        rw [e, hh2] at hh
        simp at hh
    lst := hl
    NN := by omega }

theorem Dk.reset (h : Dk w B N g gs gn rw L cs cn st nw ws on left) :
    Dk (((w.setCell ⟨g, 2, none⟩ (.slice none 0 0)).setCell ⟨g, 3, none⟩ (.bool true)).setCell ⟨g, 4, none⟩ (.int .i64 (-1))) B N g gs gn (.slice none 0 0) L cs cn st nw [] true (-1) := by
  have hk : ∀ k, k ≠ g → (((w.setCell ⟨g, 2, none⟩ (.slice none 0 0)).setCell ⟨g, 3, none⟩ (.bool true)).setCell ⟨g, 4, none⟩ (.int .i64 (-1))).heap[k]? = w.heap[k]? := fun k hk =>
    (Below.heap_setCell _ ⟨g, 4, none⟩ _ k hk).trans ((Below.heap_setCell _ ⟨g, 3, none⟩ _ k hk).trans (Below.heap_setCell w ⟨g, 2, none⟩ _ k hk))
  have hgs : gs ≠ g := by
    intro e
    obtain ⟨_, _, _, cur, hh, _⟩ := h.stay.parts
    rw [e, h.head] at hh
    simp at hh
  have hgn : gn ≠ g := by
    intro e
    obtain ⟨_, _, _, cur, hh, _⟩ := h.now.parts
    rw [e, h.head] at hh
    simp at hh
  exact { h with
    head := (heap_setCell_same _ g 4 _ _ _ ((heap_setCell_same _ g 3 _ _ _ ((heap_setCell_same w g 2 _ _ _ h.head).trans rfl)).trans rfl)).trans rfl
    stay := h.stay.keep (hk gs hgs)
    now := h.now.keep (hk gn hgn)
    wait := World.ownsRow_nil _ _ _ _
    wN := fun k hk => by cases hk
    NN := by simpa using h.NN
    fit := fun p hp => by cases hp }
theorem Dk.wider (h : Dk w B N g gs gn rw L cs cn st nw ws on left) {N' : Nat} (h1 : N ≤ N') (h2 : N' ≤ w.heap.size) : Dk w B N' g gs gn rw L cs cn st nw ws on left :=
  { h with gN := by have := h.gN; omega, sN := by have := h.sN; omega, nN := by have := h.nN; omega, wN := fun k hk => by have := h.wN k hk; omega, NN := h2 }

set_option maxHeartbeats 2000000 in
set_option maxRecDepth 100000 in
theorem crash_any (h : Dk w B N g gs gn rw L cs cn st nw ws on left) (hws : ws.length ≤ 1000) (A : Option Addr) (nf c : Nat) (fs : List (Bool × Nat)) (hnf : fs.length = nf) (hnfm : nf ≤ 1000) (hnc : nf ≤ c) (hcm : c ≤ maxLen)
    (hf : ∀ (j : Nat) (p : Bool × Nat), fs[j]? = some p → ∃ b off, A = some ⟨b, off, none⟩ ∧ w.cell? ⟨b, off + j * 2, none⟩ = some (.bool p.1) ∧ w.cell? ⟨b, off + j * 2 + 1, none⟩ = some (.int .u8 (p.2 : Int)) ∧ p.2 < 256)
    (hA : ∀ a, A = some a → a.block < B ∨ N ≤ a.block) :
    Calls Try.prog 11 #[.pointer (some ⟨g, 0, none⟩), .slice A nf c] w fun e w' => e = .returned (.tuple #[]) ∧
      Dk w' B w'.heap.size g gs gn (.slice none 0 0) L cs cn (crashN st ws fs ws.length) (crashN st ws fs ws.length) [] true (-1) ∧ Outer B N w w' := by
  obtain ⟨Aw, cw, hrw⟩ := h.rows
  unfold maxLen at hcm
  have H := Lib.hid h
  have HF := Lib.hid hf
  have HNF := Lib.hid hnf
  have c2 := blk_cell h.head 2 _ rfl
  rw [hrw] at c2
  have HRW := Lib.hid hrw
  clear h hf hnf hrw
  obtain ⟨n, hn⟩ : ∃ n, n = ws.length := ⟨_, rfl⟩
  rw [← hn] at c2 hws
  have HN := Lib.hid hn
  clear hn
  go_enter Try.func11, Try.ntmps11
  go_wp2_with fail
  go_loopw [13] (fun i wr => ∃ k : Nat, k ≤ n ∧ i = .int .i64 k ∧ Hid (Dk wr B N g gs gn rw L cs cn (crashN st ws fs k) nw ws on left) ∧ Hid (Outer B N w wr)) (fun i _ => n - (intOf i).toNat)
  case atStart => exact ⟨0, by omega, rfl, H, Lib.hid (Outer.refl B N w)⟩
  case round =>
    obtain ⟨k, hk, rfl, hr, hO⟩ := hrel
    by_cases hlt : k < n
    · obtain ⟨p, hp⟩ : ∃ p, ws[k]? = some p := ⟨_, List.getElem?_eq_getElem (by have := HN.out; omega)⟩
      obtain ⟨gw, cw', hv, hnc2, hcm2, hgw, hrange⟩ := hr.out.wr k p hp
      have hv2 := HRW.out
      rw [hv] at hv2
      injection hv2 with hv2 _ hv3
      subst hv2 hv3
      have hfit := hr.out.fit p (List.mem_of_getElem? hp)
      have h65 : (wrC p).length = 65 := by simp [wrC, hfit.1]
      unfold maxLen at hcm2
      have hncw : n ≤ cw' := by have := HN.out; omega
      have HP := Lib.hid hp
      have HFIT := Lib.hid hfit
      have hone := wrC_one p
      obtain ⟨C, hC⟩ : ∃ C, C = wrC p := ⟨_, rfl⟩
      rw [← hC] at hrange h65 hone
      have HC := Lib.hid hC
      have HR := Lib.hid hrange
      have s1 : Hid ((Try.prog.info? 106).map (·.size) = some C.length) := Lib.hid (by rw [h65]; kernel_rfl)
      have s2 : Hid ((Try.prog.info? 106).map (·.size) = some C.toArray.size) := Lib.hid (by rw [List.size_toArray, h65]; kernel_rfl)
      have s3 : Hid (Try.zeroCells106.size = C.toArray.size) := Lib.hid (by rw [show C.toArray.size = 65 by rw [List.size_toArray]; exact h65]; kernel_rfl)
      have s4 : Hid (C.toArray.all (·.oneCell') = true) := Lib.hid (by simpa using hone)
      clear hp hfit hC hrange h65 hone hv
      go_upto_region 4 with (first
        | (with_reducible refine wpList_load_mid rfl 106 _ rfl gw (k * 65) rfl C _ HR.out Try.underlying106 rfl s1.out ?_)
        | (refine wpList_store_row rfl 106 (.tmp 5) (.tmp 17) rfl wr.heap.size C.toArray rfl rfl 106 Try.zeroCells106 (heap_alloc_new _ _) s2.out s3.out s4.out ?_; rw [World.setRow_alloc_new]))
      have H1 := Lib.hid (hr.out.below ((Below.refl wr.heap.size wr).alloc (Nat.le_refl _) (.cells C.toArray 106)))
      have O1 := Lib.hid (hO.out.alloc (.cells C.toArray 106))
      have hq : (wr.alloc (.cells C.toArray 106)).heap[wr.heap.size]? = some (.cells C.toArray 106 (0, 0)) := heap_alloc_new _ _
      have hNq : N ≤ wr.heap.size := hr.out.NN
      generalize wr.alloc (.cells C.toArray 106) = W1 at *
      generalize wr.heap.size = q at *
      have HQ := Lib.hid hq
      clear hq c2 s1 s2 s3 s4 HR
      cases hfk : fs[k]? with
      | none =>
        have hkn : nf ≤ k := by have := List.getElem?_eq_none_iff.1 hfk; have := HNF.out; omega
        have hcr : crashN st ws fs (k + 1) = crashN st ws fs k := by rw [crashN_succ HP.out, hfk]; rfl
        have HCR := Lib.hid hcr
        clear hfk hcr
        go_wp2_with fail
        go_roundw
        case rel => exact ⟨k + 1, by omega, by go_num, by rw [HCR.out]; exact H1, O1⟩
        case measure => simp [intOf]; omega
      | some f =>
        obtain ⟨bb, a⟩ := f
        obtain ⟨b, off, rfl, f1, f2, ha⟩ := HF.out k (bb, a) hfk
        have hkn : k < nf := by have := (List.getElem?_eq_some_iff.1 hfk).1; have := HNF.out; omega
        have hbo := hA _ rfl
        have e1 := cell_outer f1 O1.out hbo
        have e2 := cell_outer f2 O1.out hbo
        cases bb with
        | false =>
          have hcr : crashN st ws fs (k + 1) = crashN st ws fs k := by rw [crashN_succ HP.out, hfk]; rfl
          have HCR := Lib.hid hcr
          clear hfk hcr f1 f2
          go_wp2_with fail
          go_roundw
          case rel => exact ⟨k + 1, by omega, by go_num, by rw [HCR.out]; exact H1, O1⟩
          case measure => simp [intOf]; omega
        | true =>
          have hcr : crashN st ws fs (k + 1) = (crashN st ws fs k).take (64 * p.1) ++ keepN a (((crashN st ws fs k).drop (64 * p.1)).take 64) p.2 8 ++ ((crashN st ws fs k).drop (64 * p.1)).drop 64 := by rw [crashN_succ HP.out, hfk]; rfl
          have HCR := Lib.hid hcr
          clear hfk hcr f1 f2
          go_upto_region 5 with fail
          have e0 := blk_cell H1.out.head 0 _ rfl
          have e3 : W1.cell? ⟨q, 0, none⟩ = some (.int .i64 (p.1 : Int)) := blk_cell HQ.out 0 _ (by rw [HC.out]; rfl)
          have l0 := World.block_lt_of_cell? _ _ e0
          have l2 := World.block_lt_of_cell? _ _ e2
          have l3 := World.block_lt_of_cell? _ _ e3
          have g0 : ∀ y : SubW W1.heap.size W1, y.at_.cell? ⟨g, 0, none⟩ = some _ := fun y => (World.cell?_of_block (a := ⟨g, 0, none⟩) (y.ok_.block _ l0)).trans e0
          have g2 : ∀ y : SubW W1.heap.size W1, y.at_.cell? ⟨b, off + k * 2 + 1, none⟩ = some _ := fun y => (World.cell?_of_block (a := ⟨b, off + k * 2 + 1, none⟩) (y.ok_.block _ l2)).trans e2
          have g3 : ∀ y : SubW W1.heap.size W1, y.at_.cell? ⟨q, 0, none⟩ = some _ := fun y => (World.cell?_of_block (a := ⟨q, 0, none⟩) (y.ok_.block _ l3)).trans e3
          obtain ⟨hBs, hcs, hcsm, _⟩ := H1.out.stay.parts
          rw [H1.out.lst] at hcs
          have hLh := H1.out.hi
          have hfi : 64 * p.1 + 64 ≤ L := HFIT.out.2
          refine region_below_tail 14 W1.heap.size W1 (Below.refl _ _) (by kernel_rfl) (by kernel_rfl) ?_
          simp only [List.take_succ_cons, List.take_zero, List.drop_succ_cons, List.drop_zero]
          repeat (go_big_quiet_step ((go_at_call 51; exact calls_sub (Nat.le_refl _) ((sector_any gs cs p.1 hfi hLh hcs hcsm _ rfl).mono fun e w' ⟨h1, h2⟩ => ⟨h1, h2 ▸ Below.refl _ _⟩))))
          refine wpQuiet_nil ?_
          rintro w' ⟨y, rfl⟩
          clear g0 g2 g3
          have hS : (crashN st ws fs k).length = L := H1.out.lst
          have hoy : OwnB y.at_ B gs cs 5 ((crashN st ws fs k).take (64 * p.1) ++ ((crashN st ws fs k).drop (64 * p.1)).take 64 ++ ((crashN st ws fs k).drop (64 * p.1)).drop 64) := by
            rw [List.append_assoc, List.take_append_drop, List.take_append_drop]
            exact H1.out.stay.keep (y.ok_.block gs H1.out.stay.lt)
          have hpre : 64 * p.1 = ((crashN st ws fs k).take (64 * p.1)).length := by rw [List.length_take, hS]; omega
          have hmid : (((crashN st ws fs k).drop (64 * p.1)).take 64).length = 64 := by rw [List.length_take, List.length_drop, hS]; omega
          have hqy : y.at_.heap[q]? = some (.cells C.toArray 106 (0, 0)) := (y.ok_.block q l3).trans HQ.out
          have hxq : BytesAt y.at_ (some ⟨q, 1, none⟩) p.2 := fun _ => ⟨q, 1, rfl, fun j hj => by
            refine blk_cell hqy (1 + j) _ ?_
            rw [HC.out, Nat.add_comm 1 j]
            simp [wrC, hj, bv]⟩
          have hqg : q ≠ gs := by have := H1.out.sN; omega
          have m1 : 64 ≤ cs - 64 * p.1 := by omega
          have m2 : cs - 64 * p.1 ≤ maxLen := by omega
          have K1 := Lib.hid hoy
          have K2 := Lib.hid hpre
          have K3 := Lib.hid hmid
          have K4 := Lib.hid hxq
          have K5 := Lib.hid hS
          clear hoy hpre hmid hxq hS hqy
          go_wp2_with (go_at_call 50; (with_reducible refine (keep_any B gs cs (cs - 64 * p.1) (64 * p.1) _ _ _ p.2 q 0 a ha y.at_ K2.out K1.out K3.out HFIT.out.1 K4.out hqg m1 m2).mono ?_); rintro e w6 ⟨rfl, ho6, hg6⟩)
          go_roundw
          case rel =>
            refine ⟨k + 1, by omega, by go_num, Lib.hid ?_, Lib.hid ?_⟩
            · rw [HCR.out]
              refine (H1.out.below y.ok_).setStay hg6 ho6 ?_
              simp only [List.length_append, List.length_take, List.length_drop, K5.out]
              rw [length_keepN _ _ _ K3.out HFIT.out.1 8 (by omega)]
              omega
            · exact (O1.out.then y.ok_ O1.out.size).grown hg6 (fun k hk => by injection hk with hk; have := H1.out.stay.parts.1; have := H1.out.sN; omega)
          case measure => simp [intOf]; omega
    · obtain rfl : k = n := by omega
      have hloopend := hlt
      go_upto_region 7 with fail
      have e0 := blk_cell hr.out.head 0 _ rfl
      have e1 := blk_cell hr.out.head 1 _ rfl
      have l0 := World.block_lt_of_cell? _ _ e0
      have g0 : ∀ y : SubW wr.heap.size wr, y.at_.cell? ⟨g, 0, none⟩ = some _ := fun y => (World.cell?_of_block (a := ⟨g, 0, none⟩) (y.ok_.block _ l0)).trans e0
      have g1 : ∀ y : SubW wr.heap.size wr, y.at_.cell? ⟨g, 1, none⟩ = some _ := fun y => (World.cell?_of_block (a := ⟨g, 1, none⟩) (y.ok_.block _ l0)).trans e1
      refine region_below_tail 8 wr.heap.size wr (Below.refl _ _) (by kernel_rfl) (by kernel_rfl) ?_
      simp only [List.take_succ_cons, List.take_zero, List.drop_succ_cons, List.drop_zero]
      repeat (go_big_quiet_step (fail))
      refine wpQuiet_nil ?_
      rintro w' ⟨y, rfl⟩
      clear g0 g1
      have D1 := Lib.hid (hr.out.below y.ok_)
      have O1 := Lib.hid (hO.out.then y.ok_ hO.out.size)
      have K1 : Hid (OwnB y.at_ B gn cn 5 ([] ++ nw)) := Lib.hid D1.out.now
      have K2 : Hid (BytesAt y.at_ (some ⟨gs, 0, none⟩) (crashN st ws fs k)) := Lib.hid D1.out.stay.bytes
      have K3 : Hid ((crashN st ws fs k).length = L) := Lib.hid D1.out.lst
      have K4 : Hid (L ≤ nw.length) := Lib.hid (by rw [D1.out.lnw]; exact Nat.le_refl _)
      have K5 : Hid (0 = ([] : List UInt8).length) := Lib.hid rfl
      have K6 : Hid ((Try.prog.info? 5).map (·.size) = some 1) := Lib.hid (by kernel_rfl)
      go_upto_region 8 with ((with_reducible refine wpList_copy_bytes rfl (.tmp 48) (.tmp 52) 27 27 rfl 5 Try.underlying27 K6.out B gn cn 0 L cn (some ⟨gs, 0, none⟩) L cs [] nw (crashN st ws fs k) rfl rfl K5.out K1.out K2.out K3.out (Nat.le_refl _) K4.out ?_); intro w6 ho6 hg6)
      have hnil : nw.drop L = [] := List.drop_eq_nil_of_le (by rw [D1.out.lnw]; exact Nat.le_refl _)
      rw [hnil, List.nil_append, List.append_nil] at ho6
      have D6 := Lib.hid (D1.out.setNow hg6 ho6 K3.out)
      have O6 := Lib.hid (O1.out.grown hg6 (fun k hk => by injection hk with hk; have := hr.out.now.parts.1; have := hr.out.nN; omega))
      have k2 := blk_cell D6.out.head 2 _ rfl
      have k3 := blk_cell D6.out.head 3 _ rfl
      have k4 := blk_cell D6.out.head 4 _ rfl
      have z2 : w6.frozen? ⟨g, 2, none⟩ = false := by simp [World.frozen?, D6.out.head]
      have z3 : w6.frozen? ⟨g, 3, none⟩ = false := by simp [World.frozen?, D6.out.head]
      have z4 : w6.frozen? ⟨g, 4, none⟩ = false := by simp [World.frozen?, D6.out.head]
      clear ho6 hg6 c2 e0 e1
      go_wp2_with fail
      have hr := D6.out.reset
      have hOo : Outer B N w (((w6.setCell ⟨g, 2, none⟩ (.slice none 0 0)).setCell ⟨g, 3, none⟩ (.bool true)).setCell ⟨g, 4, none⟩ (.int .i64 (-1))) :=
        O6.out.grown (grown_setC (grown_setC (grown_setC (World.grownBy.refl w6 (some g)) 2 _) 3 _) 4 _) (fun k hk => by injection hk with hk; have := H.out.gB; have := H.out.gN; omega)
      refine bodyPost_end (results_none rfl _ _ _) rfl ⟨rfl, ?_, hOo⟩
      rw [← HN.out]
      exact hr.wider hr.NN (Nat.le_refl _)
end
end Go.Proofs.Ytmmkmpjhmbocfaa

namespace Go.Proofs.Ytmmkmpjhmbocfaa
open Go.RowKit
set_option linter.unusedVariables false

theorem made8 {w : World} {base k : Nat} {v : Value} (h : w.ownsRow base 5 1 v k (madeCells (Value.int .u8 0).cells (k * 1)).toList) : OwnS w base v 5 (List.replicate k 0) := by
  have e : (madeCells (Value.int .u8 0).cells (k * 1)).toList = (List.replicate k (0 : UInt8)).map bv := by
    have h0 : (Value.int .u8 0).cells = #[.int .u8 0] := rfl
    rw [h0, Nat.mul_one]
    simp only [madeCells, List.map_replicate, bv]
    simp [Nat.mod_one, List.map_const']
  rw [e] at h
  unfold OwnS
  rw [List.length_replicate]
  exact h

set_option maxRecDepth 100000 in
theorem new_ok (p : Nat) (h1 : 8 ≤ p) (h2 : p ≤ 512) (w : World) :
    Calls Try.prog 20 #[.int .i64 (p : Int)] w fun e w' => ∃ g gs gn cs cn, e = .returned (.tuple #[.pointer (some ⟨g, 0, none⟩), .int .i64 0]) ∧ Dk w' w.heap.size w'.heap.size g gs gn (.slice none 0 0) (p * 256) cs cn (List.replicate (p * 256) 0) (List.replicate (p * 256) 0) [] true (-1) ∧ Below w.heap.size w w' := by
  obtain ⟨iu, hiu, hz0, hz1, hz2⟩ := info_parts infoU8
  obtain ⟨n, hn⟩ : ∃ n, n = p * 256 := ⟨_, rfl⟩
  have hz3 : iu.bytes * n ≤ 281474976710656 := by rw [hz2]; omega
  have hni : ((p : Int) * 256) = (n : Int) := by omega
  have hL := Lib.hid hni
  have hN := Lib.hid hn
  clear hni
  rw [← hn]
  clear hn
  go_enter Try.func20, Try.ntmps20
  go_wp2_with (first
    | (at_make; refine wpList_make_full _ rfl (.tmp 11) (.tmp 11) 27 rfl w.heap.size 5 iu (.int .u8 0) 1 Try.underlying27 hiu hz0 hz1 .i64 .i64 ((p : Int) * 256) ((p : Int) * 256) n rfl rfl hL.out hL.out hz3 (by have := hN.out; unfold maxLen; omega) (Nat.le_refl _) ?_; intro w1 ho1 hg1; have ho2 := made8 ho1; have hb1 : Below w.heap.size w w1 := (Below.refl _ _).grown hg1 (Nat.le_refl _) (fun k hk => by cases hk))
    | (go_at_call 28; (refine (load_ok _ n n (List.replicate n 0) w1 ho2.bytes (by simp) (by have := hN.out; omega) (by have := hN.out; omega) (by have := hN.out; omega) (fun h => by cases h)).mono ?_); rintro e w2 ⟨g, gs, gn, cs, cn, rfl, hD, hb2⟩))
  go_ret2
  exact ⟨g, gs, gn, cs, cn, rfl, { hD with stay := OwnS.mono hD.stay hb1.size, now := OwnS.mono hD.now hb1.size, gB := Nat.le_trans hb1.size hD.gB, wait := World.ownsRow_nil _ _ _ _ }, hb1.trans (hb2.mono hb1.size)⟩

theorem below_setC'' {w wr : World} {i : Nat} {v : Value} (h : Below w.heap.size w wr) : Below w.heap.size w (wr.setCell ⟨w.heap.size, i, none⟩ v) :=
  h.trans ⟨rfl, rfl, rfl, by simp, fun k hk => Below.heap_setCell wr ⟨w.heap.size, i, none⟩ v k (fun e => by simp at e; omega)⟩

set_option maxRecDepth 100000 in
theorem full_any (b : Nat) (hb : b < 256) (w : World) :
    Calls Try.prog 54 #[.int .u8 (b : Int)] w fun e w' => ∃ q, e = .returned (.slice (some ⟨q, 0, none⟩) 64 64) ∧ OwnB w' w.heap.size q 64 5 (List.replicate 64 (UInt8.ofNat b)) ∧ Below w.heap.size w w' := by
  obtain ⟨iu, hiu, hz0, hz1, hz2⟩ := info_parts infoU8
  have hz3 : iu.bytes * 64 ≤ 281474976710656 := by rw [hz2]; omega
  have hbv : Hid ((UInt8.ofNat b).toNat = b) := Lib.hid (by rw [UInt8.toNat_ofNat']; omega)
  go_enter Try.func54, Try.ntmps54
  go_wp2_with (at_make; refine wpList_make_full _ rfl (.const (.int .i64 64)) (.const (.int .i64 64)) 27 rfl w.heap.size 5 iu (.int .u8 0) 1 Try.underlying27 hiu hz0 hz1 .i64 .i64 64 64 64 rfl rfl rfl rfl hz3 (by unfold maxLen; omega) (Nat.le_refl _) ?_; intro w1 ho1 hg1; have ho2 := made8 ho1; have hb1 : Below w.heap.size w w1 := (Below.refl _ _).grown hg1 (Nat.le_refl _) (fun k hk => by cases hk))
  obtain ⟨q, hq, hob, _⟩ := ho2.ownB (by omega)
  injection hq with hq
  injection hq with hq
  subst hq
  go_loopw [4] (fun i wr => ∃ k : Nat, k ≤ 64 ∧ i = .int .i64 k ∧ Hid (OwnB wr w.heap.size w.heap.size 64 5 (List.replicate k (UInt8.ofNat b) ++ List.replicate (64 - k) 0)) ∧ Hid (Below w.heap.size w wr)) (fun i _ => 64 - (intOf i).toNat)
  case atStart => exact ⟨0, by omega, rfl, Lib.hid hob, Lib.hid hb1⟩
  case round =>
    obtain ⟨k, hk, rfl, ho, hB⟩ := hrel
    by_cases hlt : k < 64
    · have hq : k < (List.replicate k (UInt8.ofNat b) ++ List.replicate (64 - k) (0 : UInt8)).length := by simp; omega
      have hcell := ho.out.cellAt k hq
      have hfr := ho.out.frozenAt k
      have HQ := Lib.hid hq
      clear hq
      go_wp2_with fail
      go_roundw
      case rel =>
        refine ⟨k + 1, by omega, by go_num, Lib.hid ?_, Lib.hid (below_setC'' hB.out)⟩
        have hst := ho.out.stored k HQ.out (UInt8.ofNat b)
        rw [hbv.out] at hst
        have e : (List.replicate k (UInt8.ofNat b) ++ List.replicate (64 - k) (0 : UInt8)).set k (UInt8.ofNat b) = List.replicate (k + 1) (UInt8.ofNat b) ++ List.replicate (64 - (k + 1)) 0 := by
          rw [show 64 - k = (64 - (k + 1)) + 1 by omega, List.replicate_succ, List.set_append_right _ _ (by simp)]
          simp [List.replicate_succ']
        rw [e] at hst
        exact hst
      case measure => simp [intOf]; omega
    · obtain rfl : k = 64 := by omega
      go_wp2_with fail
      go_ret
      exact ⟨w.heap.size, rfl, by simpa using ho.out, hB.out⟩
end Go.Proofs.Ytmmkmpjhmbocfaa

namespace Go.Proofs.Ytmmkmpjhmbocfaa
open Go.RowKit
set_option linter.unusedVariables false

def tornB : List UInt8 := crashN (List.replicate 2048 0) [(3, List.replicate 64 255)] [(true, 1)] 1
theorem torn7 : ((tornB.drop 192).take 64).getD 7 0 = 255 := by decide +kernel
theorem torn8 : ((tornB.drop 192).take 64).getD 8 0 = 0 := by decide +kernel
theorem torn_len : ((tornB.drop 192).take 64).length = 64 := by decide +kernel
theorem torn_cells {w : World} {B r c : Nat} (h : OwnB w B r c 5 ((tornB.drop 192).take 64)) : w.cell? ⟨r, 7, none⟩ = some (.int .u8 255) ∧ w.cell? ⟨r, 8, none⟩ = some (.int .u8 0) := by
  have h7 := h.cellAt 7 (by rw [torn_len]; omega)
  have h8 := h.cellAt 8 (by rw [torn_len]; omega)
  rw [torn7] at h7
  rw [torn8] at h8
  exact ⟨h7, h8⟩

section
variable {w : World} {B N g gs gn L cs cn : Nat} {rw : Value} {st nw : List UInt8} {ws : List (Nat × List UInt8)} {on : Bool} {left : Int}
theorem read3 (h : Dk w B N g gs gn rw L cs cn st nw ws true left) :
    Calls Try.prog 12 #[.pointer (some ⟨g, 0, none⟩), .int .i64 3] w fun e w' => ∃ r c, e = .returned (.tuple #[.slice (some ⟨r, 0, none⟩) 64 c, .int .i64 0]) ∧ OwnB w' w.heap.size r c 5 ((nw.drop 192).take 64) ∧ Below w.heap.size w w' := by
  refine (read_ok h 3 3 rfl (by have := h.lo; omega)).mono ?_
  rintro e w' ⟨A, c, rfl, ho, hb⟩
  obtain ⟨r, rfl, hob, _⟩ := ho.ownB (by omega)
  exact ⟨r, c, rfl, hob, hb⟩
theorem write3 (h : Dk w B N g gs gn rw L cs cn st nw [] true (-1)) (q : Nat) (hq : N ≤ q) (B' cap : Nat) (bs : List UInt8) (ho : OwnB w B' q cap 5 bs) (hl : bs.length = 64) :
    Calls Try.prog 14 #[.pointer (some ⟨g, 0, none⟩), .int .i64 3, .slice (some ⟨q, 0, none⟩) 64 64] w fun e w' => e = .returned (.int .i64 0) ∧
      (∃ rw', Dk w' B w'.heap.size g gs gn rw' L cs cn st (putAt nw 3 bs) [(3, bs)] true (-1)) ∧ Below B w w' :=
  (write_ok h (by decide) (by decide) (by decide) 3 (by have := h.lo; omega) (some ⟨q, 0, none⟩) 64 bs ho.bytes hl (fun a ha => by injection ha with ha; subst ha; exact .inr hq) (-1) (by decide) (by simp)).mono fun e w' ⟨h1, h2, h3, _⟩ => ⟨h1, h2, h3⟩
theorem crash3 (h : Dk w B N g gs gn rw L cs cn st nw [(3, List.replicate 64 255)] on left) (f : Nat) (hf : w.heap[f]? = some (.cells #[.bool true, .int .u8 1] 95 (0, 0))) (hN : N ≤ f) :
    Calls Try.prog 11 #[.pointer (some ⟨g, 0, none⟩), .slice (some ⟨f, 0, none⟩) 1 1] w fun e w' => e = .returned (.tuple #[]) ∧
      Dk w' B w'.heap.size g gs gn (.slice none 0 0) L cs cn (crashN st [(3, List.replicate 64 255)] [(true, 1)] 1) (crashN st [(3, List.replicate 64 255)] [(true, 1)] 1) [] true (-1) ∧ Below B w w' :=
  (crash_any h (by simp) (some ⟨f, 0, none⟩) 1 1 [(true, 1)] rfl (by omega) (by omega) (by unfold maxLen; omega) (fun j p hj => by
    match j, hj with
    | 0, hj =>
      simp at hj
      subst hj
      exact ⟨f, 0, rfl, blk_cell hf 0 _ rfl, blk_cell hf 1 _ rfl, by omega⟩) (fun a ha => by injection ha with ha; subst ha; exact .inr hN)).mono fun e w' ⟨h1, h2, h3⟩ => ⟨h1, h2, h3.below (by have := h.NN; have := h.gB; have := h.gN; omega)⟩
end

theorem new8 (w : World) :
    Calls Try.prog 20 #[.int .i64 8] w fun e w' => ∃ g gs gn cs cn, e = .returned (.tuple #[.pointer (some ⟨g, 0, none⟩), .int .i64 0]) ∧ Dk w' w.heap.size w'.heap.size g gs gn (.slice none 0 0) 2048 cs cn (List.replicate 2048 0) (List.replicate 2048 0) [] true (-1) ∧ Below w.heap.size w w' :=
  new_ok 8 (by omega) (by omega) w
theorem full255 (w : World) :
    Calls Try.prog 54 #[.int .u8 255] w fun e w' => ∃ q, e = .returned (.slice (some ⟨q, 0, none⟩) 64 64) ∧ OwnB w' w.heap.size q 64 5 (List.replicate 64 255) ∧ Below w.heap.size w w' :=
  full_any 255 (by omega) w

set_option maxHeartbeats 1000000 in
set_option maxRecDepth 100000 in
theorem tears_any (w : World) : Calls Try.prog 13 #[] w fun e w' => e = .returned (.bool true) ∧ Below w.heap.size w w' := by
  go_enter Try.func13, Try.ntmps13
  go_wp2_with (first
    | (go_at_call 20; (refine (new8 _).mono ?_); rintro e w1 ⟨g, gs, gn, cs, cn, rfl, d1, hb1⟩; have D1 := Lib.hid d1; clear d1)
    | (go_at_call 54; (refine (full255 _).mono ?_); rintro e w2 ⟨q, rfl, ho2, hb2⟩; have D2 := Lib.hid (D1.out.below hb2); have hq2 := ho2.parts.1)
    | (go_at_call 14; (refine (write3 D2.out q hq2 _ _ _ ho2 (by simp)).mono ?_); rintro e w3 ⟨rfl, ⟨rw3, d3⟩, hb3⟩; have D3 := Lib.hid (d3.below ((Below.refl w3.heap.size w3).alloc (Nat.le_refl _) (.cells #[.bool true, .int .u8 1] 95))); clear d3)
    | (go_at_call 11; (refine (crash3 D3.out w3.heap.size (heap_alloc_new _ _) (Nat.le_refl _)).mono ?_); rintro e w5 ⟨rfl, d5, hb5⟩; have D5 := Lib.hid d5; clear d5)
    | (go_at_call 12; (refine (read3 D5.out).mono ?_); rintro e w6 ⟨r, c6, rfl, ho6, hb6⟩; have D6 := Lib.hid (D5.out.below hb6); obtain ⟨k7, k8⟩ := torn_cells ho6)
    | (go_at_call 18; (refine (waiting_any D6.out 0 rfl).mono ?_); rintro e w7 ⟨rfl, rfl⟩)
    | (go_at_call 19; (refine (image_any D6.out).mono ?_); rintro e w8 ⟨A8, c8, rfl, ho8, hb8⟩))
  go_ret
  have s1 := hb1.size
  have s2 := hb2.size
  have s3 := hb3.size
  have s5 := hb5.size
  have s6 := hb6.size
  simp at s5
  have h3 : Below w.heap.size w w3 := (hb1.trans (hb2.mono s1)).trans hb3
  have h4 : Below w.heap.size w (w3.alloc (.cells #[.bool true, .int .u8 1] 95)) := h3.alloc h3.size _
  exact ⟨rfl, (h4.trans hb5).trans ((hb6.mono (by omega)).trans (hb8.mono (by omega)))⟩
end Go.Proofs.Ytmmkmpjhmbocfaa

namespace Go.Proofs.Ytmmkmpjhmbocfaa
open Go.RowKit
set_option linter.unusedVariables false

/-- Behind k writes that waited: all of them are there to stay. -/
def flushN (S : List UInt8) (ws : List (Nat × List UInt8)) : Nat → List UInt8
  | 0 => S
  | k + 1 => match ws[k]? with
    | some p => putAt (flushN S ws k) p.1 p.2
    | none => flushN S ws k
theorem flushN_succ {S : List UInt8} {ws : List (Nat × List UInt8)} {k : Nat} {p : Nat × List UInt8} (hp : ws[k]? = some p) : flushN S ws (k + 1) = putAt (flushN S ws k) p.1 p.2 := by
  show (match ws[k]? with | some p => putAt (flushN S ws k) p.1 p.2 | none => flushN S ws k) = _
  rw [hp]

section
variable {w w' : World} {B N g gs gn L cs cn : Nat} {rw : Value} {st nw : List UInt8} {ws : List (Nat × List UInt8)} {on : Bool} {left : Int}

theorem Dk.noWait (h : Dk w B N g gs gn rw L cs cn st nw ws on left) :
    Dk (w.setCell ⟨g, 2, none⟩ (.slice none 0 0)) B N g gs gn (.slice none 0 0) L cs cn st nw [] on left := by
  have hk : ∀ k, k ≠ g → (w.setCell ⟨g, 2, none⟩ (.slice none 0 0)).heap[k]? = w.heap[k]? := fun k hk => Below.heap_setCell w ⟨g, 2, none⟩ _ k hk
  have hgs : gs ≠ g := by
    intro e
    obtain ⟨_, _, _, cur, hh, _⟩ := h.stay.parts
    rw [e, h.head] at hh
    simp at hh
  have hgn : gn ≠ g := by
    intro e
    obtain ⟨_, _, _, cur, hh, _⟩ := h.now.parts
    rw [e, h.head] at hh
    simp at hh
  exact { h with
    head := (heap_setCell_same w g 2 _ _ _ h.head).trans rfl
    stay := h.stay.keep (hk gs hgs)
    now := h.now.keep (hk gn hgn)
    wait := World.ownsRow_nil _ _ _ _
    wN := fun k hk => by cases hk
    NN := by simpa using h.NN
    fit := fun p hp => by cases hp }

set_option maxHeartbeats 2000000 in
set_option maxRecDepth 100000 in
theorem flush_ok (h : Dk w B N g gs gn rw L cs cn st nw ws true left) (hne : left ≠ 0) (hl1 : -1 ≤ left) (hlm : left ≤ 9223372036854775807) (l' : Int) (hl' : stepped left = l') (hws : ws.length ≤ 1000) :
    Calls Try.prog 15 #[.pointer (some ⟨g, 0, none⟩)] w fun e w' => e = .returned (.int .i64 0) ∧
      Dk w' B w'.heap.size g gs gn (.slice none 0 0) L cs cn (flushN st ws ws.length) nw [] true l' ∧ Outer B N w w' := by
  obtain ⟨Aw, cw, hrw⟩ := h.rows
  have H := Lib.hid h
  have HL := Lib.hid hl'
  have HRW := Lib.hid hrw
  clear h hrw hl'
  obtain ⟨n, hn⟩ : ∃ n, n = ws.length := ⟨_, rfl⟩
  rw [← hn] at hws
  have HN := Lib.hid hn
  clear hn
  go_enter Try.func15, Try.ntmps15
  go_wp2_with (first
    | (go_at_call 49; refine (refused_on H.out).mono ?_; rintro e w1 ⟨rfl, rfl⟩)
    | (go_at_call 55; refine (step_yes H.out hne hl1 hlm l' HL.out).mono ?_; rintro e w1 ⟨rfl, h1, hg1, hz1⟩; have H1 := Lib.hid h1; have HG1 := Lib.hid hg1; have c2 := blk_cell h1.head 2 _ rfl; rw [HRW.out, ← HN.out] at c2; clear h1 hz1 hg1))
  have O1 : Hid (Outer B N w w1) := Lib.hid ((Outer.refl B N w).grown HG1.out (fun k hk => by injection hk with hk; have := H.out.gB; have := H.out.gN; omega))
  go_loopw [19] (fun i wr => ∃ k : Nat, k ≤ n ∧ i = .int .i64 k ∧ Hid (Dk wr B N g gs gn rw L cs cn (flushN st ws k) nw ws true l') ∧ Hid (Outer B N w wr)) (fun i _ => n - (intOf i).toNat)
  case atStart => exact ⟨0, by omega, rfl, H1, O1⟩
  case round =>
    obtain ⟨k, hk, rfl, hr, hO⟩ := hrel
    by_cases hlt : k < n
    · obtain ⟨p, hp⟩ : ∃ p, ws[k]? = some p := ⟨_, List.getElem?_eq_getElem (by have := HN.out; omega)⟩
      obtain ⟨gw, cw', hv, hnc2, hcm2, hgw, hrange⟩ := hr.out.wr k p hp
      have hv2 := HRW.out
      rw [hv] at hv2
      injection hv2 with hv2 _ hv3
      subst hv2 hv3
      have hfit := hr.out.fit p (List.mem_of_getElem? hp)
      have h65 : (wrC p).length = 65 := by simp [wrC, hfit.1]
      unfold maxLen at hcm2
      have hncw : n ≤ cw' := by have := HN.out; omega
      have HP := Lib.hid hp
      have HFIT := Lib.hid hfit
      have hone := wrC_one p
      obtain ⟨C, hC⟩ : ∃ C, C = wrC p := ⟨_, rfl⟩
      rw [← hC] at hrange h65 hone
      have HC := Lib.hid hC
      have HR := Lib.hid hrange
      have s1 : Hid ((Try.prog.info? 106).map (·.size) = some C.length) := Lib.hid (by rw [h65]; kernel_rfl)
      have s2 : Hid ((Try.prog.info? 106).map (·.size) = some C.toArray.size) := Lib.hid (by rw [List.size_toArray, h65]; kernel_rfl)
      have s3 : Hid (Try.zeroCells106.size = C.toArray.size) := Lib.hid (by rw [show C.toArray.size = 65 by rw [List.size_toArray]; exact h65]; kernel_rfl)
      have s4 : Hid (C.toArray.all (·.oneCell') = true) := Lib.hid (by simpa using hone)
      clear hp hfit hC hrange h65 hone hv
      go_upto_region 9 with (first
        | (with_reducible refine wpList_load_mid rfl 106 _ rfl gw (k * 65) rfl C _ HR.out Try.underlying106 rfl s1.out ?_)
        | (refine wpList_store_row rfl 106 (.tmp 5) (.tmp 22) rfl wr.heap.size C.toArray rfl rfl 106 Try.zeroCells106 (heap_alloc_new _ _) s2.out s3.out s4.out ?_; rw [World.setRow_alloc_new]))
      have D1 := Lib.hid (hr.out.below ((Below.refl wr.heap.size wr).alloc (Nat.le_refl _) (.cells C.toArray 106)))
      have O2 := Lib.hid (hO.out.alloc (.cells C.toArray 106))
      have hq : (wr.alloc (.cells C.toArray 106)).heap[wr.heap.size]? = some (.cells C.toArray 106 (0, 0)) := heap_alloc_new _ _
      have hNq : N ≤ wr.heap.size := hr.out.NN
      generalize wr.alloc (.cells C.toArray 106) = W1 at *
      generalize wr.heap.size = q at *
      have HQ := Lib.hid hq
      clear hq c2 s1 s2 s3 s4 HR
      have e0 := blk_cell D1.out.head 0 _ rfl
      have e3 : W1.cell? ⟨q, 0, none⟩ = some (.int .i64 (p.1 : Int)) := blk_cell HQ.out 0 _ (by rw [HC.out]; rfl)
      have l0 := World.block_lt_of_cell? _ _ e0
      have l3 := World.block_lt_of_cell? _ _ e3
      have g0 : ∀ y : SubW W1.heap.size W1, y.at_.cell? ⟨g, 0, none⟩ = some _ := fun y => (World.cell?_of_block (a := ⟨g, 0, none⟩) (y.ok_.block _ l0)).trans e0
      have g3 : ∀ y : SubW W1.heap.size W1, y.at_.cell? ⟨q, 0, none⟩ = some _ := fun y => (World.cell?_of_block (a := ⟨q, 0, none⟩) (y.ok_.block _ l3)).trans e3
      obtain ⟨hBs, hcs, hcsm, _⟩ := D1.out.stay.parts
      rw [D1.out.lst] at hcs
      have hLh := D1.out.hi
      have hfi : 64 * p.1 + 64 ≤ L := HFIT.out.2
      refine region_below_tail 9 W1.heap.size W1 (Below.refl _ _) (by kernel_rfl) (by kernel_rfl) ?_
      simp only [List.take_succ_cons, List.take_zero, List.drop_succ_cons, List.drop_zero, Act.put]
      repeat (go_big_quiet_step ((go_at_call 51; exact calls_sub (Nat.le_refl _) ((sector_any gs cs p.1 hfi hLh hcs hcsm _ rfl).mono fun e w' ⟨h1, h2⟩ => ⟨h1, h2 ▸ Below.refl _ _⟩))))
      refine wpQuiet_nil ?_
      rintro w' ⟨y, rfl⟩
      clear g0 g3
      have hS : (flushN st ws k).length = L := D1.out.lst
      have hoy : OwnB y.at_ B gs cs 5 ((flushN st ws k).take (64 * p.1) ++ (flushN st ws k).drop (64 * p.1)) := by
        rw [List.take_append_drop]
        exact D1.out.stay.keep (y.ok_.block gs D1.out.stay.lt)
      have hpre : 64 * p.1 = ((flushN st ws k).take (64 * p.1)).length := by rw [List.length_take, hS]; omega
      have hft : 64 ≤ ((flushN st ws k).drop (64 * p.1)).length := by rw [List.length_drop, hS]; omega
      have hqy : y.at_.heap[q]? = some (.cells C.toArray 106 (0, 0)) := (y.ok_.block q l3).trans HQ.out
      have hxq : BytesAt y.at_ (some ⟨q, 1, none⟩) p.2 := fun _ => ⟨q, 1, rfl, fun j hj => by
        refine blk_cell hqy (1 + j) _ ?_
        rw [HC.out, Nat.add_comm 1 j]
        simp [wrC, hj, bv]⟩
      have K1 := Lib.hid hoy
      have K2 := Lib.hid hpre
      have K3 := Lib.hid hft
      have K4 := Lib.hid hxq
      have K5 := Lib.hid hS
      have K6 : Hid ((Try.prog.info? 5).map (·.size) = some 1) := Lib.hid (by kernel_rfl)
      have K7 := Lib.hid HFIT.out.1
      clear hoy hpre hft hxq hS hqy
      go_wp2_with ((with_reducible refine wpList_copy_bytes rfl (.tmp 29) (.tmp 31) 27 27 rfl 5 Try.underlying27 K6.out B gs cs (64 * p.1) 64 (cs - 64 * p.1) (some ⟨q, 1, none⟩) 64 64 ((flushN st ws k).take (64 * p.1)) ((flushN st ws k).drop (64 * p.1)) p.2 rfl rfl K2.out K1.out K4.out K7.out (Nat.le_refl _) K3.out ?_); intro w6 ho6 hg6)
      go_roundw
      case rel =>
        refine ⟨k + 1, by omega, by go_num, Lib.hid ?_, Lib.hid ?_⟩
        · rw [flushN_succ HP.out]
          refine (D1.out.below y.ok_).setStay hg6 ho6 ?_
          rw [length_putAt (by rw [K5.out]; exact hfi) K7.out, K5.out]
        · exact (O2.out.then y.ok_ O2.out.size).grown hg6 (fun k hk => by injection hk with hk; have := D1.out.stay.parts.1; have := D1.out.sN; omega)
      case measure => simp [intOf]; omega
    · obtain rfl : k = n := by omega
      have k2 := blk_cell hr.out.head 2 _ rfl
      have z2 : wr.frozen? ⟨g, 2, none⟩ = false := by simp [World.frozen?, hr.out.head]
      go_wp2_with fail
      go_ret
      have hr2 := hr.out.noWait
      refine ⟨rfl, ?_, hO.out.grown (grown_setC (World.grownBy.refl wr (some g)) 2 _) (fun k hk => by injection hk with hk; have := H.out.gB; have := H.out.gN; omega)⟩
      rw [← HN.out]
      exact hr2.wider hr2.NN (Nat.le_refl _)
end
end Go.Proofs.Ytmmkmpjhmbocfaa
