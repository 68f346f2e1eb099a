/- Several texts in one: Pages among bytes: what a written page leaves of the others; page's calls told by pages. A disk beside a view and a change: which blocks are whose. above: nodes are laid, and a node above them. -/
import Derived.Test.YtgkddhncfaeidaaPart18
import Derived.Test.YtgkddhncfaeidaaPart21
set_option linter.unusedSimpArgs false
set_option linter.unusedVariables false
set_option linter.unnecessarySimpa false
namespace Go.Proofs.Ytgkddhncfaeidaa
open Go.RowKit CrcM PageM
set_option linter.unusedVariables false

/-- The bytes of page a. -/
def pageOf (nw : List UInt8) (a : Nat) : List UInt8 := (nw.drop (256 * a)).take 256
theorem rawN_four {nw bs : List UInt8} {a : Nat} (hb : bs.length = 256) : rawN nw (256 * a) bs 4 = nw.take (256 * a) ++ bs ++ nw.drop (256 * a + 256) := by
  unfold rawN
  rw [show 64 * 4 = 256 from rfl, List.take_of_length_le (by omega : bs.length ≤ 256)]
theorem page_same {nw bs : List UInt8} {a : Nat} (h : 256 * a + 256 ≤ nw.length) (hb : bs.length = 256) : pageOf (rawN nw (256 * a) bs 4) a = bs := by
  rw [rawN_four hb]
  unfold pageOf
  rw [List.append_assoc, List.drop_left' (by rw [List.length_take]; omega)]
  exact List.take_left' hb
theorem page_other {nw bs : List UInt8} {a a' : Nat} (h : 256 * a + 256 ≤ nw.length) (hb : bs.length = 256) (hne : a' ≠ a) : pageOf (rawN nw (256 * a) bs 4) a' = pageOf nw a' := by
  rw [rawN_four hb]
  unfold pageOf
  have hl : (nw.take (256 * a)).length = 256 * a := by rw [List.length_take]; omega
  rcases Nat.lt_or_ge a' a with h1 | h1
  · rw [List.append_assoc, List.drop_append_of_le_length (by rw [hl]; omega), List.take_append_of_le_length (by rw [List.length_drop, hl]; omega), List.drop_take, List.take_take, Nat.min_eq_left (by omega)]
  · have hl2 : (nw.take (256 * a) ++ bs).length = 256 * a + 256 := by rw [List.length_append, hl, hb]
    rw [show 256 * a' = (256 * a + 256) + (256 * a' - (256 * a + 256)) by omega, ← List.drop_drop, List.drop_left' hl2, List.drop_drop]
section
variable {w w' : World} {B N g gs gn L cs cn : Nat} {rw : Value} {st nw : List UInt8} {ws : List (Nat × List UInt8)} {on : Bool} {left : Int}

theorem Dk.outer_below (h : Dk w B N g gs gn rw L cs cn st nw ws on left) (ho : OuterX (DkX g gn rw) w w') : Below B w w' := by
  have h1 := h.gB
  have h2 := h.now.parts.1
  have h3 := h.blk
  have h4 := h.NN
  have h5 := h.gN
  refine ⟨ho.os, ho.tape, ho.output, ho.size, fun k hk => ho.block k (by omega) ?_⟩
  rintro (e | e | e)
  · omega
  · omega
  · have := h3 _ e; omega

/-- What a page that was written leaves. -/
def WrotePg (w w' : World) (B g gs gn : Nat) (rw : Value) (L cs cn : Nat) (st nw : List UInt8) (ws : List (Nat × List UInt8)) (a : Nat) (bs : List UInt8) : Prop :=
  (∃ rw' ws' nw', Dk w' B w'.heap.size g gs gn rw' L cs cn st nw' ws' true (-1) ∧ ws'.length = ws.length + 4 ∧ pageOf nw' a = bs ∧ (∀ a', a' ≠ a → pageOf nw' a' = pageOf nw a') ∧ Moved w rw.ownBlock rw'.ownBlock) ∧ OuterX (DkX g gn rw) w w' ∧ Below B w w'

theorem wrotePg (h : Dk w B N g gs gn rw L cs cn st nw ws on left) {a : Nat} {bs : List UInt8} (ha : 256 * a + 256 ≤ L) (hb : bs.length = 256)
    (hd : (∃ rw' ws', Dk w' B w'.heap.size g gs gn rw' L cs cn st (rawN nw (256 * a) bs 4) ws' true (-1) ∧ ws'.length = ws.length + 4 ∧ Moved w rw.ownBlock rw'.ownBlock) ∧ OuterX (DkX g gn rw) w w') : WrotePg w w' B g gs gn rw L cs cn st nw ws a bs := by
  obtain ⟨⟨rw', ws', h1, h2, h3⟩, h4⟩ := hd
  exact ⟨⟨rw', ws', _, h1, h2, page_same (by rw [h.lnw]; exact ha) hb, fun a' hne => page_other (by rw [h.lnw]; exact ha) hb hne, h3⟩, h4, h.outer_below h4⟩

theorem pwrite_pg (h : Dk w B N g gs gn rw L cs cn st nw ws true (-1)) (hws : ws.length ≤ 500) (k : UInt8) (m gg : Nat) (b PP : List UInt8) (eP : PP = putP ⟨k, (m : Int), gg, b⟩) (hk : isK k = true) (hm : m < 512) (hg : gg < 18446744073709551616) (hb : b.length ≤ 238) (hmL : 256 * m + 256 ≤ L) (A : Option Addr) (c : Nat) (hx : BytesAt w A b) (hbc : b.length ≤ c) (C : Array Value) (eC : C = cellsC ⟨k, (m : Int), gg, b⟩ A c) :
    Calls Try.prog 97 #[.agg tab, .pointer (some ⟨g, 0, none⟩), .agg C] w fun e w' => e = .returned (.int .i64 0) ∧ WrotePg w w' B g gs gn rw L cs cn st nw ws m PP := by
  subst eP
  exact (pwrite_ok h hws k m gg b hk hm hg hb hmL A c hx hbc C eC).mono fun e w' ⟨h1, h2⟩ => ⟨h1, wrotePg h hmL (length_putP _ hb) h2⟩

theorem told_put (k : UInt8) (m g : Nat) (b : List UInt8) (hk : isK k = true) (hm : m < 512) (hg : g < 18446744073709551616) (hb : b.length ≤ 238) :
    numOf (putP ⟨k, (m : Int), g, b⟩) = 0 ∧ toldP (putP ⟨k, (m : Int), g, b⟩) = ⟨k, (m : Int), g, b⟩ := by
  have hgd := good_put k m g b hk hm hg hb
  have hl : ¬ (putP ⟨k, (m : Int), g, b⟩).length ≠ 256 := fun h => h (length_putP _ hb)
  refine ⟨?_, ?_⟩
  · simp only [numOf, if_pos hgd, if_neg hl]
  · simp only [toldP, if_pos hgd]
    exact (parse_put k m g b hm hg hb).2
/-- Read where a page's bytes stand: as that kind, at that place. -/
theorem pread_yes (h : Dk w B N g gs gn rw L cs cn st nw ws true left) (za : Int) (a : Nat) (hza : za = (a : Int)) (hin : 256 * a + 256 ≤ L) (k : UInt8) (gg : Nat) (b : List UInt8) (hk : isK k = true) (hg : gg < 18446744073709551616) (hb : b.length ≤ 238)
    (PP : List UInt8) (eP : PP = putP ⟨k, (a : Int), gg, b⟩) (hxs : pageOf nw a = PP) (zk : Int) (hzk : zk = (k.toNat : Int)) :
    Calls Try.prog 104 #[.agg tab, .pointer (some ⟨g, 0, none⟩), .int .i64 za, .int .u8 zk] w fun e w' =>
      (∃ A' c', e = .returned (.tuple #[.agg (cellsC ⟨k, (a : Int), gg, b⟩ A' c'), .int .i64 0]) ∧ BytesAt w' A' b ∧ b.length ≤ c' ∧ c' ≤ maxLen ∧ ∀ a, A' = some a → w.heap.size ≤ a.block) ∧ Below w.heap.size w w' := by
  subst hzk
  have hh := h.hi
  obtain ⟨t1, t2⟩ := told_put k a gg b hk (by omega) hg hb
  rw [← eP] at t1 t2
  refine (pread_any h za a hza hin k PP hxs).mono fun e w' ⟨hr, hb⟩ => ⟨?_, hb⟩
  rcases hr with ⟨_, A', c', h2, h3, h4, h4m, h5⟩ | ⟨h1, _⟩
  · rw [t2] at h2 h3 h4
    exact ⟨A', c', h2, h3, h4, h4m, h5⟩
  · exact absurd ⟨t1, by rw [t2], by rw [t2]⟩ h1
end
end Go.Proofs.Ytgkddhncfaeidaa

namespace Go.Proofs.Ytgkddhncfaeidaa
open Go.RowKit CrcM PageM
set_option linter.unusedVariables false

section
variable {w w' : World} {B N g gs gn L cs cn : Nat} {rw : Value} {st nw : List UInt8} {ws : List (Nat × List UInt8)} {on : Bool} {left : Int}
/-- What leaves the disk's own blocks alone leaves the disk. -/
theorem Dk.keepX (h : Dk w B N g gs gn rw L cs cn st nw ws on left) (hs : w.heap.size ≤ w'.heap.size) (kg : w'.heap[g]? = w.heap[g]?) (ks : w'.heap[gs]? = w.heap[gs]?) (kn : w'.heap[gn]? = w.heap[gn]?) (kw : ∀ k, rw.ownBlock = some k → w'.heap[k]? = w.heap[k]?) : Dk w' B N g gs gn rw L cs cn st nw ws on left :=
  { h with
    head := kg.trans h.head
    stay := h.stay.keep ks
    now := h.now.keep kn
    wait := by
      rcases h.wait.2 with ⟨h0, h1⟩ | ⟨g', cap', cur, hv, hb, hh, hr⟩
      · exact ⟨h.wait.1, .inl ⟨h0, h1⟩⟩
      · exact ⟨h.wait.1, .inr ⟨g', cap', cur, hv, hb, (kw g' (by rw [hv]; rfl)).trans hh, hr⟩⟩
    NN := Nat.le_trans h.NN hs }
theorem Dk.tyN (h : Dk w B N g gs gn rw L cs cn st nw ws on left) : ∃ c, w.heap[gn]? = some (.cells c 5 (0, 0)) := by
  obtain ⟨_, _, _, cur, hc, _⟩ := h.now.parts
  exact ⟨cur, hc⟩
theorem Dk.notX (h : Dk w B N g gs gn rw L cs cn st nw ws on left) {k : Nat} {c : Array Value} {T : TypeId} {fr : Nat × Nat} (hk : w.heap[k]? = some (.cells c T fr)) (h1 : T ≠ 159) (h2 : T ≠ 5 ∨ N ≤ k) (h3 : T ≠ 211) : ¬ DkX g gn rw k := by
  rintro (rfl | rfl | e)
  · have h0 := h.head
    rw [hk] at h0
    cases h0
    exact h1 rfl
  · rcases h2 with h2 | h2
    · obtain ⟨cur, hc⟩ := h.tyN
      rw [hk] at hc
      cases hc
      exact h2 rfl
    · have := h.nN
      omega
  · rcases h.wait.2 with ⟨h0, _⟩ | ⟨q, cap, cur, hv, _, hq, _⟩
    · rw [h0] at e
      simp [Value.ownBlock] at e
    · rw [hv] at e
      obtain rfl : q = k := by simpa [Value.ownBlock] using e
      rw [hk] at hq
      cases hq
      exact h3 rfl
end
end Go.Proofs.Ytgkddhncfaeidaa

namespace Go.Proofs.Ytgkddhncfaeidaa
open Go.RowKit Go.ChangeShapes Go.WideShapes Go.ChangeAt CrcM PageM
set_option linter.unusedVariables false

theorem OutT.thenNew {gc B0 : Nat} {T : TypeId} {w w1 w2 : World} (h : OutT gc B0 T w w1) (hb : Below w.heap.size w1 w2) : OutT gc B0 T w w2 :=
  ⟨hb.os.trans h.os, hb.tape.trans h.tape, hb.output.trans h.output, Nat.le_trans h.size hb.size, fun k hk hg hT => (hb.block k hk).trans (h.block k hk hg hT)⟩
theorem grown_new {B1 B sz n : Nat} {E : TypeId} {v : Value} {us : List Value} {w1 w2 : World} (R : w1.ownsRow B1 E sz v n us) (hB : B ≤ B1) (hs : B ≤ w1.heap.size) (g : w1.grownBy w2 v.ownBlock) : Below B w1 w2 :=
  (Below.refl B w1).grown g hs (fun k hk => by have := (World.ownsRow.lt R k hk).1; omega)

def kidI (a : Nat) : Int := (a : Int)
/-- A row of nodes that lies in a block of nodes. -/
def ChAt (w : World) (A : Option Addr) (pr : List (NodeD × NdL)) : Prop := pr ≠ [] → ∃ (b : Nat) (cs : Array Value), A = some ⟨b, 0, none⟩ ∧ w.heap[b]? = some (.cells cs 34 (0, 0)) ∧ ∀ (i : Nat) (u : Value), (pr.flatMap ndP)[i]? = some u → cs[i]? = some u
theorem ChAt.of_row {w : World} {base c : Nat} {A : Option Addr} {pr : List (NodeD × NdL)} (h : w.ownsRow base 34 4 (.slice A pr.length c) pr.length (pr.flatMap ndP)) : ChAt w A pr := fun hne => by
  rcases h.2 with ⟨_, h0⟩ | ⟨g, cap, cur, hv, hb, hg, _, _, _, hr⟩
  · exact absurd (List.length_eq_zero_iff.1 h0) hne
  · cases hv
    refine ⟨g, cur, rfl, hg, fun i u hu => ?_⟩
    rw [← hr] at hu
    have h1 : i < (cur.toList.take (pr.length * 4)).length := (List.getElem?_eq_some_iff.1 hu).1
    rw [List.getElem?_take_of_lt (by simp at h1; omega)] at hu
    simpa using hu
theorem meas_step2 {M k : Nat} {z : Int} (h : k < M) (e : z = (k : Int) + 1) : M - (intOf (.int .i64 z)).toNat < M - (intOf (.int .i64 (k : Int))).toNat := by
  subst e
  simp only [intOf]
  omega
/-- What stands between two rounds. -/
structure AbS (w wr : World) (gc gv p B0 : Nat) (U V : List Bool) (L : List (Nat × (NodeD × NdL))) (pr : List (NodeD × NdL)) (qs : List Nat) (k : Nat) (lv vK vD : Value) : Prop where
  chg : ChgS wr gc gv p B0 (marks U (qs.take k)) V lv (L ++ (qs.zip pr).take k)
  out : OutT gc B0 176 w wr
  res : ∃ Z, wr.heap[w.heap.size]? = some (.cells Z 34 (0, 0)) ∧ Z.size = 4
  box : wr.heap[w.heap.size + 1]? = some (.cells #[.bool false, .slice none 0 0, vK, vD] 34 (0, 0))
  rK : wr.ownsRow (w.heap.size + 2) 46 2 vK k ((pr.take k).flatMap fun x => kyC (leastK x.1))
  rD : wr.ownsRow (w.heap.size + 2) 3 1 vD k ((qs.take k).map fun a => kdC (kidI a))

theorem chg_ne_box {w : World} {gc gv p B0 k : Nat} {U V : List Bool} {lv : Value} {L : List (Nat × (NodeD × NdL))} (h : ChgS w gc gv p B0 U V lv L) {cs : Array Value} {T : TypeId} {fr : Nat × Nat} (hk : w.heap[k]? = some (.cells cs T fr)) (hne : T ≠ 163) : k ≠ gc := fun e => row_ne_typed h.chg e hk hne

set_option maxRecDepth 100000 in
set_option maxHeartbeats 8000000 in
theorem above_yes (gc gv p B0 : Nat) (U V : List Bool) (lv : Value) (L : List (Nat × (NodeD × NdL))) (hU : U.length = 512) (hV : V.length = 512) (okU : okM (p : Int) U) (okV : okM (p : Int) V) (pr : List (NodeD × NdL)) (qs : List Nat) (hq : qs.length = pr.length) (hp : Picks p V U qs)
    (hL : L.length + pr.length ≤ 100000) (A : Option Addr) (c : Nat) (w : World) (h : ChgS w gc gv p B0 U V lv L) (hA : ChAt w A pr)
    (hn : ∀ x ∈ pr, NodeT w x.1 x.2 ∧ 1 ≤ x.1.size ∧ (x.1.leaf = false → x.1.ks.length = x.1.ds.length)) :
    Calls Try.prog 91 #[.pointer (some ⟨gc, 0, none⟩), .slice A pr.length c] w fun e w' => ∃ (l' : NdL) (lv' : Value), e = .returned (.tuple #[.agg #[.bool false, .slice none 0 0, .slice l'.KA pr.length l'.kc, .slice l'.DA pr.length l'.dc], .int .i64 0]) ∧
      NodeT w' ⟨false, [], pr.map fun x => leastK x.1, qs.map kidI⟩ { l' with EA := none, ec := 0 } ∧ ChgS w' gc gv p B0 (marks U qs) V lv' (L ++ qs.zip pr) ∧ OutT gc B0 176 w w' := by
  obtain ⟨m, hm⟩ : ∃ m, pr.length = m := ⟨_, rfl⟩
  have HM := Lib.hid hm
  have HQ := Lib.hid (hq.trans hm)
  have H := Lib.hid h
  have HU := Lib.hid hU
  have HV := Lib.hid hV
  have HOU := Lib.hid okU
  have HOV := Lib.hid okV
  have HP := Lib.hid hp
  have HL := Lib.hid hL
  have HA := Lib.hid hA
  have HN := Lib.hid hn
  rw [hm] at hL ⊢
  clear hm hq h hU hV okU okV hp hA hn
  go_enter Try.func91, Try.ntmps91
  go_upto_region 2 with fail
  obtain ⟨w2, hw2⟩ : ∃ w2, w2 = (w.alloc (.cells #[.bool false, .slice none 0 0, .slice none 0 0, .slice none 0 0] 34)).alloc (.cells #[.bool false, .slice none 0 0, .slice none 0 0, .slice none 0 0] 34) := ⟨_, rfl⟩
  have HS2 : Hid (w2.heap.size = w.heap.size + 2) := Lib.hid (by rw [hw2]; simp)
  have B2 : Hid (Below w.heap.size w w2) := Lib.hid (by rw [hw2]; exact ((Below.refl _ _).alloc (Nat.le_refl _) _).alloc (by simp) _)
  have G4 : Hid (w2.heap[w.heap.size]? = some (.cells #[.bool false, .slice none 0 0, .slice none 0 0, .slice none 0 0] 34 (0, 0))) := Lib.hid (by rw [hw2]; exact row_stays (heap_alloc_new _ _) ((Below.refl _ _).alloc (Nat.le_refl _) _))
  have G6 : Hid (w2.heap[w.heap.size + 1]? = some (.cells #[.bool false, .slice none 0 0, .slice none 0 0, .slice none 0 0] 34 (0, 0))) := Lib.hid (by rw [hw2, show w.heap.size + 1 = (w.alloc (.cells #[.bool false, .slice none 0 0, .slice none 0 0, .slice none 0 0] 34)).heap.size by simp]; exact heap_alloc_new _ _)
  rw [← hw2]
  clear hw2
  have HST : Hid (AbS w w2 gc gv p B0 U V L pr qs 0 lv (.slice none 0 0) (.slice none 0 0)) := Lib.hid { chg := by simpa [marks] using H.out.below B2.out, out := OutT.of_below B2.out, res := ⟨_, G4.out, rfl⟩, box := G6.out, rK := World.ownsRow_nil _ _ _ _, rD := World.ownsRow_nil _ _ _ _ }
  clear G4 G6 HS2 B2
  go_upto_region 3 with fail
  go_loopw [13] (fun i wr => ∃ k : Nat, k ≤ m ∧ i = .int .i64 (k : Int) ∧ Hid (∃ lv vK vD, AbS w wr gc gv p B0 U V L pr qs k lv vK vD))
    (fun i _ => m - (intOf i).toNat)
  case atStart => exact ⟨0, Nat.zero_le _, rfl, Lib.hid ⟨_, _, _, HST.out⟩⟩
  case round =>
    clear HST
    obtain ⟨k, hk, rfl, HR⟩ := hrel
    obtain ⟨lv, vK, vD, hs⟩ := HR.out
    have HS := Lib.hid hs
    clear HR hs
    have hkw : wrap64 ((k : Int) + 1) = (k : Int) + 1 := by have := hL; unfold wrap64; omega
    by_cases hlt : k < m
    · obtain ⟨x, hx⟩ : ∃ x, pr[k]? = some x := ⟨_, List.getElem?_eq_getElem (by rw [HM.out]; exact hlt)⟩
      obtain ⟨a, ha⟩ : ∃ a, qs[k]? = some a := ⟨_, List.getElem?_eq_getElem (by rw [HQ.out]; exact hlt)⟩
      have HX := Lib.hid hx
      have HAA := Lib.hid ha
      have HXN := Lib.hid (HN.out x (List.mem_of_getElem? hx))
      obtain ⟨b, cs, hAb, hbc, hcs⟩ := HA.out (by intro e; rw [e] at hx; simp at hx)
      subst hAb
      have hbw := (HS.out.out.typed hbc (by decide) (chg_ne_box H.out hbc (by decide))).trans hbc
      have q := fun j u (hu : (ndP x)[j]? = some u) => nd_cell hbw (k * 4 + j) u (hcs _ _ (flat_get lenNdP pr k x j u hx hu))
      have e0 := q 0 _ rfl
      have e1 := q 1 _ rfl
      have e2 := q 2 _ rfl
      have e3 := q 3 _ rfl
      rw [Nat.add_zero] at e0
      have hkm : decide ((k : Int) < (m : Int)) = true := by simp; omega
      clear hx ha q hcs hbw
      have HUK : Hid ((marks U (qs.take k)).length = 512) := Lib.hid (by rw [length_marks]; exact HU.out)
      have HPK : Hid (Picks p V U (qs.take k)) := Lib.hid (by have h0 := HP.out; rw [← List.take_append_drop k qs] at h0; exact h0.append.1)
      have HLY : Hid (∀ W, ChgS W gc gv p B0 (marks U (qs.take k)) V lv (L ++ (qs.zip pr).take k) → Calls Try.prog 93 #[.pointer (some ⟨gc, 0, none⟩), .agg #[.bool x.1.leaf, .slice x.2.EA x.1.es.length x.2.ec, .slice x.2.KA x.1.ks.length x.2.kc, .slice x.2.DA x.1.ds.length x.2.dc]] W fun e w' => e = .returned (.tuple #[.int .i64 (a : Int), .int .i64 0]) ∧ (∃ lv', ChgS w' gc gv p B0 (marks U (qs.take (k + 1))) V lv' (L ++ (qs.zip pr).take (k + 1))) ∧ OutT gc B0 176 W w') := Lib.hid (fun W hW => by
        have hfp := HP.out.at HAA.out
        have hz : (qs.zip pr)[k]? = some (a, x) := by rw [List.getElem?_zip_eq_some]; exact ⟨HAA.out, HX.out⟩
        rw [take_snoc HAA.out, marks_snoc, take_snoc hz, ← List.append_assoc]
        exact lay_yes gc gv p B0 _ V lv _ HUK.out HV.out (okM_marks HPK.out HOU.out HU.out) HOV.out a hfp.1 hfp.2 x (by rw [List.length_append, List.length_take]; omega) W hW)
      go_upto_region 5 with fail
      obtain ⟨wa, hwa⟩ : ∃ wa, wa = wr.alloc (.cells #[.bool x.1.leaf, .slice x.2.EA x.1.es.length x.2.ec, .slice x.2.KA x.1.ks.length x.2.kc, .slice x.2.DA x.1.ds.length x.2.dc] 34) := ⟨_, rfl⟩
      have GA : Hid (wa.heap[wr.heap.size]? = some (.cells #[.bool x.1.leaf, .slice x.2.EA x.1.es.length x.2.ec, .slice x.2.KA x.1.ks.length x.2.kc, .slice x.2.DA x.1.ds.length x.2.dc] 34 (0, 0))) := Lib.hid (by rw [hwa]; exact heap_alloc_new _ _)
      have BA := Lib.hid (alloc_bel hwa)
      have CA := Lib.hid (HS.out.chg.below BA.out)
      rw [← hwa]
      clear hwa e0 e1 e2 e3
      go_upto_region 8 with (first
        | (refine wpList_load_row rfl 34 (.tmp 8) rfl wr.heap.size rfl 34 _ (0, 0) _ GA.out Try.underlying34 rfl (by kernel_rfl) ?_)
        | (go_at_call 93; refine (HLY.out _ CA.out).mono ?_; rintro e w3 ⟨rfl, ⟨lv3, hc3⟩, ho3⟩; have C3 := Lib.hid hc3; have O3 := Lib.hid ho3; clear hc3 ho3))
      have OW3 : Hid (OutT gc B0 176 w w3) := Lib.hid ((HS.out.out.trans (OutT.of_below BA.out)).trans O3.out)
      have G8 := Lib.hid ((O3.out.typed GA.out (by decide) (chg_ne_box CA.out GA.out (by decide))).trans GA.out)
      have hbx := row_stays HS.out.box BA.out
      have G6 := Lib.hid ((O3.out.typed hbx (by decide) (chg_ne_box CA.out hbx (by decide))).trans hbx)
      have G4 : Hid (∃ Z, w3.heap[w.heap.size]? = some (.cells Z 34 (0, 0)) ∧ Z.size = 4) := Lib.hid (by
        obtain ⟨Z, hz, hzs⟩ := HS.out.res
        have hz2 := row_stays hz BA.out
        exact ⟨Z, (O3.out.typed hz2 (by decide) (chg_ne_box CA.out hz2 (by decide))).trans hz2, hzs⟩)
      have RK := Lib.hid (O3.out.row (row_below HS.out.rK BA.out) (by decide) CA.out.chg (by decide))
      have RD := Lib.hid (O3.out.row (row_below HS.out.rD BA.out) (by decide) CA.out.chg (by decide))
      have NX := Lib.hid (HXN.out.1.outT OW3.out H.out.chg)
      clear hbx
      have hXb : ¬ (vK.ownBlock = some (w.heap.size + 1)) := fun e => by have := (World.ownsRow.lt RK.out _ e).1; omega
      have hX8 : ¬ (vK.ownBlock = some wr.heap.size) := fun e => by
        have := (World.ownsRow.lt HS.out.rK _ e).2
        omega
      have g1 : ∀ y : SubX (fun k => vK.ownBlock = some k) w3, y.at_.cell? ⟨w.heap.size + 1, 2, none⟩ = some vK := fun y => nd_cell (y.ok_.heap G6.out hXb) 2 _ rfl
      have g2 : ∀ y : SubX (fun k => vK.ownBlock = some k) w3, y.at_.heap[wr.heap.size]? = some (.cells #[.bool x.1.leaf, .slice x.2.EA x.1.es.length x.2.ec, .slice x.2.KA x.1.ks.length x.2.kc, .slice x.2.DA x.1.ds.length x.2.dc] 34 (0, 0)) := fun y => y.ok_.heap G8.out hX8
      refine region_waysX 7 (fun k => vK.ownBlock = some k) (.one [0, 1, 2] 3 (.one [] 4 (.one [] 5 (.done [6])))) (by kernel_rfl) (by kernel_rfl) ?_
      rintro wd hbd
      have BD := Lib.hid hbd
      clear hbd
      rw [wpWaysT_one]
      try simp only [List.map_cons, List.map_nil, opAt, List.getElem?_toArray, List.getElem?_cons_zero, List.getElem?_cons_succ, Option.getD_some]
      repeat (first
        | (go_big_quiet_want; refine quietX_load_row 34 (.tmp 8) rfl wr.heap.size rfl 34 _ (0, 0) _ g2 Try.underlying34 rfl (by kernel_rfl) ?_; simp only [Act.put, List.setIfInBounds_toArray, List.set_cons_zero, List.set_cons_succ]; go_big_quiet_on)
        | go_big_quiet_step (fail))
      clear g1 g2
      refine wpQuiet_nil ?_
      go_wp2_with (go_at_call 18; refine (least_any x.1 x.2 (leastK x.1) (leastK_has HXN.out.2.1 HXN.out.2.2) _ (NX.out.at_.below BD.out)).mono ?_; rintro e w4 ⟨rfl, hb4⟩; have B4 := Lib.hid (BD.out.trans (hb4.mono BD.out.size)); clear hb4)
      refine ⟨⟨⟨_, outerX_of_below B4.out⟩, rfl⟩, ?_⟩
      try simp only [Act.put, List.setIfInBounds_toArray, List.set_cons_zero, List.set_cons_succ]
      rw [wpWaysT_one]
      try simp only [List.map_cons, List.map_nil, opAt, List.getElem?_toArray, List.getElem?_cons_zero, List.getElem?_cons_succ, Option.getD_some]
      refine wpQuiet_nil ?_
      go_wp2_with fail
      obtain ⟨wz, hwz⟩ : ∃ wz, wz = w4.alloc (.cells #[.int .i64 (leastK x.1).se, .int .i64 (leastK x.1).st] 46) := ⟨_, rfl⟩
      rw [← hwz]
      have BZ := Lib.hid (B4.out.trans ((alloc_bel hwz).mono B4.out.size))
      have CZ : Hid (CellsAt wz (some ⟨w4.heap.size, 0, none⟩) (kyC (leastK x.1))) := Lib.hid (by
        rw [hwz]
        exact fun _ => ⟨_, 0, rfl, fun j hj => by
          rw [Nat.zero_add]
          exact nd_cell (heap_alloc_new w4 _) j _ (by simpa [kyC] using hj)⟩)
      have RZ := Lib.hid (row_below RK.out BZ.out)
      clear hwz
      refine ⟨⟨⟨_, outerX_of_below BZ.out⟩, rfl⟩, ?_⟩
      try simp only [Act.put, List.setIfInBounds_toArray, List.set_cons_zero, List.set_cons_succ]
      rw [wpWaysT_one]
      try simp only [List.map_cons, List.map_nil, opAt, List.getElem?_toArray, List.getElem?_cons_zero, List.getElem?_cons_succ, Option.getD_some]
      refine wpQuiet_nil ?_
      go_wp2_with (at_builtin; refine wpList_append_row rfl (.tmp 28) (.tmp 31) 32 rfl Try.underlying32 (.agg #[.int .i64 0, .int .i64 0]) 16 infoKey_to_any (by rfl) (by decide) _ rfl RZ.out (some ⟨w4.heap.size, 0, none⟩) 1 1 rfl rfl CZ.out (kyC_one _) (by have := hL; omega) (by have := hL; unfold maxLen; omega) (by have := OW3.out.size; have := BZ.out.size; have := HS.out.out.size; have := (Array.getElem?_eq_some_iff.1 G6.out).1; omega) (k + 1) rfl ((pr.take k).flatMap (fun x => kyC (leastK x.1)) ++ kyC (leastK x.1)) rfl ?_; intro A1 c1 x1 R1 g1; have OX : Hid (OuterX (fun k => vK.ownBlock = some k) w3 x1) := Lib.hid ((outerX_of_below BZ.out).grown g1 (fun k hk => .inl hk)); have KX : Hid (KeptNot 46 wz x1) := Lib.hid (KeptNot.of_row RZ.out g1); have NX1 : Hid (Below w.heap.size wz x1) := Lib.hid (grown_new RZ.out (by omega) (by have := OW3.out.size; have := BZ.out.size; omega) g1); have RX := Lib.hid R1; clear R1 g1)
      refine ⟨⟨⟨_, OX.out⟩, rfl⟩, ?_⟩
      try simp only [Act.put, List.setIfInBounds_toArray, List.set_cons_zero, List.set_cons_succ]
      rw [wpWaysT_done]
      simp only [List.map_cons, List.map_nil, List.drop_succ_cons, List.drop_zero, opAt, List.getElem?_toArray, List.getElem?_cons_zero, List.getElem?_cons_succ, Option.getD_some]
      repeat (first
        | go_big_quiet_step (fail))
      refine wpQuiet_nil ?_
      have K1 := Lib.hid ((KeptNot.of_below (E := 46) BZ.out).trans KX.out)
      have BW1 : Hid (Below w.heap.size w3 x1) := Lib.hid ((BZ.out.mono (by have := OW3.out.size; omega)).trans NX1.out)
      have G6x := Lib.hid (K1.out.heap G6.out (by decide))
      have k1 := nd_cell G6x.out 2 _ rfl
      have k2 : x1.frozen? ⟨w.heap.size + 1, 2, none⟩ = false := nd_frozen G6x.out
      simp only [List.getElem_toArray, List.getElem_cons_succ, List.getElem_cons_zero] at k1
      go_upto_region 9 with fail
      obtain ⟨x2, hx2⟩ : ∃ x2, x2 = x1.setCell ⟨w.heap.size + 1, 2, none⟩ (.slice A1 (k + 1) c1) := ⟨_, rfl⟩
      have KS : Hid (KeptNot 34 x1 x2) := Lib.hid (by rw [hx2]; exact KeptNot.of_cell G6x.out _)
      have BS : Hid (Below w.heap.size x1 x2) := Lib.hid (by rw [hx2]; exact bel_cell (Below.refl _ _) (Nat.le_succ _))
      have G6 : Hid (x2.heap[w.heap.size + 1]? = some (.cells #[.bool false, .slice none 0 0, .slice A1 (k + 1) c1, vD] 34 (0, 0))) := Lib.hid (by rw [hx2]; exact heap_setCell_same x1 (w.heap.size + 1) 2 _ _ _ G6x.out)
      have G4 : Hid (∃ Z, x2.heap[w.heap.size]? = some (.cells Z 34 (0, 0)) ∧ Z.size = 4) := Lib.hid (by
        obtain ⟨Z, hz, hzs⟩ := G4.out
        refine ⟨Z, ?_, hzs⟩
        rw [hx2, Below.heap_setCell x1 ⟨w.heap.size + 1, 2, none⟩ _ w.heap.size (by show w.heap.size ≠ w.heap.size + 1; omega)]
        exact K1.out.heap hz (by decide))
      have RK := Lib.hid (KS.out.row RX.out (by decide))
      have RD := Lib.hid (KS.out.row (K1.out.row RD.out (by decide)) (by decide))
      have C5 := Lib.hid (KS.out.chg (K1.out.chg C3.out (by decide) (by decide)) (by decide) (by decide))
      have OW5 : Hid (OutT gc B0 176 w x2) := Lib.hid ((OW3.out.thenNew BW1.out).thenNew BS.out)
      try rw [← hx2]
      clear hx2 K1 BW1 G6x k1 k2 KS BS RX NX1 KX OX RZ CZ BZ B4 BD hXb hX8 C3 O3 OW3 G8 GA BA CA
      have k3 := nd_cell G6.out 3 _ rfl
      simp only [List.getElem_toArray, List.getElem_cons_succ, List.getElem_cons_zero] at k3
      go_upto_region 10 with (at_builtin; refine wpList_append_row rfl (.tmp 35) (.tmp 37) 24 rfl Try.underlying24 (.int .i64 0) 8 infoIntN (by rfl) (by decide) _ rfl (row_below RD.out (alloc_bel rfl)) (some ⟨x2.heap.size, 0, none⟩) 1 1 rfl rfl (cellsAt_new x2 [kdC (kidI a)] 3) (kdC_one [kidI a]) (by have := hL; omega) (by have := hL; unfold maxLen; omega) (by have := (Array.getElem?_eq_some_iff.1 G6.out).1; simp; omega) (k + 1) rfl (((qs.take k).map fun a => kdC (kidI a)) ++ [kdC (kidI a)]) rfl ?_; intro A2 c2 x3 R3 g3; have K3 : Hid (KeptNot 3 x2 x3) := Lib.hid ((KeptNot.of_below (alloc_bel rfl)).trans (KeptNot.of_row (row_below RD.out (alloc_bel rfl)) g3)); have N3 : Hid (Below w.heap.size x2 x3) := Lib.hid (((alloc_bel rfl).mono (by have := (Array.getElem?_eq_some_iff.1 G6.out).1; omega)).trans (grown_new (row_below RD.out (alloc_bel rfl)) (by omega) (by have := (Array.getElem?_eq_some_iff.1 G6.out).1; simp; omega) g3)); have RX := Lib.hid R3; clear R3 g3; have G6y := Lib.hid (K3.out.heap G6.out (by decide)); have k4 := nd_cell G6y.out 3 vD rfl; have k5 : x3.frozen? ⟨w.heap.size + 1, 3, none⟩ = false := nd_frozen G6y.out)
      obtain ⟨x4, hx4⟩ : ∃ x4, x4 = x3.setCell ⟨w.heap.size + 1, 3, none⟩ (.slice A2 (k + 1) c2) := ⟨_, rfl⟩
      have KS : Hid (KeptNot 34 x3 x4) := Lib.hid (by rw [hx4]; exact KeptNot.of_cell G6y.out _)
      have BS : Hid (Below w.heap.size x3 x4) := Lib.hid (by rw [hx4]; exact bel_cell (Below.refl _ _) (Nat.le_succ _))
      have HEND : Hid (∃ lv vK vD, AbS w x4 gc gv p B0 U V L pr qs (k + 1) lv vK vD) := Lib.hid ⟨lv3, .slice A1 (k + 1) c1, .slice A2 (k + 1) c2, {
        chg := KS.out.chg (K3.out.chg C5.out (by decide) (by decide)) (by decide) (by decide)
        out := (OW5.out.thenNew N3.out).thenNew BS.out
        res := by
          obtain ⟨Z, hz, hzs⟩ := G4.out
          refine ⟨Z, ?_, hzs⟩
          rw [hx4, Below.heap_setCell x3 ⟨w.heap.size + 1, 3, none⟩ _ w.heap.size (by show w.heap.size ≠ w.heap.size + 1; omega)]
          exact K3.out.heap hz (by decide)
        box := by rw [hx4]; exact heap_setCell_same x3 (w.heap.size + 1) 3 _ _ _ G6y.out
        rK := by rw [take_snoc HX.out, List.flatMap_append, List.flatMap_cons, List.flatMap_nil, List.append_nil]; exact KS.out.row (K3.out.row RK.out (by decide)) (by decide)
        rD := by rw [take_snoc HAA.out, List.map_append]; exact KS.out.row RX.out (by decide) }⟩
      try rw [← hx4]
      clear hx4 KS BS K3 N3 RX G6y k3 k4 k5 RK RD C5 OW5 G6 G4 NX
      go_wp2_with fail
      go_roundw
      case rel => exact ⟨k + 1, by omega, by go_num, HEND⟩
      case measure => exact meas_step2 hlt rfl
    · obtain rfl : k = m := by omega
      have hkm : decide ((k : Int) < (k : Int)) = false := by simp
      obtain ⟨Z4, hz4, hzs4⟩ := HS.out.res
      have HZ4 := Lib.hid hz4
      have HZS := Lib.hid hzs4
      clear hz4 hzs4
      obtain ⟨AK, cK, rfl⟩ := row_form HS.out.rK
      obtain ⟨AD, cD, rfl⟩ := row_form HS.out.rD
      go_wp2_with (first
        | (refine wpList_load_row rfl 34 (.tmp 6) rfl (w.heap.size + 1) rfl 34 _ (0, 0) _ HS.out.box Try.underlying34 rfl (by kernel_rfl) ?_)
        | (refine wpList_store_row rfl 34 (.tmp 4) (.tmp 41) rfl w.heap.size #[.bool false, .slice none 0 0, .slice AK k cK, .slice AD k cD] rfl rfl 34 Z4 HZ4.out (by kernel_rfl) HZS.out (by simp [Value.oneCell']) ?_))
      have KF := Lib.hid (KeptNot.of_setRow HZ4.out #[.bool false, .slice none 0 0, .slice AK k cK, .slice AD k cD])
      have RKF := Lib.hid (KF.out.row HS.out.rK (by decide))
      have RDF := Lib.hid (KF.out.row HS.out.rD (by decide))
      have ept : pr.take k = pr := List.take_of_length_le (by rw [HM.out]; exact Nat.le_refl _)
      have eqt : qs.take k = qs := List.take_of_length_le (by rw [HQ.out]; exact Nat.le_refl _)
      have ezt : (qs.zip pr).take k = qs.zip pr := List.take_of_length_le (by rw [List.length_zip, HM.out, HQ.out]; omega)
      refine bodyPost_ret (v := .tuple #[.agg #[.bool false, .slice none 0 0, .slice AK k cK, .slice AD k cD], .int .i64 0]) (results_cell_tmpB (p := 4) (u := 5) (ty := 34) rfl _ _ w.heap.size 34 _ (0, 0) _ rfl (setRow_heap _ _ _ _ _ _ HZ4.out) Try.underlying34 rfl (by kernel_rfl)) rfl ?_
      refine ⟨⟨none, 0, AK, cK, AD, cD⟩, lv, rfl, ?_, ?_, ?_⟩
      · have rk : (wr.setRow w.heap.size #[.bool false, .slice none 0 0, .slice AK k cK, .slice AD k cD]).ownsRow (w.heap.size + 2) 46 2 (.slice AK k cK) k ((pr.map fun x => leastK x.1).flatMap kyC) := by
          have h1 := RKF.out
          rw [ept] at h1
          rwa [List.flatMap_map]
        have rd : (wr.setRow w.heap.size #[.bool false, .slice none 0 0, .slice AK k cK, .slice AD k cD]).ownsRow (w.heap.size + 2) 3 1 (.slice AD k cD) k ((qs.map kidI).map kdC) := by
          have h1 := RDF.out
          rw [eqt] at h1
          rw [List.map_map]
          exact h1
        have ck := row_cap rk
        have cd := row_cap rd
        exact { at_ := { e := fun h => absurd rfl h, k := KyAt.of_row rk, d := KdAt.of_row rd, ec := Nat.le_refl _, kc := by show (pr.map fun x => leastK x.1).length ≤ cK; rw [List.length_map, HM.out]; exact ck.1, dc := by show (qs.map kidI).length ≤ cD; rw [List.length_map, HQ.out]; exact cd.1, em := Nat.zero_le _, km := ck.2, dm := cd.2 }
                te := fun h => absurd rfl h
                tk := fun h => HasTy.of_row rk (by intro e; apply h; show (pr.map fun x => leastK x.1) = []; rw [← ept, e]; rfl)
                td := fun h => HasTy.of_row rd (by intro e; apply h; show qs.map kidI = []; rw [← eqt, e]; rfl) }
      · have h1 := KF.out.chg HS.out.chg (by decide) (by decide)
        rw [eqt, ezt] at h1
        exact h1
      · exact HS.out.out.thenNew (below_setRow (Below.refl _ _) (Nat.le_refl _) _)
end Go.Proofs.Ytgkddhncfaeidaa
