/- Several texts in one: The reference's disk in memory (DiskActs): sectors that stay, writes that wait; what leaves it as it was; a step of power; Read. The reference's disk: Read; Image. The reference's disk: Write. The reference's disk: Flush. The reference's disk: Crash. The reference's disk: New. -/
import Derived.Test.YtmmkmpjhmbocfaaPartD
import Derived.Test.YtmmkmpjhmbocfaaDkX
import Derived.Test.YtmmkmpjhmbocfaaDkWs
import Derived.Test.YtmmkmpjhmbocfaaWays4
import Derived.Great.BuildSlice
import Derived.Test.YtmmkmpjhmbocfaaTail
namespace Go.Proofs.Ytmmkmpjhmbocfaa
open Go.ChangeShapes Go.WideShapes Go.ChangeAt Go.RowKit
set_option linter.unusedVariables false

/-- A sector's bytes. -/
def secN (F : List UInt8) (i : Nat) : List UInt8 := (F.drop (64 * i)).take 64
theorem length_secN {F : List UInt8} {i : Nat} (h : 64 * i + 64 ≤ F.length) : (secN F i).length = 64 := by
  unfold secN
  rw [List.length_take, List.length_drop]
  omega
theorem secN_get (F : List UInt8) (i k : Nat) : (secN F i)[k]? = if k < 64 then F[64 * i + k]? else none := by
  unfold secN
  rw [List.getElem?_take]
  split
  · rw [List.getElem?_drop]
  · rfl
theorem putAt_get (F : List UInt8) (i : Nat) (bs : List UInt8) (hb : bs.length = 64) (h : 64 * i + 64 ≤ F.length) (j : Nat) : (putAt F i bs)[j]? = if 64 * i ≤ j ∧ j < 64 * i + 64 then bs[j - 64 * i]? else F[j]? := by
  unfold putAt
  have hl : (F.take (64 * i)).length = 64 * i := by rw [List.length_take]; omega
  by_cases h1 : j < 64 * i
  · rw [if_neg (by omega), List.append_assoc, List.getElem?_append_left (by omega), List.getElem?_take, if_pos h1]
  · by_cases h2 : j < 64 * i + 64
    · rw [if_pos (by omega), List.append_assoc, List.getElem?_append_right (by omega), List.getElem?_append_left (by omega), hl]
    · rw [if_neg (by omega), List.getElem?_append_right (by rw [List.length_append]; omega), List.length_append, hl, hb, List.drop_drop, List.getElem?_drop]
      congr 1
      omega
theorem secN_put (F : List UInt8) (i : Nat) (bs : List UInt8) (hb : bs.length = 64) (h : 64 * i + 64 ≤ F.length) (j : Nat) : secN (putAt F i bs) j = if j = i then bs else secN F j := by
  apply List.ext_getElem?
  intro k
  rw [secN_get]
  by_cases hk : k < 64
  · rw [if_pos hk, putAt_get F i bs hb h]
    by_cases hj : j = i
    · rw [if_pos hj, if_pos (by omega)]
      congr 1
      omega
    · rw [if_neg hj, if_neg (by omega), secN_get, if_pos hk]
  · rw [if_neg hk]
    by_cases hj : j = i
    · rw [if_pos hj, List.getElem?_eq_none (by omega)]
    · rw [if_neg hj, secN_get, if_neg hk]

/-- The cells of the writes that wait. -/
def rdW (ws : List (Nat × List UInt8)) (ks : List Value) : List Value := (ws.zip ks).flatMap (fun p => [.int .i64 (p.1.1 : Int), p.2])
theorem length_rdW : ∀ (ws : List (Nat × List UInt8)) (ks : List Value), ks.length = ws.length → (rdW ws ks).length = ws.length * 2
  | [], _, _ => rfl
  | _ :: _, [], h => by simp at h
  | q :: ws, u :: ks, h => by
    have ih := length_rdW ws ks (by simpa using h)
    have e : rdW (q :: ws) (u :: ks) = (.int .i64 (q.1 : Int)) :: u :: rdW ws ks := rfl
    rw [e]
    simp only [List.length_cons, ih]
    omega
theorem rdW_get : ∀ (ws : List (Nat × List UInt8)) (ks : List Value) (k : Nat) (p : Nat × List UInt8) (v : Value), ws[k]? = some p → ks[k]? = some v → (rdW ws ks)[k * 2]? = some (.int .i64 (p.1 : Int)) ∧ (rdW ws ks)[k * 2 + 1]? = some v
  | [], _, k, p, v, h, _ => by simp at h
  | _ :: _, [], k, p, v, _, h => by simp at h
  | q :: ws, u :: ks, 0, p, v, h1, h2 => by
    simp at h1 h2
    subst h1 h2
    exact ⟨rfl, rfl⟩
  | q :: ws, u :: ks, k + 1, p, v, h1, h2 => by
    have ih := rdW_get ws ks k p v (by simpa using h1) (by simpa using h2)
    have e : rdW (q :: ws) (u :: ks) = (.int .i64 (q.1 : Int)) :: u :: rdW ws ks := rfl
    rw [e, show (k + 1) * 2 = k * 2 + 1 + 1 by omega, show k * 2 + 1 + 1 + 1 = (k * 2 + 1) + 1 + 1 by omega]
    simpa using ih

structure Rd (w : World) (N0 r : Nat) (sv wv : Value) (n : Nat) (vs : List Value) (F : List UInt8) (ks : List Value) (ws : List (Nat × List UInt8)) (off : Bool) (till : Int) : Prop where
  head : w.heap[r]? = some (.cells #[sv, wv, .bool off, .int .i64 till] 50 (0, 0))
  hr : N0 ≤ r
  srow : w.ownsRow N0 27 1 sv n vs
  wrow : w.ownsRow N0 113 2 wv ws.length (rdW ws ks)
  len : F.length = 64 * n
  secs : ∀ i, i < n → ∃ v, vs[i]? = some v ∧ OwnS w N0 v 5 (secN F i)
  wks : ks.length = ws.length
  wts : ∀ (k : Nat) (p : Nat × List UInt8), ws[k]? = some p → p.1 < n ∧ p.2.length = 64 ∧ ∃ v, ks[k]? = some v ∧ OwnS w N0 v 5 p.2
  lo : 32 ≤ n
  hi : n ≤ 2048
section
variable {w w' : World} {N0 r n : Nat} {sv wv : Value} {vs : List Value} {F : List UInt8} {ks : List Value} {ws : List (Nat × List UInt8)} {off : Bool} {till : Int}

theorem own_keepB {base : Nat} {E : TypeId} {sz m : Nat} {v : Value} {us : List Value} (h : w.ownsRow base E sz v m us) (hk : ∀ k cur, base ≤ k → w.heap[k]? = some (.cells cur E (0, 0)) → w'.heap[k]? = w.heap[k]?) : w'.ownsRow base E sz v m us := by
  refine ⟨h.1, ?_⟩
  rcases h.2 with hn | ⟨g, cap, cur, rfl, hb, hgg, rest⟩
  · exact .inl hn
  · exact .inr ⟨g, cap, cur, rfl, hb, (hk g cur hb hgg).trans hgg, rest⟩
/-- What leaves the blocks of its four kinds alone leaves it. -/
theorem Rd.keep (h : Rd w N0 r sv wv n vs F ks ws off till) (hk : ∀ k cur E, N0 ≤ k → w.heap[k]? = some (.cells cur E (0, 0)) → E = 50 ∨ E = 27 ∨ E = 113 ∨ E = 5 → w'.heap[k]? = w.heap[k]?) : Rd w' N0 r sv wv n vs F ks ws off till where
  head := (hk r _ _ h.hr h.head (.inl rfl)).trans h.head
  hr := h.hr
  srow := own_keepB h.srow (fun k cur hb hc => hk k cur _ hb hc (.inr (.inl rfl)))
  wrow := own_keepB h.wrow (fun k cur hb hc => hk k cur _ hb hc (.inr (.inr (.inl rfl))))
  len := h.len
  secs := fun i hi => by
    obtain ⟨v, h1, h2⟩ := h.secs i hi
    exact ⟨v, h1, own_keepB h2 (fun k cur hb hc => hk k cur _ hb hc (.inr (.inr (.inr rfl))))⟩
  wks := h.wks
  wts := fun k p hp => by
    obtain ⟨h1, h2, v, h3, h4⟩ := h.wts k p hp
    exact ⟨h1, h2, v, h3, own_keepB h4 (fun k cur hb hc => hk k cur _ hb hc (.inr (.inr (.inr rfl))))⟩
  lo := h.lo
  hi := h.hi
theorem Rd.below (h : Rd w N0 r sv wv n vs F ks ws off till) (hb : Below w.heap.size w w') : Rd w' N0 r sv wv n vs F ks ws off till :=
  h.keep (fun k cur E _ hc _ => hb.block k (Array.getElem?_eq_some_iff.1 hc).1)
theorem Rd.outer {X : Nat → Prop} (h : Rd w N0 r sv wv n vs F ks ws off till) (ho : OuterX X w w') (hX : ∀ k, X k → k < N0 ∨ ∃ cur, w.heap[k]? = some (.cells cur 106 (0, 0))) : Rd w' N0 r sv wv n vs F ks ws off till :=
  h.keep (fun k cur E hb hc hE => ho.block k (Array.getElem?_eq_some_iff.1 hc).1 (fun hx => by
    rcases hX k hx with h1 | ⟨cur', h1⟩
    · omega
    · rw [hc] at h1
      injection h1 with h1
      injection h1 with h1 h2
      subst h2
      rcases hE with e | e | e | e <;> exact absurd e (by decide)))

theorem Rd.sform (h : Rd w N0 r sv wv n vs F ks ws off till) : ∃ sb sc, sv = .slice (some ⟨sb, 0, none⟩) n sc ∧ N0 ≤ sb ∧ n ≤ sc ∧ sc ≤ maxLen := by
  have hlo := h.lo
  rcases h.srow.2 with ⟨_, h0⟩ | ⟨g, cap, cur, rfl, hb, hgg, h1, h2, _⟩
  · omega
  · exact ⟨g, cap, rfl, hb, h1, h2⟩
theorem Rd.wform (h : Rd w N0 r sv wv n vs F ks ws off till) : (∃ A c, wv = .slice A ws.length c ∧ c ≤ maxLen) ∧ ∀ k (p : Nat × List UInt8) v, ws[k]? = some p → ks[k]? = some v → ∃ wb c, wv = .slice (some ⟨wb, 0, none⟩) ws.length c ∧ w.cell? ⟨wb, k * 2, none⟩ = some (.int .i64 (p.1 : Int)) ∧ w.cell? ⟨wb, k * 2 + 1, none⟩ = some v := by
  constructor
  · rcases h.wrow.2 with ⟨h0, h1⟩ | ⟨g, cap, cur, rfl, hb, hgg, h1, h2, _⟩
    · rw [h1]; exact ⟨none, 0, h0, by unfold maxLen; omega⟩
    · exact ⟨_, cap, rfl, h2⟩
  · intro k p v hp hv
    have hk : k < ws.length := (List.getElem?_eq_some_iff.1 hp).1
    obtain ⟨e0, e1⟩ := rdW_get ws ks k p v hp hv
    rcases h.wrow.2 with ⟨_, h1⟩ | ⟨g, cap, cur, hv', hb, hgg, h1, h2, _⟩
    · omega
    · have hw := h.wrow
      rw [hv'] at hw
      exact ⟨g, cap, hv', by rw [hw.cellAt (k * 2) (by omega)]; exact e0, by rw [hw.cellAt (k * 2 + 1) (by omega)]; exact e1⟩

/-- A step of power: whether it goes in it, and what is left. -/
def rstepped (till : Int) : Int := if till = 0 then -1 else max (till - 1) (-1)
set_option maxRecDepth 100000 in
theorem rstep_any (h : Rd w N0 r sv wv n vs F ks ws off till) (ht : -1 ≤ till) (htm : till ≤ 9223372036854775807) (t' : Int) (ht' : rstepped till = t') :
    Calls Try.prog 56 #[.pointer (some ⟨r, 0, none⟩)] w fun e w' => e = .returned (.bool (decide (till = 0))) ∧
      w' = ((if till = 0 then w.setCell ⟨r, 2, none⟩ (.bool true) else w).setCell ⟨r, 3, none⟩ (.int .i64 t')) := by
  have c3 := blk_cell h.head 3 _ rfl
  have c2 := blk_cell h.head 2 _ rfl
  have z2 : w.frozen? ⟨r, 2, none⟩ = false := by simp [World.frozen?, h.head]
  have z3 : w.frozen? ⟨r, 3, none⟩ = false := by simp [World.frozen?, h.head]
  clear h
  by_cases h0 : till = 0
  · subst h0
    have e : t' = -1 := by rw [← ht']; rfl
    subst e
    clear ht'
    go_enter Try.func56, Try.ntmps56
    go_wp2_with fail
    go_ret
    exact ⟨rfl, rfl⟩
  · have d0 : (till == 0) = false := by simpa using h0
    have e : max (till - 1) (-1) = t' := by rw [← ht']; unfold rstepped; rw [if_neg h0]
    have hw : wrap64 (till - 1) = till - 1 := IntWalk.wrap64_in _ ⟨by omega, by omega⟩
    have E := Lib.hid e
    have D0 : Hid (decide (till = 0) = false) := Lib.hid (decide_eq_false h0)
    have H0 := Lib.hid h0
    clear e ht' h0
    go_enter Try.func56, Try.ntmps56
    go_wp2_with fail
    go_ret
    exact ⟨rfl, by rw [E.out]⟩
end
end Go.Proofs.Ytmmkmpjhmbocfaa

namespace Go.Proofs.Ytmmkmpjhmbocfaa
open Go.ChangeShapes Go.WideShapes Go.ChangeAt Go.RowKit
set_option linter.unusedVariables false

section
variable {w w' : World} {N0 r n : Nat} {sv wv : Value} {vs : List Value} {F : List UInt8} {ks : List Value} {ws : List (Nat × List UInt8)} {off : Bool} {till : Int}

theorem flushN_len (F : List UInt8) (ws : List (Nat × List UInt8)) (hw : ∀ (k : Nat) (p : Nat × List UInt8), ws[k]? = some p → 64 * p.1 + 64 ≤ F.length ∧ p.2.length = 64) : ∀ k, (flushN F ws k).length = F.length
  | 0 => rfl
  | k + 1 => by
    have ih := flushN_len F ws hw k
    cases hp : ws[k]? with
    | none =>
      unfold flushN
      rw [hp]
      exact ih
    | some p =>
      rw [flushN_succ hp, length_putAt (by have := (hw k p hp).1; omega) (hw k p hp).2, ih]

set_option maxRecDepth 100000 in
theorem rread_off (h : Rd w N0 r sv wv n vs F ks ws true till) (z : Int) :
    Calls Try.prog 22 #[.pointer (some ⟨r, 0, none⟩), .int .i64 z] w fun e w' => e = .returned (.tuple #[.slice none 0 0, .int .i64 2]) ∧ w' = w := by
  have c2 := blk_cell h.head 2 _ rfl
  clear h
  go_enter Try.func22, Try.ntmps22
  go_wp2_with fail
  go_ret2
  exact ⟨rfl, rfl⟩
set_option maxRecDepth 100000 in
theorem rread_arg (h : Rd w N0 r sv wv n vs F ks ws false till) (z : Int) (hz : z < 0 ∨ (n : Int) ≤ z) :
    Calls Try.prog 22 #[.pointer (some ⟨r, 0, none⟩), .int .i64 z] w fun e w' => e = .returned (.tuple #[.slice none 0 0, .int .i64 1]) ∧ w' = w := by
  obtain ⟨sb, sc, rfl, _⟩ := h.sform
  have c2 := blk_cell h.head 2 _ rfl
  have c0 := blk_cell h.head 0 _ rfl
  clear h
  by_cases h0 : z < 0
  · have d0 : decide (z < 0) = true := by simpa using h0
    go_enter Try.func22, Try.ntmps22
    go_wp2_with fail
    go_ret2
    exact ⟨rfl, rfl⟩
  · have d0 : decide (z < 0) = false := by simpa using h0
    have d1 : decide ((n : Int) ≤ z) = true := by simp; omega
    go_enter Try.func22, Try.ntmps22
    go_wp2_with fail
    go_ret2
    exact ⟨rfl, rfl⟩
set_option maxHeartbeats 1000000 in
set_option maxRecDepth 100000 in
theorem rread_ok (h : Rd w N0 r sv wv n vs F ks ws false till) (hw1000 : ws.length ≤ 1000) (i : Nat) (hi : i < n) :
    Calls Try.prog 22 #[.pointer (some ⟨r, 0, none⟩), .int .i64 (i : Int)] w fun e w' => (∃ v, e = .returned (.tuple #[v, .int .i64 0]) ∧ OwnS w N0 v 5 (secN (flushN F ws ws.length) i)) ∧ w' = w := by
  obtain ⟨sb, sc, rfl, hsb, hnc, hscm⟩ := h.sform
  obtain ⟨⟨WA, wc, hwv, hwcm⟩, hwf⟩ := h.wform
  obtain ⟨m, hm⟩ : ∃ m, m = ws.length := ⟨_, rfl⟩
  rw [← hm] at hwv hwf ⊢
  subst hwv
  have c2 := blk_cell h.head 2 _ rfl
  have c0 := blk_cell h.head 0 _ rfl
  have c1 := blk_cell h.head 1 _ rfl
  obtain ⟨v0, hv0, ho0⟩ := h.secs i hi
  have hs := h.srow
  have c5 : w.cell? ⟨sb, i, none⟩ = some v0 := by rw [hs.cellAt i (by omega)]; exact hv0
  have HLEN : Hid (∀ (k : Nat) (p : Nat × List UInt8), ws[k]? = some p → 64 * p.1 + 64 ≤ F.length ∧ p.2.length = 64) := Lib.hid (fun k p hp => by
    have := h.wts k p hp
    rw [h.len]
    exact ⟨by omega, this.2.1⟩)
  have HW : Hid (∀ (k : Nat) (p : Nat × List UInt8), ws[k]? = some p → ∃ v wb c, ks[k]? = some v ∧ (Value.slice WA m wc) = .slice (some ⟨wb, 0, none⟩) m c ∧ w.cell? ⟨wb, k * 2, none⟩ = some (.int .i64 (p.1 : Int)) ∧ w.cell? ⟨wb, k * 2 + 1, none⟩ = some v ∧ OwnS w N0 v 5 p.2) := Lib.hid (fun k p hp => by
    obtain ⟨_, _, v, h3, h4⟩ := h.wts k p hp
    obtain ⟨wb, c, e1, e2, e3⟩ := hwf k p v hp h3
    exact ⟨v, wb, c, h3, e1, e2, e3, h4⟩)
  have HM := Lib.hid hm
  have HFL := Lib.hid h.len
  have hn2 := h.hi
  have HO0 := Lib.hid ho0
  have d0 : decide ((i : Int) < 0) = false := by simp
  have d1 : decide ((n : Int) ≤ (i : Int)) = false := by simp; omega
  have d1' : decide (n ≤ i) = false := by simp; omega
  have hin : (i : Int) < (n : Int) := by omega
  clear h hwf hs ho0 hv0 hm
  go_enter Try.func22, Try.ntmps22
  go_wp2_with fail
  go_loop [6, 7] (fun b kv => ∃ k : Nat, k ≤ m ∧ kv = .int .i64 (k : Int) ∧ Hid (OwnS w N0 b 5 (secN (flushN F ws k) i))) (fun _ kv => m - (intOf kv).toNat)
  case atStart => exact ⟨0, by omega, rfl, HO0⟩
  case round =>
    obtain ⟨k, hk, rfl, HB⟩ := hrel
    by_cases hlt : k < m
    · have hkl : k < ws.length := by have := HM.out; omega
      obtain ⟨p, hp⟩ : ∃ p, ws[k]? = some p := ⟨_, List.getElem?_eq_getElem hkl⟩
      obtain ⟨v, wb, c, hks, hwv, e0, e1, hov⟩ := HW.out k p hp
      injection hwv with hw1 hw2 hw3
      subst hw1 hw3
      have HST : Hid (secN (flushN F ws (k + 1)) i = if i = p.1 then p.2 else secN (flushN F ws k) i) := Lib.hid (by
        rw [flushN_succ hp, secN_put _ _ _ (HLEN.out k p hp).2 (by rw [flushN_len F ws HLEN.out]; exact (HLEN.out k p hp).1)])
      have HOV := Lib.hid hov
      obtain ⟨q, bs⟩ := p
      dsimp only at e0 HST HOV
      clear hov hks hp
      by_cases hq : q = i
      · subst hq
        have dq : ((q : Int) == (q : Int)) = true := by simp
        go_wp2_with fail
        go_round
        case rel => exact ⟨k + 1, by omega, by go_num, Lib.hid (by rw [HST.out, if_pos rfl]; exact HOV.out)⟩
        case measure => simp [intOf]; omega
      · have dq : ((q : Int) == (i : Int)) = false := by rw [beq_eq_false_iff_ne]; omega
        have HNQ : Hid (¬ i = q) := Lib.hid (by omega)
        clear hq
        go_wp2_with fail
        go_round
        case rel => exact ⟨k + 1, by omega, by go_num, Lib.hid (by rw [HST.out, if_neg HNQ.out]; exact HB.out)⟩
        case measure => simp [intOf]; omega
    · obtain rfl : k = m := by omega
      go_wp2_with fail
      go_ret2
      exact ⟨⟨_, rfl, HB.out⟩, rfl⟩

theorem take_secN {F : List UInt8} {k : Nat} : F.take (64 * k) ++ secN F k = F.take (64 * (k + 1)) := by
  unfold secN
  rw [show 64 * (k + 1) = 64 * k + 64 by omega, List.take_add]
set_option maxHeartbeats 1000000 in
set_option maxRecDepth 100000 in
theorem rimage_any (h : Rd w N0 r sv wv n vs F ks ws off till) :
    Calls Try.prog 27 #[.pointer (some ⟨r, 0, none⟩)] w fun e w' => (∃ A c, e = .returned (.slice A F.length c) ∧ OwnS w' w.heap.size (.slice A F.length c) 5 F) ∧ Below w.heap.size w w' := by
  obtain ⟨sb, sc, rfl, hsb, hnc, hscm⟩ := h.sform
  have hn2 := h.hi
  have HFL := Lib.hid h.len
  have H := Lib.hid h
  clear h
  go_enter Try.func27, Try.ntmps27
  go_wp2_with fail
  go_loopw [3, 4] (fun out kv wr => ∃ (k : Nat) (A : Option Addr) (c : Nat), k ≤ n ∧ kv = .int .i64 (k : Int) ∧ out = .slice A (F.take (64 * k)).length c ∧ Hid (OwnS wr w.heap.size (.slice A (F.take (64 * k)).length c) 5 (F.take (64 * k))) ∧ Hid (Below w.heap.size w wr)) (fun _ kv _ => n - (intOf kv).toNat)
  case atStart => exact ⟨0, none, 0, by omega, rfl, rfl, Lib.hid (OwnS.nil _ _ _), Lib.hid (Below.refl _ _)⟩
  case round =>
    obtain ⟨k, A, c, hk, rfl, rfl, HO, HB⟩ := hrel
    have h1 := H.out.below HB.out
    have c0 := blk_cell h1.head 0 _ rfl
    by_cases hlt : k < n
    · obtain ⟨v, hv, hov⟩ := h1.secs k hlt
      have c5 : wr.cell? ⟨sb, k, none⟩ = some v := by rw [h1.srow.cellAt k (by omega)]; exact hv
      have hsl : (secN F k).length = 64 := length_secN (by rw [HFL.out]; omega)
      obtain ⟨As, cs, rfl, hby, _⟩ := hov.slice
      rw [hsl] at c5
      have HSL := Lib.hid hsl
      have HBY := Lib.hid hby
      have hln : (F.take (64 * k)).length = 64 * k := by rw [List.length_take, HFL.out]; omega
      have HLN := Lib.hid hln
      clear hv hov hby hsl h1 hln
      go_wp2_with (at_builtin; refine wpList_append_z rfl (.tmp 14) (.tmp 21) 27 rfl Try.underlying27 infoU8 rfl HO.out As cs 64 (secN F k) (F.take (64 * (k + 1))) rfl HSL.out HBY.out take_secN (by rw [HLN.out]; omega) HB.out.size ?_; intro A2 c2 w2 ho2 hg2)
      go_roundw
      case rel => exact ⟨k + 1, A2, c2, by omega, by go_num, by first | rfl | rw [List.length_take], Lib.hid ho2, Lib.hid (HB.out.grown hg2 HB.out.size (fun j hj => (HO.out.block j hj).1))⟩
      case measure => simp [intOf]; omega
    · obtain rfl : k = n := by omega
      have ht : F.take (64 * k) = F := List.take_of_length_le (by rw [HFL.out]; omega)
      rw [ht] at HO ⊢
      clear h1 ht
      go_wp2_with fail
      go_ret
      exact ⟨⟨A, c, rfl, HO.out⟩, HB.out⟩
end
end Go.Proofs.Ytmmkmpjhmbocfaa

namespace Go.Proofs.Ytmmkmpjhmbocfaa
open Go.ChangeShapes Go.WideShapes Go.ChangeAt Go.RowKit
set_option linter.unusedVariables false

theorem infoWait : (Try.prog.info? 113).map (fun i => (i.zero, i.size, i.bytes)) = some (some (.agg #[.int .i64 0, .slice none 0 0]), 2, 32) := by kernel_rfl
theorem fill_two (C cells : Array Value) (hC : C.size = 2) (hn : cells.size = 2) : Instr.fill (fun i => some (i * 2, 2)) cells [(0, .agg C)] = some C := by
  have := Great.fill_whole (s := 2) (by omega) [.agg C] cells (fun v hv => by simp at hv; subst hv; exact hC) (by simp [hn])
  simpa [Value.cells] using this
theorem rdW_app (ws : List (Nat × List UInt8)) (ks : List Value) (h : ks.length = ws.length) (p : Nat × List UInt8) (u : Value) : rdW (ws ++ [p]) (ks ++ [u]) = rdW ws ks ++ [.int .i64 (p.1 : Int), u] := by
  unfold rdW
  rw [List.zip_append h.symm, List.flatMap_append]
  rfl
/-- The blocks of the reference's disk that a Write changes. -/
def RdX (r : Nat) (wv : Value) (k : Nat) : Prop := k = r ∨ wv.ownBlock = some k

section
variable {w w' : World} {N0 r n : Nat} {sv wv : Value} {vs : List Value} {F : List UInt8} {ks : List Value} {ws : List (Nat × List UInt8)} {off : Bool} {till : Int}

theorem Rd.wlt (h : Rd w N0 r sv wv n vs F ks ws off till) : r < w.heap.size := (Array.getElem?_eq_some_iff.1 h.head).1
theorem Rd.set2 (h : Rd w N0 r sv wv n vs F ks ws off till) (b : Bool) : Rd (w.setCell ⟨r, 2, none⟩ (.bool b)) N0 r sv wv n vs F ks ws b till := by
  have hk : ∀ (k : Nat) (cur : Array Value) (E : TypeId), w.heap[k]? = some (.cells cur E (0, 0)) → E ≠ 50 → (w.setCell ⟨r, 2, none⟩ (.bool b)).heap[k]? = w.heap[k]? := fun k cur E hc hE =>
    Below.heap_setCell w ⟨r, 2, none⟩ _ k (fun e => by
      have e : k = r := e
      subst e
      rw [h.head] at hc
      injection hc with hc
      injection hc with h1 h2
      exact hE h2.symm)
  exact { h with
    head := (heap_setCell_same w r 2 _ _ _ h.head).trans rfl
    srow := own_keepB h.srow (fun k cur _ hc => hk k cur _ hc (by decide))
    wrow := own_keepB h.wrow (fun k cur _ hc => hk k cur _ hc (by decide))
    secs := fun i hi => by
      obtain ⟨v, h1, h2⟩ := h.secs i hi
      exact ⟨v, h1, own_keepB h2 (fun k cur _ hc => hk k cur _ hc (by decide))⟩
    wts := fun k p hp => by
      obtain ⟨h1, h2, v, h3, h4⟩ := h.wts k p hp
      exact ⟨h1, h2, v, h3, own_keepB h4 (fun k cur _ hc => hk k cur _ hc (by decide))⟩ }
theorem Rd.set3 (h : Rd w N0 r sv wv n vs F ks ws off till) (t' : Int) : Rd (w.setCell ⟨r, 3, none⟩ (.int .i64 t')) N0 r sv wv n vs F ks ws off t' := by
  have hk : ∀ (k : Nat) (cur : Array Value) (E : TypeId), w.heap[k]? = some (.cells cur E (0, 0)) → E ≠ 50 → (w.setCell ⟨r, 3, none⟩ (.int .i64 t')).heap[k]? = w.heap[k]? := fun k cur E hc hE =>
    Below.heap_setCell w ⟨r, 3, none⟩ _ k (fun e => by
      have e : k = r := e
      subst e
      rw [h.head] at hc
      injection hc with hc
      injection hc with h1 h2
      exact hE h2.symm)
  exact { h with
    head := (heap_setCell_same w r 3 _ _ _ h.head).trans rfl
    srow := own_keepB h.srow (fun k cur _ hc => hk k cur _ hc (by decide))
    wrow := own_keepB h.wrow (fun k cur _ hc => hk k cur _ hc (by decide))
    secs := fun i hi => by
      obtain ⟨v, h1, h2⟩ := h.secs i hi
      exact ⟨v, h1, own_keepB h2 (fun k cur _ hc => hk k cur _ hc (by decide))⟩
    wts := fun k p hp => by
      obtain ⟨h1, h2, v, h3, h4⟩ := h.wts k p hp
      exact ⟨h1, h2, v, h3, own_keepB h4 (fun k cur _ hc => hk k cur _ hc (by decide))⟩ }
theorem outer_setr (w : World) (wv : Value) (i : Nat) (v : Value) : OuterX (RdX r wv) w (w.setCell ⟨r, i, none⟩ v) :=
  ⟨rfl, rfl, rfl, by simp, fun k _ hk => Below.heap_setCell w ⟨r, i, none⟩ v k (fun e => hk (.inl e))⟩
theorem OuterX.trans {X : Nat → Prop} {w w1 w2 : World} (h : OuterX X w w1) (h2 : OuterX X w1 w2) : OuterX X w w2 :=
  ⟨h2.os.trans h.os, h2.tape.trans h.tape, h2.output.trans h.output, Nat.le_trans h.size h2.size, fun k hk hx => (h2.block k (Nat.lt_of_lt_of_le hk h.size) hx).trans (h.block k hk hx)⟩

theorem Rd.wblock (h : Rd w N0 r sv wv n vs F ks ws off till) {g : Nat} (hg : wv.ownBlock = some g) : ∃ cur, w.heap[g]? = some (.cells cur 113 (0, 0)) := by
  rcases h.wrow.2 with ⟨h0, _⟩ | ⟨g', cap, cur, rfl, hb, hgg, _⟩
  · rw [h0] at hg; cases hg
  · injection hg with hg
    subst hg
    exact ⟨cur, hgg⟩
theorem frozen_r {W10 W11 : World} (h : Rd W10 N0 r sv wv n vs F ks ws off till) (hg : W10.grownBy W11 wv.ownBlock) : W11.frozen? ⟨r, 1, none⟩ = false := by
  have hr11 : W11.heap[r]? = W10.heap[r]? := hg.block r h.wlt (fun e => by
    obtain ⟨cur, hc⟩ := h.wblock e.symm
    rw [h.head] at hc
    injection hc with hc
    injection hc with h1 h2
    exact absurd h2 (by decide))
  simp [World.frozen?, hr11, h.head]
theorem cell_r {W10 W11 : World} (h : Rd W10 N0 r sv wv n vs F ks ws off till) (hg : W10.grownBy W11 wv.ownBlock) : W11.cell? ⟨r, 1, none⟩ = some wv := by
  have hr11 : W11.heap[r]? = W10.heap[r]? := hg.block r h.wlt (fun e => by
    obtain ⟨cur, hc⟩ := h.wblock e.symm
    rw [h.head] at hc
    injection hc with hc
    injection hc with h1 h2
    exact absurd h2 (by decide))
  exact blk_cell (hr11.trans h.head) 1 _ rfl
/-- A write more that waits. -/
theorem Rd.wrote {W W10 W11 : World} (h : Rd W N0 r sv wv n vs F ks ws off till) (hb : Below W.heap.size W W10) (hg : W10.grownBy W11 wv.ownBlock) (v' u : Value) (i : Nat) (bs : List UInt8) (hi : i < n) (hbs : bs.length = 64)
    (ho : W11.ownsRow N0 113 2 v' (ws.length + 1) (rdW ws ks ++ [.int .i64 (i : Int), u])) (hu : OwnS W10 N0 u 5 bs) :
    Rd (W11.setCell ⟨r, 1, none⟩ v') N0 r sv v' n vs F (ks ++ [u]) (ws ++ [(i, bs)]) off till ∧ OuterX (RdX r wv) W (W11.setCell ⟨r, 1, none⟩ v') := by
  have h10 := h.below hb
  have hrw : some r ≠ wv.ownBlock := fun e => by
    obtain ⟨cur, hc⟩ := h10.wblock e.symm
    rw [h10.head] at hc
    injection hc with hc
    injection hc with h1 h2
    exact absurd h2 (by decide)
  have hr11 : W11.heap[r]? = W10.heap[r]? := hg.block r h10.wlt hrw
  have key : ∀ (k : Nat) (cur : Array Value) (E : TypeId), W10.heap[k]? = some (.cells cur E (0, 0)) → E ≠ 113 → E ≠ 50 → (W11.setCell ⟨r, 1, none⟩ v').heap[k]? = W10.heap[k]? := by
    intro k cur E hc e1 e2
    refine (Below.heap_setCell W11 ⟨r, 1, none⟩ v' k (fun e => ?_)).trans (hg.block k (Array.getElem?_eq_some_iff.1 hc).1 (fun e => ?_))
    · have e : k = r := e
      subst e
      rw [h10.head] at hc
      injection hc with hc
      injection hc with h1 h2
      exact e2 h2.symm
    · obtain ⟨cur', hc'⟩ := h10.wblock e.symm
      rw [hc] at hc'
      injection hc' with hc'
      injection hc' with h1 h2
      exact e1 h2
  have hrow : (W11.setCell ⟨r, 1, none⟩ v').ownsRow N0 113 2 v' (ws.length + 1) (rdW ws ks ++ [.int .i64 (i : Int), u]) := own_keepB ho (fun k cur _ hc => Below.heap_setCell W11 ⟨r, 1, none⟩ v' k (fun e => by
    have e : k = r := e
    subst e
    rw [hr11, h10.head] at hc
    injection hc with hc
    injection hc with h1 h2
    exact absurd h2 (by decide)))
  refine ⟨{
    head := (heap_setCell_same W11 r 1 _ _ _ (hr11.trans h10.head)).trans rfl
    hr := h.hr
    srow := own_keepB h10.srow (fun k cur _ hc => key k cur _ hc (by decide) (by decide))
    wrow := by rw [rdW_app ws ks h.wks, List.length_append]; exact hrow
    len := h.len
    secs := fun j hj => by
      obtain ⟨v, h1, h2⟩ := h10.secs j hj
      exact ⟨v, h1, own_keepB h2 (fun k cur _ hc => key k cur _ hc (by decide) (by decide))⟩
    wks := by rw [List.length_append, List.length_append, h.wks]; rfl
    wts := fun k p hp => by
      rcases Nat.lt_or_ge k ws.length with hk | hk
      · rw [List.getElem?_append_left hk] at hp
        obtain ⟨h1, h2, v, h3, h4⟩ := h10.wts k p hp
        exact ⟨h1, h2, v, by rw [List.getElem?_append_left (by rw [h.wks]; exact hk)]; exact h3, own_keepB h4 (fun k cur _ hc => key k cur _ hc (by decide) (by decide))⟩
      · rw [List.getElem?_append_right hk] at hp
        have hk0 : k - ws.length = 0 := by
          have := (List.getElem?_eq_some_iff.1 hp).1
          simpa using this
        rw [hk0] at hp
        injection hp with hp
        subst hp
        exact ⟨hi, hbs, u, by rw [List.getElem?_append_right (by rw [h.wks]; exact hk), h.wks, hk0]; rfl, own_keepB hu (fun k cur _ hc => key k cur _ hc (by decide) (by decide))⟩
    lo := h.lo
    hi := h.hi }, ?_⟩
  refine ⟨hg.os.trans hb.os, hg.tape.trans hb.tape, hg.output.trans hb.output, ?_, fun k hk hx => ?_⟩
  · have h1 := hb.size
    have h2 := hg.size
    simp
    omega
  · refine (Below.heap_setCell W11 ⟨r, 1, none⟩ v' k (fun e => hx (.inl e))).trans ((hg.block k (Nat.lt_of_lt_of_le hk hb.size) (fun e => hx (.inr e.symm))).trans (hb.block k hk))

set_option maxRecDepth 100000 in
theorem rwrite_off (h : Rd w N0 r sv wv n vs F ks ws true till) (z : Int) (v : Value) :
    Calls Try.prog 23 #[.pointer (some ⟨r, 0, none⟩), .int .i64 z, v] w fun e w' => e = .returned (.int .i64 2) ∧ w' = w := by
  have c2 := blk_cell h.head 2 _ rfl
  clear h
  go_enter Try.func23, Try.ntmps23
  go_wp2_with fail
  go_ret
  exact ⟨rfl, rfl⟩
set_option maxRecDepth 100000 in
theorem rwrite_arg (h : Rd w N0 r sv wv n vs F ks ws false till) (z : Int) (A : Option Addr) (m c : Nat) (hz : z < 0 ∨ (n : Int) ≤ z ∨ m ≠ 64) :
    Calls Try.prog 23 #[.pointer (some ⟨r, 0, none⟩), .int .i64 z, .slice A m c] w fun e w' => e = .returned (.int .i64 1) ∧ w' = w := by
  obtain ⟨sb, sc, rfl, _⟩ := h.sform
  have c2 := blk_cell h.head 2 _ rfl
  have c0 := blk_cell h.head 0 _ rfl
  clear h
  by_cases h0 : z < 0
  · have d0 : decide (z < 0) = true := by simpa using h0
    go_enter Try.func23, Try.ntmps23
    go_wp2_with fail
    go_ret
    exact ⟨rfl, rfl⟩
  · have d0 : decide (z < 0) = false := by simpa using h0
    by_cases h1 : (n : Int) ≤ z
    · have d1 : decide ((n : Int) ≤ z) = true := by simpa using h1
      go_enter Try.func23, Try.ntmps23
      go_wp2_with fail
      go_ret
      exact ⟨rfl, rfl⟩
    · have d1 : decide ((n : Int) ≤ z) = false := by simpa using h1
      have d2 : ((m : Int) == 64) = false := by rw [beq_eq_false_iff_ne]; omega
      have d2' : (m == 64) = false := by rw [beq_eq_false_iff_ne]; omega
      clear hz h0 h1
      go_enter Try.func23, Try.ntmps23
      go_wp2_with fail
      go_ret
      exact ⟨rfl, rfl⟩
set_option maxRecDepth 100000 in
theorem rwrite_stop (h : Rd w N0 r sv wv n vs F ks ws false 0) (i : Nat) (hi : i < n) (A : Option Addr) (c : Nat) :
    Calls Try.prog 23 #[.pointer (some ⟨r, 0, none⟩), .int .i64 (i : Int), .slice A 64 c] w fun e w' => e = .returned (.int .i64 2) ∧ w' = (w.setCell ⟨r, 2, none⟩ (.bool true)).setCell ⟨r, 3, none⟩ (.int .i64 (-1)) := by
  have H := Lib.hid h
  obtain ⟨sb, sc, rfl, _⟩ := h.sform
  have c2 := blk_cell h.head 2 _ rfl
  have c0 := blk_cell h.head 0 _ rfl
  have d0 : decide ((i : Int) < 0) = false := by simp
  have d1 : decide ((n : Int) ≤ (i : Int)) = false := by simp; omega
  have d1' : decide (n ≤ i) = false := by simp; omega
  clear h
  go_enter Try.func23, Try.ntmps23
  go_wp2_with (go_at_call 56; (refine (rstep_any H.out (by omega) (by omega) (-1) rfl).mono ?_); rintro e w1 ⟨rfl, rfl⟩)
  go_ret
  exact ⟨rfl, rfl⟩

set_option maxHeartbeats 4000000 in
set_option maxRecDepth 100000 in
theorem rwrite_ok (h : Rd w N0 r sv wv n vs F ks ws false till) (ht : -1 ≤ till) (ht0 : till ≠ 0) (htm : till ≤ 9223372036854775807) (t' : Int) (ht' : rstepped till = t') (hw1000 : ws.length ≤ 1000) (hN0 : N0 ≤ w.heap.size) (i : Nat) (hi : i < n) (A : Option Addr) (c : Nat) (bs : List UInt8) (hbs : bs.length = 64) (hx : BytesAt w A bs) (hA : ∀ a, A = some a → ¬ RdX r wv a.block) :
    Calls Try.prog 23 #[.pointer (some ⟨r, 0, none⟩), .int .i64 (i : Int), .slice A 64 c] w fun e w' => e = .returned (.int .i64 0) ∧ (∃ wv' u, Rd w' N0 r sv wv' n vs F (ks ++ [u]) (ws ++ [(i, bs)]) false t' ∧ Moved w wv.ownBlock wv'.ownBlock) ∧ OuterX (RdX r wv) w w' := by
  have H := Lib.hid h
  obtain ⟨sb, sc, rfl, _⟩ := h.sform
  obtain ⟨iw, hiw, hiz, his, hib⟩ := info_parts infoWait
  have c2 := blk_cell h.head 2 _ rfl
  have c0 := blk_cell h.head 0 _ rfl
  have d0 : decide ((i : Int) < 0) = false := by simp
  have d1 : decide ((n : Int) ≤ (i : Int)) = false := by simp; omega
  have d1' : decide (n ≤ i) = false := by simp; omega
  have h1 := h.set3 t'
  have o1 := outer_setr (r := r) w wv 3 (.int .i64 t')
  have hx1 := bytes_outerX hx o1 hA
  obtain ⟨W, eW⟩ : ∃ W, W = w.setCell ⟨r, 3, none⟩ (.int .i64 t') := ⟨_, rfl⟩
  rw [← eW] at h1 o1 hx1
  have hst : Hid ((if till = 0 then w.setCell ⟨r, 2, none⟩ (.bool true) else w).setCell ⟨r, 3, none⟩ (.int .i64 t') = W) := Lib.hid (by rw [if_neg ht0, eW])
  have hd0 : Hid (decide (till = 0) = false) := Lib.hid (decide_eq_false ht0)
  have hsz : W.heap.size = w.heap.size := by rw [eW]; simp
  have H1 := Lib.hid h1
  have O1 := Lib.hid o1
  have HX1 := Lib.hid hx1
  have HSZ := Lib.hid hsz
  have HT' := Lib.hid ht'
  have HBS := Lib.hid hbs
  have HT0 := Lib.hid ht0
  have c1 := blk_cell h1.head 1 _ rfl
  clear h h1 o1 hx1 eW hsz ht' hbs ht0 hx hA
  go_enter Try.func23, Try.ntmps23
  go_upto_region 7 with (go_at_call 56; (refine (rstep_any H.out ht htm t' HT'.out).mono ?_); rintro e w1 ⟨rfl, rfl⟩; rw [hd0.out, hst.out])
  refine region_ways4 N0 (by rw [HSZ.out]; exact hN0) (.two [0, 1, 5, 7, 2, 3] 4 (.one [] 6 (.one [] 8 (.one [9] 10 (.one [] 11 (.one [12, 13] 14 (.done [])))))) 6 (.two [] 4 (.one [] 8 (.one [9] 10 (.one [] 11 (.one [12, 13] 14 (.done []))))) 8 (.two [9] 4 (.one [] 10 (.one [] 11 (.one [12, 13] 14 (.done [])))) 10 (.one [] 4 (.one [] 11 (.one [12, 13] 14 (.done []))))))) (by kernel_rfl) (by kernel_rfl) ?_
  rintro wd hbd
  have hNW : N0 ≤ W.heap.size := by rw [HSZ.out]; exact hN0
  have HBD := Lib.hid hbd
  have b0 : Below N0 W wd := hbd.mono hNW
  have c1 : wd.cell? ⟨r, 1, none⟩ = some wv := (blk_cell (H1.out.below hbd).head 1 _ rfl)
  clear hbd
  rw [wpWays_two4]
  try simp only [List.map_cons, List.map_nil, opAt, List.getElem?_toArray, List.getElem?_cons_zero, List.getElem?_cons_succ, Option.getD_some]
  repeat (go_big_quiet_step (fail))
  refine wpQuiet_nil ⟨?_, ?_⟩
  · go_wp2_with fail
    refine ⟨⟨⟨_, b0⟩, rfl⟩, ?_⟩
    try simp only [Act.put, List.setIfInBounds_toArray, List.set_cons_zero, List.set_cons_succ]
    rw [wpWays_one4]
    try simp only [List.map_nil, opAt, List.getElem?_toArray, List.getElem?_cons_zero, List.getElem?_cons_succ, Option.getD_some]
    repeat (go_big_quiet_step (fail))
    refine wpQuiet_nil ?_
    go_wp2_with fail
    have BB2 : Hid (Below W.heap.size W (wd.alloc (.cells #[] 5))) := Lib.hid (HBD.out.alloc HBD.out.size _)
    have os2 : OwnS (wd.alloc (.cells #[] 5)) W.heap.size (.slice (some ⟨wd.heap.size, 0, none⟩) 0 0) 5 [] := OwnS.new wd 5 [] W.heap.size HBD.out.size (by unfold maxLen; simp)
    have bn2 := BB2.out.mono hNW
    refine ⟨⟨⟨_, bn2⟩, rfl⟩, ?_⟩
    try simp only [Act.put, List.setIfInBounds_toArray, List.set_cons_zero, List.set_cons_succ]
    rw [wpWays_one4]
    try simp only [List.map_nil, opAt, List.getElem?_toArray, List.getElem?_cons_zero, List.getElem?_cons_succ, Option.getD_some]
    repeat (go_big_quiet_step (fail))
    refine wpQuiet_nil ?_
    go_wp2_with (at_builtin; refine wpList_append_z rfl (.tmp 35) (.tmp 36) 27 rfl Try.underlying27 infoU8 rfl os2 A c 64 bs bs rfl HBS.out (HX1.out.below BB2.out) rfl (by simp) BB2.out.size ?_; intro A8 c8 w8 ho8 hg8)
    have BB3 : Hid (Below W.heap.size W w8) := Lib.hid (BB2.out.grown hg8 BB2.out.size (fun k hk => (os2.block k hk).1))
    have bn3 := BB3.out.mono hNW
    rw [HBS.out] at ho8 ⊢
    have HO8 := Lib.hid (ho8.mono hNW)
    clear ho8 hg8
    refine ⟨⟨⟨_, bn3⟩, rfl⟩, ?_⟩
    try simp only [Act.put, List.setIfInBounds_toArray, List.set_cons_zero, List.set_cons_succ]
    rw [wpWays_one4]
    try simp only [List.map_cons, List.map_nil, opAt, List.getElem?_toArray, List.getElem?_cons_zero, List.getElem?_cons_succ, Option.getD_some]
    repeat (go_big_quiet_step (fail))
    refine wpQuiet_nil ?_
    have hfill4 : Hid (Instr.fill (fun i => some (i * iw.size, iw.size)) ((Array.range (1 * iw.size)).map ((Value.agg #[.int .i64 0, .slice none 0 0]).cells[· % (Value.agg #[.int .i64 0, .slice none 0 0]).cells.size]!)) [(0, .agg #[.int .i64 (i : Int), .slice A8 64 c8])] = some #[.int .i64 (i : Int), .slice A8 64 c8]) := Lib.hid (by rw [his]; exact fill_two _ _ rfl (by simp))
    go_wp2_with (refine wpList_buildSlice rfl 48 113 1 _ rfl #[.int .i64 (i : Int), .slice A8 64 c8] iw _ Try.underlying48 hiw hiz (by rw [his]; decide) (by rw [his]; decide) (by rw [Array.toList_map]; exact hfill4.out) ?_)
    have BB4 : Hid (Below W.heap.size W (w8.alloc (.cells #[.int .i64 (i : Int), .slice A8 64 c8] 113))) := Lib.hid (BB3.out.alloc BB3.out.size _)
    have bn4 := BB4.out.mono hNW
    have hn4 : Hid (∀ (j : Nat) (u : Value), ([.int .i64 (i : Int), .slice A8 64 c8] : List Value)[j]? = some u → (w8.alloc (.cells #[.int .i64 (i : Int), .slice A8 64 c8] 113)).cell? ((⟨w8.heap.size, 0, none⟩ : Addr).add j) = some u) := Lib.hid (fun j u hj => by rw [Addr.add_mid, World.cell?_alloc_new]; simpa using hj)
    have ho4 := HO8.out.alloc (.cells #[.int .i64 (i : Int), .slice A8 64 c8] 113)
    refine ⟨⟨⟨_, bn4⟩, rfl⟩, ?_⟩
    try simp only [Act.put, List.setIfInBounds_toArray, List.set_cons_zero, List.set_cons_succ]
    rw [wpWays_one4]
    try simp only [List.map_nil, opAt, List.getElem?_toArray, List.getElem?_cons_zero, List.getElem?_cons_succ, Option.getD_some]
    repeat (go_big_quiet_step (fail))
    refine wpQuiet_nil ?_
    go_wp2_with (at_builtin; refine wpList_append_own_at _ rfl (.tmp 33) (.tmp 39) 48 rfl N0 113 iw _ 2 32 Try.underlying48 hiw hiz his hib rfl (by omega) _ ws.length (rdW ws ks) rfl (H1.out.below BB4.out).wrow ⟨w8.heap.size, 0, none⟩ 1 1 [.int .i64 (i : Int), .slice A8 64 c8] rfl rfl hn4.out (by intro u hu; simp at hu; rcases hu with rfl | rfl <;> rfl) (by unfold maxLen; omega) (by omega) (by have := BB4.out.size; omega) ?_; intro rw5 w5 ho5 hg5 _ how5; obtain ⟨Aw, cw, rfl⟩ := own_form ho5)
    have bn5 : Below N0 W w5 := (BB4.out.mono hNW).grown hg5 (by have := BB4.out.size; omega) (fun k hk => (H1.out.wrow.lt k hk).1)
    refine ⟨⟨⟨_, bn5⟩, rfl⟩, ?_⟩
    try simp only [Act.put, List.setIfInBounds_toArray, List.set_cons_zero, List.set_cons_succ]
    obtain ⟨hrd, hox⟩ := H1.out.wrote BB4.out hg5 (.slice Aw (ws.length + 1) cw) (.slice A8 64 c8) i bs hi HBS.out ho5 ho4
    have HRD := Lib.hid hrd
    have HOX := Lib.hid hox
    have HOW := Lib.hid how5
    have zr : w5.frozen? ⟨r, 1, none⟩ = false := frozen_r (H1.out.below BB4.out) hg5
    have zc := cell_r (H1.out.below BB4.out) hg5
    clear hrd hox ho5
    rw [wpWays_one4]
    try simp only [List.map_cons, List.map_nil, opAt, List.getElem?_toArray, List.getElem?_cons_zero, List.getElem?_cons_succ, Option.getD_some]
    repeat (go_big_quiet_step (fail))
    refine wpQuiet_nil ?_
    go_wp2_with fail
    refine ⟨⟨⟨_, bn5.trans (below_setC' (by have := bn5.size; omega) H1.out.hr)⟩, rfl⟩, ?_⟩
    try simp only [Act.put, List.setIfInBounds_toArray, List.set_cons_zero, List.set_cons_succ]
    rw [wpWays_done4]
    try simp only [List.map_nil]
    refine wpQuiet_nil ?_
    go_wp2_with fail
    go_ret
    refine ⟨rfl, ⟨.slice Aw (ws.length + 1) cw, _, HRD.out, ?_⟩, O1.out.trans HOX.out⟩
    rcases HOW.out with h3 | h3
    · exact .inl h3
    · exact .inr ⟨_, h3, by have h4 := BB4.out.size; have h5 := HSZ.out; omega⟩
  · go_wp2_with fail
    have BB6 : Hid (Below W.heap.size W (wd.alloc (.cells #[] 5))) := Lib.hid (HBD.out.alloc HBD.out.size _)
    have os6 : OwnS (wd.alloc (.cells #[] 5)) W.heap.size (.slice (some ⟨wd.heap.size, 0, none⟩) 0 0) 5 [] := OwnS.new wd 5 [] W.heap.size HBD.out.size (by unfold maxLen; simp)
    have bn6 := BB6.out.mono hNW
    have c1 := (blk_cell (H1.out.below BB6.out).head 1 _ rfl)
    refine ⟨⟨⟨_, bn6⟩, rfl⟩, ?_⟩
    try simp only [Act.put, List.setIfInBounds_toArray, List.set_cons_zero, List.set_cons_succ]
    rw [wpWays_two4]
    try simp only [List.map_nil, opAt, List.getElem?_toArray, List.getElem?_cons_zero, List.getElem?_cons_succ, Option.getD_some]
    repeat (go_big_quiet_step (fail))
    refine wpQuiet_nil ⟨?_, ?_⟩
    · go_wp2_with fail
      refine ⟨⟨⟨_, bn6⟩, rfl⟩, ?_⟩
      try simp only [Act.put, List.setIfInBounds_toArray, List.set_cons_zero, List.set_cons_succ]
      rw [wpWays_one4]
      try simp only [List.map_nil, opAt, List.getElem?_toArray, List.getElem?_cons_zero, List.getElem?_cons_succ, Option.getD_some]
      repeat (go_big_quiet_step (fail))
      refine wpQuiet_nil ?_
      go_wp2_with (at_builtin; refine wpList_append_z rfl (.tmp 35) (.tmp 36) 27 rfl Try.underlying27 infoU8 rfl os6 A c 64 bs bs rfl HBS.out (HX1.out.below BB6.out) rfl (by simp) BB6.out.size ?_; intro A8 c8 w8 ho8 hg8)
      have BB8 : Hid (Below W.heap.size W w8) := Lib.hid (BB6.out.grown hg8 BB6.out.size (fun k hk => (os6.block k hk).1))
      have bn8 := BB8.out.mono hNW
      rw [HBS.out] at ho8 ⊢
      have HO8 := Lib.hid (ho8.mono hNW)
      clear ho8 hg8
      refine ⟨⟨⟨_, bn8⟩, rfl⟩, ?_⟩
      try simp only [Act.put, List.setIfInBounds_toArray, List.set_cons_zero, List.set_cons_succ]
      rw [wpWays_one4]
      try simp only [List.map_cons, List.map_nil, opAt, List.getElem?_toArray, List.getElem?_cons_zero, List.getElem?_cons_succ, Option.getD_some]
      repeat (go_big_quiet_step (fail))
      refine wpQuiet_nil ?_
      have hfill9 : Hid (Instr.fill (fun i => some (i * iw.size, iw.size)) ((Array.range (1 * iw.size)).map ((Value.agg #[.int .i64 0, .slice none 0 0]).cells[· % (Value.agg #[.int .i64 0, .slice none 0 0]).cells.size]!)) [(0, .agg #[.int .i64 (i : Int), .slice A8 64 c8])] = some #[.int .i64 (i : Int), .slice A8 64 c8]) := Lib.hid (by rw [his]; exact fill_two _ _ rfl (by simp))
      go_wp2_with (refine wpList_buildSlice rfl 48 113 1 _ rfl #[.int .i64 (i : Int), .slice A8 64 c8] iw _ Try.underlying48 hiw hiz (by rw [his]; decide) (by rw [his]; decide) (by rw [Array.toList_map]; exact hfill9.out) ?_)
      have BB9 : Hid (Below W.heap.size W (w8.alloc (.cells #[.int .i64 (i : Int), .slice A8 64 c8] 113))) := Lib.hid (BB8.out.alloc BB8.out.size _)
      have bn9 := BB9.out.mono hNW
      have hn9 : Hid (∀ (j : Nat) (u : Value), ([.int .i64 (i : Int), .slice A8 64 c8] : List Value)[j]? = some u → (w8.alloc (.cells #[.int .i64 (i : Int), .slice A8 64 c8] 113)).cell? ((⟨w8.heap.size, 0, none⟩ : Addr).add j) = some u) := Lib.hid (fun j u hj => by rw [Addr.add_mid, World.cell?_alloc_new]; simpa using hj)
      have ho9 := HO8.out.alloc (.cells #[.int .i64 (i : Int), .slice A8 64 c8] 113)
      refine ⟨⟨⟨_, bn9⟩, rfl⟩, ?_⟩
      try simp only [Act.put, List.setIfInBounds_toArray, List.set_cons_zero, List.set_cons_succ]
      rw [wpWays_one4]
      try simp only [List.map_nil, opAt, List.getElem?_toArray, List.getElem?_cons_zero, List.getElem?_cons_succ, Option.getD_some]
      repeat (go_big_quiet_step (fail))
      refine wpQuiet_nil ?_
      go_wp2_with (at_builtin; refine wpList_append_own_at _ rfl (.tmp 33) (.tmp 39) 48 rfl N0 113 iw _ 2 32 Try.underlying48 hiw hiz his hib rfl (by omega) _ ws.length (rdW ws ks) rfl (H1.out.below BB9.out).wrow ⟨w8.heap.size, 0, none⟩ 1 1 [.int .i64 (i : Int), .slice A8 64 c8] rfl rfl hn9.out (by intro u hu; simp at hu; rcases hu with rfl | rfl <;> rfl) (by unfold maxLen; omega) (by omega) (by have := BB9.out.size; omega) ?_; intro rw10 w10 ho10 hg10 _ how10; obtain ⟨Aw, cw, rfl⟩ := own_form ho10)
      have bn10 : Below N0 W w10 := (BB9.out.mono hNW).grown hg10 (by have := BB9.out.size; omega) (fun k hk => (H1.out.wrow.lt k hk).1)
      refine ⟨⟨⟨_, bn10⟩, rfl⟩, ?_⟩
      try simp only [Act.put, List.setIfInBounds_toArray, List.set_cons_zero, List.set_cons_succ]
      obtain ⟨hrd, hox⟩ := H1.out.wrote BB9.out hg10 (.slice Aw (ws.length + 1) cw) (.slice A8 64 c8) i bs hi HBS.out ho10 ho9
      have HRD := Lib.hid hrd
      have HOX := Lib.hid hox
      have HOW := Lib.hid how10
      have zr : w10.frozen? ⟨r, 1, none⟩ = false := frozen_r (H1.out.below BB9.out) hg10
      have zc := cell_r (H1.out.below BB9.out) hg10
      clear hrd hox ho10
      rw [wpWays_one4]
      try simp only [List.map_cons, List.map_nil, opAt, List.getElem?_toArray, List.getElem?_cons_zero, List.getElem?_cons_succ, Option.getD_some]
      repeat (go_big_quiet_step (fail))
      refine wpQuiet_nil ?_
      go_wp2_with fail
      refine ⟨⟨⟨_, bn10.trans (below_setC' (by have := bn10.size; omega) H1.out.hr)⟩, rfl⟩, ?_⟩
      try simp only [Act.put, List.setIfInBounds_toArray, List.set_cons_zero, List.set_cons_succ]
      rw [wpWays_done4]
      try simp only [List.map_nil]
      refine wpQuiet_nil ?_
      go_wp2_with fail
      go_ret
      refine ⟨rfl, ⟨.slice Aw (ws.length + 1) cw, _, HRD.out, ?_⟩, O1.out.trans HOX.out⟩
      rcases HOW.out with h3 | h3
      · exact .inl h3
      · exact .inr ⟨_, h3, by have h4 := BB9.out.size; have h5 := HSZ.out; omega⟩
    · go_wp2_with (at_builtin; refine wpList_append_z rfl (.tmp 35) (.tmp 36) 27 rfl Try.underlying27 infoU8 rfl os6 A c 64 bs bs rfl HBS.out (HX1.out.below BB6.out) rfl (by simp) BB6.out.size ?_; intro A8 c8 w8 ho8 hg8)
      have BB11 : Hid (Below W.heap.size W w8) := Lib.hid (BB6.out.grown hg8 BB6.out.size (fun k hk => (os6.block k hk).1))
      have bn11 := BB11.out.mono hNW
      rw [HBS.out] at ho8 ⊢
      have HO8 := Lib.hid (ho8.mono hNW)
      clear ho8 hg8
      have c1 := (blk_cell (H1.out.below BB11.out).head 1 _ rfl)
      refine ⟨⟨⟨_, bn11⟩, rfl⟩, ?_⟩
      try simp only [Act.put, List.setIfInBounds_toArray, List.set_cons_zero, List.set_cons_succ]
      rw [wpWays_two4]
      try simp only [List.map_cons, List.map_nil, opAt, List.getElem?_toArray, List.getElem?_cons_zero, List.getElem?_cons_succ, Option.getD_some]
      repeat (go_big_quiet_step (fail))
      refine wpQuiet_nil ⟨?_, ?_⟩
      · go_wp2_with fail
        refine ⟨⟨⟨_, bn11⟩, rfl⟩, ?_⟩
        try simp only [Act.put, List.setIfInBounds_toArray, List.set_cons_zero, List.set_cons_succ]
        rw [wpWays_one4]
        try simp only [List.map_nil, opAt, List.getElem?_toArray, List.getElem?_cons_zero, List.getElem?_cons_succ, Option.getD_some]
        repeat (go_big_quiet_step (fail))
        refine wpQuiet_nil ?_
        have hfill13 : Hid (Instr.fill (fun i => some (i * iw.size, iw.size)) ((Array.range (1 * iw.size)).map ((Value.agg #[.int .i64 0, .slice none 0 0]).cells[· % (Value.agg #[.int .i64 0, .slice none 0 0]).cells.size]!)) [(0, .agg #[.int .i64 (i : Int), .slice A8 64 c8])] = some #[.int .i64 (i : Int), .slice A8 64 c8]) := Lib.hid (by rw [his]; exact fill_two _ _ rfl (by simp))
        go_wp2_with (refine wpList_buildSlice rfl 48 113 1 _ rfl #[.int .i64 (i : Int), .slice A8 64 c8] iw _ Try.underlying48 hiw hiz (by rw [his]; decide) (by rw [his]; decide) (by rw [Array.toList_map]; exact hfill13.out) ?_)
        have BB13 : Hid (Below W.heap.size W (w8.alloc (.cells #[.int .i64 (i : Int), .slice A8 64 c8] 113))) := Lib.hid (BB11.out.alloc BB11.out.size _)
        have bn13 := BB13.out.mono hNW
        have hn13 : Hid (∀ (j : Nat) (u : Value), ([.int .i64 (i : Int), .slice A8 64 c8] : List Value)[j]? = some u → (w8.alloc (.cells #[.int .i64 (i : Int), .slice A8 64 c8] 113)).cell? ((⟨w8.heap.size, 0, none⟩ : Addr).add j) = some u) := Lib.hid (fun j u hj => by rw [Addr.add_mid, World.cell?_alloc_new]; simpa using hj)
        have ho13 := HO8.out.alloc (.cells #[.int .i64 (i : Int), .slice A8 64 c8] 113)
        refine ⟨⟨⟨_, bn13⟩, rfl⟩, ?_⟩
        try simp only [Act.put, List.setIfInBounds_toArray, List.set_cons_zero, List.set_cons_succ]
        rw [wpWays_one4]
        try simp only [List.map_nil, opAt, List.getElem?_toArray, List.getElem?_cons_zero, List.getElem?_cons_succ, Option.getD_some]
        repeat (go_big_quiet_step (fail))
        refine wpQuiet_nil ?_
        go_wp2_with (at_builtin; refine wpList_append_own_at _ rfl (.tmp 33) (.tmp 39) 48 rfl N0 113 iw _ 2 32 Try.underlying48 hiw hiz his hib rfl (by omega) _ ws.length (rdW ws ks) rfl (H1.out.below BB13.out).wrow ⟨w8.heap.size, 0, none⟩ 1 1 [.int .i64 (i : Int), .slice A8 64 c8] rfl rfl hn13.out (by intro u hu; simp at hu; rcases hu with rfl | rfl <;> rfl) (by unfold maxLen; omega) (by omega) (by have := BB13.out.size; omega) ?_; intro rw14 w14 ho14 hg14 _ how14; obtain ⟨Aw, cw, rfl⟩ := own_form ho14)
        have bn14 : Below N0 W w14 := (BB13.out.mono hNW).grown hg14 (by have := BB13.out.size; omega) (fun k hk => (H1.out.wrow.lt k hk).1)
        refine ⟨⟨⟨_, bn14⟩, rfl⟩, ?_⟩
        try simp only [Act.put, List.setIfInBounds_toArray, List.set_cons_zero, List.set_cons_succ]
        obtain ⟨hrd, hox⟩ := H1.out.wrote BB13.out hg14 (.slice Aw (ws.length + 1) cw) (.slice A8 64 c8) i bs hi HBS.out ho14 ho13
        have HRD := Lib.hid hrd
        have HOX := Lib.hid hox
        have HOW := Lib.hid how14
        have zr : w14.frozen? ⟨r, 1, none⟩ = false := frozen_r (H1.out.below BB13.out) hg14
        have zc := cell_r (H1.out.below BB13.out) hg14
        clear hrd hox ho14
        rw [wpWays_one4]
        try simp only [List.map_cons, List.map_nil, opAt, List.getElem?_toArray, List.getElem?_cons_zero, List.getElem?_cons_succ, Option.getD_some]
        repeat (go_big_quiet_step (fail))
        refine wpQuiet_nil ?_
        go_wp2_with fail
        refine ⟨⟨⟨_, bn14.trans (below_setC' (by have := bn14.size; omega) H1.out.hr)⟩, rfl⟩, ?_⟩
        try simp only [Act.put, List.setIfInBounds_toArray, List.set_cons_zero, List.set_cons_succ]
        rw [wpWays_done4]
        try simp only [List.map_nil]
        refine wpQuiet_nil ?_
        go_wp2_with fail
        go_ret
        refine ⟨rfl, ⟨.slice Aw (ws.length + 1) cw, _, HRD.out, ?_⟩, O1.out.trans HOX.out⟩
        rcases HOW.out with h3 | h3
        · exact .inl h3
        · exact .inr ⟨_, h3, by have h4 := BB13.out.size; have h5 := HSZ.out; omega⟩
      · have hfill15 : Hid (Instr.fill (fun i => some (i * iw.size, iw.size)) ((Array.range (1 * iw.size)).map ((Value.agg #[.int .i64 0, .slice none 0 0]).cells[· % (Value.agg #[.int .i64 0, .slice none 0 0]).cells.size]!)) [(0, .agg #[.int .i64 (i : Int), .slice A8 64 c8])] = some #[.int .i64 (i : Int), .slice A8 64 c8]) := Lib.hid (by rw [his]; exact fill_two _ _ rfl (by simp))
        go_wp2_with (refine wpList_buildSlice rfl 48 113 1 _ rfl #[.int .i64 (i : Int), .slice A8 64 c8] iw _ Try.underlying48 hiw hiz (by rw [his]; decide) (by rw [his]; decide) (by rw [Array.toList_map]; exact hfill15.out) ?_)
        have BB15 : Hid (Below W.heap.size W (w8.alloc (.cells #[.int .i64 (i : Int), .slice A8 64 c8] 113))) := Lib.hid (BB11.out.alloc BB11.out.size _)
        have bn15 := BB15.out.mono hNW
        have hn15 : Hid (∀ (j : Nat) (u : Value), ([.int .i64 (i : Int), .slice A8 64 c8] : List Value)[j]? = some u → (w8.alloc (.cells #[.int .i64 (i : Int), .slice A8 64 c8] 113)).cell? ((⟨w8.heap.size, 0, none⟩ : Addr).add j) = some u) := Lib.hid (fun j u hj => by rw [Addr.add_mid, World.cell?_alloc_new]; simpa using hj)
        have ho15 := HO8.out.alloc (.cells #[.int .i64 (i : Int), .slice A8 64 c8] 113)
        have c1 := (blk_cell (H1.out.below BB15.out).head 1 _ rfl)
        refine ⟨⟨⟨_, bn15⟩, rfl⟩, ?_⟩
        try simp only [Act.put, List.setIfInBounds_toArray, List.set_cons_zero, List.set_cons_succ]
        rw [wpWays_one4]
        try simp only [List.map_nil, opAt, List.getElem?_toArray, List.getElem?_cons_zero, List.getElem?_cons_succ, Option.getD_some]
        repeat (go_big_quiet_step (fail))
        refine wpQuiet_nil ?_
        go_wp2_with fail
        refine ⟨⟨⟨_, bn15⟩, rfl⟩, ?_⟩
        try simp only [Act.put, List.setIfInBounds_toArray, List.set_cons_zero, List.set_cons_succ]
        rw [wpWays_one4]
        try simp only [List.map_nil, opAt, List.getElem?_toArray, List.getElem?_cons_zero, List.getElem?_cons_succ, Option.getD_some]
        repeat (go_big_quiet_step (fail))
        refine wpQuiet_nil ?_
        go_wp2_with (at_builtin; refine wpList_append_own_at _ rfl (.tmp 33) (.tmp 39) 48 rfl N0 113 iw _ 2 32 Try.underlying48 hiw hiz his hib rfl (by omega) _ ws.length (rdW ws ks) rfl (H1.out.below BB15.out).wrow ⟨w8.heap.size, 0, none⟩ 1 1 [.int .i64 (i : Int), .slice A8 64 c8] rfl rfl hn15.out (by intro u hu; simp at hu; rcases hu with rfl | rfl <;> rfl) (by unfold maxLen; omega) (by omega) (by have := BB15.out.size; omega) ?_; intro rw17 w17 ho17 hg17 _ how17; obtain ⟨Aw, cw, rfl⟩ := own_form ho17)
        have bn17 : Below N0 W w17 := (BB15.out.mono hNW).grown hg17 (by have := BB15.out.size; omega) (fun k hk => (H1.out.wrow.lt k hk).1)
        refine ⟨⟨⟨_, bn17⟩, rfl⟩, ?_⟩
        try simp only [Act.put, List.setIfInBounds_toArray, List.set_cons_zero, List.set_cons_succ]
        obtain ⟨hrd, hox⟩ := H1.out.wrote BB15.out hg17 (.slice Aw (ws.length + 1) cw) (.slice A8 64 c8) i bs hi HBS.out ho17 ho15
        have HRD := Lib.hid hrd
        have HOX := Lib.hid hox
        have HOW := Lib.hid how17
        have zr : w17.frozen? ⟨r, 1, none⟩ = false := frozen_r (H1.out.below BB15.out) hg17
        have zc := cell_r (H1.out.below BB15.out) hg17
        clear hrd hox ho17
        rw [wpWays_one4]
        try simp only [List.map_cons, List.map_nil, opAt, List.getElem?_toArray, List.getElem?_cons_zero, List.getElem?_cons_succ, Option.getD_some]
        repeat (go_big_quiet_step (fail))
        refine wpQuiet_nil ?_
        go_wp2_with fail
        refine ⟨⟨⟨_, bn17.trans (below_setC' (by have := bn17.size; omega) H1.out.hr)⟩, rfl⟩, ?_⟩
        try simp only [Act.put, List.setIfInBounds_toArray, List.set_cons_zero, List.set_cons_succ]
        rw [wpWays_done4]
        try simp only [List.map_nil]
        refine wpQuiet_nil ?_
        go_wp2_with fail
        go_ret
        refine ⟨rfl, ⟨.slice Aw (ws.length + 1) cw, _, HRD.out, ?_⟩, O1.out.trans HOX.out⟩
        rcases HOW.out with h3 | h3
        · exact .inl h3
        · exact .inr ⟨_, h3, by have h4 := BB15.out.size; have h5 := HSZ.out; omega⟩
end
end Go.Proofs.Ytmmkmpjhmbocfaa

namespace Go.Proofs.Ytmmkmpjhmbocfaa
open Go.ChangeShapes Go.WideShapes Go.ChangeAt Go.RowKit
set_option linter.unusedVariables false

/-- The blocks of the reference's disk that a Flush or a Crash changes. -/
def RfX (r : Nat) (sv : Value) (k : Nat) : Prop := k = r ∨ sv.ownBlock = some k
section
variable {w w' : World} {N0 r n : Nat} {sv wv : Value} {vs : List Value} {F : List UInt8} {ks : List Value} {ws : List (Nat × List UInt8)} {off : Bool} {till : Int}

theorem Rd.sblock (h : Rd w N0 r sv wv n vs F ks ws off till) {g : Nat} (hg : sv.ownBlock = some g) : ∃ cur, w.heap[g]? = some (.cells cur 27 (0, 0)) := by
  rcases h.srow.2 with ⟨h0, _⟩ | ⟨g', cap, cur, rfl, hb, hgg, _⟩
  · rw [h0] at hg; cases hg
  · injection hg with hg
    subst hg
    exact ⟨cur, hgg⟩
/-- A sector put in place. -/
theorem Rd.stored {sb sc : Nat} (h : Rd w N0 r (.slice (some ⟨sb, 0, none⟩) n sc) wv n vs F ks ws off till) (q : Nat) (hq : q < n) (v : Value) (bs : List UInt8) (hbs : bs.length = 64) (hv : OwnS w N0 v 5 bs) :
    Rd (w.setCell ⟨sb, q, none⟩ v) N0 r (.slice (some ⟨sb, 0, none⟩) n sc) wv n (vs.set q v) (putAt F q bs) ks ws off till := by
  obtain ⟨cs, hsb⟩ := h.sblock (g := sb) rfl
  have key : ∀ (k : Nat) (cur : Array Value) (E : TypeId), w.heap[k]? = some (.cells cur E (0, 0)) → E ≠ 27 → (w.setCell ⟨sb, q, none⟩ v).heap[k]? = w.heap[k]? := fun k cur E hc hE =>
    Below.heap_setCell w ⟨sb, q, none⟩ _ k (fun e => by
      have e : k = sb := e
      subst e
      rw [hsb] at hc
      injection hc with hc
      injection hc with h1 h2
      exact hE h2.symm)
  have hl : vs.length = n := by have := h.srow.1; omega
  have hq64 : 64 * q + 64 ≤ F.length := by rw [h.len]; omega
  exact {
    head := (key r _ _ h.head (by decide)).trans h.head
    hr := h.hr
    srow := (h.srow.stored q v).1
    wrow := own_keepB h.wrow (fun k cur _ hc => key k cur _ hc (by decide))
    len := by rw [length_putAt hq64 hbs]; exact h.len
    secs := fun i hi => by
      rw [secN_put F q bs hbs hq64]
      by_cases hiq : i = q
      · rw [if_pos hiq, hiq]
        exact ⟨v, List.getElem?_set_self (by omega), own_keepB hv (fun k cur _ hc => key k cur _ hc (by decide))⟩
      · rw [if_neg hiq]
        obtain ⟨u, h1, h2⟩ := h.secs i hi
        exact ⟨u, by rw [List.getElem?_set_ne (fun e => hiq e.symm)]; exact h1, own_keepB h2 (fun k cur _ hc => key k cur _ hc (by decide))⟩
    wks := h.wks
    wts := fun k p hp => by
      obtain ⟨h1, h2, u, h3, h4⟩ := h.wts k p hp
      exact ⟨h1, h2, u, h3, own_keepB h4 (fun k cur _ hc => key k cur _ hc (by decide))⟩
    lo := h.lo
    hi := h.hi }
/-- Nothing waits any more. -/
theorem Rd.empt (h : Rd w N0 r sv wv n vs F ks ws off till) : Rd (w.setCell ⟨r, 1, none⟩ (.slice none 0 0)) N0 r sv (.slice none 0 0) n vs F [] [] off till := by
  have hk : ∀ (k : Nat) (cur : Array Value) (E : TypeId), w.heap[k]? = some (.cells cur E (0, 0)) → E ≠ 50 → (w.setCell ⟨r, 1, none⟩ (.slice none 0 0)).heap[k]? = w.heap[k]? := fun k cur E hc hE =>
    Below.heap_setCell w ⟨r, 1, none⟩ _ k (fun e => by
      have e : k = r := e
      subst e
      rw [h.head] at hc
      injection hc with hc
      injection hc with h1 h2
      exact hE h2.symm)
  exact {
    head := (heap_setCell_same w r 1 _ _ _ h.head).trans rfl
    hr := h.hr
    srow := own_keepB h.srow (fun k cur _ hc => hk k cur _ hc (by decide))
    wrow := World.ownsRow_nil _ _ _ _
    len := h.len
    secs := fun i hi => by
      obtain ⟨v, h1, h2⟩ := h.secs i hi
      exact ⟨v, h1, own_keepB h2 (fun k cur _ hc => hk k cur _ hc (by decide))⟩
    wks := rfl
    wts := fun k p hp => by simp at hp
    lo := h.lo
    hi := h.hi }

theorem outer_set {X : Nat → Prop} (w : World) (g i : Nat) (v : Value) (hX : X g) : OuterX X w (w.setCell ⟨g, i, none⟩ v) :=
  ⟨rfl, rfl, rfl, by simp, fun k _ hk => Below.heap_setCell w ⟨g, i, none⟩ v k (fun e => hk (by have e : k = g := e; rw [e]; exact hX))⟩

set_option maxRecDepth 100000 in
theorem rflush_off (h : Rd w N0 r sv wv n vs F ks ws true till) :
    Calls Try.prog 24 #[.pointer (some ⟨r, 0, none⟩)] w fun e w' => e = .returned (.int .i64 2) ∧ w' = w := by
  have c2 := blk_cell h.head 2 _ rfl
  clear h
  go_enter Try.func24, Try.ntmps24
  go_wp2_with fail
  go_ret
  exact ⟨rfl, rfl⟩
set_option maxRecDepth 100000 in
theorem rflush_stop (h : Rd w N0 r sv wv n vs F ks ws false 0) :
    Calls Try.prog 24 #[.pointer (some ⟨r, 0, none⟩)] w fun e w' => e = .returned (.int .i64 2) ∧ w' = (w.setCell ⟨r, 2, none⟩ (.bool true)).setCell ⟨r, 3, none⟩ (.int .i64 (-1)) := by
  have H := Lib.hid h
  have c2 := blk_cell h.head 2 _ rfl
  clear h
  go_enter Try.func24, Try.ntmps24
  go_wp2_with (go_at_call 56; (refine (rstep_any H.out (by omega) (by omega) (-1) rfl).mono ?_); rintro e w1 ⟨rfl, rfl⟩)
  go_ret
  exact ⟨rfl, rfl⟩

set_option maxHeartbeats 4000000 in
set_option maxRecDepth 100000 in
theorem rflush_ok (h : Rd w N0 r sv wv n vs F ks ws false till) (ht : -1 ≤ till) (ht0 : till ≠ 0) (htm : till ≤ 9223372036854775807) (t' : Int) (ht' : rstepped till = t') (hw1000 : ws.length ≤ 1000) :
    Calls Try.prog 24 #[.pointer (some ⟨r, 0, none⟩)] w fun e w' => e = .returned (.int .i64 0) ∧ (∃ vs', Rd w' N0 r sv (.slice none 0 0) n vs' (flushN F ws ws.length) [] [] false t') ∧ OuterX (RfX r sv) w w' := by
  have H := Lib.hid h
  obtain ⟨sb, sc, rfl, hsb, hnc, hscm⟩ := h.sform
  have hn2 := h.hi
  have c2 := blk_cell h.head 2 _ rfl
  have h1 := h.set3 t'
  have o1 : OuterX (RfX r (.slice (some ⟨sb, 0, none⟩) n sc)) w (w.setCell ⟨r, 3, none⟩ (.int .i64 t')) := outer_set w r 3 _ (.inl rfl)
  obtain ⟨W, eW⟩ : ∃ W, W = w.setCell ⟨r, 3, none⟩ (.int .i64 t') := ⟨_, rfl⟩
  rw [← eW] at h1 o1
  have hst : Hid ((if till = 0 then w.setCell ⟨r, 2, none⟩ (.bool true) else w).setCell ⟨r, 3, none⟩ (.int .i64 t') = W) := Lib.hid (by rw [if_neg ht0, eW])
  have hd0 : Hid (decide (till = 0) = false) := Lib.hid (decide_eq_false ht0)
  have H1 := Lib.hid h1
  have O1 := Lib.hid o1
  have HT' := Lib.hid ht'
  obtain ⟨m, hm⟩ : ∃ m, m = ws.length := ⟨_, rfl⟩
  have HM := Lib.hid hm
  have hm1000 : m ≤ 1000 := by omega
  obtain ⟨⟨WA, wc, hwv, hwcm⟩, _⟩ := h.wform
  rw [← hm] at hwv
  subst hwv
  clear h h1 o1 eW ht' ht0 hm
  rw [← HM.out]
  go_enter Try.func24, Try.ntmps24
  go_upto_region 4 with (go_at_call 56; (refine (rstep_any H.out ht htm t' HT'.out).mono ?_); rintro e w1 ⟨rfl, rfl⟩; rw [hd0.out, hst.out])
  go_loopw [3] (fun kv wr => ∃ (k : Nat) (us : List Value), k ≤ m ∧ kv = .int .i64 (k : Int) ∧ Hid (Rd wr N0 r (.slice (some ⟨sb, 0, none⟩) n sc) (.slice WA m wc) n us (flushN F ws k) ks ws false t') ∧ Hid (OuterX (RfX r (.slice (some ⟨sb, 0, none⟩) n sc)) W wr)) (fun kv _ => m - (intOf kv).toNat)
  case atStart => exact ⟨0, vs, by omega, rfl, H1, Lib.hid (OuterX.refl _ _)⟩
  case round =>
    obtain ⟨k, us, hk, rfl, HR, HO⟩ := hrel
    have c0 := blk_cell HR.out.head 0 _ rfl
    have c1 := blk_cell HR.out.head 1 _ rfl
    by_cases hlt : k < m
    · obtain ⟨p, hp⟩ : ∃ p, ws[k]? = some p := ⟨_, List.getElem?_eq_getElem (by have := HM.out; omega)⟩
      obtain ⟨hp1, hp2, v, hks, hov⟩ := HR.out.wts k p hp
      obtain ⟨wb, c, hwv, e0, e1⟩ := HR.out.wform.2 k p v hp hks
      rw [← HM.out] at hwv
      injection hwv with hw1 hw2 hw3
      subst hw1 hw3
      have HST : Hid (flushN F ws (k + 1) = putAt (flushN F ws k) p.1 p.2) := Lib.hid (flushN_succ hp)
      obtain ⟨q, bs⟩ := p
      dsimp only at hp1 hp2 e0 hov HST
      obtain ⟨Av, cv2, rfl, _⟩ := hov.slice
      rw [hp2] at e1 hov
      have HOV := Lib.hid hov
      have HP2 := Lib.hid hp2
      have F0 : ∀ y : SubW wr.heap.size wr, y.at_.cell? ⟨r, 0, none⟩ = some (.slice (some ⟨sb, 0, none⟩) n sc) := fun y => (y.ok_.cell (World.block_lt_of_cell? _ _ c0)).trans c0
      have F1 : ∀ y : SubW wr.heap.size wr, y.at_.cell? ⟨r, 1, none⟩ = some (.slice (some ⟨wb, 0, none⟩) m wc) := fun y => (y.ok_.cell (World.block_lt_of_cell? _ _ c1)).trans c1
      have F2 : ∀ y : SubW wr.heap.size wr, y.at_.cell? ⟨wb, k * 2, none⟩ = some (.int .i64 (q : Int)) := fun y => (y.ok_.cell (World.block_lt_of_cell? _ _ e0)).trans e0
      have F3 : ∀ y : SubW wr.heap.size wr, y.at_.cell? ⟨wb, k * 2 + 1, none⟩ = some (.slice Av 64 cv2) := fun y => (y.ok_.cell (World.block_lt_of_cell? _ _ e1)).trans e1
      clear hp hks hov e0 e1 hp2
      have hqn : (q : Int) < (n : Int) := by omega
      go_upto_region 6 with fail
      refine region_below_tail 21 wr.heap.size wr (Below.refl _ _) (by kernel_rfl) (by kernel_rfl) ?_
      simp only [List.take_succ_cons, List.take_zero, List.drop_succ_cons, List.drop_zero]
      repeat (go_big_quiet_step (fail))
      refine wpQuiet_nil ?_
      rintro w' ⟨y, rfl⟩
      have hr := HR.out.below y.ok_
      have h2 := hr.stored q hp1 (.slice Av 64 cv2) bs HP2.out (HOV.out.below y.ok_)
      rw [← HST.out] at h2
      have H2 := Lib.hid h2
      have O2 : Hid (OuterX (RfX r (.slice (some ⟨sb, 0, none⟩) n sc)) W (y.at_.setCell ⟨sb, q, none⟩ (.slice Av 64 cv2))) := Lib.hid ((HO.out.then y.ok_ HO.out.size).trans (outer_set y.at_ sb q _ (.inr rfl)))
      obtain ⟨cv, hcv, _⟩ := hr.secs q hp1
      have cq : y.at_.cell? ⟨sb, q, none⟩ = some cv := by rw [hr.srow.cellAt q (by omega)]; exact hcv
      have zq : y.at_.frozen? ⟨sb, q, none⟩ = false := hr.srow.frozenAt q
      clear hr h2 hcv F0 F1 F2 F3 c0 c1
      go_wp2_with fail
      go_roundw
      case rel => exact ⟨k + 1, us.set q (.slice Av 64 cv2), by omega, by go_num, H2, O2⟩
      case measure => simp [intOf]; omega
    · obtain rfl : k = m := by omega
      have hw := HR.out.empt
      have z1 : wr.frozen? ⟨r, 1, none⟩ = false := by simp [World.frozen?, HR.out.head]
      have HW := Lib.hid hw
      have OW : Hid (OuterX (RfX r (.slice (some ⟨sb, 0, none⟩) n sc)) w (wr.setCell ⟨r, 1, none⟩ (.slice none 0 0))) := Lib.hid ((O1.out.trans HO.out).trans (outer_set wr r 1 _ (.inl rfl)))
      clear hw
      go_wp2_with fail
      go_ret
      exact ⟨rfl, ⟨us, HW.out⟩, OW.out⟩
end
end Go.Proofs.Ytmmkmpjhmbocfaa

namespace Go.Proofs.Ytmmkmpjhmbocfaa
open Go.ChangeShapes Go.WideShapes Go.ChangeAt Go.RowKit
set_option linter.unusedVariables false

theorem keepN_get (a : Nat) (old new : List UInt8) (ho : old.length = 64) (hn : new.length = 64) (j : Nat) : ∀ k, k ≤ 8 → (keepN a old new k)[j]? = if j < 8 * k ∧ a / 2 ^ (j / 8) % 2 = 1 then new[j]? else old[j]?
  | 0, _ => by rw [if_neg (by omega)]; rfl
  | k + 1, hk => by
    have ih := keepN_get a old new ho hn j k (by omega)
    have hl := length_keepN a old new ho hn k (by omega)
    unfold keepN
    by_cases hb : a / 2 ^ k % 2 = 1
    · rw [if_pos hb]
      have hlt : ((keepN a old new k).take (8 * k)).length = 8 * k := by rw [List.length_take]; omega
      have hlx : ((new.drop (8 * k)).take 8).length = 8 := by rw [List.length_take, List.length_drop]; omega
      by_cases h1 : j < 8 * k
      · rw [List.append_assoc, List.getElem?_append_left (by omega), List.getElem?_take, if_pos h1, ih]
        by_cases hc : a / 2 ^ (j / 8) % 2 = 1
        · rw [if_pos ⟨h1, hc⟩, if_pos ⟨by omega, hc⟩]
        · rw [if_neg (fun h => hc h.2), if_neg (fun h => hc h.2)]
      · by_cases h2 : j < 8 * k + 8
        · have hj8 : j / 8 = k := by omega
          rw [List.append_assoc, List.getElem?_append_right (by omega), List.getElem?_append_left (by omega), hlt, List.getElem?_take, if_pos (by omega), List.getElem?_drop, if_pos ⟨by omega, by rw [hj8]; exact hb⟩]
          congr 1
          omega
        · rw [List.getElem?_append_right (by rw [List.length_append]; omega), List.length_append, hlt, hlx, List.drop_drop, List.getElem?_drop, show 8 * k + 8 + (j - (8 * k + 8)) = j by omega, ih, if_neg (by omega), if_neg (by omega)]
    · rw [if_neg hb, ih]
      by_cases h1 : j < 8 * k
      · by_cases hc : a / 2 ^ (j / 8) % 2 = 1
        · rw [if_pos ⟨h1, hc⟩, if_pos ⟨by omega, hc⟩]
        · rw [if_neg (fun h => hc h.2), if_neg (fun h => hc h.2)]
      · rw [if_neg (by omega)]
        by_cases hc : j < 8 * (k + 1) ∧ a / 2 ^ (j / 8) % 2 = 1
        · exfalso
          have : j / 8 = k := by omega
          rw [this] at hc
          exact hb hc.2
        · rw [if_neg hc]
theorem crash1_put (S : List UInt8) (p : Nat × List UInt8) (a : Nat) : crash1 S p (some (true, a)) = putAt S p.1 (keepN a (secN S p.1) p.2 8) := rfl
theorem and_bit8r : ∀ e, e < 8 → ∀ o, o < 256 → (bits BinOp.and IntKind.u8 (((o : Nat) : Int) / 2 ^ e) 1 == 1) = decide (o / 2 ^ e % 2 = 1) := by decide +kernel

section
variable {w w' : World} {N0 r n : Nat} {sv wv : Value} {vs : List Value} {F : List UInt8} {ks : List Value} {ws : List (Nat × List UInt8)} {off : Bool} {till : Int}

/-- What a tearing has made of a sector's first j bytes. -/
def tornTo (a : Nat) (old new : List UInt8) (j : Nat) (xs : List UInt8) : Prop := xs.length = 64 ∧ ∀ t, t < 64 → xs[t]? = if t < j ∧ a / 2 ^ (t / 8) % 2 = 1 then new[t]? else old[t]?
theorem tornTo_end {a : Nat} {old new xs : List UInt8} (ho : old.length = 64) (hn : new.length = 64) (h : tornTo a old new 64 xs) : xs = keepN a old new 8 := by
  apply List.ext_getElem?
  intro t
  by_cases ht : t < 64
  · rw [h.2 t ht, keepN_get a old new ho hn t 8 (by omega)]
  · rw [List.getElem?_eq_none (by have := h.1; omega), List.getElem?_eq_none (by rw [length_keepN a old new ho hn 8 (by omega)]; omega)]
theorem tornTo_skip {a : Nat} {old new xs : List UInt8} {j : Nat} (h : tornTo a old new j xs) (hb : ¬ a / 2 ^ (j / 8) % 2 = 1) : tornTo a old new (j + 1) xs := by
  refine ⟨h.1, fun t ht => ?_⟩
  rw [h.2 t ht]
  by_cases hc : t < j ∧ a / 2 ^ (t / 8) % 2 = 1
  · rw [if_pos hc, if_pos ⟨by omega, hc.2⟩]
  · rw [if_neg hc]
    by_cases hd : t < j + 1 ∧ a / 2 ^ (t / 8) % 2 = 1
    · exfalso
      have : t = j := by
        rcases Nat.lt_or_ge t j with h1 | h1
        · exact absurd ⟨h1, hd.2⟩ hc
        · omega
      rw [this] at hd
      exact hb hd.2
    · rw [if_neg hd]
theorem tornTo_take {a : Nat} {old new xs : List UInt8} {j : Nat} (h : tornTo a old new j xs) (hj : j < 64) (hb : a / 2 ^ (j / 8) % 2 = 1) (c : UInt8) (hc : new[j]? = some c) : tornTo a old new (j + 1) (xs.set j c) := by
  refine ⟨by rw [List.length_set]; exact h.1, fun t ht => ?_⟩
  by_cases htj : t = j
  · rw [htj, List.getElem?_set_self (by have := h.1; omega), if_pos ⟨by omega, hb⟩, hc]
  · rw [List.getElem?_set_ne (fun e => htj e.symm), h.2 t ht]
    by_cases hd : t < j ∧ a / 2 ^ (t / 8) % 2 = 1
    · rw [if_pos hd, if_pos ⟨by omega, hd.2⟩]
    · rw [if_neg hd, if_neg (fun h => hd ⟨by omega, h.2⟩)]

theorem Rd.outerR {X : Nat → Prop} (h : Rd w N0 r sv wv n vs F ks ws off till) (ho : OuterX X w w') (hX : ∀ k, X k → k < w.heap.size → ∀ cur E, w.heap[k]? = some (.cells cur E (0, 0)) → ¬ (E = 50 ∨ E = 27 ∨ E = 113 ∨ E = 5)) : Rd w' N0 r sv wv n vs F ks ws off till :=
  h.keep (fun k cur E _ hc hE => ho.block k (Array.getElem?_eq_some_iff.1 hc).1 (fun hx => hX k hx (Array.getElem?_eq_some_iff.1 hc).1 cur E hc hE))

theorem crashN_stay (F : List UInt8) (ws : List (Nat × List UInt8)) (fs : List (Bool × Nat)) (k : Nat) (hk : fs.length ≤ k) : ∀ d, crashN F ws fs (k + d) = crashN F ws fs k
  | 0 => rfl
  | d + 1 => by
    have ih := crashN_stay F ws fs k hk d
    cases hp : ws[k + d]? with
    | none =>
      show (match ws[k + d]? with | some p => crash1 (crashN F ws fs (k + d)) p fs[k + d]? | none => crashN F ws fs (k + d)) = _
      rw [hp]
      exact ih
    | some p =>
      rw [← Nat.add_assoc, crashN_succ hp, List.getElem?_eq_none (by omega), ← ih]
      rfl
set_option maxHeartbeats 8000000 in
set_option maxRecDepth 100000 in
theorem rcrash_any (h : Rd w N0 r sv wv n vs F ks ws off till) (hw1000 : ws.length ≤ 1000) (KA TA : Option Addr) (nf kc tc : Nat) (fs : List (Bool × Nat)) (hnf : fs.length = nf) (hkc : nf ≤ kc) (htc : nf ≤ tc) (hnm : nf ≤ 1000)
    (hf : ∀ (j : Nat) (p : Bool × Nat), fs[j]? = some p → ∃ kb ko tb tf, KA = some ⟨kb, ko, none⟩ ∧ TA = some ⟨tb, tf, none⟩ ∧ w.cell? ⟨kb, ko + j, none⟩ = some (.bool p.1) ∧ w.cell? ⟨tb, tf + j, none⟩ = some (.int .u8 (p.2 : Int)) ∧ p.2 < 256 ∧ ¬ RfX r sv kb ∧ ¬ RfX r sv tb) :
    Calls Try.prog 26 #[.pointer (some ⟨r, 0, none⟩), .slice KA nf kc, .slice TA nf tc] w fun e w' => e = .returned (.tuple #[]) ∧ (∃ vs', Rd w' N0 r sv (.slice none 0 0) n vs' (crashN F ws fs ws.length) [] [] false (-1)) ∧ OuterX (RfX r sv) w w' := by
  have H := Lib.hid h
  obtain ⟨sb, sc, rfl, hsb, hnc, hscm⟩ := h.sform
  have hn2 := h.hi
  obtain ⟨m, hm⟩ : ∃ m, m = ws.length := ⟨_, rfl⟩
  have HM := Lib.hid hm
  have hm1000 : m ≤ 1000 := by omega
  obtain ⟨⟨WA, wcap, hwv, hwcm⟩, _⟩ := h.wform
  rw [← hm] at hwv
  subst hwv
  have HF := Lib.hid hf
  have HNF := Lib.hid hnf
  clear h hm hf hnf
  rw [← HM.out]
  go_enter Try.func26, Try.ntmps26
  go_wp2_with fail
  go_loopw [6] (fun kv wr => ∃ (k : Nat) (us : List Value), k ≤ m ∧ k ≤ nf ∧ kv = .int .i64 (k : Int) ∧ Hid (Rd wr N0 r (.slice (some ⟨sb, 0, none⟩) n sc) (.slice WA m wcap) n us (crashN F ws fs k) ks ws off till) ∧ Hid (OuterX (RfX r (.slice (some ⟨sb, 0, none⟩) n sc)) w wr)) (fun kv _ => m - (intOf kv).toNat)
  case atStart => exact ⟨0, vs, by omega, by omega, rfl, H, Lib.hid (OuterX.refl _ _)⟩
  case round =>
    obtain ⟨k, us, hk, hkf, rfl, HR, HO⟩ := hrel
    have c0 := blk_cell HR.out.head 0 _ rfl
    have c1 := blk_cell HR.out.head 1 _ rfl
    have c2 := blk_cell HR.out.head 2 _ rfl
    by_cases hlt : k < m ∧ k < nf
    · obtain ⟨hlt1, hlt2⟩ := hlt
      obtain ⟨p, hp⟩ : ∃ p, ws[k]? = some p := ⟨_, List.getElem?_eq_getElem (by have := HM.out; omega)⟩
      obtain ⟨fk, hfk⟩ : ∃ f, fs[k]? = some f := ⟨_, List.getElem?_eq_getElem (by have := HNF.out; omega)⟩
      obtain ⟨kb, ko, tb, tf, rfl, rfl, hkc0, htc0, ha256, hkX, htX⟩ := HF.out k fk hfk
      obtain ⟨hp1, hp2, v, hks, hov⟩ := HR.out.wts k p hp
      obtain ⟨wb, c, hwv, e0, e1⟩ := HR.out.wform.2 k p v hp hks
      rw [← HM.out] at hwv
      injection hwv with hw1 hw2 hw3
      subst hw1 hw3
      have HST : Hid (crashN F ws fs (k + 1) = crash1 (crashN F ws fs k) p (some fk)) := Lib.hid (by rw [crashN_succ hp, hfk])
      have ck : wr.cell? ⟨kb, ko + k, none⟩ = some (.bool fk.1) := (World.cell?_of_block (a := ⟨kb, ko + k, none⟩) (HO.out.block kb (World.block_lt_of_cell? _ _ hkc0) hkX)).trans hkc0
      have ct : wr.cell? ⟨tb, tf + k, none⟩ = some (.int .u8 (fk.2 : Int)) := (World.cell?_of_block (a := ⟨tb, tf + k, none⟩) (HO.out.block tb (World.block_lt_of_cell? _ _ htc0) htX)).trans htc0
      obtain ⟨q, bs⟩ := p
      obtain ⟨kp, a⟩ := fk
      dsimp only at hp1 hp2 e0 hov HST ck ct ha256
      obtain ⟨Av, cv2, rfl, hbv, _⟩ := hov.slice
      rw [hp2] at e1 hov
      cases kp with
      | false =>
        have hsame : crashN F ws fs (k + 1) = crashN F ws fs k := HST.out
        have HSAME := Lib.hid hsame
        clear hp hfk hkc0 htc0 hks hov hbv HST hsame
        go_wp2_with fail
        go_roundw
        case rel => exact ⟨k + 1, us, by omega, by omega, by go_num, Lib.hid (by rw [HSAME.out]; exact HR.out), HO⟩
        case measure => simp [intOf]; omega
      | true =>
        have hold : (secN (crashN F ws fs k) q).length = 64 := length_secN (by rw [HR.out.len]; omega)
        obtain ⟨OLD, eOLD⟩ : ∃ O, O = secN (crashN F ws fs k) q := ⟨_, rfl⟩
        obtain ⟨u, hu, hou⟩ := HR.out.secs q hp1
        rw [← eOLD] at hold hou
        obtain ⟨Au, cu, rfl, hbu, hcu, _⟩ := hou.slice
        rw [hold] at hu hcu
        have cS : wr.cell? ⟨sb, q, none⟩ = some (.slice Au 64 cu) := by rw [HR.out.srow.cellAt q (by omega)]; exact hu
        have HOLD := Lib.hid hold
        have EOLD := Lib.hid eOLD
        have HBU := Lib.hid hbu
        have HBV := Lib.hid hbv
        have HP2 := Lib.hid hp2
        have F0 : ∀ y : SubW wr.heap.size wr, y.at_.cell? ⟨r, 0, none⟩ = some (.slice (some ⟨sb, 0, none⟩) n sc) := fun y => (y.ok_.cell (World.block_lt_of_cell? _ _ c0)).trans c0
        have F1 : ∀ y : SubW wr.heap.size wr, y.at_.cell? ⟨r, 1, none⟩ = some (.slice (some ⟨wb, 0, none⟩) m wcap) := fun y => (y.ok_.cell (World.block_lt_of_cell? _ _ c1)).trans c1
        have F2 : ∀ y : SubW wr.heap.size wr, y.at_.cell? ⟨wb, k * 2, none⟩ = some (.int .i64 (q : Int)) := fun y => (y.ok_.cell (World.block_lt_of_cell? _ _ e0)).trans e0
        have F3 : ∀ y : SubW wr.heap.size wr, y.at_.cell? ⟨sb, q, none⟩ = some (.slice Au 64 cu) := fun y => (y.ok_.cell (World.block_lt_of_cell? _ _ cS)).trans cS
        have hqn : (q : Int) < (n : Int) := by omega
        clear hp hfk hkc0 htc0 hks hov hbv hu hou hbu hold eOLD hp2
        go_upto_region 4 with fail
        go_cut [7] from 29 to 44 (fun bv wx => ∃ qb cb, bv = .slice (some ⟨qb, 0, none⟩) 64 cb ∧ Hid (OwnB wx wr.heap.size qb cb 5 OLD) ∧ Hid (Below wr.heap.size wr wx))
        case first =>
          refine region_ways4 wr.heap.size (Nat.le_refl _) (.one [1, 2, 3, 4, 5, 6, 7, 8, 9, 10, 11, 12, 13, 14] 0 (.one [] 15 (.done [16]))) (by kernel_rfl) (by kernel_rfl) ?_
          rintro wd hbd
          rw [wpWays_one4]
          try simp only [List.map_cons, List.map_nil, opAt, List.getElem?_toArray, List.getElem?_cons_zero, List.getElem?_cons_succ, Option.getD_some]
          repeat (go_big_quiet_step (fail))
          refine wpQuiet_nil ?_
          have b1 : Below wr.heap.size wr (wd.alloc (.cells #[] 5)) := hbd.alloc hbd.size _
          have os1 : OwnS (wd.alloc (.cells #[] 5)) wr.heap.size (.slice (some ⟨wd.heap.size, 0, none⟩) 0 0) 5 [] := OwnS.new wd 5 [] wr.heap.size hbd.size (by unfold maxLen; simp)
          go_wp2_with fail
          refine ⟨⟨⟨_, b1⟩, rfl⟩, ?_⟩
          try simp only [Act.put, List.setIfInBounds_toArray, List.set_cons_zero, List.set_cons_succ]
          rw [wpWays_one4]
          try simp only [List.map_nil, opAt, List.getElem?_toArray, List.getElem?_cons_zero, List.getElem?_cons_succ, Option.getD_some]
          refine wpQuiet_nil ?_
          go_wp2_with (at_builtin; refine wpList_append_z rfl (.tmp 29) (.tmp 43) 27 rfl Try.underlying27 infoU8 rfl os1 Au cu 64 OLD OLD rfl HOLD.out (HBU.out.below b1) rfl (by simp) b1.size ?_; intro A8 c8 w8 ho8 hg8)
          have b8 : Below wr.heap.size wr w8 := b1.grown hg8 b1.size (fun k hk => (os1.block k hk).1)
          rw [HOLD.out] at ho8 ⊢
          obtain ⟨qb, hqb, hob, _⟩ := ho8.ownB (by decide)
          refine ⟨⟨⟨_, b8⟩, rfl⟩, ?_⟩
          try simp only [Act.put, List.setIfInBounds_toArray, List.set_cons_zero, List.set_cons_succ]
          rw [wpWays_done4]
          try simp only [List.map_cons, List.map_nil, opAt, List.getElem?_toArray, List.getElem?_cons_zero, List.getElem?_cons_succ, Option.getD_some]
          repeat (go_big_quiet_step (fail))
          refine wpQuiet_nil ?_
          go_wp2_with fail
          go_meet
          exact ⟨qb, c8, by rw [hqb], Lib.hid hob, Lib.hid b8⟩
        case rest =>
          obtain ⟨qb, cb, rfl, HOB, HBW⟩ := hcut
          clear F0 F1 F2 F3 cS
          obtain ⟨vb, vo, rfl, hvc⟩ := HBV.out (by intro e; have := HP2.out; rw [e] at this; simp at this)
          have HVC := Lib.hid hvc
          have HN0 : Hid (N0 ≤ wr.heap.size) := Lib.hid (by have h1 := HR.out.hr; have h2 := HR.out.wlt; omega)
          have CT := Lib.hid ct
          have C1 := Lib.hid c1
          have E1 := Lib.hid e1
          have E0 := Lib.hid e0
          clear hvc ct c1 c0 c2 e0 e1 ck
          obtain ⟨W0, rfl⟩ : ∃ W0, W0 = wr := ⟨_, rfl⟩
          go_upto_region 6 with fail
          go_loopw [8] (fun iv wx => ∃ (j : Nat) (xs : List UInt8), j ≤ 64 ∧ iv = .int .i64 (j : Int) ∧ Hid (tornTo a OLD bs j xs) ∧ Hid (OwnB wx W0.heap.size qb cb 5 xs) ∧ Hid (Below W0.heap.size W0 wx)) (fun iv _ => 64 - (intOf iv).toNat)
          case atStart => exact ⟨0, OLD, by omega, rfl, Lib.hid ⟨HOLD.out, fun t _ => by rw [if_neg (by omega)]⟩, HOB, HBW⟩
          case round =>
            obtain ⟨j, xs, hj, rfl, HT, HX, HBX⟩ := hrel
            by_cases hj64 : j < 64
            · have ct : wr.cell? ⟨tb, tf + k, none⟩ = some (.int .u8 (a : Int)) := (HBX.out.cell (World.block_lt_of_cell? _ _ CT.out)).trans CT.out
              have c1 : wr.cell? ⟨r, 1, none⟩ = some (.slice (some ⟨wb, 0, none⟩) m wcap) := (HBX.out.cell (World.block_lt_of_cell? _ _ C1.out)).trans C1.out
              have e1 : wr.cell? ⟨wb, k * 2 + 1, none⟩ = some (.slice (some ⟨vb, vo, none⟩) 64 cv2) := (HBX.out.cell (World.block_lt_of_cell? _ _ E1.out)).trans E1.out
              have hjl : j < bs.length := by rw [HP2.out]; exact hj64
              obtain ⟨cj, hcj⟩ : ∃ cj, cj = bs[j] := ⟨_, rfl⟩
              have ev0 := HVC.out j hjl
              rw [← hcj] at ev0
              have ev : wr.cell? ⟨vb, vo + j, none⟩ = some (.int .u8 (cj.toNat : Int)) := (HBX.out.cell (World.block_lt_of_cell? _ _ ev0)).trans ev0
              have hxl := HT.out.1
              have cx := HX.out.cellAt j (by rw [hxl]; exact hj64)
              have zx := HX.out.frozenAt j
              obtain ⟨e, he⟩ : ∃ e, e = j / 8 := ⟨_, rfl⟩
              have hei : (j : Int) / 8 = (e : Int) := by omega
              have he8 : e < 8 := by omega
              have HE := Lib.hid he
              have HCJ : Hid (bs[j]? = some cj) := Lib.hid (by rw [hcj]; exact List.getElem?_eq_getElem hjl)
              clear he hcj ev0 hxl hjl
              by_cases hb : a / 2 ^ e % 2 = 1
              · have hq : (bits BinOp.and IntKind.u8 ((a : Int) / 2 ^ e) 1 == 1) = true := by rw [and_bit8r e he8 a ha256]; exact decide_eq_true hb
                have HB' := Lib.hid (tornTo_take HT.out hj64 (by rw [← HE.out]; exact hb) cj HCJ.out)
                have HXS := Lib.hid (HX.out.stored j (by rw [HT.out.1]; exact hj64) cj)
                have HBS : Hid (Below W0.heap.size W0 (wr.setCell ⟨qb, j, none⟩ (.int .u8 (cj.toNat : Int)))) := Lib.hid (HBX.out.trans (below_setC' HBX.out.size (HX.out.parts.1)))
                clear hb
                go_wp2_with fail
                go_roundw
                case rel => exact ⟨j + 1, xs.set j cj, by omega, by go_num, HB', HXS, HBS⟩
                case measure => simp [intOf]; omega
              · have hq : (bits BinOp.and IntKind.u8 ((a : Int) / 2 ^ e) 1 == 1) = false := by rw [and_bit8r e he8 a ha256]; exact decide_eq_false hb
                have HB' := Lib.hid (tornTo_skip HT.out (by rw [← HE.out]; exact hb))
                clear hb
                go_wp2_with fail
                go_roundw
                case rel => exact ⟨j + 1, xs, by omega, by go_num, HB', HX, HBX⟩
                case measure => simp [intOf]; omega
            · obtain rfl : j = 64 := by omega
              have hx := tornTo_end HOLD.out HP2.out HT.out
              have hxl := HT.out.1
              have hown : OwnS wr N0 (.slice (some ⟨qb, 0, none⟩) 64 cb) 5 xs := by
                have := HX.out.ownS.mono HN0.out
                rw [hxl] at this
                exact this
              have hr := HR.out.below HBX.out
              have c0 := blk_cell hr.head 0 _ rfl
              have c1 := blk_cell hr.head 1 _ rfl
              have e0 : wr.cell? ⟨wb, k * 2, none⟩ = some (.int .i64 (q : Int)) := (HBX.out.cell (World.block_lt_of_cell? _ _ E0.out)).trans E0.out
              have F0 : ∀ y : SubW wr.heap.size wr, y.at_.cell? ⟨r, 0, none⟩ = some (.slice (some ⟨sb, 0, none⟩) n sc) := fun y => (y.ok_.cell (World.block_lt_of_cell? _ _ c0)).trans c0
              have F1 : ∀ y : SubW wr.heap.size wr, y.at_.cell? ⟨r, 1, none⟩ = some (.slice (some ⟨wb, 0, none⟩) m wcap) := fun y => (y.ok_.cell (World.block_lt_of_cell? _ _ c1)).trans c1
              have F2 : ∀ y : SubW wr.heap.size wr, y.at_.cell? ⟨wb, k * 2, none⟩ = some (.int .i64 (q : Int)) := fun y => (y.ok_.cell (World.block_lt_of_cell? _ _ e0)).trans e0
              have hst : crashN F ws fs (k + 1) = putAt (crashN F ws fs k) q xs := by rw [HST.out, crash1_put, hx, EOLD.out]
              have HSTX := Lib.hid hst
              have HRX := Lib.hid hr
              have HOWN := Lib.hid hown
              have HXL := Lib.hid hxl
              clear hx hxl hown hr c0 c1 e0 hst HT HX
              go_upto_region 10 with fail
              refine region_below_tail 14 wr.heap.size wr (Below.refl _ _) (by kernel_rfl) (by kernel_rfl) ?_
              simp only [List.take_succ_cons, List.take_zero, List.drop_succ_cons, List.drop_zero]
              repeat (go_big_quiet_step (fail))
              refine wpQuiet_nil ?_
              rintro w' ⟨y, rfl⟩
              have hr := HRX.out.below y.ok_
              have h2 := hr.stored q hp1 (.slice (some ⟨qb, 0, none⟩) 64 cb) xs HXL.out (HOWN.out.below y.ok_)
              rw [← HSTX.out] at h2
              have H2 := Lib.hid h2
              have O2 : Hid (OuterX (RfX r (.slice (some ⟨sb, 0, none⟩) n sc)) w (y.at_.setCell ⟨sb, q, none⟩ (.slice (some ⟨qb, 0, none⟩) 64 cb))) := Lib.hid (((HO.out.then HBX.out HO.out.size).then y.ok_ (Nat.le_trans HO.out.size HBX.out.size)).trans (outer_set y.at_ sb q _ (.inr rfl)))
              obtain ⟨cv, hcv, _⟩ := hr.secs q hp1
              have cq : y.at_.cell? ⟨sb, q, none⟩ = some cv := by rw [hr.srow.cellAt q (by omega)]; exact hcv
              have zq : y.at_.frozen? ⟨sb, q, none⟩ = false := hr.srow.frozenAt q
              clear hr h2 hcv F0 F1 F2
              go_wp2_with fail
              go_roundw
              case rel => exact ⟨k + 1, us.set q (.slice (some ⟨qb, 0, none⟩) 64 cb), by omega, by omega, by go_num, H2, O2⟩
              case measure => simp [intOf]; omega
    · have hsame : crashN F ws fs m = crashN F ws fs k := by
        rcases Nat.lt_or_ge k m with h1 | h1
        · have := crashN_stay F ws fs k (by rw [HNF.out]; omega) (m - k)
          rw [show k + (m - k) = m by omega] at this
          exact this
        · rw [show m = k by omega]
      have z1 : wr.frozen? ⟨r, 1, none⟩ = false := by simp [World.frozen?, HR.out.head]
      have z2 : wr.frozen? ⟨r, 2, none⟩ = false := by simp [World.frozen?, HR.out.head]
      have z3 : wr.frozen? ⟨r, 3, none⟩ = false := by simp [World.frozen?, HR.out.head]
      have c3 := blk_cell HR.out.head 3 _ rfl
      have HW := Lib.hid ((HR.out.empt.set2 false).set3 (-1))
      have OW : Hid (OuterX (RfX r (.slice (some ⟨sb, 0, none⟩) n sc)) w (((wr.setCell ⟨r, 1, none⟩ (.slice none 0 0)).setCell ⟨r, 2, none⟩ (.bool false)).setCell ⟨r, 3, none⟩ (.int .i64 (-1)))) := Lib.hid (((HO.out.trans (outer_set wr r 1 _ (.inl rfl))).trans (outer_set _ r 2 _ (.inl rfl))).trans (outer_set _ r 3 _ (.inl rfl)))
      have HSAME := Lib.hid hsame
      clear hsame
      by_cases hl1 : k < m
      · have hl2 : ¬ k < nf := fun h => hlt ⟨hl1, h⟩
        go_wp2_with fail
        exact bodyPost_end (results_none rfl _ _ _) rfl ⟨rfl, ⟨us, by rw [HSAME.out]; exact HW.out⟩, OW.out⟩
      · go_wp2_with fail
        exact bodyPost_end (results_none rfl _ _ _) rfl ⟨rfl, ⟨us, by rw [HSAME.out]; exact HW.out⟩, OW.out⟩
end
end Go.Proofs.Ytmmkmpjhmbocfaa

namespace Go.Proofs.Ytmmkmpjhmbocfaa
open Go.ChangeShapes Go.WideShapes Go.ChangeAt Go.RowKit
set_option linter.unusedVariables false

theorem infoSl : (Try.prog.info? 27).map (fun i => (i.zero, i.size, i.bytes)) = some (some (.slice none 0 0), 1, 24) := by kernel_rfl
theorem fill_one (C cells : Array Value) (hC : C.size = 1) (hn : cells.size = 1) (v : Value) (hv : v.cells = C) : Instr.fill (fun i => some (i * 1, 1)) cells [(0, v)] = some C := by
  have := Great.fill_whole (s := 1) (by omega) [v] cells (fun u hu => by simp at hu; subst hu; rw [hv]; exact hC) (by simp [hn])
  simpa [hv] using this
/-- While it is made: its first k sectors. -/
structure RnIn (w W : World) (N0 r k : Nat) (sv : Value) (vs : List Value) : Prop where
  head : W.heap[r]? = some (.cells #[sv, .slice none 0 0, .bool false, .int .i64 (-1)] 50 (0, 0))
  hr : N0 ≤ r
  srow : W.ownsRow N0 27 1 sv k vs
  secs : ∀ i, i < k → ∃ v, vs[i]? = some v ∧ OwnS W N0 v 5 (List.replicate 64 0)
  bel : Below N0 w W
  siz : N0 ≤ W.heap.size
section
variable {w W W' W10 W11 : World} {N0 r k : Nat} {sv : Value} {vs : List Value}
theorem RnIn.rlt (h : RnIn w W N0 r k sv vs) : r < W.heap.size := (Array.getElem?_eq_some_iff.1 h.head).1
theorem RnIn.below (h : RnIn w W N0 r k sv vs) (hb : Below W.heap.size W W') : RnIn w W' N0 r k sv vs :=
  ⟨(hb.block r h.rlt).trans h.head, h.hr, own_keepB h.srow (fun g cur _ hc => hb.block g (Array.getElem?_eq_some_iff.1 hc).1), fun i hi => by
    obtain ⟨v, h1, h2⟩ := h.secs i hi
    exact ⟨v, h1, h2.below hb⟩, h.bel.trans (hb.mono h.siz), Nat.le_trans h.siz hb.size⟩
theorem RnIn.sblock (h : RnIn w W N0 r k sv vs) {g : Nat} (hg : sv.ownBlock = some g) : ∃ cur, W.heap[g]? = some (.cells cur 27 (0, 0)) := by
  rcases h.srow.2 with ⟨h0, _⟩ | ⟨g', cap, cur, rfl, hb, hgg, _⟩
  · rw [h0] at hg; cases hg
  · injection hg with hg
    subst hg
    exact ⟨cur, hgg⟩
theorem RnIn.rkept (h : RnIn w W10 N0 r k sv vs) (hg : W10.grownBy W11 sv.ownBlock) : W11.heap[r]? = W10.heap[r]? := hg.block r h.rlt (fun e => by
    obtain ⟨cur, hc⟩ := h.sblock e.symm
    rw [h.head] at hc
    injection hc with hc
    injection hc with h1 h2
    exact absurd h2 (by decide))
theorem RnIn.next (h : RnIn w W N0 r k sv vs) (hb : Below W.heap.size W W10) (hg : W10.grownBy W11 sv.ownBlock) (v' u : Value) (ho : W11.ownsRow N0 27 1 v' (k + 1) (vs ++ [u])) (hu : OwnS W10 N0 u 5 (List.replicate 64 0)) :
    RnIn w (W11.setCell ⟨r, 0, none⟩ v') N0 r (k + 1) v' (vs ++ [u]) := by
  have h10 := h.below hb
  have hr11 := h10.rkept hg
  have hl : vs.length = k := by have := h.srow.1; omega
  have hnr : ∀ (g : Nat) (cur : Array Value) (E : TypeId), W11.heap[g]? = some (.cells cur E (0, 0)) → E ≠ 50 → (W11.setCell ⟨r, 0, none⟩ v').heap[g]? = W11.heap[g]? := fun g cur E hc hE =>
    Below.heap_setCell W11 ⟨r, 0, none⟩ v' g (fun e => by
      have e : g = r := e
      subst e
      rw [hr11, h10.head] at hc
      injection hc with hc
      injection hc with h1 h2
      exact hE h2.symm)
  have key : ∀ (g : Nat) (cur : Array Value), W10.heap[g]? = some (.cells cur 5 (0, 0)) → (W11.setCell ⟨r, 0, none⟩ v').heap[g]? = W10.heap[g]? := fun g cur hc => by
    have h1 : W11.heap[g]? = W10.heap[g]? := hg.block g (Array.getElem?_eq_some_iff.1 hc).1 (fun e => by
      obtain ⟨cur', hc'⟩ := h10.sblock e.symm
      rw [hc] at hc'
      injection hc' with hc'
      injection hc' with h1 h2
      exact absurd h2 (by decide))
    exact (hnr g cur _ (h1.trans hc) (by decide)).trans h1
  exact ⟨(heap_setCell_same W11 r 0 _ _ _ (hr11.trans h10.head)).trans rfl, h.hr, own_keepB ho (fun g cur _ hc => hnr g cur _ hc (by decide)), fun i hi => by
    rcases Nat.lt_or_ge i k with h1 | h1
    · obtain ⟨v, h2, h3⟩ := h10.secs i h1
      exact ⟨v, by rw [List.getElem?_append_left (by omega)]; exact h2, own_keepB h3 (fun g cur _ hc => key g cur hc)⟩
    · obtain rfl : i = k := by omega
      exact ⟨u, by rw [List.getElem?_append_right (by omega), hl, Nat.sub_self]; rfl, own_keepB hu (fun g cur _ hc => key g cur hc)⟩,
    (h10.bel.grown hg h10.siz (fun g hg' => (h10.srow.lt g hg').1)).trans (below_setC' (by have := hg.size; have := h10.siz; omega) h.hr), by have := hg.size; have := h10.siz; simp; omega⟩

set_option maxHeartbeats 4000000 in
set_option maxRecDepth 100000 in
theorem rnew_ok (p n : Nat) (hp8 : 8 ≤ p) (hp5 : p ≤ 512) (hn : n = 4 * p) (w : World) :
    Calls Try.prog 21 #[.int .i64 (p : Int)] w fun e w' => (∃ r sv vs, e = .returned (.pointer (some ⟨r, 0, none⟩)) ∧ w.heap.size ≤ r ∧ Rd w' w.heap.size r sv (.slice none 0 0) n vs (List.replicate (64 * n) 0) [] [] false (-1)) ∧ Below w.heap.size w w' := by
  obtain ⟨iu, hiu, huz, hus, hub⟩ := info_parts infoU8
  obtain ⟨iw, hiw, hiz, his, hib⟩ := info_parts infoSl
  have h4 : (4 : Int) * (p : Int) = (n : Int) := by omega
  have hn32 : 32 ≤ n := by omega
  have hn2 : n ≤ 2048 := by omega
  have H4 := Lib.hid h4
  clear hn
  go_enter Try.func21, Try.ntmps21
  go_wp2_with fail
  have hin : RnIn w (w.alloc (.cells #[.slice none 0 0, .slice none 0 0, .bool false, .int .i64 (-1)] 50)) w.heap.size w.heap.size 0 (.slice none 0 0) [] :=
    ⟨heap_alloc_new _ _, Nat.le_refl _, World.ownsRow_nil _ _ _ _, fun i hi => by omega, (Below.refl _ _).alloc (Nat.le_refl _) _, by simp⟩
  obtain ⟨N0, hN0⟩ : ∃ N0, N0 = w.heap.size := ⟨_, rfl⟩
  obtain ⟨r, hr⟩ : ∃ r, r = w.heap.size := ⟨_, rfl⟩
  have HIN : Hid (RnIn w (w.alloc (.cells #[.slice none 0 0, .slice none 0 0, .bool false, .int .i64 (-1)] 50)) N0 r 0 (.slice none 0 0) []) := Lib.hid (by rw [hN0, hr]; exact hin)
  have HN0 := Lib.hid hN0
  have HR := Lib.hid hr
  rw [← hr]
  clear hin hN0 hr
  go_loopw [4] (fun kv wr => ∃ (k : Nat) (A : Option Addr) (c : Nat) (vs : List Value), k ≤ n ∧ kv = .int .i64 (k : Int) ∧ Hid (RnIn w wr N0 r k (.slice A k c) vs)) (fun kv _ => n - (intOf kv).toNat)
  case atStart => exact ⟨0, none, 0, [], by omega, rfl, HIN⟩
  case round =>
    obtain ⟨k, A, c, vs, hk, rfl, HRN⟩ := hrel
    clear HIN
    by_cases hlt : k < n
    · have d1 : decide ((k : Int) < 4 * (p : Int)) = true := by rw [H4.out]; simp; omega
      have d1' : decide ((k : Int) < (n : Int)) = true := by simp; omega
      go_upto_region 5 with fail
      clear d1 d1'
      refine region_ways4 N0 HRN.out.siz (.two [0, 1, 2, 3] 4 (.one [] 5 (.one [] 6 (.one [] 7 (.one [8, 9] 10 (.done []))))) 5 (.two [] 4 (.one [] 6 (.one [] 7 (.one [8, 9] 10 (.done [])))) 6 (.one [] 4 (.one [] 7 (.one [8, 9] 10 (.done [])))))) (by kernel_rfl) (by kernel_rfl) ?_
      rintro wd hbd
      have HBD := Lib.hid hbd
      have b0 : Below N0 wr wd := hbd.mono HRN.out.siz
      have c1 : wd.cell? ⟨r, 0, none⟩ = some (.slice A k c) := (blk_cell (HRN.out.below hbd).head 0 _ rfl)
      clear hbd
      rw [wpWays_two4]
      try simp only [List.map_cons, List.map_nil, opAt, List.getElem?_toArray, List.getElem?_cons_zero, List.getElem?_cons_succ, Option.getD_some]
      repeat (go_big_quiet_step (fail))
      refine wpQuiet_nil ⟨?_, ?_⟩
      · go_wp2_with fail
        refine ⟨⟨⟨_, b0⟩, rfl⟩, ?_⟩
        try simp only [Act.put, List.setIfInBounds_toArray, List.set_cons_zero, List.set_cons_succ]
        rw [wpWays_one4]
        try simp only [List.map_nil, opAt, List.getElem?_toArray, List.getElem?_cons_zero, List.getElem?_cons_succ, Option.getD_some]
        repeat (go_big_quiet_step (fail))
        refine wpQuiet_nil ?_
        go_wp2_with (at_make; refine wpList_make_full _ rfl (.const (.int .i64 64)) (.const (.int .i64 64)) 27 rfl wr.heap.size 5 iu (.int .u8 0) 1 Try.underlying27 hiu huz hus .i64 .i64 64 64 64 rfl rfl rfl rfl (by rw [hub]; omega) (by unfold maxLen; omega) HBD.out.size ?_; intro w5 ho5 hg5)
        obtain ⟨q, hq⟩ : ∃ q, q = wd.heap.size := ⟨_, rfl⟩
        rw [← hq] at ho5 ⊢
        have ho5s : OwnS w5 wr.heap.size (.slice (some ⟨q, 0, none⟩) 64 64) 5 (List.replicate 64 0) := made8 ho5
        clear hq ho5
        have BB2 : Hid (Below wr.heap.size wr w5) := Lib.hid (HBD.out.grown hg5 HBD.out.size (fun k hk => by cases hk))
        have HO5 := Lib.hid (ho5s.mono HRN.out.siz)
        have bn2 := BB2.out.mono HRN.out.siz
        clear ho5s hg5
        refine ⟨⟨⟨_, bn2⟩, rfl⟩, ?_⟩
        try simp only [Act.put, List.setIfInBounds_toArray, List.set_cons_zero, List.set_cons_succ]
        rw [wpWays_one4]
        try simp only [List.map_nil, opAt, List.getElem?_toArray, List.getElem?_cons_zero, List.getElem?_cons_succ, Option.getD_some]
        repeat (go_big_quiet_step (fail))
        refine wpQuiet_nil ?_
        have hfill3 : Hid (Instr.fill (fun i => some (i * iw.size, iw.size)) ((Array.range (1 * iw.size)).map ((Value.slice none 0 0).cells[· % (Value.slice none 0 0).cells.size]!)) [(0, .slice (some ⟨q, 0, none⟩) 64 64)] = some #[.slice (some ⟨q, 0, none⟩) 64 64]) := Lib.hid (by rw [his]; exact fill_one _ _ rfl (by simp) _ rfl)
        go_wp2_with (refine wpList_buildSlice rfl 47 27 1 _ rfl #[.slice (some ⟨q, 0, none⟩) 64 64] iw _ Try.underlying47 hiw hiz (by rw [his]; decide) (by rw [his]; decide) (by rw [Array.toList_map]; exact hfill3.out) ?_)
        have BB3 : Hid (Below wr.heap.size wr (w5.alloc (.cells #[.slice (some ⟨q, 0, none⟩) 64 64] 27))) := Lib.hid (BB2.out.alloc BB2.out.size _)
        have bn3 := BB3.out.mono HRN.out.siz
        have hn3 : Hid (∀ (j : Nat) (u : Value), ([.slice (some ⟨q, 0, none⟩) 64 64] : List Value)[j]? = some u → (w5.alloc (.cells #[.slice (some ⟨q, 0, none⟩) 64 64] 27)).cell? ((⟨w5.heap.size, 0, none⟩ : Addr).add j) = some u) := Lib.hid (fun j u hj => by rw [Addr.add_mid, World.cell?_alloc_new]; simpa using hj)
        have ho3 := HO5.out.alloc (.cells #[.slice (some ⟨q, 0, none⟩) 64 64] 27)
        refine ⟨⟨⟨_, bn3⟩, rfl⟩, ?_⟩
        try simp only [Act.put, List.setIfInBounds_toArray, List.set_cons_zero, List.set_cons_succ]
        rw [wpWays_one4]
        try simp only [List.map_nil, opAt, List.getElem?_toArray, List.getElem?_cons_zero, List.getElem?_cons_succ, Option.getD_some]
        repeat (go_big_quiet_step (fail))
        refine wpQuiet_nil ?_
        have hr4 := HRN.out.below BB3.out
        go_wp2_with (at_builtin; refine wpList_append_own_at _ rfl (.tmp 17) (.tmp 19) 47 rfl N0 27 iw _ 1 24 Try.underlying47 hiw hiz his hib rfl (by omega) _ k vs rfl hr4.srow ⟨w5.heap.size, 0, none⟩ 1 1 [.slice (some ⟨q, 0, none⟩) 64 64] rfl rfl hn3.out (by intro u hu; simp at hu; subst hu; rfl) (by unfold maxLen; omega) (by omega) hr4.siz ?_; intro rw4 w4 ho4 hg4 _ how4; obtain ⟨Aw, cw, rfl⟩ := own_form ho4)
        have bn4 : Below N0 wr w4 := (BB3.out.mono HRN.out.siz).grown hg4 hr4.siz (fun k hk => (HRN.out.srow.lt k hk).1)
        refine ⟨⟨⟨_, bn4⟩, rfl⟩, ?_⟩
        try simp only [Act.put, List.setIfInBounds_toArray, List.set_cons_zero, List.set_cons_succ]
        have HX := Lib.hid (HRN.out.next BB3.out hg4 (.slice Aw (k + 1) cw) (.slice (some ⟨q, 0, none⟩) 64 64) ho4 ho3)
        have zr : w4.frozen? ⟨r, 0, none⟩ = false := by simp [World.frozen?, hr4.rkept hg4, hr4.head]
        have zc : w4.cell? ⟨r, 0, none⟩ = some (.slice A k c) := blk_cell ((hr4.rkept hg4).trans hr4.head) 0 _ rfl
        clear ho4 hr4
        rw [wpWays_one4]
        try simp only [List.map_cons, List.map_nil, opAt, List.getElem?_toArray, List.getElem?_cons_zero, List.getElem?_cons_succ, Option.getD_some]
        repeat (go_big_quiet_step (fail))
        refine wpQuiet_nil ?_
        go_wp2_with fail
        refine ⟨⟨⟨_, bn4.trans (below_setC' (by have := bn4.size; have := HRN.out.siz; omega) HRN.out.hr)⟩, rfl⟩, ?_⟩
        try simp only [Act.put, List.setIfInBounds_toArray, List.set_cons_zero, List.set_cons_succ]
        rw [wpWays_done4]
        try simp only [List.map_nil]
        refine wpQuiet_nil ?_
        go_wp2_with fail
        go_roundw
        case rel => exact ⟨k + 1, Aw, cw, _, by omega, by go_num, HX⟩
        case measure => simp [intOf]; omega
      · go_wp2_with (at_make; refine wpList_make_full _ rfl (.const (.int .i64 64)) (.const (.int .i64 64)) 27 rfl wr.heap.size 5 iu (.int .u8 0) 1 Try.underlying27 hiu huz hus .i64 .i64 64 64 64 rfl rfl rfl rfl (by rw [hub]; omega) (by unfold maxLen; omega) HBD.out.size ?_; intro w5 ho5 hg5)
        obtain ⟨q, hq⟩ : ∃ q, q = wd.heap.size := ⟨_, rfl⟩
        rw [← hq] at ho5 ⊢
        have ho5s : OwnS w5 wr.heap.size (.slice (some ⟨q, 0, none⟩) 64 64) 5 (List.replicate 64 0) := made8 ho5
        clear hq ho5
        have BB5 : Hid (Below wr.heap.size wr w5) := Lib.hid (HBD.out.grown hg5 HBD.out.size (fun k hk => by cases hk))
        have HO5 := Lib.hid (ho5s.mono HRN.out.siz)
        have bn5 := BB5.out.mono HRN.out.siz
        clear ho5s hg5
        have c1 := (blk_cell (HRN.out.below BB5.out).head 0 _ rfl)
        refine ⟨⟨⟨_, bn5⟩, rfl⟩, ?_⟩
        try simp only [Act.put, List.setIfInBounds_toArray, List.set_cons_zero, List.set_cons_succ]
        rw [wpWays_two4]
        try simp only [List.map_nil, opAt, List.getElem?_toArray, List.getElem?_cons_zero, List.getElem?_cons_succ, Option.getD_some]
        repeat (go_big_quiet_step (fail))
        refine wpQuiet_nil ⟨?_, ?_⟩
        · go_wp2_with fail
          refine ⟨⟨⟨_, bn5⟩, rfl⟩, ?_⟩
          try simp only [Act.put, List.setIfInBounds_toArray, List.set_cons_zero, List.set_cons_succ]
          rw [wpWays_one4]
          try simp only [List.map_nil, opAt, List.getElem?_toArray, List.getElem?_cons_zero, List.getElem?_cons_succ, Option.getD_some]
          repeat (go_big_quiet_step (fail))
          refine wpQuiet_nil ?_
          have hfill7 : Hid (Instr.fill (fun i => some (i * iw.size, iw.size)) ((Array.range (1 * iw.size)).map ((Value.slice none 0 0).cells[· % (Value.slice none 0 0).cells.size]!)) [(0, .slice (some ⟨q, 0, none⟩) 64 64)] = some #[.slice (some ⟨q, 0, none⟩) 64 64]) := Lib.hid (by rw [his]; exact fill_one _ _ rfl (by simp) _ rfl)
          go_wp2_with (refine wpList_buildSlice rfl 47 27 1 _ rfl #[.slice (some ⟨q, 0, none⟩) 64 64] iw _ Try.underlying47 hiw hiz (by rw [his]; decide) (by rw [his]; decide) (by rw [Array.toList_map]; exact hfill7.out) ?_)
          have BB7 : Hid (Below wr.heap.size wr (w5.alloc (.cells #[.slice (some ⟨q, 0, none⟩) 64 64] 27))) := Lib.hid (BB5.out.alloc BB5.out.size _)
          have bn7 := BB7.out.mono HRN.out.siz
          have hn7 : Hid (∀ (j : Nat) (u : Value), ([.slice (some ⟨q, 0, none⟩) 64 64] : List Value)[j]? = some u → (w5.alloc (.cells #[.slice (some ⟨q, 0, none⟩) 64 64] 27)).cell? ((⟨w5.heap.size, 0, none⟩ : Addr).add j) = some u) := Lib.hid (fun j u hj => by rw [Addr.add_mid, World.cell?_alloc_new]; simpa using hj)
          have ho7 := HO5.out.alloc (.cells #[.slice (some ⟨q, 0, none⟩) 64 64] 27)
          refine ⟨⟨⟨_, bn7⟩, rfl⟩, ?_⟩
          try simp only [Act.put, List.setIfInBounds_toArray, List.set_cons_zero, List.set_cons_succ]
          rw [wpWays_one4]
          try simp only [List.map_nil, opAt, List.getElem?_toArray, List.getElem?_cons_zero, List.getElem?_cons_succ, Option.getD_some]
          repeat (go_big_quiet_step (fail))
          refine wpQuiet_nil ?_
          have hr8 := HRN.out.below BB7.out
          go_wp2_with (at_builtin; refine wpList_append_own_at _ rfl (.tmp 17) (.tmp 19) 47 rfl N0 27 iw _ 1 24 Try.underlying47 hiw hiz his hib rfl (by omega) _ k vs rfl hr8.srow ⟨w5.heap.size, 0, none⟩ 1 1 [.slice (some ⟨q, 0, none⟩) 64 64] rfl rfl hn7.out (by intro u hu; simp at hu; subst hu; rfl) (by unfold maxLen; omega) (by omega) hr8.siz ?_; intro rw8 w8 ho8 hg8 _ how8; obtain ⟨Aw, cw, rfl⟩ := own_form ho8)
          have bn8 : Below N0 wr w8 := (BB7.out.mono HRN.out.siz).grown hg8 hr8.siz (fun k hk => (HRN.out.srow.lt k hk).1)
          refine ⟨⟨⟨_, bn8⟩, rfl⟩, ?_⟩
          try simp only [Act.put, List.setIfInBounds_toArray, List.set_cons_zero, List.set_cons_succ]
          have HX := Lib.hid (HRN.out.next BB7.out hg8 (.slice Aw (k + 1) cw) (.slice (some ⟨q, 0, none⟩) 64 64) ho8 ho7)
          have zr : w8.frozen? ⟨r, 0, none⟩ = false := by simp [World.frozen?, hr8.rkept hg8, hr8.head]
          have zc : w8.cell? ⟨r, 0, none⟩ = some (.slice A k c) := blk_cell ((hr8.rkept hg8).trans hr8.head) 0 _ rfl
          clear ho8 hr8
          rw [wpWays_one4]
          try simp only [List.map_cons, List.map_nil, opAt, List.getElem?_toArray, List.getElem?_cons_zero, List.getElem?_cons_succ, Option.getD_some]
          repeat (go_big_quiet_step (fail))
          refine wpQuiet_nil ?_
          go_wp2_with fail
          refine ⟨⟨⟨_, bn8.trans (below_setC' (by have := bn8.size; have := HRN.out.siz; omega) HRN.out.hr)⟩, rfl⟩, ?_⟩
          try simp only [Act.put, List.setIfInBounds_toArray, List.set_cons_zero, List.set_cons_succ]
          rw [wpWays_done4]
          try simp only [List.map_nil]
          refine wpQuiet_nil ?_
          go_wp2_with fail
          go_roundw
          case rel => exact ⟨k + 1, Aw, cw, _, by omega, by go_num, HX⟩
          case measure => simp [intOf]; omega
        · have hfill9 : Hid (Instr.fill (fun i => some (i * iw.size, iw.size)) ((Array.range (1 * iw.size)).map ((Value.slice none 0 0).cells[· % (Value.slice none 0 0).cells.size]!)) [(0, .slice (some ⟨q, 0, none⟩) 64 64)] = some #[.slice (some ⟨q, 0, none⟩) 64 64]) := Lib.hid (by rw [his]; exact fill_one _ _ rfl (by simp) _ rfl)
          go_wp2_with (refine wpList_buildSlice rfl 47 27 1 _ rfl #[.slice (some ⟨q, 0, none⟩) 64 64] iw _ Try.underlying47 hiw hiz (by rw [his]; decide) (by rw [his]; decide) (by rw [Array.toList_map]; exact hfill9.out) ?_)
          have BB9 : Hid (Below wr.heap.size wr (w5.alloc (.cells #[.slice (some ⟨q, 0, none⟩) 64 64] 27))) := Lib.hid (BB5.out.alloc BB5.out.size _)
          have bn9 := BB9.out.mono HRN.out.siz
          have hn9 : Hid (∀ (j : Nat) (u : Value), ([.slice (some ⟨q, 0, none⟩) 64 64] : List Value)[j]? = some u → (w5.alloc (.cells #[.slice (some ⟨q, 0, none⟩) 64 64] 27)).cell? ((⟨w5.heap.size, 0, none⟩ : Addr).add j) = some u) := Lib.hid (fun j u hj => by rw [Addr.add_mid, World.cell?_alloc_new]; simpa using hj)
          have ho9 := HO5.out.alloc (.cells #[.slice (some ⟨q, 0, none⟩) 64 64] 27)
          have c1 := (blk_cell (HRN.out.below BB9.out).head 0 _ rfl)
          refine ⟨⟨⟨_, bn9⟩, rfl⟩, ?_⟩
          try simp only [Act.put, List.setIfInBounds_toArray, List.set_cons_zero, List.set_cons_succ]
          rw [wpWays_one4]
          try simp only [List.map_nil, opAt, List.getElem?_toArray, List.getElem?_cons_zero, List.getElem?_cons_succ, Option.getD_some]
          repeat (go_big_quiet_step (fail))
          refine wpQuiet_nil ?_
          go_wp2_with fail
          refine ⟨⟨⟨_, bn9⟩, rfl⟩, ?_⟩
          try simp only [Act.put, List.setIfInBounds_toArray, List.set_cons_zero, List.set_cons_succ]
          rw [wpWays_one4]
          try simp only [List.map_nil, opAt, List.getElem?_toArray, List.getElem?_cons_zero, List.getElem?_cons_succ, Option.getD_some]
          repeat (go_big_quiet_step (fail))
          refine wpQuiet_nil ?_
          have hr11 := HRN.out.below BB9.out
          go_wp2_with (at_builtin; refine wpList_append_own_at _ rfl (.tmp 17) (.tmp 19) 47 rfl N0 27 iw _ 1 24 Try.underlying47 hiw hiz his hib rfl (by omega) _ k vs rfl hr11.srow ⟨w5.heap.size, 0, none⟩ 1 1 [.slice (some ⟨q, 0, none⟩) 64 64] rfl rfl hn9.out (by intro u hu; simp at hu; subst hu; rfl) (by unfold maxLen; omega) (by omega) hr11.siz ?_; intro rw11 w11 ho11 hg11 _ how11; obtain ⟨Aw, cw, rfl⟩ := own_form ho11)
          have bn11 : Below N0 wr w11 := (BB9.out.mono HRN.out.siz).grown hg11 hr11.siz (fun k hk => (HRN.out.srow.lt k hk).1)
          refine ⟨⟨⟨_, bn11⟩, rfl⟩, ?_⟩
          try simp only [Act.put, List.setIfInBounds_toArray, List.set_cons_zero, List.set_cons_succ]
          have HX := Lib.hid (HRN.out.next BB9.out hg11 (.slice Aw (k + 1) cw) (.slice (some ⟨q, 0, none⟩) 64 64) ho11 ho9)
          have zr : w11.frozen? ⟨r, 0, none⟩ = false := by simp [World.frozen?, hr11.rkept hg11, hr11.head]
          have zc : w11.cell? ⟨r, 0, none⟩ = some (.slice A k c) := blk_cell ((hr11.rkept hg11).trans hr11.head) 0 _ rfl
          clear ho11 hr11
          rw [wpWays_one4]
          try simp only [List.map_cons, List.map_nil, opAt, List.getElem?_toArray, List.getElem?_cons_zero, List.getElem?_cons_succ, Option.getD_some]
          repeat (go_big_quiet_step (fail))
          refine wpQuiet_nil ?_
          go_wp2_with fail
          refine ⟨⟨⟨_, bn11.trans (below_setC' (by have := bn11.size; have := HRN.out.siz; omega) HRN.out.hr)⟩, rfl⟩, ?_⟩
          try simp only [Act.put, List.setIfInBounds_toArray, List.set_cons_zero, List.set_cons_succ]
          rw [wpWays_done4]
          try simp only [List.map_nil]
          refine wpQuiet_nil ?_
          go_wp2_with fail
          go_roundw
          case rel => exact ⟨k + 1, Aw, cw, _, by omega, by go_num, HX⟩
          case measure => simp [intOf]; omega
    · obtain rfl : k = n := by omega
      have d1 : decide ((k : Int) < 4 * (p : Int)) = false := by rw [H4.out]; simp
      have d1' : decide ((k : Int) < (k : Int)) = false := by simp
      go_wp2_with fail
      go_ret
      refine ⟨⟨r, .slice A k c, vs, rfl, by rw [HR.out]; exact Nat.le_refl _, ?_⟩, by rw [← HN0.out]; exact HRN.out.bel⟩
      rw [← HN0.out]
      exact ⟨HRN.out.head, HRN.out.hr, HRN.out.srow, World.ownsRow_nil _ _ _ _, by rw [List.length_replicate], fun i hi => by
        obtain ⟨v, h1, h2⟩ := HRN.out.secs i hi
        refine ⟨v, h1, ?_⟩
        have : secN (List.replicate (64 * k) 0) i = List.replicate 64 0 := by
          unfold secN
          rw [List.drop_replicate, List.take_replicate, Nat.min_eq_left (by omega)]
        rw [this]
        exact h2, rfl, fun j p hp => by simp at hp, hn32, hn2⟩
end
end Go.Proofs.Ytmmkmpjhmbocfaa
