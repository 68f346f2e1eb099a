/- first and Put of package runs, and the reference's Put: their contracts. -/
import Derived.Test.YtanljjpjhihgcaaDoorVarRows
import Derived.Test.YtanljjpjhihgcaaDoorOwnV
import Derived.Test.YtanljjpjhihgcaaDoorRunM
import Derived.Test.YtanljjpjhihgcaaDoorPi
namespace Go.Proofs.YtanljjpjhihgcaaDoor
open Go.RowKit VarM RunM
set_option linter.unusedVariables false

/-- A number as a value. -/
def uv (n : Nat) : Value := .int .u64 (n : Int)
theorem uv_one (ns : List Nat) : ∀ u ∈ ns.map uv, u.oneCell' = true := by
  intro u hu
  obtain ⟨c, _, rfl⟩ := List.mem_map.1 hu
  rfl
theorem infoU64 : (Tryd.prog.info? 22).map (fun i => (i.zero, i.size, i.bytes)) = some (some (.int .u64 0), 1, 8) := by kernel_rfl

/-- The slice over A reads as these numbers. -/
def NatsAt (w : World) (A : Option Addr) (ns : List Nat) : Prop := CellsAt w A (ns.map uv)
theorem NatsAt.cell {w : World} {b off : Nat} {ns : List Nat} (h : NatsAt w (some ⟨b, off, none⟩) ns) (k : Nat) (hk : k < ns.length) : w.cell? ⟨b, off + k, none⟩ = some (.int .u64 (ns[k] : Int)) := by
  obtain ⟨b', off', he, hc⟩ := h (by intro h0; have := congrArg List.length h0; simp at this; subst this; simp at hk)
  injection he with he
  injection he with h1 h2
  subst h1 h2
  have := hc k (by simpa using hk)
  rw [this]
  simp [uv]
theorem NatsAt.addr {w : World} {A : Option Addr} {ns : List Nat} (h : NatsAt w A ns) (hne : ns ≠ []) : ∃ b off, A = some ⟨b, off, none⟩ := by
  obtain ⟨b, off, he, _⟩ := h (by simpa using hne)
  exact ⟨b, off, he⟩
theorem NatsAt.below {w w' : World} {A : Option Addr} {ns : List Nat} (h : NatsAt w A ns) (hb : Below w.heap.size w w') : NatsAt w' A ns := CellsAt.below h hb
theorem NatsAt.take {w : World} {A : Option Addr} {ns : List Nat} (h : NatsAt w A ns) (n : Nat) : NatsAt w A (ns.take n) := by unfold NatsAt; rw [List.map_take]; exact CellsAt.take h n
theorem NatsAt.cut {w : World} {A : Option Addr} {ns : List Nat} (h : NatsAt w A ns) (k : Nat) (A' : Option Addr) (hA : k < ns.length → A' = A.map (·.add k)) : NatsAt w A' (ns.drop k) := by
  unfold NatsAt; rw [List.map_drop]; exact CellsAt.cut h k A' (by simpa using hA)

set_option maxRecDepth 100000 in
theorem first_any (A : Option Addr) (n c : Nat) (ns : List Nat) (w : World) (hn : ns.length = n) (hx : NatsAt w A ns) (hl : n ≤ 100000000) :
    Calls Tryd.prog 76 #[.slice A n c] w fun e w' => e = .returned (.int .i64 (runLen ns : Int)) ∧ Below w.heap.size w w' := by
  subst hn
  go_enter Tryd.func76, Tryd.ntmps76
  go_wp2_with fail
  go_loopw [3] (fun i wr => ∃ k : Nat, k ≤ runLen ns ∧ i = .int .i64 k ∧ Below w.heap.size w wr) (fun i _ => ns.length - (intOf i).toNat)
  case atStart => exact ⟨0, by omega, rfl, Below.refl _ _⟩
  case round =>
    obtain ⟨k, hk, rfl, hb⟩ := hrel
    have hle := runLen_le ns
    cases ns with
    | nil =>
      have hk0 : k = 0 := by simpa [runLen] using hk
      subst hk0
      go_wp2_with fail
      go_quiet (fail)
      go_wp2_with fail
      go_ret
      exact ⟨rfl, below_drewN hb _⟩
    | cons x l =>
      have hx' := hx.below hb
      obtain ⟨b, off, rfl⟩ := hx.addr (by simp)
      have h0 := hx'.cell 0 (by simp)
      rw [Nat.add_zero] at h0
      by_cases hlt : k < (x :: l).length
      · have hk0 := hx'.cell k hlt
        have hlen : 0 < (x :: l).length := by simp
        have h00 : (x :: l)[0] = x := rfl
        rw [h00] at h0
        have hrun : k < runLen (x :: l) ↔ (x :: l)[k] = x := by
          constructor
          · exact runLen_same x l k hlt
          · intro h
            rcases Nat.lt_or_ge k (runLen (x :: l)) with h2 | h2
            · exact h2
            · obtain rfl : k = runLen (x :: l) := by omega
              exact absurd h (runLen_next x l hlt)
        generalize (x :: l)[k] = y at *
        generalize hN : x :: l = N at *
        have HN := Lib.hid hN
        clear hN h00
        by_cases hy : y = x
        · have hkr := hrun.2 hy
          subst hy
          clear hrun
          go_wp2_with fail
          go_quiet (fail)
          go_wp2_with fail
          go_roundw
          case rel => exact ⟨k + 1, by omega, by go_num, below_drewN hb _⟩
          case measure => simp [intOf]; omega
        · have hkr : k = runLen N := by
            have : ¬ k < runLen N := fun h => hy (hrun.1 h)
            omega
          have hne : ((y : Int) == (x : Int)) = false := by simp; omega
          have HKR := Lib.hid hkr
          clear hrun hkr hk
          go_wp2_with fail
          go_quiet (fail)
          go_wp2_with fail
          go_ret
          exact ⟨by rw [HKR.out, HN.out]; rfl, below_drewN hb _⟩
      · have hkr : k = runLen (x :: l) := by omega
        have HKR := Lib.hid hkr
        clear hkr hk hle
        generalize hN : (x :: l).length = m at *
        go_wp2_with fail
        go_quiet (fail)
        go_wp2_with fail
        go_ret
        exact ⟨by rw [HKR.out]; rfl, below_drewN hb _⟩

theorem wrap_small (k : Nat) (h : k < 18446744073709551616) : IntKind.u64.wrap (k : Int) = (k : Int) := by rw [IntKind.wrap_u64]; omega

set_option maxHeartbeats 400000 in
set_option maxRecDepth 100000 in
theorem runPut_any (A : Option Addr) (n c : Nat) (ns : List Nat) (w : World) (hn : ns.length = n) (hx : NatsAt w A ns) (hl : n ≤ 200) (hc : n ≤ c) (hcm : c ≤ maxLen) (hm : ∀ v ∈ ns, v < 18446744073709551616) :
    Calls Tryd.prog 62 #[.slice A n c] w fun e w' => ∃ A' c', e = .returned (.tuple #[.slice A' (rput ns).length c', .int .i64 0]) ∧ BytesAt w' A' (rput ns) ∧ (rput ns).length ≤ c' ∧ c' ≤ maxLen ∧ (A' = none → (rput ns).length = 0 ∧ c' = 0) ∧ Below w.heap.size w w' := by
  have hlen := rput_len n ns (by omega) hm (by omega)
  obtain ⟨Z, hZ⟩ : ∃ Z, rput ns = Z := ⟨_, rfl⟩
  rw [hZ] at hlen ⊢
  have HZ := Lib.hid hZ
  clear hZ
  have hm2 : ¬ (200 : Int) < (n : Int) := by omega
  go_enter Tryd.func62, Tryd.ntmps62
  go_wp2_with fail
  go_loopw [4, 0] (fun b l wr => ∃ (pre : List UInt8) (todo : List Nat) (Al : Option Addr) (nl cl : Nat) (Ab : Option Addr) (nb cb : Nat), l = .slice Al nl cl ∧ todo.length = nl ∧ nl ≤ n ∧ NatsAt wr Al todo ∧ nl ≤ cl ∧ cl ≤ maxLen ∧ (∀ v ∈ todo, v < 18446744073709551616) ∧
      b = .slice Ab nb cb ∧ pre.length = nb ∧ BytesAt wr Ab pre ∧ nb ≤ cb ∧ cb ≤ maxLen ∧ (Ab = none → nb = 0 ∧ cb = 0) ∧ pre ++ rput todo = Z ∧ Below w.heap.size w wr) (fun _ l _ => match l with | .slice _ k _ => k | _ => 0)
  case atStart => exact ⟨[], ns, A, n, c, none, 0, 0, rfl, hn, Nat.le_refl _, hx, hc, hcm, hm, rfl, rfl, fun h => absurd rfl h, Nat.le_refl _, by unfold maxLen; omega, fun _ => ⟨rfl, rfl⟩, HZ.out, Below.refl _ _⟩
  case round =>
    obtain ⟨pre, todo, Al, nl, cl, Ab, nb, cb, rfl, hnl, hnn, hxl, hcl, hclm, hmt, rfl, hnb, hxb, hcb, hcbm, hab, hpre, hb⟩ := hrel
    have hpl : nb ≤ 4000 := by
      have := congrArg List.length hpre
      rw [List.length_append] at this
      omega
    cases todo with
    | nil =>
      have h0 : nl = 0 := hnl.symm
      subst h0
      rw [rput_nil, List.append_nil] at hpre
      subst hpre
      have HNB := Lib.hid hnb
      clear hnb hpl
      go_wp2_with fail
      go_ret2
      have := HNB.out
      subst this
      exact ⟨Ab, cb, rfl, hxb, hcb, hcbm, hab, hb⟩
    | cons x l =>
      have hx0 : x < 18446744073709551616 := hmt x (by simp)
      obtain ⟨r, hr⟩ : ∃ r, r = runLen (x :: l) := ⟨_, rfl⟩
      have hr1 : 1 ≤ r := hr ▸ runLen_pos x l
      have hrl : r ≤ nl := by rw [← hnl]; exact hr ▸ runLen_le (x :: l)
      have hr64 : r < 18446744073709551616 := by omega
      have hw := wrap_small r hr64
      obtain ⟨b, off, rfl⟩ := hxl.addr (by simp)
      have hc0 := hxl.cell 0 (by simp)
      rw [Nat.add_zero] at hc0
      have h00 : (x :: l)[0] = x := rfl
      rw [h00] at hc0
      have hblt := World.block_lt_of_cell? wr _ hc0
      have hput := rput_cons x l
      rw [← hr] at hput
      rw [hput] at hpre
      have HPRE := Lib.hid hpre
      have HR := Lib.hid hr
      have HNL := Lib.hid hnl
      have HNB := Lib.hid hnb
      have hv1 := vput_len10 hr64
      have hv2 := vput_len10 hx0
      unfold maxLen at hclm
      clear hpre hr hput hnl hnb h00
      go_wp2_with (first
        | (go_at_call 76; with_reducible refine (first_any (some ⟨b, off, none⟩) nl cl (x :: l) _ HNL.out hxl (by omega)).mono ?_; rw [← HR.out]; rintro e w1 ⟨rfl, hb1⟩)
        | (go_at_call 49; with_reducible refine (put_more Ab nb cb pre _ HNB.out (hxb.below hb1) (by omega) hab r hr64).mono ?_; rintro e w2 ⟨A2, c2, rfl, hx2, hl2, hm2, ha2, hb2⟩; have hc2 := (World.cell?_of_block (a := ⟨b, off, none⟩) ((hb2.mono hb1.size).block _ hblt)).trans ((World.cell?_of_block (a := ⟨b, off, none⟩) (hb1.block _ hblt)).trans hc0))
        | (go_at_call 49; refine (put_more A2 _ c2 (pre ++ vput r) _ (by simp) hx2 (by have := HNB.out; simp; omega) (by simpa using ha2) x hx0).mono ?_; rintro e w3 ⟨A3, c3, rfl, hx3, hl3, hm3, ha3, hb3⟩))
      go_roundw
      case rel =>
        have hnb := HNB.out
        refine ⟨pre ++ vput r ++ vput x, (x :: l).drop r, _, nl - r, cl - r, A3, _, c3, rfl, ?_, by omega, ?_, by omega, by unfold maxLen; omega, fun v hv => hmt v (List.mem_of_mem_drop hv), rfl, ?_, hx3, ?_, hm3, ?_, ?_, ?_⟩
        · rw [List.length_drop, HNL.out]
        · refine ((hxl.below hb1).below hb2 |>.below hb3).cut r _ (fun hlt => ?_)
          have := HNL.out
          rw [if_neg (by omega), Option.map_some, Addr.add_lit]
        · simp
        · have := hl3; simpa using this
        · have := ha3; simpa using this
        · rw [← HPRE.out]; simp only [List.append_assoc]
        · exact hb.trans ((hb1.mono hb.size).trans ((hb2.mono (by have := hb.size; have := hb1.size; omega)).trans (hb3.mono (by have := hb.size; have := hb1.size; have := hb2.size; omega))))
      case measure =>
        show nl - r < nl
        omega
end Go.Proofs.YtanljjpjhihgcaaDoor
