/- Package node's Get of whatever bytes: a node whose bytes they are, or an error. -/
import Derived.Test.YtgkddhncfaeidaaNpR
namespace Go.Proofs.Ytgkddhncfaeidaa
open Go.ChangeShapes Go.WideShapes Go.ChangeAt Go.RowKit CrcM PageM
set_option linter.unusedVariables false

theorem get_all (leaf : Bool) (A : Option Addr) (cap L : Nat) (xs : List UInt8) (w : World) (hx : BytesAt w A xs) (hL : xs.length = L) (hc : L ≤ cap) (hcm : cap ≤ maxLen) (hm : L ≤ 140737488355328) :
    Calls Try.prog 17 #[.bool leaf, .slice A L cap] w fun e w' => ((∃ (N : NodeD) (l : NdL), e = .returned (.tuple #[.agg #[.bool N.leaf, .slice l.EA N.es.length l.ec, .slice l.KA N.ks.length l.kc, .slice l.DA N.ds.length l.dc], .int .i64 0]) ∧ NodeAt w' N l ∧ okNode N ∧ N.leaf = leaf ∧ nodeB N = xs) ∨ e = .returned (.tuple #[.agg #[.bool false, .slice none 0 0, .slice none 0 0, .slice none 0 0], .int .i64 3])) ∧ Below w.heap.size w w' := by
  cases xs with
  | nil =>
    obtain rfl : L = 0 := hL.symm
    refine (get_none leaf A cap w).mono ?_
    rintro e w' ⟨rfl, hb⟩
    exact ⟨.inr rfl, hb⟩
  | cons c b =>
    have hlen : L = b.length + 1 := by rw [← hL]; rfl
    by_cases hs : b.length = c.toNat * sizeP leaf
    · obtain ⟨g, o, rfl, hcell⟩ := hx (by simp)
      by_cases h0 : c.toNat = 0
      · have hb0 : b.length = 0 := by rw [hs, h0, Nat.zero_mul]
        obtain rfl : L = 1 := by omega
        have c0 := hcell 0 (by simp)
        simp only [Nat.add_zero, List.getElem_cons_zero, h0] at c0
        refine (get_zero leaf g o cap w c0 hc hcm).mono ?_
        rintro e w' ⟨rfl, hb⟩
        exact ⟨.inr rfl, hb⟩
      · cases leaf
        · have h14 : b.length = c.toNat * 14 := hs
          refine (get_inner g o cap c b w hx h14 (by omega) hcm L hlen (by omega) _ rfl).mono ?_
          rintro e w' ⟨h1, h2, h3⟩
          refine ⟨?_, h3⟩
          by_cases hn : okNode ⟨false, [], keysP c.toNat b, kidsP c.toNat b⟩
          · obtain ⟨l', e1, e2⟩ := h1 hn
            exact .inl ⟨_, l', e1, e2, hn, rfl, nodeB_inner c b h14⟩
          · exact .inr (h2 hn)
        · have h30 : b.length = c.toNat * 30 := hs
          refine (get_leaf g o cap c b w hx h30 (by omega) hcm L hlen (by omega) _ rfl).mono ?_
          rintro e w' ⟨h1, h2, h3⟩
          refine ⟨?_, h3⟩
          by_cases hn : okNode ⟨true, entsP c.toNat b, [], []⟩
          · obtain ⟨l', e1, e2⟩ := h1 hn
            exact .inl ⟨_, l', e1, e2, hn, rfl, nodeB_leaf c b h30⟩
          · exact .inr (h2 hn)
    · refine (get_off leaf A cap L c b w hx hlen hm hs).mono ?_
      rintro e w' ⟨rfl, hb⟩
      exact ⟨.inr rfl, hb⟩
theorem fits_ok {n : NodeD} (h : okNode n) : FitsN n := by
  obtain ⟨h1, h2, h3, h4, h5⟩ := okNode_sizes h
  exact ⟨by omega, by omega, by omega⟩
end Go.Proofs.Ytgkddhncfaeidaa
