/- The page that Get tells of Put's bytes. -/
import Derived.Test.YtmmkmpjhmbocfaaPageGet
namespace Go.Proofs.Ytmmkmpjhmbocfaa
open Go.RowKit CrcM PageM
set_option linter.unusedVariables false

theorem parts_put (k : UInt8) (m g : Nat) (b : List UInt8) (hb : b.length ≤ 238) :
    (putP ⟨k, (m : Int), g, b⟩).getD 0 0 = k ∧ ((putP ⟨k, (m : Int), g, b⟩).drop 2).take 2 = be m 2 ∧ ((putP ⟨k, (m : Int), g, b⟩).drop 4).take 8 = be g 8 ∧
    ((putP ⟨k, (m : Int), g, b⟩).drop 12).take 2 = be b.length 2 ∧ ((putP ⟨k, (m : Int), g, b⟩).drop 14).take b.length = b := by
  have e : putP ⟨k, (m : Int), g, b⟩ = k :: 0 :: (be m 2 ++ (be g 8 ++ (be b.length 2 ++ (b ++ (List.replicate (238 - b.length) 0 ++ le (sumN (headP ⟨k, (m : Int), g, b⟩)) 4))))) := by
    unfold putP
    conv => lhs; arg 1; unfold headP
    simp
  rw [e]
  have h2 : ∀ n, (be n 2).length = 2 := fun n => length_be 2 n
  have h8 : ∀ n, (be n 8).length = 8 := fun n => length_be 8 n
  refine ⟨rfl, ?_, ?_, ?_, ?_⟩
  · rw [show (2 : Nat) = 0 + 1 + 1 from rfl, List.drop_succ_cons, List.drop_succ_cons, List.drop_zero]
    exact List.take_left' (h2 m)
  · rw [show (4 : Nat) = 2 + 1 + 1 from rfl, List.drop_succ_cons, List.drop_succ_cons, List.drop_left' (h2 m)]
    exact List.take_left' (h8 g)
  · rw [show (12 : Nat) = 8 + 2 + 1 + 1 from rfl, List.drop_succ_cons, List.drop_succ_cons, Nat.add_comm 8 2, ← List.drop_drop, List.drop_left' (h2 m), List.drop_left' (h8 g)]
    exact List.take_left' (h2 _)
  · rw [show (14 : Nat) = 2 + (8 + 2) + 1 + 1 from rfl, List.drop_succ_cons, List.drop_succ_cons, ← List.drop_drop, List.drop_left' (h2 m), show (10 : Nat) = 8 + 2 from rfl, ← List.drop_drop, List.drop_left' (h8 g), List.drop_left' (h2 _)]
    exact List.take_left' rfl

theorem parse_put (k : UInt8) (m g : Nat) (b : List UInt8) (hm : m < 512) (hg : g < 18446744073709551616) (hb : b.length ≤ 238) :
    sizeOfPage (putP ⟨k, (m : Int), g, b⟩) = b.length ∧ parse (putP ⟨k, (m : Int), g, b⟩) = ⟨k, (m : Int), g, b⟩ := by
  obtain ⟨h0, h1, h2, h3, h4⟩ := parts_put k m g b hb
  have hs : sizeOfPage (putP ⟨k, (m : Int), g, b⟩) = b.length := by
    unfold sizeOfPage
    rw [h3, val_be 2 _ (by omega)]
  refine ⟨hs, ?_⟩
  unfold parse
  rw [hs, h0, h1, h2, h4, val_be 2 _ (by omega), val_be 8 _ (by omega)]

theorem good_put (k : UInt8) (m g : Nat) (b : List UInt8) (hk : isK k = true) (hm : m < 512) (hg : g < 18446744073709551616) (hb : b.length ≤ 238) : good (putP ⟨k, (m : Int), g, b⟩) := by
  obtain ⟨hs, hp⟩ := parse_put k m g b hm hg hb
  refine ⟨length_putP _ hb, by rw [hs]; exact hb, ?_, by rw [hp]⟩
  rw [hp]
  exact ⟨hk, by show (0 : Int) ≤ (m : Int); omega, by show (m : Int) ≤ 511; omega, hb⟩

/-- What Get says of some bytes. -/
theorem get_any (A : Option Addr) (cap : Nat) (xs : List UInt8) (w : World) (hx : BytesAt w A xs) (hl : xs.length ≤ 140737488355328) (hc : xs.length ≤ cap) :
    Calls Try.prog 62 #[.agg tab, .slice A xs.length cap] w fun e w' => Below w.heap.size w w' ∧
      ((xs.length ≠ 256 ∧ e = .returned (.tuple #[zeroPage, .int .i64 4])) ∨ (xs.length = 256 ∧ ¬ good xs ∧ e = .returned (.tuple #[zeroPage, .int .i64 3])) ∨
        (good xs ∧ ∃ A' c', e = .returned (.tuple #[pageV (parse xs) A' c', .int .i64 0]) ∧ BytesAt w' A' (parse xs).body ∧ (parse xs).body.length ≤ c')) := by
  by_cases h : xs.length = 256
  · have hcall : Calls Try.prog 62 #[.agg tab, .slice A 256 cap] w (GetRet xs w) := by
      by_cases hs : sizeOfPage xs ≤ 238
      · exact get_rest A cap xs w hx hc h hs
      · exact (get_size A cap xs w hx hc h (by omega)).mono fun e w' ⟨he, hb⟩ => ⟨hb, .inl ⟨fun hg => hs hg.2.1, he⟩⟩
    rw [h]
    refine hcall.mono fun e w' ⟨hb, hr⟩ => ⟨hb, ?_⟩
    rcases hr with ⟨hn, he⟩ | ⟨hg, hr⟩
    · exact .inr (.inl ⟨rfl, hn, he⟩)
    · exact .inr (.inr ⟨hg, hr⟩)
  · exact (get_short A cap xs w hx hl h).mono fun e w' ⟨he, hb⟩ => ⟨hb, .inl ⟨h, he⟩⟩

/-- Get of what Put laid. -/
theorem get_put (A : Option Addr) (cap : Nat) (k : UInt8) (m g : Nat) (b : List UInt8) (hk : isK k = true) (hm : m < 512) (hg : g < 18446744073709551616) (hb : b.length ≤ 238) (w : World)
    (hx : BytesAt w A (putP ⟨k, (m : Int), g, b⟩)) (hc : 256 ≤ cap) :
    Calls Try.prog 62 #[.agg tab, .slice A 256 cap] w fun e w' => ∃ A' c', e = .returned (.tuple #[.agg #[.int .u8 (k.toNat : Int), .int .i64 (m : Int), .int .u64 (g : Int), .slice A' b.length c'], .int .i64 0]) ∧
      BytesAt w' A' b ∧ b.length ≤ c' ∧ Below w.heap.size w w' := by
  have hl : (putP ⟨k, (m : Int), g, b⟩).length = 256 := length_putP _ hb
  have hgd := good_put k m g b hk hm hg hb
  have hp := (parse_put k m g b hm hg hb).2
  refine (get_rest A cap _ w hx (by omega) hl hgd.2.1).mono fun e w' ⟨hbl, hr⟩ => ?_
  rcases hr with ⟨hn, _⟩ | ⟨_, A', c', he, h1, h2⟩
  · exact absurd hgd hn
  · rw [hp] at he h1 h2
    exact ⟨A', c', he, h1, h2, hbl⟩
end Go.Proofs.Ytmmkmpjhmbocfaa
