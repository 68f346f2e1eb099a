/- What both Gets say of some bytes. -/
import Derived.Test.YtmmkmpjhmbocfaaRefGet
import Derived.Test.YtmmkmpjhmbocfaaPageBurst
import Derived.Test.YtmmkmpjhmbocfaaPagePuts
namespace Go.Proofs.Ytmmkmpjhmbocfaa
open Go.RowKit CrcM PageM
set_option linter.unusedVariables false

theorem get_short2 (A : Option Addr) (cap : Nat) (xs : List UInt8) (w : World) (hx : BytesAt w A xs) (h : xs.length ≠ 256) :
    Calls Try.prog 62 #[.agg tab, .slice A xs.length cap] w fun e w' => e = .returned (.tuple #[zeroPage, .int .i64 4]) ∧ Below w.heap.size w w' := by
  have d1 : ((xs.length : Int) != 256) = true := by rw [bne_iff_ne]; omega
  go_enter Try.func62, Try.ntmps62
  go_wp2_with fail
  exact bodyPost_ret (v := .tuple #[zeroPage, .int .i64 4]) (results_cell_tmp (p := 4) (u := 5) (ty := 66) rfl _ _ (w.heap.size + 1) 66 #[.int .u8 0, .int .i64 0, .int .u64 0, .slice none 0 0] (0, 0) _ rfl (heap_alloc2_new _ _ _) Try.underlying66 rfl size_page) rfl
    ⟨rfl, ((Below.refl _ _).alloc (Nat.le_refl _) _).alloc (by simp) _⟩

theorem refGet_short2 (A : Option Addr) (cap : Nat) (xs : List UInt8) (w : World) (h : xs.length ≠ 256) :
    Calls Try.prog 47 #[.slice A xs.length cap] w fun e w' => e = .returned (.tuple #[zeroPage, .int .i64 4]) ∧ Below w.heap.size w w' := by
  have d1 : ((xs.length : Int) != 256) = true := by rw [bne_iff_ne]; omega
  go_enter Try.func47, Try.ntmps47
  go_wp2_with fail
  exact bodyPost_ret (v := .tuple #[zeroPage, .int .i64 4]) (results_cell_tmp (p := 2) (u := 3) (ty := 58) rfl _ _ w.heap.size 58 #[.int .u8 0, .int .i64 0, .int .u64 0, .slice none 0 0] (0, 0) _ rfl (heap_alloc_new _ _) Try.underlying58 rfl size_refPage) rfl
    ⟨rfl, (Below.refl _ _).alloc (Nat.le_refl _) _⟩

theorem get_any2 (A : Option Addr) (cap : Nat) (xs : List UInt8) (w : World) (hx : BytesAt w A xs) (hc : xs.length ≤ cap) :
    Calls Try.prog 62 #[.agg tab, .slice A xs.length cap] w fun e w' => Below w.heap.size w w' ∧
      ((xs.length ≠ 256 ∧ e = .returned (.tuple #[zeroPage, .int .i64 4])) ∨ (xs.length = 256 ∧ ¬ good xs ∧ e = .returned (.tuple #[zeroPage, .int .i64 3])) ∨
        (good xs ∧ ∃ A' c', e = .returned (.tuple #[pageV (parse xs) A' c', .int .i64 0]) ∧ BytesAt w' A' (parse xs).body ∧ (parse xs).body.length ≤ c')) := by
  by_cases h : xs.length = 256
  · exact get_any A cap xs w hx (by omega) hc
  · exact (get_short2 A cap xs w hx h).mono fun e w' ⟨he, hb⟩ => ⟨hb, .inl ⟨h, he⟩⟩

theorem refGet_any (A : Option Addr) (cap : Nat) (xs : List UInt8) (w : World) (hx : BytesAt w A xs) (hc : xs.length ≤ cap) :
    Calls Try.prog 47 #[.slice A xs.length cap] w fun e w' => Below w.heap.size w w' ∧
      ((xs.length ≠ 256 ∧ e = .returned (.tuple #[zeroPage, .int .i64 4])) ∨ (xs.length = 256 ∧ ¬ good xs ∧ e = .returned (.tuple #[zeroPage, .int .i64 3])) ∨
        (good xs ∧ ∃ A' c', e = .returned (.tuple #[pageV (parse xs) A' c', .int .i64 0]) ∧ BytesAt w' A' (parse xs).body ∧ (parse xs).body.length ≤ c')) := by
  by_cases h : xs.length = 256
  · have hcall : Calls Try.prog 47 #[.slice A 256 cap] w (GetRet xs w) := by
      by_cases hs : sizeOfPage xs ≤ 238
      · exact refGet_rest A cap xs w hx hc h hs
      · exact (refGet_size A cap xs w hx hc h (by omega)).mono fun e w' ⟨he, hb⟩ => ⟨hb, .inl ⟨fun hg => hs hg.2.1, he⟩⟩
    rw [h]
    refine hcall.mono fun e w' ⟨hb, hr⟩ => ⟨hb, ?_⟩
    rcases hr with ⟨hn, he⟩ | ⟨hg, hr⟩
    · exact .inr (.inl ⟨rfl, hn, he⟩)
    · exact .inr (.inr ⟨hg, hr⟩)
  · exact (refGet_short2 A cap xs w h).mono fun e w' ⟨he, hb⟩ => ⟨hb, .inl ⟨h, he⟩⟩

/-- The number that both tell. -/
noncomputable def numOf (xs : List UInt8) : Nat := open Classical in if xs.length ≠ 256 then 4 else if good xs then 0 else 3
/-- The page that both tell, over some row. -/
noncomputable def toldP (xs : List UInt8) : Pg := open Classical in if good xs then parse xs else ⟨0, 0, 0, []⟩

theorem get_told (A : Option Addr) (cap : Nat) (xs : List UInt8) (w : World) (hx : BytesAt w A xs) (hc : xs.length ≤ cap) :
    Calls Try.prog 62 #[.agg tab, .slice A xs.length cap] w fun e w' => ∃ A' c', e = .returned (.tuple #[.agg (cellsC (toldP xs) A' c'), .int .i64 (numOf xs : Int)]) ∧ BytesAt w' A' (toldP xs).body ∧ Below w.heap.size w w' := by
  refine (get_any2 A cap xs w hx hc).mono fun e w' ⟨hb, hr⟩ => ?_
  rcases hr with ⟨h1, he⟩ | ⟨h1, h2, he⟩ | ⟨h1, A', c', he, h2, h3⟩
  · have hn : ¬ good xs := fun h => h1 h.1
    refine ⟨none, 0, ?_, ?_, hb⟩
    · simp only [toldP, numOf, if_neg hn, if_pos h1]; exact he
    · simp only [toldP, if_neg hn]; exact fun h => absurd rfl h
  · refine ⟨none, 0, ?_, ?_, hb⟩
    · simp only [toldP, numOf, if_neg h2, if_neg (show ¬ xs.length ≠ 256 from fun h => h h1)]; exact he
    · simp only [toldP, if_neg h2]; exact fun h => absurd rfl h
  · refine ⟨A', c', ?_, ?_, hb⟩
    · simp only [toldP, numOf, if_pos h1, if_neg (show ¬ xs.length ≠ 256 from fun h => h h1.1)]; exact he
    · simp only [toldP, if_pos h1]; exact h2

theorem refGet_told (A : Option Addr) (cap : Nat) (xs : List UInt8) (w : World) (hx : BytesAt w A xs) (hc : xs.length ≤ cap) :
    Calls Try.prog 47 #[.slice A xs.length cap] w fun e w' => ∃ A' c', e = .returned (.tuple #[.agg (cellsC (toldP xs) A' c'), .int .i64 (numOf xs : Int)]) ∧ BytesAt w' A' (toldP xs).body ∧ Below w.heap.size w w' := by
  refine (refGet_any A cap xs w hx hc).mono fun e w' ⟨hb, hr⟩ => ?_
  rcases hr with ⟨h1, he⟩ | ⟨h1, h2, he⟩ | ⟨h1, A', c', he, h2, h3⟩
  · have hn : ¬ good xs := fun h => h1 h.1
    refine ⟨none, 0, ?_, ?_, hb⟩
    · simp only [toldP, numOf, if_neg hn, if_pos h1]; exact he
    · simp only [toldP, if_neg hn]; exact fun h => absurd rfl h
  · refine ⟨none, 0, ?_, ?_, hb⟩
    · simp only [toldP, numOf, if_neg h2, if_neg (show ¬ xs.length ≠ 256 from fun h => h h1)]; exact he
    · simp only [toldP, if_neg h2]; exact fun h => absurd rfl h
  · refine ⟨A', c', ?_, ?_, hb⟩
    · simp only [toldP, numOf, if_pos h1, if_neg (show ¬ xs.length ≠ 256 from fun h => h h1.1)]; exact he
    · simp only [toldP, if_pos h1]; exact h2
end Go.Proofs.Ytmmkmpjhmbocfaa
