/- How a page that came in is told to a walk. -/
import Derived.Test.YtmmkmpjhmbocfaaRowKit
import Derived.Test.YtmmkmpjhmbocfaaPagePuts
import Derived.Lib.SmallJoins
namespace Go.Proofs.Ytmmkmpjhmbocfaa
open Go.ChangeShapes Go.WideShapes Go.ChangeAt Go.RowKit Go.Joins CrcM PageM

set_option maxRecDepth 100000 in
theorem open_page {H : Type} {enc : TypeId × Value → H} {W : World} {base b0 : Nat} {spare : Nat → Bool} {held : Bool} {r : Reach} {v : Value} {d : DataW H} {p : List MemPlace}
    (hv : Value.okWide Try.prog W r b0 58 v) (h : DataW.Trod enc Try.prog W base spare held 58 v d p) :
    ∃ (pg : Pg) (A : Option Addr) (c : Nat), v = .agg (cellsC pg A c) ∧ bodyC pg ∧ BytesAt W A pg.body ∧ pg.body.length ≤ c ∧ c ≤ maxLen := by
  obtain ⟨v0, v1, v2, v3, y0, y1, y2, y3, n, rfl, _, _, h0, h1, h2, h3⟩ := open_agg4 Try.underlying58 (by kernel_rfl) (by kernel_rfl) hv h
  obtain ⟨z0, e0, _, w0⟩ := DataW.trod_int Try.underlying5 h0
  obtain ⟨z1, e1, _, w1⟩ := DataW.trod_int Try.underlying3 h1
  obtain ⟨z2, e2, _, w2⟩ := DataW.trod_int Try.underlying43 h2
  have hsl : ∃ a len cap, v3 = .slice a len cap := by
    rcases open_ints Try.underlying27 Try.underlying5 (by kernel_rfl) h3 with ⟨hcs, _⟩ | ⟨x, l, c, zs, hcs, _⟩
    · simp at hcs; exact ⟨_, _, _, hcs⟩
    · simp at hcs; exact ⟨_, _, _, hcs⟩
  obtain ⟨a, len, cap, rfl⟩ := hsl
  obtain ⟨zs, l0, lc, cm, nr⟩ := numRow_of Try.underlying27 Try.underlying5 (by kernel_rfl) h3
  obtain ⟨xs, lx, bx⟩ := bytes_of_nums nr
  simp at e0 e1 e2
  subst e0 e1 e2
  have b0 := bounds_u8 w0
  have b1 := bounds_i64 w1
  have b2 := bounds_u64 w2
  obtain ⟨k, rfl⟩ := Int.eq_ofNat_of_zero_le b0.1
  obtain ⟨g, rfl⟩ := Int.eq_ofNat_of_zero_le b2.1
  have hk : ((UInt8.ofNat k).toNat : Int) = (k : Int) := by
    have : k % 256 = k := Nat.mod_eq_of_lt (by omega)
    rw [UInt8.toNat_ofNat', this]
  refine ⟨⟨UInt8.ofNat k, z1, g, xs⟩, a, cap, ?_, ⟨?_, ?_, b1.1, b1.2⟩, bx, ?_, cm⟩
  · unfold cellsC
    dsimp only
    rw [hk, lx, l0]
  · show g < 18446744073709551616
    omega
  · show xs.length ≤ 9223372036854775807
    unfold maxLen at cm
    omega
  · show xs.length ≤ cap
    omega
end Go.Proofs.Ytmmkmpjhmbocfaa
