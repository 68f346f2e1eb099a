/- Bytes of package bits' Writer: its contract. -/
import Derived.Test.YtanljjpjhihgcaaDoorBitWr
import Derived.Test.YtanljjpjhihgcaaDoorBitRev
namespace Go.Proofs.YtanljjpjhihgcaaDoor
open Go.RowKit BitM
set_option linter.unusedVariables false

theorem wbytes_nil (w : World) : Calls Tryd.prog 37 #[.pointer none] w fun e w' => e = .returned (.slice none 0 0) ∧ w = w' := by
  go_enter Tryd.func37, Tryd.ntmps37
  go_wp2_with fail
  go_ret
  exact ⟨rfl, rfl⟩

theorem byte_of_word (v j : Nat) (h : j < (beN v 8).length) (s : Nat) (hs : s = 56 - 8 * j) : ((v : Int) / 2 ^ s) % 256 = (((beN v 8)[j]).toNat : Int) := by
  rw [length_beN] at h
  have e : ((v : Int) / 2 ^ s) = ((v / 2 ^ s : Nat) : Int) := by simp
  have e2 : (256 : Nat) ^ (8 - 1 - j) = 2 ^ s := by rw [show (256 : Nat) = 2 ^ 8 from rfl, ← Nat.pow_mul]; congr 1; omega
  rw [e, beN_get, UInt8.toNat_ofNat', e2]
  omega
theorem words_take (us : List Nat) (k : Nat) (h : k < us.length) : wordsB (us.take (k + 1)) = wordsB (us.take k) ++ beN us[k] 8 := by rw [List.take_succ_eq_append_getElem h, wordsB_snoc]
theorem length_words (us : List Nat) : (wordsB us).length = 8 * us.length := by
  induction us with
  | nil => rfl
  | cons u us ih => simp only [wordsB, List.flatMap_cons, List.length_append, length_beN, List.length_cons] at *; omega

theorem take_step (xs : List UInt8) (j : Nat) (h : j < xs.length) : xs.take (j + 1) = xs.take j ++ [xs[j]] := List.take_succ_eq_append_getElem h

set_option maxHeartbeats 1000000 in
set_option maxRecDepth 100000 in
theorem wbytes_any (base g : Nat) (ws : List Nat) (r m : Nat) (w : World) (h : WrAt w base g ws r m) (hl : ws.length ≤ 1000000) :
    Calls Tryd.prog 37 #[.pointer (some ⟨g, 0, none⟩)] w fun e w' => ∃ A' n' c', e = .returned (.slice A' n' c') ∧ n' = (wlen ws m + 7) / 8 ∧ BytesAt w' A' (bytesW (wlen ws m) (wval ws r m)) ∧ n' ≤ c' ∧ c' ≤ maxLen ∧ (∀ a, A' = some a → w.heap.size ≤ a.block) ∧ Below w.heap.size w w' := by
  obtain ⟨f, h1, hbg, hm, hr, hws, hch⟩ := h
  have c0 : w.cell? ⟨g, 0, none⟩ = some (.pointer f) := cell_of_row _ _ _ _ _ _ h1
  have c1 : w.cell? ⟨g, 1, none⟩ = some (.int .u64 (r : Int)) := cell_of_row _ _ _ _ _ _ h1
  have c2 : w.cell? ⟨g, 2, none⟩ = some (.int .i64 (m : Int)) := cell_of_row _ _ _ _ _ _ h1
  have hlt := (Array.getElem?_eq_some_iff.1 h1).1
  obtain ⟨R, hR⟩ : ∃ R, R = 64 - m := ⟨_, rfl⟩
  obtain ⟨x, hx⟩ : ∃ x, x = r * 2 ^ R % 2 ^ 64 := ⟨_, rfl⟩
  have v2 : (64 : Int) - (m : Int) = (R : Int) := by omega
  have hwx : IntKind.u64.wrap ((r : Int) * 2 ^ R) = (x : Int) := by
    have : (r : Int) * 2 ^ R = ((r * 2 ^ R : Nat) : Int) := by simp
    rw [this, IntKind.wrap_u64, hx]
    omega
  have hx64 : x < 18446744073709551616 := by rw [hx]; omega
  have hR64 : R ≤ 64 := by omega
  have hR0 : (0 : Int) ≤ (R : Int) := by omega
  have hall := bytes_all ws r m hm hws
  rw [← hR, ← hx] at hall
  have H1 := Lib.hid h1
  have HALL := Lib.hid hall
  have HX := Lib.hid hx
  have HR := Lib.hid hR
  have HWX := Lib.hid hwx
  clear h1 hx hR hwx hall
  go_enter Tryd.func37, Tryd.ntmps37
  go_wp2_with fail
  rw [HWX.out]
  have ho1 : OwnN (w.alloc (.cells #[.int .u64 (x : Int)] 22)) w.heap.size (.slice (some ⟨w.heap.size, 0, none⟩) 1 1) [x] := OwnV.new w 22 [uv x] w.heap.size (Nat.le_refl _) (by unfold maxLen; simp)
  have hb1 : Below w.heap.size w (w.alloc (.cells #[.int .u64 (x : Int)] 22)) := (Below.refl _ _).alloc (Nat.le_refl _) _
  have hkc : ∀ wr f ws, Below w.heap.size w wr → Chain w base f ws → Chain wr base f ws := fun wr f ws hb hc => hc.keep fun b x f' _ hx => hb.block b (Array.getElem?_eq_some_iff.1 hx).1
  have HKC := Lib.hid hkc
  have HWS := Lib.hid hws
  clear hkc hws c0 c1 c2
  go_loopw [4, 5] (fun wd fv wr => ∃ (done rest : List Nat) (fa A : Option Addr) (n c : Nat), fv = .pointer fa ∧ wd = .slice A n c ∧ Hid (n = done.length + 1) ∧ OwnN wr w.heap.size (.slice A n c) (x :: done) ∧ Hid (done ++ rest = ws) ∧ Chain w base fa rest ∧ Below w.heap.size w wr) (fun wd _ _ => match wd with | .slice _ k _ => ws.length + 1 - k | _ => 0)
  case atStart => exact ⟨[], ws, f, _, 1, 1, rfl, rfl, Lib.hid rfl, ho1, Lib.hid rfl, hch, hb1⟩
  case round =>
    obtain ⟨done, rest, fa, A, n, c, rfl, rfl, HN, ho, HD, hc, hb⟩ := hrel
    cases rest with
    | cons y rest =>
      obtain ⟨b, f', rfl, hbb, hbw, hc'⟩ := hc
      have hbr : wr.heap[b]? = some (.cells #[.int .u64 (y : Int), .pointer f'] 90 (0, 0)) := (hb.block b (Array.getElem?_eq_some_iff.1 hbw).1).trans hbw
      have d0 : wr.cell? ⟨b, 0, none⟩ = some (.int .u64 (y : Int)) := cell_of_row _ _ _ _ _ _ hbr
      have hblt := (Array.getElem?_eq_some_iff.1 hbr).1
      have hnl : n ≤ 1000000 := by
        have h1 := congrArg List.length HD.out
        have h2 := HN.out
        simp at h1
        omega
      have hvz : (x :: done).map uv ++ [uv y] = (x :: (done ++ [y])).map uv := by simp
      have hl3 : ((x :: (done ++ [y])).map uv).length = n + 1 := by have := HN.out; simp; omega
      have hl0 : ((x :: done).map uv).length = n := by have := HN.out; simp; omega
      have HVZ := Lib.hid hvz
      have HL3 := Lib.hid hl3
      have hl1 : (((x :: done).map uv).length + 1) * 8 ≤ 140737488355328 := by omega
      have hl2 : ((x :: done).map uv).length + 1 ≤ maxLen := by unfold maxLen; omega
      have hbw0 := (Array.getElem?_eq_some_iff.1 hbw).1
      have HBW := Lib.hid hbw
      clear hvz hl3 hl0 hbr hbw
      go_wp2_with (at_builtin; refine wpList_append_vz rfl (.tmp 34) (.tmp 39) 34 rfl Tryd.underlying34 _ 8 infoU64 rfl rfl (OwnV.alloc ho _) _ _ 1 [uv y] ((x :: (done ++ [y])).map uv) rfl rfl (cellsAt_one _ _ _ _ rfl) (uv_one [y]) HVZ.out hl1 hl2 (by have := hb.size; simp; omega) ?_; rw [HL3.out]; intro A3 c3 w3 ho3 hg3; have hb3 := (OwnV.alloc ho (.cells #[.int .u64 (y : Int)] 22)).belowGrown (B := w.heap.size) (Nat.le_refl _) (by have := hb.size; simp; omega) (below_alloc (Nat.le_refl _) hb _) hg3; have d1 : w3.cell? ⟨b, 1, none⟩ = some (.pointer f') := cell_of_row _ _ _ _ _ _ ((hb3.block b hbw0).trans HBW.out))
      go_roundw
      case rel =>
        refine ⟨done ++ [y], rest, f', A3, n + 1, c3, rfl, rfl, Lib.hid (by have := HN.out; simp; omega), ho3, Lib.hid ?_, hc', hb3⟩
        rw [← HD.out, List.append_assoc]
        rfl
      case measure =>
        have h1 := congrArg List.length HD.out
        have h2 := HN.out
        simp at h1
        show ws.length + 1 - (n + 1) < ws.length + 1 - n
        omega
    | nil =>
      have hfa : fa = none := hc
      subst hfa
      have hdw : done = ws := by have := HD.out; rwa [List.append_nil] at this
      subst hdw
      obtain ⟨gw, rfl⟩ : ∃ gw, A = some ⟨gw, 0, none⟩ := by
        rcases OwnV.cases ho with ⟨_, h2⟩ | ⟨g', cap, cur, h2, _⟩
        · simp at h2
        · injection h2 with h2
          exact ⟨g', h2⟩
      obtain ⟨us, hus⟩ : ∃ us, us = (x :: done).reverse := ⟨_, rfl⟩
      have hus2 : us = done.reverse ++ [x] := by rw [hus, List.reverse_cons]
      have hul : us.length = n := by have := HN.out; rw [hus2]; simp; omega
      have hn1 : n = done.length + 1 := HN.out
      have hmu : ∀ v ∈ us, v < 18446744073709551616 := fun v hv => by
        rw [hus2] at hv
        rcases List.mem_append.1 hv with h | h
        · exact HWS.out v (List.mem_reverse.1 h)
        · rw [List.mem_singleton.1 h]; exact hx64
      have hnl : n ≤ 1000001 := by omega
      have HUS := Lib.hid hus
      have HUS2 := Lib.hid hus2
      have HUL := Lib.hid hul
      have HMU := Lib.hid hmu
      have HN1 := Lib.hid hn1
      clear hus hus2 hul hmu hn1
      go_wp2_with (go_at_call 61; refine (reverse_any w.heap.size gw n c (x :: done) _ ho (by omega)).mono ?_; rintro e w4 ⟨rfl, ho4, hb4⟩; rw [← HUS.out] at ho4)
      go_loopw [6, 45] (fun bv iv wr => ∃ (k nb cb : Nat) (Ab : Option Addr), k ≤ n ∧ iv = .int .i64 (k : Int) ∧ bv = .slice Ab nb cb ∧ Hid (nb = 8 * k) ∧ OwnS wr w4.heap.size (.slice Ab nb cb) 5 (wordsB (us.take k)) ∧ Below w4.heap.size w4 wr) (fun _ iv _ => n - (intOf iv).toNat)
      case atStart => exact ⟨0, 0, 0, none, by omega, rfl, rfl, Lib.hid rfl, OwnS.nil _ _ _, Below.refl _ _⟩
      case round =>
        obtain ⟨k, nb, cb, Ab, hk, rfl, rfl, HNB, hob, hbb⟩ := hrel
        by_cases hlt : k < n
        · have hku : k < us.length := by rw [HUL.out]; exact hlt
          have hcu := ((OwnN.nats ho4).below hbb).cell k hku
          rw [Nat.zero_add] at hcu
          obtain ⟨v, hv⟩ : ∃ v, v = us[k] := ⟨_, rfl⟩
          have hv64 : v < 18446744073709551616 := by rw [hv]; exact HMU.out _ (List.getElem_mem hku)
          have hwt := words_take us k hku
          rw [← hv] at hcu hwt
          have HWT := Lib.hid hwt
          clear hv hwt
          go_wp2_with fail
          go_loopw [6, 9] (fun bv kv wr2 => ∃ (j nb2 cb2 : Nat) (Ab2 : Option Addr), j ≤ 8 ∧ kv = .int .i64 (56 - 8 * (j : Int)) ∧ bv = .slice Ab2 nb2 cb2 ∧ Hid (nb2 = 8 * k + j) ∧ OwnS wr2 w4.heap.size (.slice Ab2 nb2 cb2) 5 (wordsB (us.take k) ++ (beN v 8).take j) ∧ Below w4.heap.size w4 wr2) (fun _ kv _ => (intOf kv + 8).toNat)
          case atStart => exact ⟨0, nb, cb, Ab, by omega, rfl, rfl, Lib.hid HNB.out, by simpa using hob, hbb⟩
          case round =>
            obtain ⟨j, nb2, cb2, Ab2, hj, rfl, rfl, HNB2, hob2, hbb2⟩ := hrel
            by_cases hj8 : j < 8
            · obtain ⟨s, hs⟩ : ∃ s, s = 56 - 8 * j := ⟨_, rfl⟩
              have hsi : (56 : Int) - 8 * (j : Int) = (s : Int) := by omega
              rw [hsi]
              have hjl : j < (beN v 8).length := by rw [length_beN]; exact hj8
              have hz := byte_of_word v j hjl s hs
              have hts := take_step (beN v 8) j hjl
              obtain ⟨c8, hc8⟩ : ∃ c8, c8 = (beN v 8)[j] := ⟨_, rfl⟩
              rw [← hc8] at hz hts
              have hzz : wordsB (us.take k) ++ (beN v 8).take j ++ [c8] = wordsB (us.take k) ++ (beN v 8).take (j + 1) := by rw [hts, List.append_assoc]
              have hnn := hob2.caps
              have hnb2 := HNB2.out
              have hl1 : (wordsB (us.take k) ++ (beN v 8).take j).length + 1 ≤ 140737488355328 := by omega
              have hl3 : (wordsB (us.take k) ++ (beN v 8).take (j + 1)).length = nb2 + 1 := by rw [← hzz, List.length_append, hnn.1]; rfl
              have HZ := Lib.hid hz
              have HZZ := Lib.hid hzz
              have HL3 := Lib.hid hl3
              have HSI := Lib.hid hs
              have hs64 : s < 64 := by omega
              clear hsi hz hts hc8 hzz hnn hnb2 hl3 hs
              go_wp2_with (at_builtin; refine wpList_append_z rfl (.tmp 53) (.tmp 58) 24 rfl Tryd.underlying24 infoU8 rfl (hob2.alloc _) _ _ 1 [c8] (wordsB (us.take k) ++ (beN v 8).take (j + 1)) rfl rfl (bytesAt_one _ _ _ _ HZ.out) HZZ.out hl1 (by have := hbb2.size; simp; omega) ?_; rw [HL3.out]; intro A3 c3 w3 ho3 hg3)
              go_roundw
              case rel =>
                refine ⟨j + 1, nb2 + 1, c3, A3, by omega, ?_, rfl, Lib.hid (by have := HNB2.out; omega), ho3, (hob2.alloc _).belowGrown (Nat.le_refl _) (by have := hbb2.size; simp; omega) (below_alloc (Nat.le_refl _) hbb2 _) hg3⟩
                have := HSI.out
                have e : (56 : Int) - 8 * ((j + 1 : Nat) : Int) = (s : Int) - 8 := by omega
                rw [e]
              case measure => simp [intOf]; omega
            · obtain rfl : j = 8 := by omega
              have e : (56 : Int) - 8 * ((8 : Nat) : Int) = -8 := by omega
              rw [e]
              have e9 : (beN v 8).take 8 = beN v 8 := List.take_of_length_le (by rw [length_beN]; omega)
              rw [e9, ← HWT.out] at hob2
              go_wp2_with fail
              go_roundw
              case rel => exact ⟨k + 1, nb2, cb2, Ab2, by omega, by go_num, rfl, Lib.hid (by have := HNB2.out; omega), hob2, hbb2⟩
              case measure => simp [intOf]; omega
        · obtain rfl : k = n := by omega
          rw [List.take_of_length_le (by rw [HUL.out]; omega)] at hob
          have hnb := HNB.out
          have hcp := hob.caps
          have hn1 := HN1.out
          obtain ⟨q, hq⟩ : ∃ q, q = R / 8 := ⟨_, rfl⟩
          have hqi : (R : Int) / 8 = (q : Int) := by omega
          obtain ⟨z, hz⟩ : ∃ z, z = nb - q := ⟨_, rfl⟩
          have hq8 : q ≤ 8 := by omega
          have hqn : q ≤ nb := by omega
          have hzi : (nb : Int) - (q : Int) = (z : Int) := by omega
          have hzl : z ≤ nb := by omega
          have hnbl : nb ≤ 10000000 := by omega
          have hcb := hcp.2.1
          have hcm := hcp.2.2.1
          have hzb : BytesAt wr Ab (bytesW (wlen done m) (wval done r m)) := by
            have h1 := hob.bytes.take z
            have h2 : z = 8 * (done.length + 1) - R / 8 := by omega
            rw [HUS2.out, h2, HALL.out] at h1
            exact h1
          have hzw : z = (wlen done m + 7) / 8 := by
            have := HR.out
            unfold wlen
            omega
          have HZW := Lib.hid hzw
          have hblk : ∀ a, Ab = some a → w.heap.size ≤ a.block := by
            intro a ha
            have h1 := hb4.size
            have h2 := hb.size
            rcases hob.cases with ⟨h3, _⟩ | ⟨g', cap, h3, ho'⟩
            · injection h3 with h3
              rw [h3] at ha
              cases ha
            · injection h3 with h3
              rw [h3] at ha
              cases ha
              have := ho'.parts.1
              show w.heap.size ≤ g'
              omega
          have hbw : Below w.heap.size w wr := (hb.trans hb4).trans (hbb.mono (by have := hb.size; have := hb4.size; omega))
          clear hob hz hq hzw hnb hcp
          go_wp2_with fail
          go_ret
          exact ⟨Ab, z, cb, rfl, HZW.out, hzb, by omega, hcm, hblk, hbw⟩
end Go.Proofs.YtanljjpjhihgcaaDoor
