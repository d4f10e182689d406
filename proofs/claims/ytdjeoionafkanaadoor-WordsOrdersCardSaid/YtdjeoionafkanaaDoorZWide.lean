/- The contracts of words.Wide and reckonerref01.Word, Wide (for the seat of WordsOrders, which has neither Plus nor MulWord). -/
import Derived.Test.YtdjeoionafkanaaDoorP1
import Derived.Test.YtdjeoionafkanaaDoorP2
namespace Go.Proofs.YtdjeoionafkanaaDoor
open Go.RowKit
set_option linter.unusedVariables false

set_option maxHeartbeats 1000000 in
theorem RWide_ok (a b : Nat) (w : World) (ha : a < B64) (hb : b < B64) :
    Calls Tryd.prog 20 #[.int .u64 a, .int .u64 b] w fun e w' => ∃ h l : Nat, e = .returned (.tuple #[.int .u64 (h : Int), .int .u64 (l : Int)]) ∧ a * b = h * B64 + l ∧ l < B64 ∧ Below w.heap.size w w' := by
  have Hx := Lib.hid (And.intro ha hb)
  clear ha hb
  go_enter Tryd.func20, Tryd.ntmps20
  go_wp2_with (fail)
  refine (Word_ok a _ Hx.out.1).mono ?_
  rintro e w1 ⟨A1, ds1, rfl, hs1, hd1, hv1, hb1⟩
  have H1 := Lib.hid (And.intro hs1 (And.intro hd1 (And.intro hv1 hb1)))
  clear hs1 hd1 hv1 hb1
  go_wp2_with (fail)
  refine (Word_ok b _ Hx.out.2).mono ?_
  rintro e w2 ⟨A2, ds2, rfl, hs2, hd2, hv2, hb2⟩
  have H2 := Lib.hid (And.intro (H1.out.1.below hb2) (And.intro hs2 (And.intro hd2 (And.intro hv2 (H1.out.2.2.2.trans (hb2.mono H1.out.2.2.2.size))))))
  clear hs2 hd2 hv2 hb2
  go_wp2_with (fail)
  refine (Times_ok _ _ _ _ _ _ ds1 ds2 _ (by omega) (by omega) H2.out.1 H2.out.2.1 H1.out.2.1 H2.out.2.2.1).mono ?_
  rintro e w3 ⟨v3, ds3, rfl, hn3, hd3, hv3, hb3⟩
  obtain ⟨A3, c3, rfl, hs3⟩ := hn3.sl
  have H3 := Lib.hid (And.intro hs3 (And.intro hd3 (And.intro (show VD ds3 = a * b by rw [hv3, H1.out.2.2.1, H2.out.2.2.2.1]) (H2.out.2.2.2.2.trans (hb3.mono H2.out.2.2.2.2.size)))))
  clear hs3 hd3 hv3 hb3 hn3
  go_wp2_with (fail)
  refine (Cut_ok _ _ _ 1 ds3 _ (by omega) (by omega) H3.out.1 H3.out.2.1 (by rw [H3.out.2.2.1, show B64 ^ (1 + 1) = B64 * B64 from Nat.pow_two _]; have := prod_room1 B64 a b 0 Hx.out.1 Hx.out.2 (by decide); omega)).mono ?_
  rintro e w4 ⟨v4, zs, h, rfl, hn4, hh, hv4, hb4⟩
  obtain ⟨A4, c4, rfl, hs4⟩ := hn4.sl
  obtain ⟨l, rfl⟩ : ∃ l, zs = [l] := List.length_eq_one_iff.1 hs4.1
  have hl : l < B64 := hs4.2.2.2.1 l (by simp)
  have hcell : ∃ bk o, A4 = some ⟨bk, o, none⟩ ∧ w4.cell? ⟨bk, o, none⟩ = some (.int .u64 (l : Int)) := by
    obtain ⟨bk, o, e, hb, hc⟩ := hs4.2.2.2.2.at (uvs_get (xs := [l]) (k := 0) (x := l) rfl)
    rw [Nat.add_zero] at hc
    exact ⟨bk, o, e, hc⟩
  obtain ⟨bk, o, rfl, hcell⟩ := hcell
  have hfin : a * b = h * B64 + l := by
    rw [H3.out.2.2.1, Nat.pow_one] at hv4
    have e1 : V [l] = l := by simp [V]
    omega
  have H4 := Lib.hid (And.intro hfin (And.intro hl (H3.out.2.2.2.trans (hb4.mono H3.out.2.2.2.size))))
  clear hfin hl hb4 hv4 hh hn4 hs4
  go_wp2_with (fail)
  go_quiet (fail)
  go_wp2
  exact bodyPost_ret (v := .tuple #[.int .u64 (h : Int), .int .u64 (l : Int)]) (by simp [results, Tryd.results20, go_sem]) rfl ⟨h, l, rfl, H4.out.1, H4.out.2.1, below_drewN H4.out.2.2 _⟩
end Go.Proofs.YtdjeoionafkanaaDoor
