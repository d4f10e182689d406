/- The contracts of reckonerref01.Word, MulWord, AddMul, SubMul. -/
import Derived.Test.YtnhoodpglbjhhaaRSub
import Derived.Test.YtnhoodpglbjhhaaTimes
namespace Go.Proofs.Ytnhoodpglbjhhaa
open Go.RowKit
set_option linter.unusedVariables false

/-- two new digits -/
theorem Sl_two (w : World) (a b : Nat) (ha : a < B64) (hb : b < B64) : Sl (w.alloc (.cells #[.int .u64 (a : Int), .int .u64 (b : Int)] 23)) (some ⟨w.heap.size, 0, none⟩) 2 2 [a, b] :=
  ⟨rfl, Nat.le_refl _, by omega, fun y hy => by
    simp at hy
    rcases hy with rfl | rfl
    · exact ha
    · exact hb, by simpa [uvs] using Rd.two w (.int .u64 (a : Int)) (.int .u64 (b : Int)) 23⟩
set_option maxHeartbeats 400000 in
theorem Word_ok (x : Nat) (w : World) (hx : x < B64) :
    Calls Try.prog 58 #[.int .u64 x] w fun e w' => ∃ A ds, e = .returned (.slice A 2 2) ∧ Sl w' A 2 2 ds ∧ Dg ds ∧ VD ds = x ∧ Below w.heap.size w w' := by
  obtain ⟨r, q, hrq, hrH, hqH, e1, e2, e3, e4, e5⟩ := halves x hx
  have HR := Lib.hid (And.intro hrq (And.intro hrH hqH))
  have hx0 : (0 : Int) ≤ x := by omega
  clear hrq hrH hqH hx
  go_enter Try.func58, Try.ntmps58
  go_wp2
  go_ret
  obtain ⟨⟨h1, h2⟩, h3, h4⟩ := HR.out
  refine ⟨_, [r, q], rfl, Sl_two w r q (Nat.lt_trans h3 (by decide)) (Nat.lt_trans h4 (by decide)), fun y hy => by
    simp at hy
    rcases hy with rfl | rfl
    · exact h3
    · exact h4, ?_, (Below.refl _ _).alloc (Nat.le_refl _) _⟩
  rw [VD, VD, VD, h1, h2, Nat.mul_zero, Nat.add_zero, Nat.mod_add_div]

theorem mul_room {x y a P B : Nat} (hx : x < P) (hy : y < B) (ha : a < B) : x * y + a < P * B := by
  have h1 : (x + 1) * (y + 1) ≤ P * B := Nat.mul_le_mul hx hy
  have e : (x + 1) * (y + 1) = x * y + x + y + 1 := by grind
  have h2 : x * y + a ≤ x * (B - 1) + (B - 1) := Nat.add_le_add (Nat.mul_le_mul_left _ (by omega)) (by omega)
  have h3 : x * (B - 1) + (B - 1) = (x + 1) * (B - 1) := by rw [Nat.add_mul, Nat.one_mul]
  have h4 : (x + 1) * (B - 1) ≤ P * (B - 1) := Nat.mul_le_mul_right _ hx
  have h5 : P * (B - 1) + P = P * B := by
    obtain ⟨b, rfl⟩ : ∃ b, B = b + 1 := ⟨B - 1, by omega⟩
    rw [Nat.add_sub_cancel, Nat.mul_succ]
  omega
theorem V_below {xs : List Nat} {n : Nat} (h : Ws xs) (hl : xs.length = n) : V xs < B64 ^ n := by
  have := V_lt xs h
  rw [hl] at this
  exact this

set_option maxHeartbeats 1000000 in
theorem RMul_ok (A : Option Addr) (n c : Nat) (xs : List Nat) (wd add : Nat) (w : World) (hn : n ≤ 4096) (hx : Sl w A n c xs) (hwd : wd < B64) (hadd : add < B64) :
    Calls Try.prog 22 #[.slice A n c, .int .u64 wd, .int .u64 add] w fun e w' => ∃ v zs, ∃ d : Nat, e = .returned (.tuple #[v, .int .u64 d]) ∧ Nw w w' v n zs ∧ V zs + d * B64 ^ n = V xs * wd + add ∧ Below w.heap.size w w' := by
  have HR := Lib.hid (mul_room (V_below hx.2.2.2.1 hx.1) hwd hadd)
  have Hx := Lib.hid (And.intro hx (And.intro hwd hadd))
  clear hx hwd hadd
  go_enter Try.func22, Try.ntmps22
  go_wp2_with (fail)
  refine (Digits_ok _ _ _ xs _ (by omega) Hx.out.1).mono ?_
  rintro e w1 ⟨v1, ds1, rfl, hn1, hd1, hv1, hb1⟩
  obtain ⟨A1, c1, rfl, hs1⟩ := hn1.sl
  have H1 := Lib.hid (And.intro hs1 (And.intro hd1 (And.intro hv1 hb1)))
  clear hs1 hd1 hv1 hb1 hn1
  go_wp2_with (fail)
  refine (Word_ok wd _ Hx.out.2.1).mono ?_
  rintro e w2 ⟨A2, ds2, rfl, hs2, hd2, hv2, hb2⟩
  have H2 := Lib.hid (And.intro (H1.out.1.below hb2) (And.intro hs2 (And.intro hd2 (And.intro hv2 (H1.out.2.2.2.trans (hb2.mono H1.out.2.2.2.size))))))
  clear hs2 hd2 hv2 hb2
  go_wp2_with (fail)
  refine (Times_ok _ _ _ _ _ _ ds1 ds2 _ (by omega) (by omega) H2.out.1 H2.out.2.1 H1.out.2.1 H2.out.2.2.1).mono ?_
  rintro e w3 ⟨v3, ds3, rfl, hn3, hd3, hv3, hb3⟩
  obtain ⟨A3, c3, rfl, hs3⟩ := hn3.sl
  have H3 := Lib.hid (And.intro hs3 (And.intro hd3 (And.intro (show VD ds3 = V xs * wd by rw [hv3, H1.out.2.2.1, H2.out.2.2.2.1]) (H2.out.2.2.2.2.trans (hb3.mono H2.out.2.2.2.2.size)))))
  clear hs3 hd3 hv3 hb3 hn3
  go_wp2_with (fail)
  refine (Word_ok add _ Hx.out.2.2).mono ?_
  rintro e w4 ⟨A4, ds4, rfl, hs4, hd4, hv4, hb4⟩
  have H4 := Lib.hid (And.intro (H3.out.1.below hb4) (And.intro hs4 (And.intro hd4 (And.intro hv4 (H3.out.2.2.2.trans (hb4.mono H3.out.2.2.2.size))))))
  clear hs4 hd4 hv4 hb4
  go_wp2_with (fail)
  refine (Plus_ok _ _ _ _ _ _ ds3 ds4 _ (by omega) (by omega) H4.out.1 H4.out.2.1 H3.out.2.1 H4.out.2.2.1).mono ?_
  rintro e w5 ⟨v5, ds5, rfl, hn5, hd5, hv5, hb5⟩
  rw [show max (2 * n + 2) 2 + 1 = 2 * n + 3 by omega] at hn5
  obtain ⟨A5, c5, rfl, hs5⟩ := hn5.sl
  have H5 := Lib.hid (And.intro hs5 (And.intro hd5 (And.intro (show VD ds5 = V xs * wd + add by rw [hv5, H3.out.2.2.1, H4.out.2.2.2.1]) (H4.out.2.2.2.2.trans (hb5.mono H4.out.2.2.2.2.size)))))
  clear hs5 hd5 hv5 hb5 hn5
  go_wp2_with (fail)
  refine (Cut_ok _ _ _ n ds5 _ (by omega) (by omega) H5.out.1 H5.out.2.1 (by rw [H5.out.2.2.1, Nat.pow_succ]; exact HR.out)).mono ?_
  rintro e w6 ⟨v6, zs, d, rfl, hn6, hd6, hv6, hb6⟩
  have H6 := Lib.hid (And.intro hn6 (And.intro hv6 hb6))
  clear hn6 hv6 hb6 hd6
  go_wp2_with (fail)
  go_ret2
  obtain ⟨h1, h2, h3⟩ := H6.out
  have h4 := H5.out.2.2.2
  rw [H5.out.2.2.1] at h2
  exact ⟨v6, zs, d, rfl, ⟨h1.1, h1.2.1, own_base h1.2.2 h4.size⟩, h2, h4.trans (h3.mono h4.size)⟩

theorem addmul_room {x y z P B : Nat} (hx : x < P) (hy : y < B) (hz : z < P) : x * y + z < P * B := by
  have h := mul_room hy hx hz
  rw [Nat.mul_comm x, Nat.mul_comm P]
  exact h

set_option maxHeartbeats 1000000 in
theorem RAddMul_ok (A A' : Option Addr) (n c c' : Nat) (ya xs : List Nat) (wd : Nat) (w : World) (hn : n ≤ 4096) (hy : Sl w A' n c' ya) (hx : Sl w A n c xs) (hwd : wd < B64) :
    Calls Try.prog 23 #[.slice A' n c', .slice A n c, .int .u64 wd] w fun e w' => ∃ v zs, ∃ d : Nat, e = .returned (.tuple #[v, .int .u64 d]) ∧ Nw w w' v n zs ∧ V zs + d * B64 ^ n = V ya + V xs * wd ∧ Below w.heap.size w w' := by
  have HR := Lib.hid (addmul_room (V_below hx.2.2.2.1 hx.1) hwd (V_below hy.2.2.2.1 hy.1))
  have Hx := Lib.hid (And.intro hx (And.intro hwd hy))
  clear hx hwd hy
  go_enter Try.func23, Try.ntmps23
  go_wp2_with (fail)
  refine (Digits_ok _ _ _ xs _ (by omega) Hx.out.1).mono ?_
  rintro e w1 ⟨v1, ds1, rfl, hn1, hd1, hv1, hb1⟩
  obtain ⟨A1, c1, rfl, hs1⟩ := hn1.sl
  have H1 := Lib.hid (And.intro hs1 (And.intro hd1 (And.intro hv1 hb1)))
  clear hs1 hd1 hv1 hb1 hn1
  go_wp2_with (fail)
  refine (Word_ok wd _ Hx.out.2.1).mono ?_
  rintro e w2 ⟨A2, ds2, rfl, hs2, hd2, hv2, hb2⟩
  have H2 := Lib.hid (And.intro (H1.out.1.below hb2) (And.intro hs2 (And.intro hd2 (And.intro hv2 (H1.out.2.2.2.trans (hb2.mono H1.out.2.2.2.size))))))
  clear hs2 hd2 hv2 hb2
  go_wp2_with (fail)
  refine (Times_ok _ _ _ _ _ _ ds1 ds2 _ (by omega) (by omega) H2.out.1 H2.out.2.1 H1.out.2.1 H2.out.2.2.1).mono ?_
  rintro e w3 ⟨v3, ds3, rfl, hn3, hd3, hv3, hb3⟩
  obtain ⟨A3, c3, rfl, hs3⟩ := hn3.sl
  have H3 := Lib.hid (And.intro hs3 (And.intro hd3 (And.intro (show VD ds3 = V xs * wd by rw [hv3, H1.out.2.2.1, H2.out.2.2.2.1]) (H2.out.2.2.2.2.trans (hb3.mono H2.out.2.2.2.2.size)))))
  clear hs3 hd3 hv3 hb3 hn3
  go_wp2_with (fail)
  refine (Digits_ok _ _ _ ya _ (by omega) (Hx.out.2.2.below H3.out.2.2.2)).mono ?_
  rintro e w4 ⟨v4, ds4, rfl, hn4, hd4, hv4, hb4⟩
  obtain ⟨A4, c4, rfl, hs4⟩ := hn4.sl
  have H4 := Lib.hid (And.intro (H3.out.1.below hb4) (And.intro hs4 (And.intro hd4 (And.intro hv4 (H3.out.2.2.2.trans (hb4.mono H3.out.2.2.2.size))))))
  clear hs4 hd4 hv4 hb4 hn4
  go_wp2_with (fail)
  refine (Plus_ok _ _ _ _ _ _ ds3 ds4 _ (by omega) (by omega) H4.out.1 H4.out.2.1 H3.out.2.1 H4.out.2.2.1).mono ?_
  rintro e w5 ⟨v5, ds5, rfl, hn5, hd5, hv5, hb5⟩
  rw [show max (2 * n + 2) (2 * n) + 1 = 2 * n + 3 by omega] at hn5
  obtain ⟨A5, c5, rfl, hs5⟩ := hn5.sl
  have H5 := Lib.hid (And.intro hs5 (And.intro hd5 (And.intro (show VD ds5 = V xs * wd + V ya by rw [hv5, H3.out.2.2.1, H4.out.2.2.2.1]) (H4.out.2.2.2.2.trans (hb5.mono H4.out.2.2.2.2.size)))))
  clear hs5 hd5 hv5 hb5 hn5
  go_wp2_with (fail)
  refine (Cut_ok _ _ _ n ds5 _ (by omega) (by omega) H5.out.1 H5.out.2.1 (by rw [H5.out.2.2.1, Nat.pow_succ]; exact HR.out)).mono ?_
  rintro e w6 ⟨v6, zs, d, rfl, hn6, hd6, hv6, hb6⟩
  have H6 := Lib.hid (And.intro hn6 (And.intro hv6 hb6))
  clear hn6 hv6 hb6 hd6
  go_wp2_with (fail)
  go_ret2
  obtain ⟨h1, h2, h3⟩ := H6.out
  have h4 := H5.out.2.2.2
  rw [H5.out.2.2.1] at h2
  exact ⟨v6, zs, d, rfl, ⟨h1.1, h1.2.1, own_base h1.2.2 h4.size⟩, by omega, h4.trans (h3.mono h4.size)⟩

/-- the word above a product is not the greatest one -/
theorem high_room {l h x y P B : Nat} (hB : 1 < B) (hx : x < P) (hy : y < B) (e : l + h * P = x * y) : h + 1 < B := by
  obtain ⟨b, rfl⟩ : ∃ b, B = b + 1 := ⟨B - 1, by omega⟩
  rcases Nat.lt_or_ge h b with h1 | h1
  · omega
  · have h2 : b * P ≤ h * P := Nat.mul_le_mul_right _ h1
    have h3 : x * y ≤ x * b := Nat.mul_le_mul_left _ (by omega)
    have h4 : (x + 1) * b ≤ P * b := Nat.mul_le_mul_right _ hx
    rw [Nat.add_mul, Nat.one_mul, Nat.mul_comm P] at h4
    omega

set_option maxHeartbeats 1000000 in
theorem RSubMul_ok (A A' : Option Addr) (n c c' : Nat) (ya xs : List Nat) (wd : Nat) (w : World) (hn : n ≤ 4096) (hy : Sl w A' n c' ya) (hx : Sl w A n c xs) (hwd : wd < B64) :
    Calls Try.prog 24 #[.slice A' n c', .slice A n c, .int .u64 wd] w fun e w' => ∃ v zs, ∃ d : Nat, e = .returned (.tuple #[v, .int .u64 d]) ∧ Nw w w' v n zs ∧ V ya + d * B64 ^ n = V zs + V xs * wd ∧ Below w.heap.size w w' := by
  have HR := Lib.hid (addmul_room (V_below hx.2.2.2.1 hx.1) hwd (V_below hy.2.2.2.1 hy.1))
  have Hx := Lib.hid (And.intro hx (And.intro hwd hy))
  clear hx hwd hy
  go_enter Try.func24, Try.ntmps24
  go_wp2_with (fail)
  refine (Digits_ok _ _ _ xs _ (by omega) Hx.out.1).mono ?_
  rintro e w1 ⟨v1, ds1, rfl, hn1, hd1, hv1, hb1⟩
  obtain ⟨A1, c1, rfl, hs1⟩ := hn1.sl
  have H1 := Lib.hid (And.intro hs1 (And.intro hd1 (And.intro hv1 hb1)))
  clear hs1 hd1 hv1 hb1 hn1
  go_wp2_with (fail)
  refine (Word_ok wd _ Hx.out.2.1).mono ?_
  rintro e w2 ⟨A2, ds2, rfl, hs2, hd2, hv2, hb2⟩
  have H2 := Lib.hid (And.intro (H1.out.1.below hb2) (And.intro hs2 (And.intro hd2 (And.intro hv2 (H1.out.2.2.2.trans (hb2.mono H1.out.2.2.2.size))))))
  clear hs2 hd2 hv2 hb2
  go_wp2_with (fail)
  refine (Times_ok _ _ _ _ _ _ ds1 ds2 _ (by omega) (by omega) H2.out.1 H2.out.2.1 H1.out.2.1 H2.out.2.2.1).mono ?_
  rintro e w3 ⟨v3, ds3, rfl, hn3, hd3, hv3, hb3⟩
  obtain ⟨A3, c3, rfl, hs3⟩ := hn3.sl
  have H3 := Lib.hid (And.intro hs3 (And.intro hd3 (And.intro (show VD ds3 = V xs * wd by rw [hv3, H1.out.2.2.1, H2.out.2.2.2.1]) (H2.out.2.2.2.2.trans (hb3.mono H2.out.2.2.2.2.size)))))
  clear hs3 hd3 hv3 hb3 hn3
  go_wp2_with (fail)
  refine (Cut_ok _ _ _ n ds3 _ (by omega) (by omega) H3.out.1 H3.out.2.1 (by rw [H3.out.2.2.1, Nat.pow_succ]; have := HR.out; omega)).mono ?_
  rintro e w4 ⟨v4, ls, hi, rfl, hn4, hd4, hv4, hb4⟩
  obtain ⟨A4, c4, rfl, hs4⟩ := hn4.sl
  have hroom := high_room (by decide) (V_below Hx.out.1.2.2.2.1 Hx.out.1.1) Hx.out.2.1 (hv4.trans H3.out.2.2.1)
  have hh : (hi : Int) + 1 < 18446744073709551616 := by have hB : B64 = 18446744073709551616 := rfl; omega
  have H4 := Lib.hid (And.intro hs4 (And.intro (hv4.trans H3.out.2.2.1) (H3.out.2.2.2.trans (hb4.mono H3.out.2.2.2.size))))
  clear hs4 hd4 hv4 hb4 hn4 hroom
  go_wp2_with (fail)
  refine (Digits_ok _ _ _ ya _ (by omega) (Hx.out.2.2.below H4.out.2.2)).mono ?_
  rintro e w5 ⟨v5, ds5, rfl, hn5, hd5, hv5, hb5⟩
  obtain ⟨A5, c5, rfl, hs5⟩ := hn5.sl
  have H5 := Lib.hid (And.intro (H4.out.1.below hb5) (And.intro hs5 (And.intro hd5 (And.intro hv5 (H4.out.2.2.trans (hb5.mono H4.out.2.2.size))))))
  clear hs5 hd5 hv5 hb5 hn5
  go_wp2_with (fail)
  refine (Digits_ok _ _ _ ls _ (by omega) H5.out.1).mono ?_
  rintro e w6 ⟨v6, ds6, rfl, hn6, hd6, hv6, hb6⟩
  obtain ⟨A6, c6, rfl, hs6⟩ := hn6.sl
  have H6 := Lib.hid (And.intro (H5.out.2.1.below hb6) (And.intro hs6 (And.intro hd6 (And.intro hv6 (H5.out.2.2.2.2.trans (hb6.mono H5.out.2.2.2.2.size))))))
  clear hs6 hd6 hv6 hb6 hn6
  go_wp2_with (fail)
  refine (Minus_ok _ _ _ _ _ _ ds5 ds6 _ (by omega) (by omega) H6.out.1 H6.out.2.1 H5.out.2.2.1 H6.out.2.2.1).mono ?_
  rintro e w7 ⟨v7, ds7, bo, rfl, hbo, hn7, hd7, hv7, hb7⟩
  obtain ⟨A7, c7, rfl, hs7⟩ := hn7.sl
  obtain ⟨N, hN, hN2⟩ : ∃ N : Nat, 2 * n = N ∧ N = 2 * n := ⟨_, rfl, rfl⟩
  rw [hN] at hs7
  rw [List.take_of_length_le (by rw [H6.out.2.1.1]; exact Nat.le_refl _), H5.out.2.2.2.1, H6.out.2.2.2.1, pow_H] at hv7
  have H7 := Lib.hid (And.intro hs7 (And.intro hd7 (And.intro hv7 (And.intro hN2 (H6.out.2.2.2.2.trans (hb7.mono H6.out.2.2.2.2.size))))))
  clear hs7 hd7 hv7 hb7 hn7 hN2
  have hfin : ∀ zs : List Nat, V zs = VD ds7 → V ya + (hi + bo) * B64 ^ n = V zs + V xs * wd := fun zs hz => by
    have h1 := H7.out.2.2.1
    have h2 := H4.out.2.1
    rw [hz, Nat.add_mul]
    omega
  have HF := Lib.hid hfin
  clear hfin
  rcases Nat.lt_or_ge bo 1 with hb | hb
  · obtain rfl : bo = 0 := by omega
    have ht : (((0 : Nat) : Int) == 1) = false := rfl
    rw [ht, hN]
    go_wp2_with (fail)
    refine (Row_any _ _ _ _ ds7 _ H7.out.2.2.2.1 (by omega) H7.out.1 H7.out.2.1).mono ?_
    rintro e w8 ⟨v8, zs, rfl, hn8, hv8, hb8⟩
    have H8 := Lib.hid (And.intro hn8 (And.intro hv8 hb8))
    clear hn8 hv8 hb8
    go_wp2_with (fail)
    go_ret2
    obtain ⟨h1, h2, h3⟩ := H8.out
    have g5 := H7.out.2.2.2.2
    exact ⟨v8, zs, hi, rfl, ⟨h1.1, h1.2.1, own_base h1.2.2 g5.size⟩, HF.out zs h2, g5.trans (h3.mono g5.size)⟩
  · obtain rfl : bo = 1 := by omega
    have ht : (((1 : Nat) : Int) == 1) = true := rfl
    obtain ⟨h1', hh1, hh2⟩ : ∃ h1' : Nat, (hi : Int) + 1 = (h1' : Int) ∧ h1' = hi + 1 := ⟨hi + 1, by omega, rfl⟩
    have Hh := Lib.hid hh2
    clear hh2
    rw [ht, hN]
    go_wp2_with (fail)
    refine (Row_any _ _ _ _ ds7 _ H7.out.2.2.2.1 (by omega) H7.out.1 H7.out.2.1).mono ?_
    rintro e w8 ⟨v8, zs, rfl, hn8, hv8, hb8⟩
    have H8 := Lib.hid (And.intro hn8 (And.intro hv8 hb8))
    clear hn8 hv8 hb8
    go_wp2_with (fail)
    go_ret2
    obtain ⟨h1, h2, h3⟩ := H8.out
    have g5 := H7.out.2.2.2.2
    refine ⟨v8, zs, h1', rfl, ⟨h1.1, h1.2.1, own_base h1.2.2 g5.size⟩, ?_, g5.trans (h3.mono g5.size)⟩
    rw [Hh.out]
    exact HF.out zs h2
end Go.Proofs.Ytnhoodpglbjhhaa
