/- The contract of reckonerref01.Sub. -/
import Derived.Test.YtnhoodpglbjhhaaRAdd
namespace Go.Proofs.Ytnhoodpglbjhhaa
open Go.RowKit
set_option linter.unusedVariables false

theorem sub_val {z hi t x bo P B : Nat} (hB : 2 ≤ B) (hz : z < P) (ht : t ≤ P) (hx : x < P) (hh : hi < B) (hb : bo ≤ 1) (h : z + hi * P + t = x + bo * (P * B)) : x + bo * P = z + t := by
  rcases Nat.lt_or_ge bo 1 with h1 | h1
  · have h0 : bo = 0 := by omega
    subst h0
    have : hi = 0 := by
      rcases Nat.eq_zero_or_pos hi with h2 | h2
      · exact h2
      · have := Nat.mul_le_mul_right P h2
        omega
    subst this
    omega
  · have h0 : bo = 1 := by omega
    subst h0
    obtain ⟨b, rfl⟩ : ∃ b, B = b + 2 := ⟨B - 2, by omega⟩
    have e : P * (b + 2) = b * P + 2 * P := by rw [Nat.mul_comm, Nat.add_mul]
    have h3 : hi = b + 1 := by
      rcases Nat.lt_or_ge hi (b + 1) with h2 | h2
      · have := Nat.mul_le_mul_right P (show hi ≤ b by omega)
        omega
      · omega
    subst h3
    rw [Nat.add_mul] at h
    omega
/-- two new cells -/
theorem Rd.two (w : World) (a b : Value) (t : TypeId) : Rd (w.alloc (.cells #[a, b] t)) (w.heap.size + 1) (some ⟨w.heap.size, 0, none⟩) [a, b] := by
  intro _
  refine ⟨w.heap.size, 0, rfl, by omega, fun j u hu => ?_⟩
  match j, hu with
  | 0, hu => simp at hu; subst hu; simp
  | 1, hu => simp at hu; subst hu; simp
theorem take_row {ds zs : List Nat} {n : Nat} (hl : ds.length = 2 * n + 2) (hd : Dg ds) (hv : V zs = VD (ds.take (2 * n))) : ∃ hi, hi < B64 ∧ VD ds = V zs + hi * B64 ^ n := by
  refine ⟨VD (ds.drop (2 * n)), ?_, ?_⟩
  · have := VD_lt _ (Dg_drop hd (2 * n))
    rw [List.length_drop, hl, show 2 * n + 2 - 2 * n = 2 by omega, Nat.pow_two, H32_sq] at this
    exact this
  · have h1 : VD ds = VD (ds.take (2 * n)) + H32 ^ (ds.take (2 * n)).length * VD (ds.drop (2 * n)) := by rw [← VD_append, List.take_append_drop]
    rw [List.length_take, hl, Nat.min_eq_left (by omega), pow_H] at h1
    rw [hv, h1]
    congr 1
    exact Nat.mul_comm _ _

set_option maxHeartbeats 1000000 in
theorem RSub_ok (A A' : Option Addr) (n c c' : Nat) (xs ys : List Nat) (carry : Nat) (w : World) (hn : n ≤ 4096) (hx : Sl w A n c xs) (hy : Sl w A' n c' ys) (hc : carry ≤ 1) :
    Calls Try.prog 15 #[.slice A n c, .slice A' n c', .int .u64 carry] w fun e w' => ∃ v zs, ∃ d : Nat, e = .returned (.tuple #[v, .int .u64 d]) ∧ Nw w w' v n zs ∧ V xs + d * B64 ^ n = V zs + V ys + carry ∧ Below w.heap.size w w' := by
  obtain ⟨i0, hi, hz0, hz1, hz2⟩ := info_parts Try.info23
  have hcH : carry < H32 := by unfold H32; omega
  have Hx := Lib.hid (And.intro hx hy)
  clear hx hy
  go_enter Try.func15, Try.ntmps15
  go_wp2_with (fail)
  refine (Digits_ok _ _ _ xs _ (by omega) Hx.out.1).mono ?_
  rintro e w1 ⟨v1, ds1, rfl, hn1, hd1, hv1, hb1⟩
  have hown := hn1.2.2
  have hsz := hb1.size
  have H1 := Lib.hid (And.intro hn1 (And.intro hd1 (And.intro hv1 (And.intro hb1 hown))))
  clear hn1 hd1 hv1 hb1 hown
  go_wp2_with (at_builtin; refine wpList_append_rd _ rfl (.tmp 13) (.tmp 14) 22 rfl w.heap.size 23 i0 (.int .u64 0) Try.underlying22 hi hz0 hz1 hz2 rfl v1 (2 * n) _ rfl (H1.out.2.2.2.2.alloc _) _ (some ⟨w1.heap.size, 0, none⟩) 2 2 [.int .u64 0, .int .u64 0] rfl rfl (Rd.two _ _ _ _) (by simp [Value.oneCell']) (by omega) (by simp; omega) ?_)
  intro v2 w2 hown2 hgrow hblk
  have hn2 : Nw w w2 v2 (2 * n + 2) (ds1 ++ [0, 0]) := by
    obtain ⟨g1, g2, g3, g4, g5⟩ := H1.out
    refine ⟨by simp [g1.1], (Dg_append g2 (fun z hz => by simp at hz; rw [hz]; exact H32_pos)).ws, ?_⟩
    rw [uvs_append]
    exact hown2
  obtain ⟨A2, c2, rfl, hs2⟩ := hn2.sl
  have H2 := Lib.hid (And.intro hs2 (below_app0 H1.out.2.2.2.1 H1.out.2.2.2.2 hgrow))
  clear hn2 hs2 hown2 hgrow hblk
  go_wp2_with (fail)
  refine (Digits_ok _ _ _ ys _ (by omega) (Hx.out.2.below H2.out.2)).mono ?_
  rintro e w3 ⟨v3, ds3, rfl, hn3, hd3, hv3, hb3⟩
  obtain ⟨A3, c3, rfl, hs3⟩ := hn3.sl
  have H3 := Lib.hid (And.intro ((H2.out.1.below hb3).below (W1_below w3 carry)) (And.intro (hs3.below (W1_below w3 carry)) (And.intro hd3 (And.intro hv3 (H2.out.2.trans (hb3.mono H2.out.2.size))))))
  have hso := Lib.hid (Sl_one w3 carry (Nat.lt_trans hcH (by decide)))
  clear hs3 hd3 hv3 hb3 hn3
  go_wp2_with (fail)
  refine (Plus_ok _ _ _ _ _ _ ds3 [carry] _ (by omega) (by omega) H3.out.2.1 hso.out H3.out.2.2.1 (Dg_one hcH)).mono ?_
  rintro e w4 ⟨v4, ds4, rfl, hn4, hd4, hv4, hb4⟩
  obtain ⟨l4, hl4, hl5⟩ : ∃ l, max (2 * n) 1 + 1 = l ∧ l ≤ 2 * n + 2 := ⟨_, rfl, by omega⟩
  rw [hl4] at hn4
  obtain ⟨A4, c4, rfl, hs4⟩ := hn4.sl
  have hvv : VD ds4 = V ys + carry := by rw [hv4, H3.out.2.2.2.1, VD_one]
  have H4 := Lib.hid (And.intro (H3.out.1.below hb4) (And.intro hs4 (And.intro hd4 (And.intro hvv (belowC H3.out.2.2.2.2 hb4)))))
  clear hs4 hd4 hv4 hb4 hn4 hvv hl4
  go_wp2_with (fail)
  refine (Minus_ok _ _ _ _ _ _ (ds1 ++ [0, 0]) ds4 _ (by omega) (by omega) H4.out.1 H4.out.2.1 (Dg_append H1.out.2.1 (fun z hz => by simp at hz; rw [hz]; exact H32_pos)) H4.out.2.2.1).mono ?_
  rintro e w5 ⟨v5, ds5, bo, rfl, hbo, hn5, hd5, hv5, hb5⟩
  obtain ⟨A5, c5, rfl, hs5⟩ := hn5.sl
  have h25 : 2 * n ≤ c5 := by have := hs5.2.1; omega
  have hN : ∃ N : Nat, (2 : Int) * (n : Int) = (N : Int) ∧ N = 2 * n := ⟨2 * n, by omega, rfl⟩
  obtain ⟨N, hN, hN2⟩ := hN
  have hsl : Sl w5 A5 N c5 (ds5.take N) := by
    rw [hN2]
    exact ⟨by simp [hs5.1], h25, hs5.2.2.1, Ws_take hs5.2.2.2.1 _, by rw [uvs_take]; exact hs5.2.2.2.2.take _⟩
  have hNc : (N : Int) ≤ c5 := by omega
  have hfin : ∀ zs : List Nat, zs.length = n → Ws zs → V zs = VD (ds5.take (2 * n)) → V xs + bo * B64 ^ n = V zs + V ys + carry := fun zs hl hw hv => by
    obtain ⟨hi, hhi, he⟩ := take_row hs5.1 hd5 hv
    rw [List.take_of_length_le (by rw [H4.out.2.1.1]; exact hl5), H4.out.2.2.2.1, he, VD_append, H1.out.2.2.1, show H32 ^ (2 * n + 2) = B64 ^ n * B64 by rw [show 2 * n + 2 = 2 * (n + 1) by omega, pow_H, Nat.pow_succ]] at hv5
    have z0 : VD [0, 0] = 0 := rfl
    rw [z0, Nat.mul_zero, Nat.add_zero] at hv5
    have b1 := V_lt zs hw
    have b2 := V_lt xs Hx.out.1.2.2.2.1
    have b3 := V_lt ys Hx.out.2.2.2.2.1
    rw [hl] at b1
    rw [Hx.out.1.1] at b2
    rw [Hx.out.2.1] at b3
    have := sub_val (by decide) b1 (show V ys + carry ≤ B64 ^ n by omega) b2 hhi hbo hv5
    omega
  have H5 := Lib.hid (And.intro hsl (And.intro (Dg_take hd5 N) (And.intro hN2 (And.intro hfin (H4.out.2.2.2.2.trans (hb5.mono H4.out.2.2.2.2.size))))))
  clear hs5 hd5 hv5 hb5 hn5 hsl hfin hN2 h25 hl5
  rcases Nat.lt_or_ge bo 1 with hb | hb
  · obtain rfl : bo = 0 := by omega
    have ht : (((0 : Nat) : Int) == 1) = false := rfl
    rw [ht]
    go_wp2_with (fail)
    refine (Row_any _ _ _ _ (ds5.take N) _ H5.out.2.2.1 (by omega) H5.out.1 H5.out.2.1).mono ?_
    rintro e w6 ⟨v6, zs, rfl, hn6, hv6, hb6⟩
    have H6 := Lib.hid (And.intro hn6 (And.intro hv6 hb6))
    clear hn6 hv6 hb6
    go_wp2_with (fail)
    go_ret2
    obtain ⟨h1, h2, h3⟩ := H6.out
    obtain ⟨g1, g2, g3, g4, g5⟩ := H5.out
    rw [g3] at h2
    exact ⟨v6, zs, 0, rfl, ⟨h1.1, h1.2.1, own_base h1.2.2 g5.size⟩, g4 zs h1.1 h1.2.1 h2, g5.trans (h3.mono g5.size)⟩
  · obtain rfl : bo = 1 := by omega
    have ht : (((1 : Nat) : Int) == 1) = true := rfl
    rw [ht]
    go_wp2_with (fail)
    refine (Row_any _ _ _ _ (ds5.take N) _ H5.out.2.2.1 (by omega) H5.out.1 H5.out.2.1).mono ?_
    rintro e w6 ⟨v6, zs, rfl, hn6, hv6, hb6⟩
    have H6 := Lib.hid (And.intro hn6 (And.intro hv6 hb6))
    clear hn6 hv6 hb6
    go_wp2_with (fail)
    go_ret2
    obtain ⟨h1, h2, h3⟩ := H6.out
    obtain ⟨g1, g2, g3, g4, g5⟩ := H5.out
    rw [g3] at h2
    exact ⟨v6, zs, 1, rfl, ⟨h1.1, h1.2.1, own_base h1.2.2 g5.size⟩, g4 zs h1.1 h1.2.1 h2, g5.trans (h3.mono g5.size)⟩
end Go.Proofs.Ytnhoodpglbjhhaa
