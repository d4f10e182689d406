/- The contracts of nat.Sub, FromWord, Trim. -/
import Derived.Test.YtekikolhnfofeaaNSum
import Derived.Test.YtekikolhnfofeaaRNat
namespace Go.Proofs.Ytekikolhnfofeaa
open Go.RowKit Go.Shelf
set_option linter.unusedVariables false
set_option maxRecDepth 10000

/-- a difference: what there is to borrow tells which is less -/
theorem sub_cases {x y z d p : Nat} (h : x + d * p = z + y + 0) (hx : x < p) (hy : y < p) (hz : z < p) (hd : d ≤ 1) : (d = 0 ∧ y ≤ x ∧ z = x - y) ∨ (d = 1 ∧ x < y) := by
  have : d = 0 ∨ d = 1 := by omega
  rcases this with rfl | rfl
  · left; omega
  · right; omega

set_option maxHeartbeats 1000000 in
theorem NSub_ok (A A' : Option Addr) (n n' c c' : Nat) (xs ys : List Nat) (w : World) (hn : n ≤ 4096) (hn' : n' ≤ 4096) (hx : Sl w A n c xs) (hy : Sl w A' n' c' ys) :
    Calls Try.prog 16 #[.slice A n c, .slice A' n' c'] w fun e w' =>
      ((V ys ≤ V xs ∧ ∃ v, e = .returned (.tuple #[v, .int .i64 0]) ∧ Nt w w' v (V xs - V ys)) ∨ (V xs < V ys ∧ e = .returned (.tuple #[.slice none 0 0, .int .i64 8]))) ∧ Below w.heap.size w w' := by
  have Hx := Lib.hid (And.intro hx hy)
  have Hk := Lib.hid (chkS_two (A := A) (A' := A') (c := c) (c' := c') hn hn')
  obtain ⟨N, hN⟩ : ∃ N : Nat, n ≤ N ∧ n' ≤ N ∧ (N = n ∨ N = n') := by
    rcases Nat.lt_or_ge n n' with h | h
    · exact ⟨n', by omega⟩
    · exact ⟨n, by omega⟩
  have HN : Hid (Mx N n N ∧ Mx N n' N) := ⟨⟨by omega, by omega, by omega⟩, ⟨by omega, by omega, by omega⟩⟩
  have hN2 : N ≤ 4096 := by omega
  have hcase : ((n : Int) < n' ∧ N = n') ∨ (¬ (n : Int) < n' ∧ N = n) := by omega
  clear hx hy hN
  rcases hcase with ⟨hnn, hNe⟩ | ⟨hnn, hNe⟩
  all_goals
    subst hNe
    go_enter Try.func16, Try.ntmps16
    go_wp2_with (fail)
    refine (checkSizes_two A A' _ _ c c' _ _ w rfl).mono ?_
    rintro e w1 ⟨rfl, hb1⟩
    rw [Hk.out]
    go_wp2_with (fail)
    refine (row_ok A _ c N N xs w1 (by omega) HN.out.1 (Hx.out.1.below hb1)).mono ?_
    rintro e w2 ⟨A2, c2, rfl, hs2, hb2⟩
    have H2 := Lib.hid (And.intro hs2 (And.intro (Hx.out.2.below hb1 |>.below hb2) (hb1.trans (hb2.mono hb1.size))))
    clear hs2 hb2 hb1
    go_wp2_with (fail)
    refine (row_ok A' _ c' N N ys w2 (by omega) HN.out.2 H2.out.2.1).mono ?_
    rintro e w3 ⟨A3, c3, rfl, hs3, hb3⟩
    have H3 := Lib.hid (And.intro (H2.out.1.below hb3) (And.intro hs3 (H2.out.2.2.trans (hb3.mono H2.out.2.2.size))))
    clear hs3 hb3 H2
    go_wp2_with (fail)
    refine (Sub_ok A2 A3 N c2 c3 _ _ 0 w3 hN2 H3.out.1 H3.out.2.1 (by omega)).mono ?_
    rintro e w4 ⟨v4, zs, d, rfl, hd, hv, hn4, hb4⟩
    have l1 := V_lt _ H3.out.1.2.2.2.1
    have l2 := V_lt _ H3.out.2.1.2.2.2.1
    have l3 := V_lt _ hn4.2.1
    rw [H3.out.1.1] at l1
    rw [H3.out.2.1.1] at l2
    rw [hn4.1] at l3
    have hcs := sub_cases hv l1 l2 l3 hd
    rw [V_pad, V_pad] at hcs
    have H4 := Lib.hid (And.intro hn4 (H3.out.2.2.trans (hb4.mono H3.out.2.2.size)))
    clear hn4 hb4 hv l1 l2 l3 hd
    rcases hcs with ⟨hd0, h6, h7⟩ | ⟨hd0, h6⟩
    · subst hd0
      have H6 := Lib.hid (And.intro h6 h7)
      clear h6 h7
      obtain ⟨A4, c4, rfl, hs4⟩ := H4.out.1.sl
      have Hs4 := Lib.hid hs4
      clear hs4
      go_wp2_with (fail)
      refine (used_ok A4 N c4 zs w4 (by omega) Hs4.out).mono ?_
      rintro e w5 ⟨k, rfl, hk, hH, rfl⟩
      have hN0 : Nt w3 w4 (.slice A4 k c4) (V xs - V ys) := ⟨k, zs.take k, H4.out.1.tk hk, hH.out.2, by rw [hH.out.1]; exact H6.out.2⟩
      have HR := Lib.hid (hN0.base H3.out.2.2.size)
      clear hN0
      go_wp2_with (fail)
      go_ret2
      exact ⟨.inl ⟨H6.out.1, _, rfl, HR.out⟩, H4.out.2⟩
    · subst hd0
      have H6 := Lib.hid h6
      clear h6
      go_wp2_with (fail)
      go_ret2
      exact ⟨.inr ⟨H6.out, rfl⟩, H4.out.2⟩

/-- a new word is a number -/
theorem Nt_word (w : World) (x : Nat) (hx : x < B64) (h0 : x ≠ 0) : Nt w (W1 w x) (.slice (some ⟨w.heap.size, 0, none⟩) 1 1) x := by
  refine ⟨1, [x], ⟨rfl, (Sl_one w x hx).2.2.2.1, ?_⟩, fun m hm => ?_, V_one x⟩
  · have hat : RowAt (W1 w x) w.heap.size [x] := heap_alloc_new w _
    exact hat.own (Nat.le_refl _) (by simp)
  · obtain rfl : m = 0 := by simpa using hm
    intro e
    simp at e
    exact h0 e

set_option maxHeartbeats 400000 in
theorem NFromWord_ok (x : Nat) (w : World) (hx : x < B64) :
    Calls Try.prog 73 #[.int .u64 x] w fun e w' => Rv w w' e x := by
  rcases Nat.eq_zero_or_pos x with rfl | h0
  · go_enter Try.func73, Try.ntmps73
    go_wp2
    go_ret
    exact ⟨_, rfl, Nt.nil _ _, Below.refl _ _⟩
  · have hne : ((x : Int) == 0) = false := by simp; omega
    have HX := Lib.hid (Nt_word w x hx (by omega))
    clear hx h0
    go_enter Try.func73, Try.ntmps73
    go_wp2
    go_ret
    exact ⟨_, rfl, HX.out, W1_below w x⟩

set_option maxHeartbeats 400000 in
theorem NTrim_ok (A : Option Addr) (n c : Nat) (xs : List Nat) (w : World) (hn : n ≤ 100000) (hx : Sl w A n c xs) :
    Calls Try.prog 51 #[.slice A n c] w fun e w' => Rv w w' e (V xs) := by
  obtain ⟨i0, hi, hz0, hz1, hz2⟩ := info_parts Try.info37
  have Hx := Lib.hid hx
  clear hx
  go_enter Try.func51, Try.ntmps51
  go_wp2_with (fail)
  refine (used_ok A n c xs w hn Hx.out).mono ?_
  rintro e w1 ⟨k, rfl, hk, hH, rfl⟩
  have Hs := Lib.hid (Hx.out.tk hk)
  have hl : (uvs (xs.take k)).length = k := by rw [uvs_length]; exact Hs.out.1
  have Hl := Lib.hid (And.intro hl Hs.out.2.2.2.2)
  clear hl
  go_wp2_with (at_builtin; refine wpList_append_rd _ rfl (.const (.slice none 0 0)) (.tmp 4) 23 rfl w.heap.size 37 i0 (.int .u64 0) Try.underlying23 hi hz0 hz1 hz2 rfl _ 0 [] rfl (World.ownsRow_nil _ _ _ _) w.heap.size A k c (uvs (xs.take k)) rfl Hl.out.1 Hl.out.2 (uvs_one _) (by omega) (by omega) ?_)
  intro v' w' hown hgrow hblk
  have H := Lib.hid (And.intro hown hgrow)
  clear hown hgrow hblk
  go_wp2
  go_ret
  refine ⟨v', rfl, ⟨k, xs.take k, ⟨Hs.out.1, Hs.out.2.2.2.1, by simpa using H.out.1⟩, hH.out.2, hH.out.1⟩, (Below.refl _ _).grown H.out.2 (Nat.le_refl _) (by intro k hk; cases hk)⟩

end Go.Proofs.Ytekikolhnfofeaa
