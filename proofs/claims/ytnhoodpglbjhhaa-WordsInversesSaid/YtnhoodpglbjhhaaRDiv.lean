/- The contracts of reckonerref01.Divide, DivWord and Narrow. -/
import Derived.Test.YtnhoodpglbjhhaaDivRW
import Derived.Test.YtnhoodpglbjhhaaRSub
namespace Go.Proofs.Ytnhoodpglbjhhaa
open Go.RowKit
set_option linter.unusedVariables false

set_option maxRecDepth 100000 in
set_option maxHeartbeats 2000000 in
theorem Divide_one (Aa Ab : Option Addr) (N ca cb : Nat) (xs : List Nat) (b0 : Nat) (w : World) (hN : 0 < N) (hN2 : N ≤ 50000) (hx : Sl w Aa N ca xs) (dx : Dg xs) (hb : Sl w Ab 2 cb [b0, 0]) (hb0 : b0 < H32) (hbp : 0 < b0) :
    Calls Try.prog 62 #[.slice Aa N ca, .slice Ab 2 cb] w fun e w' => ∃ v qs A' n' c' rs, e = .returned (.tuple #[v, .slice A' n' c']) ∧ n' ≤ 100000 ∧ Nw w w' v N qs ∧ Dg qs ∧ Sl w' A' n' c' rs ∧ Dg rs ∧ VD qs * b0 + VD rs = VD xs ∧ VD rs < b0 ∧ Below w.heap.size w w' := by
  have Hx := Lib.hid (And.intro hx (And.intro dx (And.intro hb hb0)))
  clear hx dx hb0
  go_enter Try.func62, Try.ntmps62
  go_wp2_with (fail)
  refine (Short_ok _ 2 _ [b0, 0] _ (by omega) Hx.out.2.2.1 (fun z hz => by simp at hz; rcases hz with rfl | rfl; exact Hx.out.2.2.2; exact H32_pos)).mono ?_
  rintro e w' ⟨k, rfl, hk, rfl⟩
  have hk2 : k = 1 := by
    obtain ⟨h1, h2, h3⟩ := hk.out
    have e2 : VD [b0, 0] = b0 := by simp [VD]
    rw [e2] at h2
    match k, h1 with
    | 0, _ =>
      have e1 : VD (List.take 0 [b0, 0]) = 0 := rfl
      omega
    | 1, _ => rfl
    | 2, _ => exact absurd rfl (h3 1 rfl)
  subst hk2
  clear hk
  obtain ⟨bb, ob, rfl, hbb, hcb⟩ := Hx.out.2.2.1.2.2.2.2.at (k := 0) (u := .int .u64 (b0 : Int)) (by simp [uvs])
  rw [Nat.add_zero] at hcb
  clear hb
  go_wp2_with (fail)
  refine (one_ok _ _ _ xs b0 _ (by omega) Hx.out.1 Hx.out.2.1 hbp Hx.out.2.2.2).mono ?_
  rintro e w2 ⟨v, qs, A', r, rfl, hn, hd, hs, hr, hv, hb⟩
  have HF := Lib.hid (And.intro hn (And.intro hd (And.intro hs (And.intro hr (And.intro hv hb)))))
  clear hn hd hs hr hv hb
  go_wp2_with (fail)
  go_ret2
  obtain ⟨h1, h2, h3, h4, h5, h6⟩ := HF.out
  have e : VD [r] = r := VD_one r
  refine ⟨v, qs, A', 1, 1, [r], rfl, by omega, h1, h2, h3, Dg_one (Nat.lt_trans h4 Hx.out.2.2.2), ?_, ?_, h6⟩
  · rw [e]; exact h5
  · rw [e]; exact h4

/-- by any two digits that are not 0 -/
theorem Divide_ok (Aa Ab : Option Addr) (N ca cb : Nat) (xs bs : List Nat) (wd : Nat) (w : World) (hN : 0 < N) (hN2 : N ≤ 50000) (hx : Sl w Aa N ca xs) (dx : Dg xs) (hb : Sl w Ab 2 cb bs) (db : Dg bs) (hv : VD bs = wd) (hw : 0 < wd) :
    Calls Try.prog 62 #[.slice Aa N ca, .slice Ab 2 cb] w fun e w' => ∃ v qs A' n' c' rs, e = .returned (.tuple #[v, .slice A' n' c']) ∧ n' ≤ 100000 ∧ Nw w w' v N qs ∧ Dg qs ∧ Sl w' A' n' c' rs ∧ Dg rs ∧ VD qs * wd + VD rs = VD xs ∧ VD rs < wd ∧ Below w.heap.size w w' := by
  match bs, hb.1, hb with
  | [b0, b1], _, hb =>
    have e : VD [b0, b1] = b0 + H32 * b1 := by simp [VD]
    rcases Nat.eq_zero_or_pos b1 with h | h
    · subst h
      rw [Nat.mul_zero, Nat.add_zero] at e
      have hw0 : wd = b0 := by rw [← hv, e]
      rw [hw0]
      exact Divide_one Aa Ab N ca cb xs b0 w hN hN2 hx dx hb (db b0 (by simp)) (by omega)
    · rw [← hv, e]
      exact Divide_two Aa Ab N ca cb xs b0 b1 w hN hN2 hx dx hb (db b0 (by simp)) (db b1 (by simp)) h

/-- the quotient is a row -/
theorem quo_room {q w r x h P : Nat} (e : q * w + r = x + P * h) (hr : r < w) (hx : x < P) (hh : h < w) : q < P := by
  have h1 : P * (h + 1) ≤ P * w := Nat.mul_le_mul_left _ hh
  rw [Nat.mul_add, Nat.mul_one] at h1
  have h2 : q * w < P * w := by omega
  exact Nat.lt_of_mul_lt_mul_right h2

set_option maxHeartbeats 2000000 in
theorem RDiv_ok (A : Option Addr) (n c : Nat) (xs : List Nat) (wd high : Nat) (w : World) (hn : n ≤ 4096) (hx : Sl w A n c xs) (hwd : wd < B64) (hh : high < wd) :
    Calls Try.prog 27 #[.slice A n c, .int .u64 wd, .int .u64 high] w fun e w' => ∃ v zs, ∃ r : Nat, e = .returned (.tuple #[v, .int .u64 r]) ∧ r < wd ∧ Nw w w' v n zs ∧ V zs * wd + r = high * B64 ^ n + V xs ∧ Below w.heap.size w w' := by
  obtain ⟨i0, hi, hz0, hz1, hz2⟩ := info_parts Try.info23
  have Hx := Lib.hid (And.intro hx (And.intro hwd (show high < B64 by omega)))
  clear hx hwd
  go_enter Try.func27, Try.ntmps27
  go_wp2_with (fail)
  refine (Digits_ok _ _ _ xs _ (by omega) Hx.out.1).mono ?_
  rintro e w1 ⟨v1, ds1, rfl, hn1, hd1, hv1, hb1⟩
  have hown1 := hn1.2.2
  have hsz1 := hb1.size
  have H1 := Lib.hid (And.intro hn1.1 (And.intro hd1 (And.intro hv1 hb1)))
  clear hn1 hd1 hv1 hb1
  go_wp2_with (fail)
  refine (Word_ok high _ Hx.out.2.2).mono ?_
  rintro e w2 ⟨A2, ds2, rfl, hs2, hd2, hv2, hb2⟩
  have hown2 := own_below hown1 hb2 (Nat.le_refl _)
  have hsz2 := hb2.size
  have hr2 : Rd w2 w2.heap.size A2 (uvs ds2) := hs2.2.2.2.2
  have hl2 : (uvs ds2).length = 2 := by rw [uvs_length]; exact hs2.1
  have H2 := Lib.hid (And.intro hs2 (And.intro hd2 (And.intro hv2 (H1.out.2.2.2.trans (hb2.mono H1.out.2.2.2.size)))))
  have HL := Lib.hid (And.intro hl2 hr2)
  clear hs2 hd2 hv2 hb2 hown1 hl2 hr2
  go_wp2_with (at_builtin; refine wpList_append_rd _ rfl (.tmp 16) (.tmp 18) 22 rfl w.heap.size 23 i0 (.int .u64 0) Try.underlying22 hi hz0 hz1 hz2 rfl v1 (2 * n) _ rfl hown2 w2.heap.size A2 2 2 (uvs ds2) rfl HL.out.1 HL.out.2 (uvs_one _) (by omega) (by omega) ?_)
  intro v3 w3 hown3 hgrow hblk
  have hb3 : Below w.heap.size w w3 := H2.out.2.2.2.grown hgrow H2.out.2.2.2.size (fun k hk => (hown2.lt k hk).1)
  have hn3 : Nw w w3 v3 (2 * n + 2) (ds1 ++ ds2) := ⟨by simp [H1.out.1, H2.out.1.1], (Dg_append H1.out.2.1 H2.out.2.1).ws, by rw [uvs_append]; exact hown3⟩
  obtain ⟨N, hNe⟩ : ∃ N, 2 * n + 2 = N := ⟨_, rfl⟩
  rw [hNe] at hn3
  obtain ⟨A3, c3, rfl, hs3⟩ := hn3.sl
  have H3 := Lib.hid (And.intro hs3 (And.intro hb3 hNe))
  have hN1 : 0 < N := by omega
  have hN2 : N ≤ 20000 := by omega
  clear hn3 hs3 hb3 hown2 hown3 hgrow hblk HL hNe
  go_wp2_with (fail)
  refine (Word_ok wd _ Hx.out.2.1).mono ?_
  rintro e w4 ⟨A4, ds4, rfl, hs4, hd4, hv4, hb4⟩
  have H4 := Lib.hid (And.intro (H3.out.1.below hb4) (And.intro hs4 (And.intro hd4 (And.intro hv4 (H3.out.2.1.trans (hb4.mono H3.out.2.1.size))))))
  clear hs4 hd4 hv4 hb4
  go_wp2_with (fail)
  refine (Divide_ok _ _ _ _ _ (ds1 ++ ds2) ds4 wd _ hN1 (by omega) H4.out.1 (Dg_append H1.out.2.1 H2.out.2.1) H4.out.2.1 H4.out.2.2.1 H4.out.2.2.2.1 (by omega)).mono ?_
  rintro e w5 ⟨v5, qs, A5, n5, c5, rs, rfl, hn5, hq, hdq, hr, hdr, he, hlt, hb5⟩
  obtain ⟨A6, c6, rfl, hs6⟩ := hq.sl
  have hval : VD qs * wd + VD rs = V xs + B64 ^ n * high := by
    rw [he, VD_append, H1.out.2.2.1, H1.out.1, pow_H, H2.out.2.2.1]
  have hroom := quo_room hval hlt (V_below Hx.out.1.2.2.2.1 Hx.out.1.1) hh
  have H5 := Lib.hid (And.intro hs6 (And.intro hdq (And.intro hr (And.intro hdr (And.intro hval (And.intro hlt (And.intro hroom (H4.out.2.2.2.2.trans (hb5.mono H4.out.2.2.2.2.size)))))))))
  clear hq hdq hr hdr he hlt hb5 hs6 hval hroom
  go_wp2_with (fail)
  refine (Cut_ok _ _ _ n qs _ (by omega) (by omega) H5.out.1 H5.out.2.1 (by
    have h1 := H5.out.2.2.2.2.2.2.1
    rw [Nat.pow_succ]
    have : B64 ^ n * 1 ≤ B64 ^ n * B64 := Nat.mul_le_mul_left _ (by decide)
    omega)).mono ?_
  rintro e w7 ⟨v7, zs, d7, rfl, hn7, hd7, hv7, hb7⟩
  have H7 := Lib.hid (And.intro hn7 (And.intro hv7 (And.intro (H5.out.2.2.1.below hb7) (And.intro (H5.out.2.2.2.2.2.2.2.trans (hb7.mono H5.out.2.2.2.2.2.2.2.size)) H5.out.2.2.2.2.2.2.2.size))))
  have hs7 := hb7.size
  clear hn7 hv7 hb7 hd7
  have hr7 : Rd w7 w7.heap.size A5 (uvs rs) := H7.out.2.2.1.2.2.2.2
  have hl7 : (uvs rs).length = n5 := by rw [uvs_length]; exact H7.out.2.2.1.1
  have HL := Lib.hid (And.intro hl7 hr7)
  clear hl7 hr7
  go_wp2_with (at_builtin; refine wpList_append_rd _ rfl (.const (.slice none 0 0)) (.tmp 35) 22 rfl w7.heap.size 23 i0 (.int .u64 0) Try.underlying22 hi hz0 hz1 hz2 rfl _ 0 [] rfl (World.ownsRow_nil _ _ _ _) w7.heap.size A5 n5 c5 (uvs rs) rfl HL.out.1 HL.out.2 (uvs_one _) (by omega) (by omega) ?_)
  intro v8 w8 hown8 hgrow8 hblk8
  have hb8 : Below w7.heap.size w7 w8 := (Below.refl _ _).grown hgrow8 (Nat.le_refl _) (by intro k hk; cases hk)
  have hn8 : Nw w7 w8 v8 n5 rs := ⟨H7.out.2.2.1.1, H5.out.2.2.2.1.ws, by simpa using hown8⟩
  obtain ⟨A8, c8, rfl, hs8⟩ := hn8.sl
  have H8 := Lib.hid (And.intro hs8 hb8)
  clear hn8 hs8 hb8 hown8 hgrow8 hblk8 HL
  go_wp2_with (fail)
  refine (Cut_ok _ _ _ 0 rs _ (by omega) (by omega) H8.out.1 H5.out.2.2.2.1 (by
    have h1 := H5.out.2.2.2.2.2.1
    have h2 := Hx.out.2.1
    rw [Nat.zero_add, Nat.pow_one]
    omega)).mono ?_
  rintro e w9 ⟨v9, ys, d9, rfl, hn9, hd9, hv9, hb9⟩
  have H9 := Lib.hid (And.intro hn9 (And.intro hv9 hb9))
  clear hn9 hv9 hb9 hd9
  go_wp2_with (fail)
  go_ret2
  obtain ⟨h1, h2, h3⟩ := H9.out
  obtain ⟨k1, k2, k3, k4, k5⟩ := H7.out
  obtain ⟨m1, m2, m3, m4, m5, m6, m7, m8⟩ := H5.out
  have hys : V ys = 0 := by rw [List.eq_nil_of_length_eq_zero h1.1]; rfl
  rw [hys, Nat.pow_zero, Nat.mul_one, Nat.zero_add] at h2
  have hzq : V zs = VD qs := by
    rcases Nat.eq_zero_or_pos d7 with h | h
    · subst h
      omega
    · have := Nat.mul_le_mul_right (B64 ^ n) h
      omega
  have hb79 : Below w7.heap.size w7 w9 := H8.out.2.trans (h3.mono H8.out.2.size)
  refine ⟨v7, zs, d9, rfl, by rw [h2]; exact m6, k1.later k5 hb79, ?_, k4.trans (hb79.mono k4.size)⟩
  rw [hzq, h2, m5, Nat.mul_comm, Nat.add_comm]

set_option maxHeartbeats 1000000 in
theorem RNarrow_ok (high low d : Nat) (w : World) (h1 : high < d) (hl : low < B64) (hd : d < B64) :
    Calls Try.prog 28 #[.int .u64 high, .int .u64 low, .int .u64 d] w fun e w' => ∃ q r : Nat, e = .returned (.tuple #[.int .u64 q, .int .u64 r]) ∧ q * d + r = high * B64 + low ∧ r < d ∧ Below w.heap.size w w' := by
  have HL := Lib.hid (And.intro hl hd)
  clear hl hd
  go_enter Try.func28, Try.ntmps28
  go_wp2_with (fail)
  refine (RDiv_ok _ 1 1 [low] d high _ (by decide) (Sl_one w low HL.out.1) HL.out.2 h1).mono ?_
  rintro e w2 ⟨v, zs, r, rfl, hr, hn, hv, hb⟩
  obtain ⟨A, c, rfl, hs⟩ := hn.sl
  obtain ⟨z, rfl, hz, hvz⟩ := one_of hn.1 hn.2.1
  obtain ⟨b, o, rfl, _, hc⟩ := hs.2.2.2.2.at (k := 0) (u := .int .u64 (z : Int)) (by simp [uvs])
  rw [Nat.add_zero] at hc
  rw [hvz, Nat.pow_one, V_one] at hv
  have HF := Lib.hid (And.intro hv (And.intro hr ((W1_below w low).trans (hb.mono (by simp)))))
  clear hn hs hv hr hb hvz hz
  go_wp2_with (fail)
  go_ret2
  exact ⟨z, r, rfl, HF.out.1, HF.out.2.1, HF.out.2.2⟩
end Go.Proofs.Ytnhoodpglbjhhaa
