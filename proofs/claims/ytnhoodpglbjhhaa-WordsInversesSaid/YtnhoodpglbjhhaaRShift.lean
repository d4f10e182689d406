/- The contracts of reckonerref01.Left and reckonerref01.Right. -/
import Derived.Test.YtnhoodpglbjhhaaRMul
import Derived.Test.YtnhoodpglbjhhaaRight
namespace Go.Proofs.Ytnhoodpglbjhhaa
open Go.RowKit
set_option linter.unusedVariables false

theorem pow_lt_B (s : Nat) (h : s ≤ 63) : 2 ^ s < B64 := by
  have : (2 : Nat) ^ s < 2 ^ 64 := Nat.pow_lt_pow_right (by decide) (by omega)
  exact this

set_option maxHeartbeats 1000000 in
theorem RLeft_ok (A : Option Addr) (n c : Nat) (xs : List Nat) (s : Nat) (w : World) (hn : n ≤ 4096) (hx : Sl w A n c xs) (hs : s ≤ 63) :
    Calls Try.prog 31 #[.slice A n c, .int .i64 s] w fun e w' => ∃ v zs, ∃ d : Nat, e = .returned (.tuple #[v, .int .u64 d]) ∧ Nw w w' v n zs ∧ V zs + d * B64 ^ n = V xs * 2 ^ s ∧ Below w.heap.size w w' := by
  have hp := pow_lt_B s hs
  have HR := Lib.hid (mul_room (a := 0) (V_below hx.2.2.2.1 hx.1) hp (by decide))
  obtain ⟨p, hpp⟩ : ∃ p : Nat, 2 ^ s = p := ⟨_, rfl⟩
  have hw1 : IntKind.u64.wrap ((1 : Int) * 2 ^ s) = (p : Int) := by
    have := wrap_u64 1 s
    rw [Nat.one_mul, Nat.mod_eq_of_lt hp, hpp] at this
    exact this
  have hw2 : IntKind.u64.wrap ((2 : Int) ^ s) = (p : Int) := by rw [← hw1, Int.one_mul]
  have Hx := Lib.hid (And.intro hx (And.intro (show p < B64 by rw [← hpp]; exact hp) hpp))
  clear hx hp hpp
  go_enter Try.func31, Try.ntmps31
  go_wp2_with (fail)
  go_region_held3 (fun w' => True) (trivial)
    (first | ((go_at_call 48; refine (Digits_ok _ _ _ xs w.drew (by omega) Hx.out.1).mono ?_; rintro e w1 ⟨v1, ds1, rfl, hn1, hd1, hv1, hb1⟩; obtain ⟨A1, c1, rfl, hs1⟩ := hn1.sl; have H1 := Lib.hid (And.intro hs1 (And.intro hd1 (And.intro hv1 (belowA hb1)))); clear hs1 hd1 hv1 hb1 hn1)) | ((go_at_call 58; refine (Word_ok p _ Hx.out.2.1).mono ?_; rintro e w2 ⟨A2, ds2, rfl, hs2, hd2, hv2, hb2⟩; have H2 := Lib.hid (And.intro (H1.out.1.below hb2) (And.intro hs2 (And.intro hd2 (And.intro hv2 (H1.out.2.2.2.trans (hb2.mono H1.out.2.2.2.size)))))); clear hs2 hd2 hv2 hb2)) | ((go_at_call 57; refine (Times_ok _ _ _ _ _ _ ds1 ds2 _ (by omega) (by omega) H2.out.1 H2.out.2.1 H1.out.2.1 H2.out.2.2.1).mono ?_; rintro e w3 ⟨v3, ds3, rfl, hn3, hd3, hv3, hb3⟩; obtain ⟨A3, c3, rfl, hs3⟩ := hn3.sl; have H3 := Lib.hid (And.intro hs3 (And.intro hd3 (And.intro (show VD ds3 = V xs * p by rw [hv3, H1.out.2.2.1, H2.out.2.2.2.1]) (H2.out.2.2.2.2.trans (hb3.mono H2.out.2.2.2.2.size))))); clear hs3 hd3 hv3 hb3 hn3)) | ((go_at_call 46; refine (Cut_ok _ _ _ n ds3 _ (by omega) (by omega) H3.out.1 H3.out.2.1 (by rw [H3.out.2.2.1, Nat.pow_succ, ← Hx.out.2.2]; have := HR.out; omega)).mono ?_; rintro e w4 ⟨v4, zs, d, rfl, hn4, hd4, hv4, hb4⟩; have H4 := Lib.hid (And.intro hn4 (And.intro hv4 hb4)); clear hn4 hv4 hb4 hd4)))
  go_wp2_with (fail)
  go_ret2
  obtain ⟨h1, h2, h3⟩ := H4.out
  have h4 := H3.out.2.2.2
  rw [H3.out.2.2.1, ← Hx.out.2.2] at h2
  exact ⟨v4, zs, d, rfl, ⟨h1.1, h1.2.1, own_base h1.2.2 h4.size⟩, h2, h4.trans (h3.mono h4.size)⟩

/-- What Right's loop keeps, k words from the top done; e is what falls. -/
def RI (w : World) (g n : Nat) (xs : List Nat) (s k e : Nat) (zs : List Nat) (W : World) : Prop :=
  w.heap.size ≤ g ∧ RowAt W g zs ∧ zs.length = n ∧ Ws zs ∧ e < 2 ^ s ∧ V (zs.drop (n - k)) * 2 ^ s + e = V (xs.drop (n - k)) ∧ Below w.heap.size w W
theorem RI.step {w W : World} {g n s k i x e : Nat} {xs zs : List Nat} (h : RI w g n xs s k e zs W) (hs : s ≤ 63) (hl : xs.length = n) (hi : i + 1 + k = n) (hx : xs[i]? = some x) (hxB : x < B64) :
    x / 2 ^ s + 2 ^ (64 - s) * e < B64 ∧ RI w g n xs s (k + 1) (x % 2 ^ s) (zs.set i (x / 2 ^ s + 2 ^ (64 - s) * e)) (W.setCell ⟨g, i, none⟩ (.int .u64 (x / 2 ^ s + 2 ^ (64 - s) * e : Nat))) := by
  obtain ⟨h0, h1, h2, h3, h4, h5, h6⟩ := h
  have hp : 0 < 2 ^ s := Nat.pow_pos (by decide)
  have hz := right_lt (pow_split s hs) hxB h4
  refine ⟨hz, h0, h1.set i _, by rw [List.length_set]; exact h2, Ws_set h3 i _ hz, Nat.mod_lt _ hp, ?_, h6.setCell (p := ⟨g, i, none⟩) h0 _⟩
  have e1 : n - (k + 1) = i := by omega
  have e2 : n - k = i + 1 := by omega
  rw [e1, V_drop xs i x hx, V_drop (zs.set i _) i _ (by rw [List.getElem?_set_self (by omega)]), drop_set]
  rw [e2] at h5
  exact right_step (pow_split s hs) h5

set_option maxHeartbeats 1000000 in
theorem RRight_ok (A : Option Addr) (n c : Nat) (xs : List Nat) (s : Nat) (w : World) (hn : n ≤ 4096) (hx : Sl w A n c xs) (hs : s ≤ 63) :
    Calls Try.prog 32 #[.slice A n c, .int .i64 s] w fun e w' => ∃ v zs, ∃ d : Nat, e = .returned (.tuple #[v, .int .u64 (d * 2 ^ (64 - s) : Nat)]) ∧ d < 2 ^ s ∧ Nw w w' v n zs ∧ V zs * 2 ^ s + d = V xs ∧ Below w.heap.size w w' := by
  obtain ⟨i0, hi, hz0, hz1, hz2⟩ := info_parts Try.info23
  have Hx := Lib.hid hx
  clear hx
  go_enter Try.func32, Try.ntmps32
  go_wp2_with (at_make; refine wpList_make_full _ rfl _ _ 22 rfl w.heap.size 23 i0 (.int .u64 0) 1 Try.underlying22 hi hz0 hz1 .i64 .i64 _ _ n rfl rfl rfl rfl (by rw [hz2]; omega) (by unfold maxLen; omega) (Nat.le_refl _) ?_)
  intro w1 hown hgrow
  have hb1 := below_of_grown hgrow (Nat.le_refl _)
  have hrow := RowAt_zeros (by simpa using hown)
  have HT : Hid (RI w w.heap.size n xs s 0 0 (List.replicate n 0) w1) := ⟨Nat.le_refl _, hrow, by simp, (Dg_zeros' n).ws, Nat.pow_pos (by decide), by rw [Nat.sub_zero, V_drop_all xs n (by rw [Hx.out.1]; exact Nat.le_refl _), V_drop_all _ n (by simp), Nat.zero_mul], hb1⟩
  clear hown hgrow hb1 hrow
  generalize w.heap.size = g at *
  go_wp2
  go_loopw [7, 8] (fun fv iv wr => ∃ (k f e : Nat) (j : Int) (zs : List Nat), k ≤ n ∧ iv = .int .i64 j ∧ j + 1 + k = n ∧ fv = .int .u64 f ∧ Hid (f = e * 2 ^ (64 - s) ∧ RI w g n xs s k e zs wr)) (fun _ iv _ => (intOf iv + 1).toNat)
  case atStart => exact ⟨0, 0, 0, (n : Int) - 1, _, by omega, rfl, by omega, rfl, by simp, HT.out⟩
  case round =>
    clear HT
    obtain ⟨k, f, e, j, zs, hkn, rfl, hj, rfl, hH⟩ := hrel
    by_cases hlt : k < n
    · obtain ⟨i, rfl⟩ := Int.eq_ofNat_of_zero_le (show 0 ≤ j by omega)
      have hil : i < xs.length := by rw [Hx.out.1]; omega
      have hg := List.getElem?_eq_getElem hil
      have hxB : xs[i] < B64 := Hx.out.2.2.2.1 _ (List.getElem_mem hil)
      obtain ⟨b, o, rfl, hb, hcx⟩ := Hx.out.2.2.2.2.at (uvs_get hg)
      generalize xs[i] = x at *
      have hR := hH.out.2
      have hcx2 := (hR.2.2.2.2.2.2.cell (p := ⟨b, o + i, none⟩) hb).trans hcx
      have hzl : i < zs.length := by rw [hR.2.2.1]; omega
      have hcz := hR.2.1.cell (List.getElem?_eq_getElem hzl)
      have hfz := hR.2.1.frozen i
      obtain ⟨hzB, hst⟩ := hR.step hs Hx.out.1 (show i + 1 + k = n by omega) hg hxB
      obtain ⟨q, hq, hq2⟩ : ∃ q : Nat, (x : Int) / 2 ^ s = (q : Int) ∧ q = x / 2 ^ s := ⟨x / 2 ^ s, by simp, rfl⟩
      have hz1' : f + q = x / 2 ^ s + 2 ^ (64 - s) * e := by rw [hH.out.1, hq2, Nat.mul_comm e, Nat.add_comm]
      obtain ⟨z, hz, hz2⟩ : ∃ z : Nat, (f : Int) + (q : Int) = (z : Int) ∧ z = x / 2 ^ s + 2 ^ (64 - s) * e := ⟨f + q, by omega, hz1'⟩
      rw [← hz2] at hst hzB
      have hzb : (z : Int) < 18446744073709551616 := by have hB : B64 = 18446744073709551616 := rfl; omega
      have hin : (i : Int) < n := by omega
      have hsh : IntKind.u64.wrap ((x : Int) * 2 ^ (64 - s)) = ((x % 2 ^ s * 2 ^ (64 - s) : Nat) : Int) := by
        rw [wrap_u64, shl_mod B64 x (2 ^ s) (2 ^ (64 - s)) (by rw [Nat.mul_comm]; exact pow_split s hs), Nat.mul_comm]
      obtain ⟨f', hf', hf2⟩ : ∃ f' : Nat, ((x % 2 ^ s * 2 ^ (64 - s) : Nat) : Int) = (f' : Int) ∧ f' = x % 2 ^ s * 2 ^ (64 - s) := ⟨_, rfl, rfl⟩
      rw [hf'] at hsh
      have HS := Lib.hid (And.intro hst hf2)
      have Hj := Lib.hid hj
      have hbg : b ≠ g := by have := hR.1; omega
      generalize zs[i] = zi at *
      clear hst hf2 hg hR hH hzl hq2 hz1' hz2 hf' hxB hzB hj hcx
      by_cases hs0 : 0 < s
      · go_wp2
        go_roundw
        case rel => exact ⟨k + 1, f', _, (i : Int) - 1, _, by omega, rfl, by have := Hj.out; omega, rfl, HS.out.2, HS.out.1⟩
        case measure => simp [intOf]
      · have hs00 : s = 0 := by omega
        have hf0 : f' = 0 := by rw [HS.out.2, hs00]; simp [Nat.mod_one]
        have HS2 : Hid (0 = x % 2 ^ s * 2 ^ (64 - s)) := by rw [← HS.out.2]; exact hf0.symm
        clear hf0 hs00
        go_wp2
        go_roundw
        case rel => exact ⟨k + 1, 0, _, (i : Int) - 1, _, by omega, rfl, by have := Hj.out; omega, rfl, HS2.out, HS.out.1⟩
        case measure => simp [intOf]
    · have hkn' : k = n := by omega
      have hneg : j < 0 := by omega
      have Hk := Lib.hid hkn'
      have hfe := hH.out.1
      have Hf := Lib.hid hfe
      clear hj hkn' hfe
      go_wp2
      go_ret2
      have hk := Hk.out
      have hf := Hf.out
      subst hk
      subst hf
      obtain ⟨h0, h1, h2, h3, h4, h5, h6⟩ := hH.out.2
      rw [Nat.sub_self, List.drop_zero, List.drop_zero] at h5
      have hown := h1.own h0 (by omega)
      rw [h2] at hown
      exact ⟨_, zs, e, rfl, h4, ⟨h2, h3, hown⟩, h5, h6⟩
end Go.Proofs.Ytnhoodpglbjhhaa
