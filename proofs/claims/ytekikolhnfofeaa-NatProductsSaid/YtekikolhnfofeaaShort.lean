/- The contracts of reckonerref01.Short and reckonerref01.one. -/
import Derived.Test.YtekikolhnfofeaaTimes
import Derived.Test.YtekikolhnfofeaaTk
import Derived.Test.YtekikolhnfofeaaOne
namespace Go.Proofs.Ytekikolhnfofeaa
open Go.RowKit
set_option linter.unusedVariables false
set_option maxRecDepth 10000

theorem Sl.take_ {w : World} {A : Option Addr} {n c : Nat} {xs : List Nat} (h : Sl w A n c xs) {k : Nat} (hk : k ≤ n) : Sl w A k c (xs.take k) :=
  ⟨by rw [List.length_take, h.1]; omega, by have := h.2.1; omega, h.2.2.1, Ws_take h.2.2.2.1 k, by rw [uvs_take]; exact h.2.2.2.2.take k⟩

set_option maxHeartbeats 400000 in
theorem Short_ok (A : Option Addr) (n c : Nat) (xs : List Nat) (w : World) (hn : n ≤ 100000) (hx : Sl w A n c xs) (dx : Dg xs) :
    Calls Try.prog 98 #[.slice A n c] w fun e w' => ∃ k, e = .returned (.slice A k c) ∧ Hid (k ≤ n ∧ VD (xs.take k) = VD xs ∧ (∀ m, k = m + 1 → dig xs m ≠ 0)) ∧ w = w' := by
  have hnc := hx.2.1
  have Hx := Lib.hid (And.intro hx dx)
  clear hx dx
  go_enter Try.func98, Try.ntmps98
  go_wp2
  go_loop [3] (fun kv => ∃ k : Nat, k ≤ n ∧ kv = .int .i64 k ∧ Hid (VD (xs.take k) = VD xs)) (fun kv => (intOf kv).toNat)
  case atStart => exact ⟨n, Nat.le_refl _, rfl, by rw [Hx.out.1.take_all]; rfl⟩
  case round =>
    obtain ⟨k, hk, rfl, hH⟩ := hrel
    rcases Nat.eq_zero_or_pos k with rfl | hpos
    · have h0 : ¬ (0 : Int) < ((0 : Nat) : Int) := by omega
      go_wp2
      go_ret
      exact ⟨0, rfl, ⟨by omega, hH.out, fun m h => by omega⟩, rfl⟩
    · obtain ⟨m, rfl⟩ : ∃ m, k = m + 1 := ⟨k - 1, by omega⟩
      have hml : m < xs.length := by rw [Hx.out.1.1]; omega
      have hg := List.getElem?_eq_getElem hml
      obtain ⟨b, o, rfl, hb, hcx⟩ := Hx.out.1.2.2.2.2.at (uvs_get hg)
      generalize xs[m] = x at *
      have Hg := Lib.hid hg
      have hmi : ((m + 1 : Nat) : Int) - 1 = (m : Int) := by omega
      have hmi2 : (m : Int) + 1 - 1 = (m : Int) := by omega
      have hmn : (m : Int) < (n : Int) := by omega
      clear hg hml
      by_cases hx0 : x = 0
      · subst hx0
        have hv : Hid (VD (xs.take m) = VD xs) := by
          have h1 : VD (xs.take (m + 1)) = VD (xs.take m) := by simpa using VD_take_succ xs m 0 Hg.out
          exact h1.symm.trans hH.out
        clear hH
        go_wp2
        go_round
        case rel => exact ⟨m, by omega, rfl, hv⟩
        case measure => simp [intOf]
      · have hxb : ((x : Int) == 0) = false := by simp; omega
        have Hx0 := Lib.hid hx0
        clear hx0
        go_wp2
        go_ret
        refine ⟨m + 1, rfl, ⟨by omega, hH.out, fun m' h => ?_⟩, rfl⟩
        have : m' = m := by omega
        subst this
        rw [dig_get Hg.out]
        exact Hx0.out

/-- What dividing by a small number keeps, the digits from i on done. -/
def OI (w : World) (g n : Nat) (xs : List Nat) (d : Nat) (i rest : Nat) (qs : List Nat) (W : World) : Prop :=
  w.heap.size ≤ g ∧ RowAt W g qs ∧ qs.length = n ∧ Dg qs ∧ rest < d ∧ VD (qs.drop i) * d + rest = VD (xs.drop i) ∧ Below w.heap.size w W
theorem VD_drop (xs : List Nat) (i x : Nat) (h : xs[i]? = some x) : VD (xs.drop i) = x + H32 * VD (xs.drop (i + 1)) := by
  obtain ⟨hi, hx⟩ := List.getElem?_eq_some_iff.1 h
  rw [List.drop_eq_getElem_cons hi, VD, hx]
theorem VD_drop_all (xs : List Nat) (i : Nat) (h : xs.length ≤ i) : VD (xs.drop i) = 0 := by rw [List.drop_of_length_le h]; rfl
theorem OI.step {w W : World} {g n d i x rest t : Nat} {xs qs : List Nat} (h : OI w g n xs d (i + 1) rest qs W) (hx : xs[i]? = some x) (hi : i < n) (hxH : x < H32) (ht : t = rest * H32 + x) (hd : d ≤ H32) :
    t / d < H32 ∧ OI w g n xs d i (t % d) (qs.set i (t / d)) (W.setCell ⟨g, i, none⟩ (.int .u64 (t / d : Nat))) := by
  obtain ⟨h0, h1, h2, h3, h4, h5, h6⟩ := h
  have hdp : 0 < d := by omega
  have hq : t / d < H32 := by
    refine Nat.div_lt_of_lt_mul ?_
    have : (rest + 1) * H32 ≤ d * H32 := Nat.mul_le_mul_right _ h4
    rw [Nat.add_mul, Nat.one_mul] at this
    omega
  refine ⟨hq, h0, h1.set i _, by rw [List.length_set]; exact h2, Dg_set h3 i _ hq, Nat.mod_lt _ hdp, ?_, h6.setCell (p := ⟨g, i, none⟩) h0 _⟩
  rw [VD_drop xs i x hx, VD_drop (qs.set i _) i _ (by rw [List.getElem?_set_self (by omega)]), drop_set, ← h5]
  have e := Nat.div_add_mod t d
  generalize t / d = q at *
  generalize t % d = r at *
  generalize VD (qs.drop (i + 1)) = v at *
  generalize H32 = h at *
  clear h1 h2 h3 h4 h5 h6 hq hx hxH hd
  grind
/-- rest * H + x, in the walk's forms -/
theorem small_sum {rest x d : Nat} (hr : rest < d) (hx : x < H32) (hd : d ≤ H32) : ∃ m t : Nat, t = rest * H32 + x ∧ t < B64 ∧ (rest : Int) * 4294967296 = m ∧ IntKind.u64.wrap ((rest : Int) * 4294967296) = m ∧ IntKind.u64.wrap (m : Int) = m ∧ (m : Int) + x = t ∧ IntKind.u64.wrap ((m : Int) + x) = t ∧ IntKind.u64.wrap (t : Int) = t ∧
    (t : Int) / d = (t / d : Nat) ∧ (t : Int).tdiv d = (t / d : Nat) ∧ (t : Int) % d = (t % d : Nat) ∧ (t : Int).tmod d = (t % d : Nat) := by
  have hH : H32 = 4294967296 := rfl
  have hB : B64 = 18446744073709551616 := rfl
  rw [hH] at hx hd ⊢
  refine ⟨rest * 4294967296, rest * 4294967296 + x, rfl, by omega, by omega, ?_, ?_, by omega, ?_, ?_, by simp, ?_, by simp, ?_⟩
  · rw [IntKind.wrap_u64]; omega
  · rw [IntKind.wrap_u64]; omega
  · rw [IntKind.wrap_u64]; omega
  · rw [IntKind.wrap_u64]; omega
  · rw [Int.tdiv_eq_ediv_of_nonneg (by omega)]; simp
  · rw [Int.tmod_eq_emod_of_nonneg (by omega)]; simp

set_option maxHeartbeats 1000000 in
theorem one_ok (A : Option Addr) (n c : Nat) (xs : List Nat) (d : Nat) (w : World) (hn : n ≤ 100000) (hx : Sl w A n c xs) (dx : Dg xs) (hd : 0 < d) (hdH : d < H32) :
    Calls Try.prog 113 #[.slice A n c, .int .u64 d] w fun e w' => ∃ v qs A' r, e = .returned (.tuple #[v, .slice A' 1 1]) ∧ Nw w w' v n qs ∧ Dg qs ∧ Sl w' A' 1 1 [r] ∧ r < d ∧ VD qs * d + r = VD xs ∧ Below w.heap.size w w' := by
  obtain ⟨i0, hi, hz0, hz1, hz2⟩ := info_parts Try.info37
  have Hx := Lib.hid (And.intro hx (And.intro dx hdH))
  have hd0 : ((d : Int) == 0) = false := by simp; omega
  clear hx dx
  go_enter Try.func113, Try.ntmps113
  go_wp2_with (at_make; refine wpList_make_full _ rfl _ _ 22 rfl w.heap.size 37 i0 (.int .u64 0) 1 Try.underlying22 hi hz0 hz1 .i64 .i64 _ _ n rfl rfl rfl rfl (by rw [hz2]; omega) (by unfold maxLen; omega) (Nat.le_refl _) ?_)
  intro w1 hown hgrow
  have hb1 := below_of_grown hgrow (Nat.le_refl _)
  have hrow := RowAt_zeros (by simpa using hown)
  have HT : Hid (OI w w.heap.size n xs d n 0 (List.replicate n 0) w1) := ⟨Nat.le_refl _, hrow, by simp, Dg_zeros' n, hd, by rw [VD_drop_all xs n (by rw [Hx.out.1.1]; exact Nat.le_refl _), VD_drop_all _ n (by simp), Nat.zero_mul], hb1⟩
  clear hown hgrow hb1 hrow
  generalize w.heap.size = g at *
  go_wp2
  go_loopw [7, 8] (fun rv iv wr => ∃ (rest : Nat) (j : Int) (k : Nat) (qs : List Nat), k ≤ n ∧ iv = .int .i64 j ∧ j + 1 = k ∧ rv = .int .u64 rest ∧ Hid (OI w g n xs d k rest qs wr)) (fun _ iv _ => (intOf iv + 1).toNat)
  case atStart => exact ⟨0, (n : Int) - 1, n, _, by omega, rfl, by omega, rfl, HT.out⟩
  case round =>
    clear HT
    obtain ⟨rest, j, k, qs, hkn, rfl, hj, rfl, hH⟩ := hrel
    by_cases hlt : 0 < k
    · obtain ⟨i, rfl⟩ : ∃ i, k = i + 1 := ⟨k - 1, by omega⟩
      obtain rfl : j = (i : Int) := by omega
      have hil : i < xs.length := by rw [Hx.out.1.1]; omega
      have hg := List.getElem?_eq_getElem hil
      have hxH : xs[i] < H32 := Hx.out.2.1 _ (List.getElem_mem hil)
      obtain ⟨b, o, rfl, hb, hcx⟩ := Hx.out.1.2.2.2.2.at (uvs_get hg)
      generalize xs[i] = x at *
      have hR := hH.out
      have hcx2 := (hR.2.2.2.2.2.2.cell (p := ⟨b, o + i, none⟩) hb).trans hcx
      have hzl : i < qs.length := by rw [hR.2.2.1]; omega
      have hcz := hR.2.1.cell (List.getElem?_eq_getElem hzl)
      have hfz := hR.2.1.frozen i
      generalize qs[i] = zi at *
      obtain ⟨m, t, ht, htB, s1, s2, s3, s4, s5, s6, s7, s8, s9, s10⟩ := small_sum hR.2.2.2.2.1 hxH (Nat.le_of_lt Hx.out.2.2)
      obtain ⟨hq, hst⟩ := hR.step hg (by omega) hxH ht (Nat.le_of_lt Hx.out.2.2)
      obtain ⟨q, hqe⟩ : ∃ q, t / d = q := ⟨_, rfl⟩
      obtain ⟨r, hre⟩ : ∃ r, t % d = r := ⟨_, rfl⟩
      rw [hqe] at s7 s8 hst hq
      rw [hre] at s9 s10 hst
      have s11 : IntKind.u64.wrap (q : Int) = (q : Int) := by have hH' : H32 = 4294967296 := rfl; rw [IntKind.wrap_u64]; omega
      have HS := Lib.hid hst
      have hin : (i : Int) < n := by omega
      have hin0 : (0 : Int) ≤ (i : Int) := by omega
      clear hst hg hR hH hzl hcx hxH ht htB hq hqe hre hj
      go_wp2
      go_roundw
      case rel => exact ⟨r, (i : Int) - 1, i, _, by omega, rfl, by omega, rfl, HS⟩
      case measure => simp [intOf]
    · have hk0 : k = 0 := by omega
      subst hk0
      have hneg : j < 0 := by omega
      clear hj
      have hrB : rest < B64 := Nat.lt_trans (Nat.lt_trans hH.out.2.2.2.2.1 Hx.out.2.2) (by decide)
      have HB := Lib.hid hrB
      clear hrB
      go_wp2
      go_ret2
      obtain ⟨h0, h1, h2, h3, h4, h5, h6⟩ := hH.out
      rw [List.drop_zero, List.drop_zero] at h5
      have hal := h1.alloc (.cells #[.int .u64 (rest : Int)] 37)
      refine ⟨_, qs, _, rest, rfl, ?_, h3, Sl_one wr rest HB.out, h4, h5, h6.alloc h6.size _⟩
      exact ⟨h2, h3.ws, by rw [uvs_length, h2, Nat.mul_one], .inr ⟨g, n, (uvs qs).toArray, rfl, h0, hal, Nat.le_refl _, by unfold maxLen; omega, by simp [uvs_length, h2], by rw [Nat.mul_one]; exact List.take_of_length_le (by simp [uvs_length, h2])⟩⟩
end Go.Proofs.Ytekikolhnfofeaa
