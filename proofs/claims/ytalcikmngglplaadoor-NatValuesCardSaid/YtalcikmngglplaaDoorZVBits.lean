/- The contracts of nat.Word, nat.Bits and of the reference's Bits. -/
import Derived.Test.YtalcikmngglplaaDoorZCntM
import Derived.Test.YtalcikmngglplaaDoorP5
import Derived.Test.YtalcikmngglplaaDoorP6
namespace Go.Proofs.YtalcikmngglplaaDoor
open Go.RowKit Go.Shelf
set_option linter.unusedVariables false
set_option linter.unusedSimpArgs false
set_option maxRecDepth 10000

/-- the lowest bit 1 and the number of bits 1, as they are told below the word k -/
def Low1 (x k t o : Nat) : Prop := o = pcn x (64 * k) ∧ ((o = 0 ∧ t = 0) ∨ (0 < o ∧ x / 2 ^ t % 2 = 1 ∧ ∀ j, j < t → x / 2 ^ j % 2 = 0))
theorem Low1.done {x k t o : Nat} (h : Low1 x k t o) (hx : x < 2 ^ (64 * k)) : TZ x t := by
  obtain ⟨h1, h2 | h2⟩ := h
  · have h0 := zero_of_bits _ hx (pcn_none _ (h1.symm.trans h2.1))
    exact ⟨fun _ => h2.2, fun hp => by omega⟩
  · refine ⟨fun h0 => ?_, fun _ => h2.2⟩
    have := h2.2.1
    rw [h0, Nat.zero_div] at this
    omega
set_option maxHeartbeats 2000000 in
theorem NBits_ok (A : Option Addr) (n c : Nat) (xs : List Nat) (w : World) (hn : n ≤ 100000) (hx : Sl w A n c xs) (hT : TabC w) :
    Calls Tryd.prog 8 #[.slice A n c] w fun e w' => ∃ t o : Nat, e = .returned (.tuple #[.int .i64 t, .int .i64 o]) ∧ TZ (V xs) t ∧ o = pcn (V xs) (64 * n) ∧ w = w' := by
  have HT := Lib.hid hT
  have Hx := Lib.hid hx
  clear hT hx
  go_enter Tryd.func8, Tryd.ntmps8
  go_wp2_with (fail)
  go_loop [2, 3, 11] (fun tv ov iv => ∃ k t o : Nat, k ≤ n ∧ tv = .int .i64 t ∧ ov = .int .i64 o ∧ iv = .int .i64 k ∧ t ≤ 64 * k ∧ o ≤ 64 * k ∧ Hid (Low1 (V xs) k t o)) (fun _ _ iv => n - (intOf iv).toNat)
  case atStart => exact ⟨0, 0, 0, by omega, rfl, rfl, rfl, by omega, by omega, rfl, Or.inl ⟨rfl, rfl⟩⟩
  case round =>
    obtain ⟨k, t, o, hk, rfl, rfl, rfl, ht, ho, hH⟩ := hrel
    rcases Nat.lt_or_ge k n with hkn | hkn
    · have hki : (k : Int) < n := by omega
      have hkl : k < xs.length := by rw [Hx.out.1]; exact hkn
      have hg := List.getElem?_eq_getElem hkl
      have hyB : xs[k] < B64 := Hx.out.2.2.2.1 _ (List.getElem_mem hkl)
      obtain ⟨b, of, rfl, hb, hcx⟩ := Hx.out.2.2.2.2.at (uvs_get hg)
      generalize xs[k] = y at *
      have HC := Lib.hid (Count_ok' y w hyB HT.out)
      have hp := pcn_le y 64
      have hz := tzn_le y 64
      have hl := lzn_le y 64
      have hpw := pcn_word Hx.out.2.2.2.1 hg
      have htw := tz_word Hx.out.2.2.2.1 hg
      generalize pcn y 64 = P at *
      generalize tzn y 64 = Z at *
      generalize lzn y 64 = L at *
      have HP := Lib.hid (And.intro hpw htw)
      clear hpw htw hyB hg hkl
      go_wp2_with (fail)
      refine HC.out.mono ?_
      rintro e w1 ⟨rfl, rfl⟩
      have hkw : IntKind.i64.wrap (64 * (k : Int)) = 64 * (k : Int) := IntWalk.i64_in _ (by omega)
      have hkz : IntKind.i64.wrap (64 * (k : Int) + Z) = 64 * (k : Int) + Z := IntWalk.i64_in _ (by omega)
      have how : IntKind.i64.wrap ((o : Int) + P) = (o : Int) + P := IntWalk.i64_in _ (by omega)
      rcases Nat.eq_zero_or_pos o with h0 | h0
      · subst h0
        rcases Nat.eq_zero_or_pos P with h1 | h1
        · subst h1
          have HN : Hid (Low1 (V xs) (k + 1) t 0) := ⟨by rw [HP.out.1, ← hH.out.1], Or.inl ⟨rfl, by rcases hH.out.2 with h | h; exact h.2; omega⟩⟩
          clear hH HP
          go_wp2
          refine ⟨⟨k + 1, t, 0, by omega, rfl, by first | rfl | exact congrArg (Value.int .i64) (by omega), congrArg (Value.int .i64) (by omega), by omega, by omega, HN⟩, ?_⟩
          show n - Int.toNat ((k : Int) + 1) < n - Int.toNat (k : Int)
          omega
        · have HN : Hid (Low1 (V xs) (k + 1) (64 * k + Z) P) := ⟨by rw [HP.out.1, ← hH.out.1, Nat.zero_add], Or.inr ⟨h1, HP.out.2 hH.out.1.symm h1⟩⟩
          have h1i : (0 : Int) < P := by omega
          clear hH HP
          go_wp2
          refine ⟨⟨k + 1, 64 * k + Z, P, by omega, congrArg (Value.int .i64) (by omega), congrArg (Value.int .i64) (by omega), congrArg (Value.int .i64) (by omega), by omega, by omega, HN⟩, ?_⟩
          show n - Int.toNat ((k : Int) + 1) < n - Int.toNat (k : Int)
          omega
      · have HN : Hid (Low1 (V xs) (k + 1) t (o + P)) := ⟨by rw [HP.out.1, ← hH.out.1], Or.inr (by rcases hH.out.2 with h | h; omega; exact ⟨by omega, h.2⟩)⟩
        have h0b : ((o : Int) == 0) = false := by simp; omega
        clear hH HP
        go_wp2
        all_goals (
          refine ⟨⟨k + 1, t, o + P, by omega, rfl, congrArg (Value.int .i64) (by omega), congrArg (Value.int .i64) (by omega), by omega, by omega, HN⟩, ?_⟩
          show n - Int.toNat ((k : Int) + 1) < n - Int.toNat (k : Int)
          omega)
    · have hki : ¬ (k : Int) < n := by omega
      have hke : k = n := by omega
      have HN : Hid (TZ (V xs) t ∧ o = pcn (V xs) (64 * n)) := by
        rw [hke] at hH
        exact ⟨hH.out.done (by rw [← B64_two, ← Hx.out.1]; exact V_lt _ Hx.out.2.2.2.1), hH.out.1⟩
      clear hH
      go_wp2
      go_ret2
      exact ⟨t, o, rfl, HN.out.1, HN.out.2, rfl⟩
/-- the bits of 2^i and above, as they are told from above -/
def High1 (x L i t o : Nat) : Prop := o + pcn x i = pcn x L ∧ ((t = 0 ∧ ∀ j, i ≤ j → j < L → x / 2 ^ j % 2 = 0) ∨ (i ≤ t ∧ x / 2 ^ t % 2 = 1 ∧ ∀ j, i ≤ j → j < t → x / 2 ^ j % 2 = 0))
theorem High1.none {x L i t o : Nat} (h : High1 x L (i + 1) t o) (hb : bitOf x (i : Int) = false) : High1 x L i t o := by
  rw [bitOf_nat] at hb
  have hb' : x / 2 ^ i % 2 = 0 := by have : ¬ (x / 2 ^ i % 2 = 1) := by simpa using hb
                                     omega
  obtain ⟨h1, h2⟩ := h
  have h1' : o + (pcn x i + x / 2 ^ i % 2) = pcn x L := h1
  refine ⟨by omega, ?_⟩
  rcases h2 with ⟨e, h⟩ | ⟨e, h, h'⟩
  · refine Or.inl ⟨e, fun j h3 h4 => ?_⟩
    rcases Nat.eq_or_lt_of_le h3 with h5 | h5
    · rw [← h5]; exact hb'
    · exact h j h5 h4
  · refine Or.inr ⟨by omega, h, fun j h3 h4 => ?_⟩
    rcases Nat.eq_or_lt_of_le h3 with h5 | h5
    · rw [← h5]; exact hb'
    · exact h' j h5 h4
theorem High1.one {x L i t o : Nat} (h : High1 x L (i + 1) t o) (hb : bitOf x (i : Int) = true) : High1 x L i i (o + 1) := by
  rw [bitOf_nat] at hb
  have hb' : x / 2 ^ i % 2 = 1 := by simpa using hb
  have h1' : o + (pcn x i + x / 2 ^ i % 2) = pcn x L := h.1
  exact ⟨by omega, Or.inr ⟨Nat.le_refl _, hb', fun j h3 h4 => by omega⟩⟩
theorem High1.done {x L t o : Nat} (h : High1 x L 0 t o) (hx : x < 2 ^ L) : TZ x t ∧ o = pcn x L := by
  refine ⟨?_, h.1⟩
  rcases h.2 with ⟨e, h2⟩ | ⟨_, h2, h3⟩
  · have h0 := zero_of_bits L hx (fun j hj => h2 j (Nat.zero_le _) hj)
    exact ⟨fun _ => e, fun hp => by omega⟩
  · refine ⟨fun h0 => ?_, fun _ => ⟨h2, fun j hj => h3 j (Nat.zero_le _) hj⟩⟩
    rw [h0, Nat.zero_div] at h2
    omega
set_option maxHeartbeats 2000000 in
theorem R2Bits_ok (A : Option Addr) (n c : Nat) (xs : List Nat) (w : World) (hn : n ≤ 100000) (hx : Sl w A n c xs) :
    Calls Tryd.prog 9 #[.slice A n c] w fun e w' => ∃ t o : Nat, e = .returned (.tuple #[.int .i64 t, .int .i64 o]) ∧ TZ (V xs) t ∧ o = pcn (V xs) (64 * n) ∧ w = w' := by
  have Hx := Lib.hid hx
  clear hx
  go_enter Tryd.func9, Tryd.ntmps9
  go_wp2_with (fail)
  refine (RLen_ok A n c xs w hn Hx.out).mono ?_
  rintro e w1 ⟨l, rfl, hl, hB, rfl⟩
  have HB := Lib.hid hB
  clear hB
  go_wp2_with (fail)
  go_loop [4, 5, 6] (fun tv ov iv => ∃ (i t o : Nat) (j : Int), i ≤ l ∧ j + 1 = i ∧ tv = .int .i64 t ∧ ov = .int .i64 o ∧ iv = .int .i64 j ∧ o + i ≤ l ∧ Hid (High1 (V xs) l i t o)) (fun _ _ iv => (intOf iv + 1).toNat)
  case atStart => exact ⟨l, 0, 0, _, Nat.le_refl _, by omega, rfl, rfl, rfl, by omega, by omega, Or.inl ⟨rfl, fun j h1 h2 => by omega⟩⟩
  case round =>
    obtain ⟨i, t, o, j, hi, hj, rfl, rfl, rfl, ho, hH⟩ := hrel
    rcases Nat.eq_zero_or_pos i with rfl | hpos
    · have h0 : ¬ (0 ≤ j) := by omega
      have h0' : j < 0 := by omega
      have HN := Lib.hid (hH.out.done HB.out.1)
      have HP := Lib.hid (show pcn (V xs) (64 * n) = pcn (V xs) l by obtain ⟨d, hd⟩ := Nat.exists_eq_add_of_le hl; rw [hd]; exact pcn_stop HB.out.1 d)
      clear hH
      go_wp2
      go_ret2
      exact ⟨t, o, rfl, HN.out.1, HN.out.2.trans HP.out.symm, rfl⟩
    · obtain ⟨m, rfl⟩ : ∃ m, i = m + 1 := ⟨i - 1, by omega⟩
      obtain rfl : j = (m : Int) := by omega
      have HC := Lib.hid (R2Bit_same A n c xs (m : Int) w hn (by omega) Hx.out)
      have hm0 : (0 : Int) ≤ (m : Int) := by omega
      have hbc : bitOf (V xs) (m : Int) = true ∨ bitOf (V xs) (m : Int) = false := by cases bitOf (V xs) (m : Int) <;> simp
      have how : IntKind.i64.wrap ((o : Int) + 1) = (o : Int) + 1 := IntWalk.i64_in _ (by omega)
      rcases hbc with hb | hb
      · have HN := Lib.hid (hH.out.one hb)
        rw [hb] at HC
        clear hH hb hj
        go_wp2_with (fail)
        refine HC.out.mono ?_
        rintro e w1 ⟨rfl, rfl⟩
        go_wp2
        refine ⟨⟨m, m, o + 1, (m : Int) - 1, by omega, by omega, rfl, congrArg (Value.int .i64) (by omega), rfl, by omega, HN⟩, ?_⟩
        show Int.toNat ((m : Int) - 1 + 1) < Int.toNat ((m : Int) + 1)
        omega
      · have HN := Lib.hid (hH.out.none hb)
        rw [hb] at HC
        clear hH hb hj
        go_wp2_with (fail)
        refine HC.out.mono ?_
        rintro e w1 ⟨rfl, rfl⟩
        go_wp2
        refine ⟨⟨m, t, o, (m : Int) - 1, by omega, by omega, rfl, rfl, rfl, by omega, HN⟩, ?_⟩
        show Int.toNat ((m : Int) - 1 + 1) < Int.toNat ((m : Int) + 1)
        omega
set_option maxHeartbeats 1000000 in
/-- one word, or none, or more -/
theorem NWord_ok (A : Option Addr) (n c : Nat) (xs : List Nat) (w : World) (hn : n ≤ 100000) (hx : Sl w A n c xs) :
    Calls Tryd.prog 6 #[.slice A n c] w fun e w' => ∃ (y : Nat) (b : Bool), e = .returned (.tuple #[.int .u64 y, .bool b]) ∧ (V xs < B64 → b = true ∧ y = V xs) ∧ (B64 ≤ V xs → b = false ∧ y = 0) ∧ w = w' := by
  have Hx := Lib.hid hx
  clear hx
  go_enter Tryd.func6, Tryd.ntmps6
  go_wp2_with (fail)
  refine (used_ok A n c xs w hn Hx.out).mono ?_
  rintro e w1 ⟨k, rfl, hk, hH, rfl⟩
  have hlen : (xs.take k).length = k := by rw [List.length_take, Hx.out.1]; omega
  have hC := Cn_len (Ws_take Hx.out.2.2.2.1 k) hH.out.2 1
  rw [hlen, Nat.pow_one, hH.out.1] at hC
  have HC := Lib.hid hC
  clear hC hlen
  rcases (show k = 0 ∨ k = 1 ∨ 2 ≤ k by omega) with rfl | rfl | h2
  · have hv : V xs = 0 := by have := hH.out.1; rw [List.take_zero] at this; exact this.symm
    have HV := Lib.hid hv
    clear hv hH HC
    go_wp2_with (fail)
    go_ret2
    refine ⟨0, true, rfl, fun _ => ⟨rfl, HV.out.symm⟩, fun h => ?_, rfl⟩
    rw [HV.out] at h
    exact absurd h (by decide)
  · have h0l : 0 < xs.length := by rw [Hx.out.1]; omega
    have hg := List.getElem?_eq_getElem h0l
    have hyB : xs[0] < B64 := Hx.out.2.2.2.1 _ (List.getElem_mem h0l)
    obtain ⟨b, of, rfl, hb, hcx⟩ := Hx.out.2.2.2.2.at (uvs_get hg)
    have hv : V xs = xs[0] := by
      have h1 := hH.out.1
      rw [V_take_succ xs 0 h0l, List.take_zero] at h1
      simpa [V] using h1.symm
    generalize xs[0] = y at *
    have HV := Lib.hid (And.intro hv hyB)
    clear hv hyB hg h0l hH HC
    simp only [Nat.add_zero] at hcx
    go_wp2_with (fail)
    go_ret2
    refine ⟨y, true, rfl, fun _ => ⟨rfl, HV.out.1.symm⟩, fun h => ?_, rfl⟩
    have := HV.out
    omega
  · have hk0 : ((k : Int) == 0) = false := by simp; omega
    have hk1 : ((k : Int) == 1) = false := by simp; omega
    have HV : Hid (B64 ≤ V xs) := Nat.le_of_not_lt (fun h => by have := HC.out.2 h; omega)
    clear hH HC
    go_wp2_with (fail)
    go_ret2
    exact ⟨0, false, rfl, fun h => absurd HV.out (Nat.not_le_of_lt h), fun _ => ⟨rfl, rfl⟩, rfl⟩
end Go.Proofs.YtalcikmngglplaaDoor
