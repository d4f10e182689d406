/- The arithmetic of the law WordsBacks. -/
import Derived.Test.YtdjeoionafkanaaDoorP1
import Derived.Test.YtdjeoionafkanaaDoorP3
namespace Go.Proofs.YtdjeoionafkanaaDoor
open Go.RowKit
set_option linter.unusedVariables false

theorem uniq {x y d e P : Nat} (hx : x < P) (hy : y < P) (h : x + d * P = y + e * P) : x = y ∧ d = e := by
  have hm : x = y := by
    have := congrArg (· % P) h
    simpa [Nat.mod_eq_of_lt hx, Nat.mod_eq_of_lt hy] using this
  subst hm
  exact ⟨rfl, Nat.eq_of_mul_eq_mul_right (show 0 < P by omega) (by omega)⟩
/-- what is taken away again -/
theorem back_sub {xs ys zs : List Nat} {n c d t : Nat} (hx : Ws xs) (hy : Ws ys) (lx : xs.length = n) (ly : ys.length = n) (h1 : V zs + c * B64 ^ n = V xs + t) (h2 : V zs + d * B64 ^ n = V ys + t) : ys = xs ∧ d = c := by
  have l1 := V_lt xs hx
  have l2 := V_lt ys hy
  rw [lx] at l1
  rw [ly] at l2
  obtain ⟨e1, e2⟩ := uniq (d := c) (e := d) l2 l1 (by omega)
  exact ⟨V_inj ys xs hy hx (by omega) e1, e2.symm⟩
/-- a product's high word is less than the factor -/
theorem high_less {a w r m high P : Nat} (hr : r < w) (ha : a < P) (h : m + high * P = a * w + r) : high < w := by
  have h1 : (a + 1) * w ≤ P * w := Nat.mul_le_mul_right _ ha
  rw [Nat.add_mul, Nat.one_mul] at h1
  have h2 : high * P < w * P := by rw [Nat.mul_comm w P]; omega
  exact Nat.lt_of_mul_lt_mul_right h2
theorem back_div {xs zs : List Nat} {n w r r' : Nat} (hx : Ws xs) (hz : Ws zs) (lx : xs.length = n) (lz : zs.length = n) (hr : r < w) (hr' : r' < w) (h : V zs * w + r' = V xs * w + r) : zs = xs ∧ r' = r := by
  obtain ⟨e1, e2⟩ := uniq (x := r') (y := r) (d := V zs) (e := V xs) hr' hr (by omega)
  exact ⟨V_inj zs xs hz hx (by omega) e2, e1⟩

theorem pow_top (s m : Nat) (h : s ≤ 63) : B64 ^ (m + 1) = 2 ^ s * (2 ^ (64 - s) * B64 ^ m) := by
  rw [Nat.pow_succ, ← pow_split s h, Nat.mul_comm, Nat.mul_assoc]
theorem split_last {ls : List Nat} {m : Nat} (h : ls.length = m + 1) : ∃ l y, ls = l ++ [y] ∧ l.length = m := by
  refine ⟨ls.take m, ls[m], ?_, by simp; omega⟩
  rw [← List.take_succ_eq_append_getElem (by omega), List.take_of_length_le (by omega)]

/-- what was shifted out is put back -/
theorem shift_back {Va Vz Vb out d s T : Nat} (h1 : Vz + out * (2 ^ s * T) = Va * 2 ^ s) (h2 : Vb * 2 ^ s + d = Vz) (hd : d < 2 ^ s) : d = 0 ∧ Vb + out * T = Va := by
  have h3 : d + (Vb + out * T) * 2 ^ s = 0 + Va * 2 ^ s := by
    rw [Nat.add_mul, ← h1, ← h2]
    have : out * T * 2 ^ s = out * (2 ^ s * T) := by rw [Nat.mul_assoc, Nat.mul_comm T]
    omega
  obtain ⟨e1, e2⟩ := uniq (x := d) (y := 0) hd (by omega) h3
  exact ⟨e1, e2⟩

/-- Left and Right, a row of at least one word: what was shifted out is put into the top word, and the row is there again. -/
theorem shift_row {xs zs bs : List Nat} {n out d s : Nat} (hs : s ≤ 63) (hn : 0 < n) (hx : Ws xs) (hb : Ws bs) (hz : Ws zs) (lx : xs.length = n) (lb : bs.length = n) (lz : zs.length = n) (ho : out < 2 ^ s)
    (h1 : V zs + out * B64 ^ n = V xs * 2 ^ s) (h2 : V bs * 2 ^ s + d = V zs) (hd : d < 2 ^ s) :
    ∃ y, bs[n - 1]? = some y ∧ y < 2 ^ (64 - s) ∧ bs.set (n - 1) (y + out * 2 ^ (64 - s)) = xs := by
  obtain ⟨m, rfl⟩ : ∃ m, n = m + 1 := ⟨n - 1, by omega⟩
  rw [pow_top s m hs] at h1
  obtain ⟨e1, e2⟩ := shift_back h1 h2 hd
  have hzl := V_lt zs hz
  rw [lz, pow_top s m hs] at hzl
  obtain ⟨l, y, rfl, hl⟩ := split_last lb
  rw [V_snoc, hl] at e2 h2
  have hp : 0 < 2 ^ s := Nat.pow_pos (by decide)
  have hB : 0 < B64 ^ m := Nat.pow_pos (by decide)
  have hy : y < 2 ^ (64 - s) := by
    have h3 : (V l + y * B64 ^ m) * 2 ^ s < 2 ^ (64 - s) * B64 ^ m * 2 ^ s := by
      rw [Nat.mul_comm (2 ^ (64 - s) * B64 ^ m)]
      omega
    have h4 := Nat.lt_of_mul_lt_mul_right h3
    exact Nat.lt_of_mul_lt_mul_right (show y * B64 ^ m < 2 ^ (64 - s) * B64 ^ m by omega)
  have hw : y + out * 2 ^ (64 - s) < B64 := by
    rw [← pow_split s hs]
    have h5 : (out + 1) * 2 ^ (64 - s) ≤ 2 ^ s * 2 ^ (64 - s) := Nat.mul_le_mul_right _ ho
    rw [Nat.add_mul, Nat.one_mul] at h5
    omega
  refine ⟨y, by simp [hl], hy, ?_⟩
  have hset : (l ++ [y]).set (m + 1 - 1) (y + out * 2 ^ (64 - s)) = l ++ [y + out * 2 ^ (64 - s)] := by
    rw [Nat.add_sub_cancel, List.set_append_right _ _ (by omega), hl, Nat.sub_self]
    rfl
  rw [hset]
  refine V_inj _ _ ?_ hx (by simp; omega) ?_
  · intro x hx'
    rcases List.mem_append.1 hx' with h6 | h6
    · exact hb x (List.mem_append_left _ h6)
    · rw [List.mem_singleton] at h6
      rw [h6]
      exact hw
  · rw [V_snoc, hl, ← e2, Nat.add_mul, ← Nat.mul_assoc]
    omega
/-- .. where nothing was shifted, or there is no word. -/
theorem shift_none {xs zs bs : List Nat} {n out d s : Nat} (hx : Ws xs) (hb : Ws bs) (lx : xs.length = n) (lb : bs.length = n) (lz : zs.length = n) (ho : out < 2 ^ s)
    (h1 : V zs + out * B64 ^ n = V xs * 2 ^ s) (h2 : V bs * 2 ^ s + d = V zs) (hd : d < 2 ^ s) (hc : n = 0 ∨ s = 0) : bs = xs := by
  rcases hc with rfl | rfl
  · rw [List.eq_nil_of_length_eq_zero lb, List.eq_nil_of_length_eq_zero lx]
  · have e0 : out = 0 := by simpa using ho
    have e1 : d = 0 := by simpa using hd
    subst e0 e1
    exact V_inj bs xs hb hx (by omega) (by simp at h1 h2; omega)
/-- y | (out << t) -/
theorem or_top {y out s : Nat} (hs : s ≤ 63) (hy : y < 2 ^ (64 - s)) (ho : out < 2 ^ s) : bits BinOp.or IntKind.u64 (y : Int) (IntKind.u64.wrap ((out : Int) * 2 ^ (64 - s))) = ((y + out * 2 ^ (64 - s) : Nat) : Int) := by
  have h5 : (out + 1) * 2 ^ (64 - s) ≤ 2 ^ s * 2 ^ (64 - s) := Nat.mul_le_mul_right _ ho
  rw [Nat.add_mul, Nat.one_mul, pow_split s hs] at h5
  have hp : 0 < 2 ^ (64 - s) := Nat.pow_pos (by decide)
  have hlt : out * 2 ^ (64 - s) < B64 := by omega
  have h2 : (2 : Nat) ^ (64 - s) < B64 + 1 := by
    have : 1 * 2 ^ (64 - s) ≤ 2 ^ s * 2 ^ (64 - s) := Nat.mul_le_mul_right _ (Nat.pow_pos (by decide))
    rw [pow_split s hs] at this
    omega
  rw [wrap_u64, Nat.mod_eq_of_lt hlt, bits_or_u64_nat _ _ (show y < B64 by omega) hlt, Nat.or_comm, Nat.mul_comm out, ← Nat.two_pow_add_eq_or_of_lt hy, Nat.add_comm]
/-- taken from 0, twice -/
theorem neg_twice {xs ys zs : List Nat} {n d e : Nat} (hy : Ws ys) (hz : Ws zs) (ly : ys.length = n) (lz : zs.length = n) (h1 : d * B64 ^ n = V ys + V xs) (h2 : 0 + e * B64 ^ n = V zs + V xs + 0) : zs = ys ∧ e = d := by
  have l1 := V_lt ys hy
  have l2 := V_lt zs hz
  rw [ly] at l1
  rw [lz] at l2
  obtain ⟨e1, e2⟩ := uniq (d := d) (e := e) l2 l1 (by omega)
  exact ⟨V_inj zs ys hz hy (by omega) e1, e2.symm⟩
theorem dec_one (d : Nat) : decide (d = 1) = ((d : Int) == 1) := by rw [Bool.eq_iff_iff]; simp; omega
end Go.Proofs.YtdjeoionafkanaaDoor
