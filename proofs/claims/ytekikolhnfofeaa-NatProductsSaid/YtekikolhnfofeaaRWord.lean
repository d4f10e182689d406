/- The contract of reckonerref01.Word. -/
import Derived.Test.YtekikolhnfofeaaDig
namespace Go.Proofs.Ytekikolhnfofeaa
open Go.RowKit
set_option linter.unusedVariables false

/-- two new cells -/
theorem Rd.two (w : World) (a b : Value) (t : TypeId) : Rd (w.alloc (.cells #[a, b] t)) (w.heap.size + 1) (some ⟨w.heap.size, 0, none⟩) [a, b] := by
  intro _
  refine ⟨w.heap.size, 0, rfl, by omega, fun j u hu => ?_⟩
  match j, hu with
  | 0, hu => simp at hu; subst hu; simp
  | 1, hu => simp at hu; subst hu; simp
/-- two new digits -/
theorem Sl_two (w : World) (a b : Nat) (ha : a < B64) (hb : b < B64) : Sl (w.alloc (.cells #[.int .u64 (a : Int), .int .u64 (b : Int)] 37)) (some ⟨w.heap.size, 0, none⟩) 2 2 [a, b] :=
  ⟨rfl, Nat.le_refl _, by omega, fun y hy => by
    simp at hy
    rcases hy with rfl | rfl
    · exact ha
    · exact hb, by simpa [uvs] using Rd.two w (.int .u64 (a : Int)) (.int .u64 (b : Int)) 37⟩
set_option maxHeartbeats 400000 in
theorem Word_ok (x : Nat) (w : World) (hx : x < B64) :
    Calls Try.prog 108 #[.int .u64 x] w fun e w' => ∃ A ds, e = .returned (.slice A 2 2) ∧ Sl w' A 2 2 ds ∧ Dg ds ∧ VD ds = x ∧ Below w.heap.size w w' := by
  obtain ⟨r, q, hrq, hrH, hqH, e1, e2, e3, e4, e5⟩ := halves x hx
  have HR := Lib.hid (And.intro hrq (And.intro hrH hqH))
  have hx0 : (0 : Int) ≤ x := by omega
  clear hrq hrH hqH hx
  go_enter Try.func108, Try.ntmps108
  go_wp2
  go_ret
  obtain ⟨⟨h1, h2⟩, h3, h4⟩ := HR.out
  refine ⟨_, [r, q], rfl, Sl_two w r q (Nat.lt_trans h3 (by decide)) (Nat.lt_trans h4 (by decide)), fun y hy => by
    simp at hy
    rcases hy with rfl | rfl
    · exact h3
    · exact h4, ?_, (Below.refl _ _).alloc (Nat.le_refl _) _⟩
  rw [VD, VD, VD, h1, h2, Nat.mul_zero, Nat.add_zero, Nat.mod_add_div]

theorem mul_room {x y a P B : Nat} (hx : x < P) (hy : y < B) (ha : a < B) : x * y + a < P * B := by
  have h1 : (x + 1) * (y + 1) ≤ P * B := Nat.mul_le_mul hx hy
  have e : (x + 1) * (y + 1) = x * y + x + y + 1 := by grind
  have h2 : x * y + a ≤ x * (B - 1) + (B - 1) := Nat.add_le_add (Nat.mul_le_mul_left _ (by omega)) (by omega)
  have h3 : x * (B - 1) + (B - 1) = (x + 1) * (B - 1) := by rw [Nat.add_mul, Nat.one_mul]
  have h4 : (x + 1) * (B - 1) ≤ P * (B - 1) := Nat.mul_le_mul_right _ hx
  have h5 : P * (B - 1) + P = P * B := by
    obtain ⟨b, rfl⟩ : ∃ b, B = b + 1 := ⟨B - 1, by omega⟩
    rw [Nat.add_sub_cancel, Nat.mul_succ]
  omega
theorem V_below {xs : List Nat} {n : Nat} (h : Ws xs) (hl : xs.length = n) : V xs < B64 ^ n := by
  have := V_lt xs h
  rw [hl] at this
  exact this
end Go.Proofs.Ytekikolhnfofeaa
