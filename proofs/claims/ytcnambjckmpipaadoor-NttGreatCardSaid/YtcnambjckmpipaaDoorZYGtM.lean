/- The numbers of the law NttGreat. -/
import Derived.Test.YtcnambjckmpipaaDoorZYLaw
import Derived.Test.YtcnambjckmpipaaDoorZWj
namespace Go.Proofs.YtcnambjckmpipaaDoor
open Go.RowKit Go.Shelf
set_option linter.unusedVariables false
set_option linter.unusedSimpArgs false
set_option maxRecDepth 10000

theorem sh_lt {x s N : Nat} (hx : x < B64 ^ 8) (hs : s ≤ 240000) (hN : N = 3759) : x * 2 ^ s < B64 ^ N := by
  obtain ⟨M, hM⟩ : ∃ M, M = 3751 := ⟨_, rfl⟩
  have h1 : 2 ^ s ≤ B64 ^ M := by rw [B64_two]; exact Nat.pow_le_pow_right (by decide) (by omega)
  rw [show N = 8 + M by omega, Nat.pow_add]
  exact Nat.lt_of_lt_of_le (Nat.mul_lt_mul_of_pos_right hx (Nat.pow_pos (by decide))) (Nat.mul_le_mul_left _ h1)
theorem four_big {x N : Nat} (h : x < 4 * B64 ^ N) (hN : N = 3759) : x < Big := by
  refine Big_of (k := N + 1) (Nat.lt_of_lt_of_le h ?_) (by omega)
  rw [Nat.pow_succ, Nat.mul_comm]
  exact Nat.mul_le_mul_left _ (by decide)
theorem sq_lt8 {x : Nat} (h : x < B64 ^ 4) : x * x < B64 ^ 8 := by
  rw [show 8 = 4 + 4 from rfl, Nat.pow_add]
  exact Nat.mul_lt_mul'' h h
theorem great_mul (U s t : Nat) : (U * 2 ^ s + U) * (U * 2 ^ t + U) = U * U * 2 ^ (s + t) + U * U * 2 ^ s + (U * U * 2 ^ t + U * U) := by
  rw [Nat.pow_add]
  generalize 2 ^ s = S
  generalize 2 ^ t = T
  grind
theorem great_sq (U s : Nat) : (U * 2 ^ s + U) * (U * 2 ^ s + U) = U * U * 2 ^ (2 * s) + (U * U * 2 ^ (s + 1) + U * U) := by
  rw [show 2 * s = s + s by omega, Nat.pow_add, Nat.pow_add]
  generalize 2 ^ s = S
  grind
/-- everything that the law makes of U is small enough -/
theorem great_all {U s t : Nat} (hU : U < B64 ^ 4) (hs : s ≤ 119999) (ht : t ≤ 119999) :
    U * 2 ^ s < Big ∧ U * 2 ^ s + U < Big ∧ U * 2 ^ t < Big ∧ U * 2 ^ t + U < Big ∧ U * U < B64 ^ 8 ∧ U * U < Big ∧ U * U * 2 ^ (s + t) < Big ∧ U * U * 2 ^ s < Big ∧ U * U * 2 ^ (s + t) + U * U * 2 ^ s < Big ∧ U * U * 2 ^ t < Big ∧ U * U * 2 ^ t + U * U < Big ∧ U * U * 2 ^ (s + t) + U * U * 2 ^ s + (U * U * 2 ^ t + U * U) < Big ∧ U * U * 2 ^ (2 * s) < Big ∧ U * U * 2 ^ (s + 1) < Big ∧ U * U * 2 ^ (s + 1) + U * U < Big ∧ U * U * 2 ^ (2 * s) + (U * U * 2 ^ (s + 1) + U * U) < Big := by
  obtain ⟨N, hN⟩ : ∃ N, N = 3759 := ⟨_, rfl⟩
  have hQ := sq_lt8 hU
  have hU8 : U < B64 ^ 8 := Nat.lt_of_lt_of_le hU (Nat.pow_le_pow_right B64_pos (by omega))
  have h0 := sh_lt (s := 0) hU8 (by omega) hN
  have h1 := sh_lt (s := s) hU8 (by omega) hN
  have h2 := sh_lt (s := t) hU8 (by omega) hN
  have h3 := sh_lt (s := 0) hQ (by omega) hN
  have h4 := sh_lt (s := s + t) hQ (by omega) hN
  have h5 := sh_lt (s := s) hQ (by omega) hN
  have h6 := sh_lt (s := t) hQ (by omega) hN
  have h7 := sh_lt (s := 2 * s) hQ (by omega) hN
  have h8 := sh_lt (s := s + 1) hQ (by omega) hN
  rw [Nat.pow_zero, Nat.mul_one] at h0 h3
  have key := fun {x : Nat} (h : x < 4 * B64 ^ N) => four_big h hN
  generalize B64 ^ N = K at *
  generalize U * 2 ^ s = x1 at *
  generalize U * 2 ^ t = x2 at *
  generalize U * U * 2 ^ (s + t) = x3 at *
  generalize U * U * 2 ^ s = x4 at *
  generalize U * U * 2 ^ t = x5 at *
  generalize U * U * 2 ^ (2 * s) = x6 at *
  generalize U * U * 2 ^ (s + 1) = x7 at *
  refine ⟨key ?_, key ?_, key ?_, key ?_, hQ, key ?_, key ?_, key ?_, key ?_, key ?_, key ?_, key ?_, key ?_, key ?_, key ?_, key ?_⟩ <;> omega
theorem Nu.short {w w' : World} {A : Option Addr} {n c : Nat} {zs : List Nat} {x : Nat} (h : Nu w w' A n c zs x) (hx : x < B64 ^ 8) : n ≤ 8 := by
  rw [← h.1.1]
  exact (Cn_len h.1.2.2.2.1 h.2.1 8).2 (by rw [h.2.2.1]; exact hx)
/-- an array of two ints, opened -/
theorem open_two {W : World} {r : Reach} {base : Nat} {H : Type} {enc : TypeId × Value → H} {spare : Nat → Bool} {held : Bool} {d : DataW H} {p : List MemPlace} {t : TypeId} {v : Value} (ht : Tryd.prog.underlying t = some (.array 2 3)) (hct : Tryd.prog.cellsOf t = 2) (hv : Value.okWide Tryd.prog W r base t v)
    (h : DataW.Trod enc Tryd.prog W 0 spare held t v d p) : ∃ x y : Int, (Lit.int .i64 x).wf = true ∧ (Lit.int .i64 y).wf = true ∧ v = .agg #[.int .i64 x, .int .i64 y] := by
  simp only [Value.okWide, ht] at hv
  obtain ⟨cs, rfl, hsz, -⟩ := hv
  obtain ⟨fuel, hf⟩ := h
  obtain ⟨xs, m, rfl, hx, hl, hn, hel⟩ := DataW.trod_array ht hf
  have hc1 : Tryd.prog.cellsOf 3 = 1 := by kernel_rfl
  rw [hc1] at hel
  simp only [Value.cells, Nat.mul_one] at hel hl
  have each : ∀ i, i < 2 → ∃ z : Int, cs[i]? = some (.int .i64 z) ∧ (Lit.int .i64 z).wf = true := fun i hi => by
    have h1 := hel i hi
    rw [List.getElem?_eq_getElem (by omega)] at h1
    obtain ⟨z, h2, _, h3⟩ := DataW.trod_int Tryd.underlying3 h1
    refine ⟨z, ?_, h3⟩
    have h4 : ((cs.toList.drop i).take 1)[0]? = some (.int .i64 z) := by rw [h2]; rfl
    rw [List.getElem?_take] at h4
    simp at h4
    rw [h4]
  obtain ⟨x, hx0, hxw⟩ := each 0 (by omega)
  obtain ⟨y, hy0, hyw⟩ := each 1 (by omega)
  refine ⟨x, y, hxw, hyw, ?_⟩
  congr 1
  rw [hct] at hsz
  refine Array.ext (by simp; omega) (fun i h1 h2 => ?_)
  have hi : i = 0 ∨ i = 1 := by simp at h2; omega
  rcases hi with rfl | rfl
  · rw [Array.getElem?_eq_getElem h1] at hx0
    injection hx0
  · rw [Array.getElem?_eq_getElem h1] at hy0
    injection hy0
/-- a call that hands back the number x -/
def Gv (w : World) (e : Ending) (w' : World) (x : Nat) : Prop := ∃ A n c zs, e = .returned (.slice A n c) ∧ Nu w w' A n c zs x
def Gt (w : World) (e : Ending) (w' : World) (x : Nat) : Prop := ∃ A n c zs, e = .returned (.tuple #[.slice A n c, .int .i64 0]) ∧ Nu w w' A n c zs x
theorem gLeftA {A : Option Addr} {n c s : Nat} {us : List Nat} {w : World} (ha : Sl w A n c us) (hn : n ≤ 4) (hs : s ≤ 240000) (hb : V us * 2 ^ s < Big) : Calls Tryd.prog 53 #[.slice A n c, .int .i64 s] w fun e w' => Gv w e w' (V us * 2 ^ s) :=
  (R2LeftJ_ok A n c us s w (by omega) (by omega) ha).mono (fun e w' h => h.open hb)
theorem gLeftQ {w0 w : World} {A : Option Addr} {n c s x : Nat} {zs : List Nat} (h : Nu w0 w A n c zs x) (h8 : x < B64 ^ 8) (hs : s ≤ 240000) (hb : x * 2 ^ s < Big) : Calls Tryd.prog 53 #[.slice A n c, .int .i64 s] w fun e w' => Gv w e w' (x * 2 ^ s) := by
  have hn := h.short h8
  refine (R2LeftJ_ok A n c zs s w (by omega) (by omega) h.1).mono (fun e w' h1 => ?_)
  rw [h.2.2.1] at h1
  exact h1.open hb
theorem gAddA {w0 w : World} {A A' : Option Addr} {n c n' c' x : Nat} {zs us : List Nat} (h : Nu w0 w A n c zs x) (ha : Sl w A' n' c' us) (hn' : n' ≤ 4) (hb : x + V us < Big) : Calls Tryd.prog 52 #[.slice A n c, .slice A' n' c'] w fun e w' => Gv w e w' (x + V us) := by
  refine (RNAdd_ok A A' n n' c c' zs us w h.2.2.2.1 (by omega) h.1 ha).mono (fun e w' h1 => ?_)
  rw [h.2.2.1] at h1
  exact h1.open hb
theorem gAddN {w0 w0' w : World} {A A' : Option Addr} {n c n' c' x y : Nat} {zs ys : List Nat} (h : Nu w0 w A n c zs x) (h' : Nu w0' w A' n' c' ys y) (hb : x + y < Big) : Calls Tryd.prog 52 #[.slice A n c, .slice A' n' c'] w fun e w' => Gv w e w' (x + y) := by
  refine (RNAdd_ok A A' n n' c c' zs ys w h.2.2.2.1 h'.2.2.2.1 h.1 h'.1).mono (fun e w' h1 => ?_)
  rw [h.2.2.1, h'.2.2.1] at h1
  exact h1.open hb
theorem gMulA {A : Option Addr} {n c : Nat} {us : List Nat} {w : World} (ha : Sl w A n c us) (hn : n ≤ 4) (hb : V us * V us < Big) : Calls Tryd.prog 51 #[.slice A n c, .slice A n c] w fun e w' => Gv w e w' (V us * V us) :=
  (RNMul_ok A A n n c c us us w (by omega) (by omega) ha ha).mono (fun e w' h => h.open hb)
theorem gYMul {w0 w0' w : World} {A A' : Option Addr} {n c n' c' x y z : Nat} {zs ys : List Nat} (h : Nu w0 w A n c zs x) (h' : Nu w0' w A' n' c' ys y) (hT : TabY w) (hz : x * y = z) (hb : z < Big) : Calls Tryd.prog 49 #[.slice A n c, .slice A' n' c'] w fun e w' => Gt w e w' z := by
  refine (YMul_ok A A' n n' c c' zs ys w h.2.2.2.1 h'.2.2.2.1 h.1 h'.1 hT).mono (fun e w' h1 => ?_)
  rw [h.2.2.1, h'.2.2.1, hz] at h1
  exact h1.open hb
theorem gYSq {w0 w : World} {A : Option Addr} {n c x z : Nat} {zs : List Nat} (h : Nu w0 w A n c zs x) (hT : TabY w) (hz : x * x = z) (hb : z < Big) : Calls Tryd.prog 50 #[.slice A n c] w fun e w' => Gt w e w' z := by
  refine (YSquare_ok A n c zs w h.2.2.2.1 h.1 hT).mono (fun e w' h1 => ?_)
  rw [h.2.2.1, hz] at h1
  exact h1.open hb
theorem gIs {w0 w0' w : World} {A A' : Option Addr} {n c n' c' x : Nat} {zs ys : List Nat} (h : Nu w0 w A n c zs x) (h' : Nu w0' w A' n' c' ys x) : Calls Tryd.prog 47 #[.slice A n c, .slice A' n' c'] w fun e w' => e = .returned (.bool true) ∧ Below w.heap.size w w' :=
  Is_nu4 h h'.1 h'.2.2.2.1 h'.2.2.1
end Go.Proofs.YtcnambjckmpipaaDoor
