/- The contracts of reckonerref01.digit and reckonerref01.Plus. -/
import Derived.Test.YtekikolhnfofeaaDig
namespace Go.Proofs.Ytekikolhnfofeaa
open Go.RowKit
set_option linter.unusedVariables false

theorem dig_get {ds : List Nat} {i x : Nat} (h : ds[i]? = some x) : dig ds i = x := by
  unfold dig; rw [List.getD_eq_getElem?_getD, h]; rfl
theorem dig_none {ds : List Nat} {i : Nat} (h : ds.length ≤ i) : dig ds i = 0 := by
  unfold dig; rw [List.getD_eq_getElem?_getD, List.getElem?_eq_none h]; rfl

set_option maxHeartbeats 400000 in
theorem digit_any (A : Option Addr) (n c i : Nat) (ds : List Nat) (w : World) (hn : n ≤ 1000000) (hx : Sl w A n c ds) :
    Calls Try.prog 100 #[.slice A n c, .int .i64 i] w fun e w' => e = .returned (.int .u64 (dig ds i : Nat)) ∧ w = w' := by
  by_cases hlt : i < n
  · have hk : i < ds.length := by rw [hx.1]; exact hlt
    obtain ⟨b, o, rfl, hb, hcx⟩ := hx.2.2.2.2.at (uvs_get (List.getElem?_eq_getElem hk))
    rw [dig_get (List.getElem?_eq_getElem hk)]
    generalize ds[i] = x at *
    clear hx hk
    go_enter Try.func100, Try.ntmps100
    go_wp2
    go_ret
    exact ⟨rfl, rfl⟩
  · rw [dig_none (by rw [hx.1]; omega)]
    clear hx
    go_enter Try.func100, Try.ntmps100
    go_wp2
    go_ret
    exact ⟨rfl, rfl⟩

/-- one step of a sum of digits -/
theorem plus_step {out xs ys : List Nat} {k r q cy s : Nat} (hl : out.length = k) (hs : cy + dig xs k + dig ys k = s) (hr : r = s % H32) (hq : q = s / H32) (hv : VD out + cy * H32 ^ k = VD (xs.take k) + VD (ys.take k)) :
    VD (out ++ [r]) + q * H32 ^ (k + 1) = VD (xs.take (k + 1)) + VD (ys.take (k + 1)) := by
  have hrq : r + H32 * q = cy + dig xs k + dig ys k := by subst hr hq; rw [hs]; exact Nat.mod_add_div _ _
  rw [VD_snoc, VD_take_dig, VD_take_dig, hl, Nat.pow_succ]
  generalize dig xs k = a at *
  generalize dig ys k = b at *
  generalize VD (xs.take k) = u at *
  generalize VD (ys.take k) = v at *
  generalize VD out = t at *
  generalize H32 ^ k = p at *
  generalize H32 = h at *
  clear hs hr hq hl
  grind
theorem plus_carry {s cy a b : Nat} (h1 : cy ≤ 1) (h2 : a < H32) (h3 : b < H32) (hs : cy + a + b = s) : s < B64 ∧ s / H32 ≤ 1 := by
  have hH : H32 = 4294967296 := rfl
  have hB : B64 = 18446744073709551616 := rfl
  rw [hH] at h2 h3 ⊢
  exact ⟨by omega, by omega⟩
end Go.Proofs.Ytekikolhnfofeaa
