/- Pieces of the proofs, together: FAr, FUsed, FHalf, Grow, FAdd, FSg, FTm, FLeast, HeldM, InR. -/
import Derived.BigQuiet
import Derived.Lib.MinMax
import Derived.Deep.RegionHeld3
import Derived.OrdersHeld
import Derived.RegionTactic
import Derived.Deep.RegionHeld
import Derived.OrdersIn
import Derived.TacticsIn
import Derived.ControlIn
import Derived.Test.YthpgdpkemnhneaaGreatDoorP1

namespace Go.Proofs.YthpgdpkemnhneaaGreatDoor
open Go.RowKit
set_option linter.unusedVariables false

theorem sum_end {M x : Nat} {S q : Int} (hx : x < 2 * M) (hS : (x : Int) = S + q * (2 * (M : Int))) (hl : -(M : Int) < S) (hu : S < (M : Int)) :
    (x < M → S = x) ∧ (M ≤ x → S = (x : Int) - 2 * M) := by
  have hq : q = 0 ∨ q = 1 := by
    rcases (show q < 0 ∨ 0 ≤ q by omega) with h | h
    · have h1 : q * (2 * (M : Int)) ≤ (-1) * (2 * (M : Int)) := Int.mul_le_mul_of_nonneg_right (by omega) (by omega)
      omega
    · rcases (show 1 < q ∨ q ≤ 1 by omega) with h2 | h2
      · have h1 : 2 * (2 * (M : Int)) ≤ q * (2 * (M : Int)) := Int.mul_le_mul_of_nonneg_right (by omega) (by omega)
        omega
      · omega
  rcases hq with rfl | rfl
  · constructor <;> intro h <;> omega
  · constructor <;> intro h <;> omega
theorem top_half {P lo t H M : Nat} (hlo : lo < P) (hM : M = H * P) : lo + t * P < M ↔ t < H := by
  subst hM
  constructor
  · intro h
    rcases Nat.lt_or_ge t H with h1 | h1
    · exact h1
    · have := Nat.mul_le_mul_right P h1
      omega
  · intro h
    have := Nat.mul_le_mul_right P (show t + 1 ≤ H from h)
    rw [Nat.add_mul, Nat.one_mul] at this
    omega
/-- one word added, with what is carried -/
theorem addw {v w h l c s1 d1 z s2 d2 B : Nat} (e1 : v * w = h * B + l) (e2 : l + c = s1 + d1 * B) (e3 : z + s1 = s2 + d2 * B) : z + v * w + c = s2 + (h + d1 + d2) * B := by
  grind
theorem takew {v w h l c s1 d1 z s2 d2 B : Nat} (e1 : v * w = h * B + l) (e2 : l + c = s1 + d1 * B) (e3 : z + d2 * B = s2 + s1) : z + (h + d1 + d2) * B = s2 + v * w + c := by
  grind
theorem carry_lt {v w c z s x B : Nat} (hv : v < B) (hw : w < B) (hc : c < B) (hz : z < B) (e : z + v * w + c = s + x * B) : x < B := by
  have h1 : v * w ≤ (B - 1) * (B - 1) := Nat.mul_le_mul (by omega) (by omega)
  obtain ⟨b, rfl⟩ : ∃ b, B = b + 1 := ⟨B - 1, by omega⟩
  rw [Nat.add_sub_cancel] at h1
  rcases Nat.lt_or_ge x (b + 1) with h | h
  · exact h
  · have h2 := Nat.mul_le_mul_right (b + 1) h
    have h3 : (b + 1) * (b + 1) = b * b + 2 * b + 1 := by grind
    omega
theorem borrow_lt {v w c z s x B : Nat} (hv : v < B) (hw : w < B) (hc : c < B) (hs : s < B) (e : z + x * B = s + v * w + c) : x < B := by
  have h1 : v * w ≤ (B - 1) * (B - 1) := Nat.mul_le_mul (by omega) (by omega)
  obtain ⟨b, rfl⟩ : ∃ b, B = b + 1 := ⟨B - 1, by omega⟩
  rw [Nat.add_sub_cancel] at h1
  rcases Nat.lt_or_ge x (b + 1) with h | h
  · exact h
  · have h2 := Nat.mul_le_mul_right (b + 1) h
    have h3 : (b + 1) * (b + 1) = b * b + 2 * b + 1 := by grind
    omega

theorem V_set (zs : List Nat) (i a z : Nat) (h : zs[i]? = some z) : V (zs.set i a) + z * B64 ^ i = V zs + a * B64 ^ i := by
  induction zs generalizing i with
  | nil => simp at h
  | cons y ys ih =>
    cases i with
    | zero =>
      simp at h
      subst h
      rw [List.set_cons_zero, V, V, Nat.pow_zero]
      omega
    | succ i =>
      simp only [List.getElem?_cons_succ] at h
      have := ih i h
      rw [List.set_cons_succ, V, V, Nat.pow_succ]
      generalize B64 = b at *
      generalize b ^ i = p at *
      generalize V (ys.set i a) = v at *
      generalize V ys = u at *
      have e1 : b * v + z * (p * b) = b * (v + z * p) := by grind
      have e2 : b * u + a * (p * b) = b * (u + a * p) := by grind
      rw [← this] at e2
      omega
theorem add_round {zs : List Nat} {k i z s v w c d x y X : Nat} (h : zs[i]? = some z) (e : z + v * w + c = s + d * B64) (hi : i = y + k) (hI : V zs + c * B64 ^ i = X + w * x * B64 ^ y) :
    V (zs.set i s) + d * B64 ^ (i + 1) = X + w * (x + v * B64 ^ k) * B64 ^ y := by
  have h1 := V_set zs i s z h
  rw [Nat.pow_succ]
  subst hi
  rw [Nat.pow_add] at *
  generalize B64 = b at *
  generalize b ^ y = p at *
  generalize b ^ k = q at *
  grind
theorem take_round {zs : List Nat} {k i z s v w c d x y X : Nat} (h : zs[i]? = some z) (e : z + d * B64 = s + v * w + c) (hi : i = y + k) (hI : V zs + w * x * B64 ^ y = X + c * B64 ^ i) :
    V (zs.set i s) + w * (x + v * B64 ^ k) * B64 ^ y = X + d * B64 ^ (i + 1) := by
  have h1 := V_set zs i s z h
  rw [Nat.pow_succ]
  subst hi
  rw [Nat.pow_add] at *
  generalize B64 = b at *
  generalize b ^ y = p at *
  generalize b ^ k = q at *
  grind
theorem add_rest {zs : List Nat} {i z s c d X : Nat} (h : zs[i]? = some z) (e : z + c = s + d * B64) (hI : V zs + c * B64 ^ i = X) : V (zs.set i s) + d * B64 ^ (i + 1) = X := by
  have h1 := V_set zs i s z h
  rw [Nat.pow_succ]
  generalize B64 = b at *
  generalize b ^ i = p at *
  grind
theorem take_rest {zs : List Nat} {i z s c d X Y : Nat} (h : zs[i]? = some z) (e : z + d * B64 = s + c) (hI : V zs + Y = X + c * B64 ^ i) : V (zs.set i s) + Y = X + d * B64 ^ (i + 1) := by
  have h1 := V_set zs i s z h
  rw [Nat.pow_succ]
  generalize B64 = b at *
  generalize b ^ i = p at *
  grind
end Go.Proofs.YthpgdpkemnhneaaGreatDoor

namespace Go.Proofs.YthpgdpkemnhneaaGreatDoor
open Go.RowKit Go.Shelf
set_option linter.unusedVariables false
set_option maxRecDepth 10000

theorem fcheck_any (ls : List (Option Addr × Nat × Nat)) (A : Option Addr) (m c : Nat) (w : World) (hl : ls.length = m) (hm : m ≤ 100000) (hr : Rd w w.heap.size A (svs ls)) :
    Calls Tryz.prog 20 #[.slice A m c] w fun e w' => e = .returned (.int .i64 (chkS ls)) ∧ w = w' := checkSizes_any ls A m c w hl hm hr
theorem fcheck_two (A A' : Option Addr) (n n' c c' : Nat) (t : TypeId) (b : Nat) (w : World) (hb : b = w.heap.size) :
    Calls Tryz.prog 20 #[.slice (some ⟨b, 0, none⟩) 2 2] (w.alloc (.cells #[.slice A n c, .slice A' n' c'] t)) fun e w' => e = .returned (.int .i64 (chkS [(A, n, c), (A', n', c')])) ∧ Below w.heap.size w w' := checkSizes_two A A' n n' c c' t b w hb
theorem fcheck_one (A : Option Addr) (n c : Nat) (t : TypeId) (b : Nat) (w : World) (hb : b = w.heap.size) :
    Calls Tryz.prog 20 #[.slice (some ⟨b, 0, none⟩) 1 1] (w.alloc (.cells #[.slice A n c] t)) fun e w' => e = .returned (.int .i64 (chkS [(A, n, c)])) ∧ Below w.heap.size w w' := checkSizes_one A n c t b w hb

theorem fused_ok (A : Option Addr) (n c : Nat) (xs : List Nat) (w : World) (hn : n ≤ 100000) (hx : Sl w A n c xs) :
    Calls Tryz.prog 23 #[.slice A n c] w fun e w' => ∃ k, e = .returned (.slice A k c) ∧ k ≤ n ∧ Hid (V (xs.take k) = V xs ∧ Cn (xs.take k)) ∧ w = w' := used_ok A n c xs w hn hx

set_option maxHeartbeats 400000 in
theorem fresult_ok (w0 : World) (A : Option Addr) (n c : Nat) (xs : List Nat) (w : World) (hx : Nw w0 w (.slice A n c) n xs) (hc : Cn xs) (hn : n ≤ 9223372036854775807) :
    Calls Tryz.prog 26 #[.slice A n c] w fun e w' => ((e = .returned (.tuple #[.slice A n c, .int .i64 0]) ∧ Nt w0 w' (.slice A n c) (V xs) ∧ V xs < Big ∧ n ≤ 4096) ∨ (e = .returned (.tuple #[.slice none 0 0, .int .i64 2]) ∧ Big ≤ V xs)) ∧ Below w.heap.size w w' := by
  have Hx := Lib.hid (And.intro hx hc)
  have hl := hx.1
  clear hx hc
  by_cases h4 : 4096 < n
  · have HC := Lib.hid (chkS_one_big (A := A) (c := c) h4)
    go_enter Tryz.func26, Tryz.ntmps26
    go_wp2_with (go_at_call 20; refine (fcheck_one A n c _ _ _ rfl).mono ?_; rintro e w1 ⟨rfl, hb1⟩; rw [HC.out])
    go_ret2
    refine ⟨.inr ⟨rfl, ?_⟩, hb1⟩
    rcases Nat.lt_or_ge (V xs) Big with h | h
    · have := (Cn_big Hx.out.1.2.1 Hx.out.2).2 h
      omega
    · exact h
  · have HC := Lib.hid (chkS_one (A := A) (n := n) (c := c) (by omega))
    go_enter Tryz.func26, Tryz.ntmps26
    go_wp2_with (go_at_call 20; refine (fcheck_one A n c _ _ _ rfl).mono ?_; rintro e w1 ⟨rfl, hb1⟩; rw [HC.out])
    go_ret2
    refine ⟨.inl ⟨rfl, ⟨n, xs, Hx.out.1.later (Nat.le_refl _) hb1, Hx.out.2, rfl⟩, (Cn_big Hx.out.1.2.1 Hx.out.2).1 (by omega), by omega⟩, hb1⟩

theorem V_low {xs : List Nat} (hw : Ws xs) (k : Nat) : V (xs.take k) = V xs % B64 ^ k := by
  rcases Nat.lt_or_ge xs.length k with h | h
  · rw [List.take_of_length_le (by omega), Nat.mod_eq_of_lt]
    exact Nat.lt_of_lt_of_le (V_lt _ hw) (Nat.pow_le_pow_right B64_pos (by omega))
  · have h1 := V_split xs k h
    have h2 := V_lt _ (Ws_take hw k)
    rw [List.length_take, Nat.min_eq_left h] at h2
    rw [h1, Nat.add_mul_mod_self_right, Nat.mod_eq_of_lt h2]
set_option maxHeartbeats 400000 in
theorem fbelow_ok (A : Option Addr) (n c m : Nat) (xs : List Nat) (w : World) (hn : n ≤ 100000) (hm : m ≤ 100000) (hx : Sl w A n c xs) :
    Calls Tryz.prog 44 #[.slice A n c, .int .i64 m] w fun e w' => ∃ k, e = .returned (.slice A k c) ∧ k ≤ n ∧ k ≤ m ∧ Hid (V (xs.take k) = V xs % B64 ^ m ∧ Cn (xs.take k)) ∧ w = w' := by
  have Hx := Lib.hid hx
  have hnc := hx.2.1
  have hc := hx.2.2.1
  obtain ⟨r, hr⟩ : ∃ r, r = min m n := ⟨_, rfl⟩
  have hrn : r ≤ n := by omega
  have hrm : r ≤ m := by omega
  have hri : min (m : Int) (n : Int) = (r : Int) := by omega
  have hrc : (r : Int) ≤ (c : Int) := by omega
  have HV := Lib.hid (show V (xs.take r) = V xs % B64 ^ m by
    rw [← V_low hx.2.2.2.1]
    rcases Nat.le_total m n with h | h
    · rw [show r = m by omega]
    · rw [show r = n by omega, List.take_of_length_le (by rw [hx.1]; exact Nat.le_refl _), List.take_of_length_le (by rw [hx.1]; exact h)])
  clear hx
  go_enter Tryz.func44, Tryz.ntmps44
  rcases Nat.le_total m n with h | h
  · obtain rfl : r = m := by omega
    have hmn : (r : Int) ≤ (n : Int) := by omega
    clear hr h
    go_wp2_with (fail)
    refine (fused_ok A r c (xs.take r) w (by omega) (Hx.out.tk hrn)).mono ?_
    rintro e w1 ⟨k, rfl, hk, hU, rfl⟩
    have HU := Lib.hid hU
    clear hU
    go_wp2_with (fail)
    go_ret
    refine ⟨k, rfl, by omega, by omega, ?_, rfl⟩
    have h1 := HU.out.out
    rw [List.take_take, Nat.min_eq_left hk] at h1
    exact ⟨h1.1.trans HV.out, h1.2⟩
  · obtain rfl : r = n := by omega
    have hmn : (r : Int) ≤ (m : Int) := by omega
    clear hr h

    go_wp2_with (fail)
    refine (fused_ok A r c (xs.take r) w (by omega) (Hx.out.tk hrn)).mono ?_
    rintro e w1 ⟨k, rfl, hk, hU, rfl⟩
    have HU := Lib.hid hU
    clear hU
    go_wp2_with (fail)
    go_ret
    refine ⟨k, rfl, by omega, by omega, ?_, rfl⟩
    have h1 := HU.out.out
    rw [List.take_take, Nat.min_eq_left hk] at h1
    exact ⟨h1.1.trans HV.out, h1.2⟩
end Go.Proofs.YthpgdpkemnhneaaGreatDoor

namespace Go.Proofs.YthpgdpkemnhneaaGreatDoor
open Go.RowKit Go.Shelf
set_option linter.unusedVariables false
set_option maxRecDepth 10000

/-- the slice holds a canonical number -/
def Sc (w : World) (A : Option Addr) (n c : Nat) (xs : List Nat) : Prop := Sl w A n c xs ∧ Cn xs
theorem Sc.below {w w' : World} {A : Option Addr} {n c : Nat} {xs : List Nat} (h : Sc w A n c xs) (hb : Below w.heap.size w w') : Sc w' A n c xs := ⟨h.1.below hb, h.2⟩
theorem Sc.nil (w : World) : Sc w none 0 0 [] := ⟨⟨rfl, by omega, by omega, Ws_nil, Rd.nil⟩, Cn_nil⟩
theorem Cn_drop {xs : List Nat} (h : Cn xs) (k : Nat) : Cn (xs.drop k) := fun m hm => by
  rw [List.length_drop] at hm
  rw [List.getElem?_drop]
  exact h (k + m) (by omega)
theorem Sl.cap_ {w : World} {A : Option Addr} {n c c' : Nat} {xs : List Nat} (h : Sl w A n c xs) (h1 : n ≤ c') (h2 : c' ≤ 9223372036854775807) : Sl w A n c' xs := ⟨h.1, h1, h2, h.2.2.2⟩
/-- the rows beyond a place in a row -/
theorem Sl.from_ {w : World} {b o n c m k c' : Nat} {xs : List Nat} (h : Sl w (some ⟨b, o, none⟩) n c xs) (hk : k + m = n) (hc' : m ≤ c') (hc : c' ≤ 9223372036854775807) : Sl w (some ⟨b, o + k, none⟩) m c' (xs.drop k) := by
  refine ⟨by rw [List.length_drop, h.1]; omega, hc', hc, fun x hx => h.2.2.2.1 x (List.mem_of_mem_drop hx), fun hne => ?_⟩
  obtain ⟨b', o', e, hb, hcell⟩ := h.2.2.2.2 (by intro h0; exact hne (by simp only [uvs, List.map_eq_nil_iff] at h0 ⊢; rw [h0, List.drop_nil]))
  injection e with e
  injection e with e1 e2
  subst e1 e2
  refine ⟨b, o + k, rfl, hb, fun j u hu => ?_⟩
  rw [Nat.add_assoc]
  refine hcell (k + j) u ?_
  rw [← hu]
  simp [uvs, List.getElem?_map, List.getElem?_drop]

/-- what halves answers -/
def HalvesR (w : World) (e : Ending) (n m : Nat) (x : Nat) : Prop := ∃ A1 k1 c1 l1 A2 k2 c2 l2, e = .returned (.tuple #[.slice A1 k1 c1, .slice A2 k2 c2]) ∧ Sc w A1 k1 c1 l1 ∧ Sc w A2 k2 c2 l2 ∧ k1 ≤ m ∧ k1 ≤ n ∧ k2 = n - m ∧ x = V l1 + V l2 * B64 ^ m ∧ (n ≤ m → k1 = n)

set_option maxHeartbeats 400000 in
theorem fhalves_ok (A : Option Addr) (n c m : Nat) (xs : List Nat) (w : World) (hn : n ≤ 100000) (hm : m ≤ 100000) (hx : Sc w A n c xs) :
    Calls Tryz.prog 43 #[.slice A n c, .int .i64 m] w fun e w' => HalvesR w e n m (V xs) ∧ ∃ k, w' = w.drewN k := by
  have Hx := Lib.hid hx
  have hnc := hx.1.2.1
  have hc := hx.1.2.2.1
  by_cases hle : n ≤ m
  · have hi : (n : Int) ≤ (m : Int) := by omega
    clear hx
    go_enter Tryz.func43, Tryz.ntmps43
    go_wp2_with (fail)
    go_ret2
    exact ⟨⟨A, n, c, xs, none, 0, 0, [], rfl, Hx.out, Sc.nil _, hle, Nat.le_refl _, by omega, by simp [V], fun _ => rfl⟩, 0, rfl⟩
  · have hi : ¬ (n : Int) ≤ (m : Int) := by omega
    obtain ⟨b, o, rfl, _, _⟩ := hx.1.2.2.2.2 (by intro h; have := congrArg List.length h; rw [uvs_length, hx.1.1] at this; simp at this; omega)
    obtain ⟨r, hr⟩ : ∃ r, r = n - m := ⟨_, rfl⟩
    have hmn : (m : Int) ≤ (n : Int) := by omega
    have hmc : (m : Int) ≤ (c : Int) := by omega
    have hnc2 : (n : Int) ≤ (c : Int) := by omega
    have hne : ¬ m = n := by omega
    have hne2 : ¬ n = m := by omega
    have hsub : (n : Int) - (m : Int) = (r : Int) := by omega
    have Hr := Lib.hid hr
    clear hx hle
    go_enter Tryz.func43, Tryz.ntmps43
    go_wp2_with (fail)
    go_region_held3 (fun w' => True) (trivial) (first | (go_at_call 23; refine (fused_ok _ m m (xs.take m) w.drew (by omega) ((Sl.tk (show Sl w.drew _ n c xs from Hx.out.1) (by omega)).cap_ (by omega) (by omega))).mono ?_; rintro e w1 ⟨k, rfl, hk, hU, rfl⟩; have HU := Lib.hid hU; clear hU))
    go_wp2_with (fail)
    go_ret2
    have h1 := HU.out.out
    rw [List.take_take, Nat.min_eq_left hk] at h1
    refine ⟨⟨_, k, m, xs.take k, _, n - m, n - m, xs.drop m, rfl, ⟨(Hx.out.1.tk (by omega)).cap_ (by omega) (by omega), h1.2⟩, ⟨Hx.out.1.from_ (by omega) (Nat.le_refl _) (by omega), Cn_drop Hx.out.2 m⟩, hk, by omega, rfl, ?_, fun h => by omega⟩, 1, rfl⟩
    rw [h1.1]
    exact V_split xs m (by rw [Hx.out.1.1]; omega)
end Go.Proofs.YthpgdpkemnhneaaGreatDoor

namespace Go.Proofs.YthpgdpkemnhneaaGreatDoor
open Go.RowKit Go.Shelf
set_option linter.unusedVariables false

theorem grown_of_below {w a : World} (hb : Below w.heap.size w a) (r : Option Nat) : w.grownBy a r := ⟨hb.os, hb.tape, hb.output, hb.size, fun i hi _ => hb.block i hi⟩
theorem Sl.grown' {w w' : World} {row : Option Nat} {A : Option Addr} {n c : Nat} {xs : List Nat} (h : Sl w A n c xs) (hg : w.grownBy w' row) (hne : ∀ a, A = some a → some a.block ≠ row) : Sl w' A n c xs :=
  ⟨h.1, h.2.1, h.2.2.1, h.2.2.2.1, fun hx => by
    obtain ⟨b, o, e, hb, hc⟩ := h.2.2.2.2 hx
    exact ⟨b, o, e, Nat.lt_of_lt_of_le hb hg.size, fun j u hu => hg.cell (hc j u hu) (show some b ≠ row from hne ⟨b, o, none⟩ e)⟩⟩
end Go.Proofs.YthpgdpkemnhneaaGreatDoor

namespace Go.Proofs.YthpgdpkemnhneaaGreatDoor
open Go.RowKit Go.Shelf
set_option linter.unusedVariables false
set_option maxRecDepth 10000

/-- between two rounds: the row, and what is carried -/
def FA (w W : World) (g : Nat) (N : Nat) (zs : List Nat) : Prop := RowAt W g zs ∧ Ws zs ∧ zs.length = N ∧ w.grownBy W (some g)
/-- the row is X, Y less than X, but for a multiple of what it holds -/
def AddR (w W : World) (g N X : Nat) : Prop := ∃ zs' q, FA w W g N zs' ∧ V zs' + q * B64 ^ N = X
def NegR (w W : World) (g N X : Nat) : Prop := ∃ zs' q, FA w W g N zs' ∧ q ≤ 1 ∧ V zs' + X = q * B64 ^ N
def SubR (w W : World) (g N X Y : Nat) : Prop := ∃ zs' q, FA w W g N zs' ∧ V zs' + Y = X + q * B64 ^ N
/-- the same with what is carried out of it -/
def AddC (w W : World) (g N X q : Nat) : Prop := ∃ zs', FA w W g N zs' ∧ V zs' + q * B64 ^ N = X
def SubC (w W : World) (g N X Y q : Nat) : Prop := ∃ zs', FA w W g N zs' ∧ V zs' + Y = X + q * B64 ^ N
theorem AddC.r {w W : World} {g N X q : Nat} (h : AddC w W g N X q) : AddR w W g N X := by obtain ⟨zs, h1, h2⟩ := h; exact ⟨zs, q, h1, h2⟩
theorem SubC.r {w W : World} {g N X Y q : Nat} (h : SubC w W g N X Y q) : SubR w W g N X Y := by obtain ⟨zs, h1, h2⟩ := h; exact ⟨zs, q, h1, h2⟩

set_option maxHeartbeats 1000000 in
theorem fadd_ok (g at_ m cz : Nat) (zs : List Nat) (A : Option Addr) (n c : Nat) (xs : List Nat) (wt : Nat) (N : Nat) (w : World) (hz : RowAt w g zs) (wz : Ws zs) (hN : zs.length = N) (hm : at_ + m = N) (hN5 : N ≤ 100000) (hmc : m ≤ cz) (hcz : cz ≤ 9223372036854775807)
    (hn : n ≤ m) (hx : Sl w A n c xs) (hxg : n ≠ 0 → ∀ a, A = some a → some a.block ≠ some g) (hw : wt < B64) :
    Calls Tryz.prog 61 #[.slice (some ⟨g, at_, none⟩) m cz, .slice A n c, .int .u64 wt] w fun e w' => ∃ cy : Nat, e = .returned (.int .u64 (cy : Int)) ∧ cy < B64 ∧ AddC w w' g N (V zs + wt * V xs * B64 ^ at_) cy := by
  have Hx := Lib.hid (And.intro hx (And.intro hxg (And.intro wz (And.intro hz (And.intro hN hw)))))
  clear hx hxg wz hz hN hw
  go_enter Tryz.func61, Tryz.ntmps61
  go_wp2
  go_loopw [7, 8, 9, 10, 11, 12, 16] (fun cv _ _ _ _ _ iv wr => ∃ (k cy : Nat) (us : List Nat), k ≤ n ∧ iv = .int .i64 k ∧ cv = .int .u64 cy ∧ Hid (cy < B64 ∧ FA w wr g N us ∧ V us + cy * B64 ^ (at_ + k) = V zs + wt * V (xs.take k) * B64 ^ at_)) (fun _ _ _ _ _ _ iv _ => n - (intOf iv).toNat)
  case atStart => exact ⟨0, 0, zs, by omega, rfl, rfl, by decide, ⟨Hx.out.2.2.2.1, Hx.out.2.2.1, Hx.out.2.2.2.2.1, World.grownBy.refl w _⟩, by simp [V]⟩
  case round =>
    obtain ⟨k, cy, us, hk, rfl, rfl, hH⟩ := hrel
    by_cases hlt : k < n
    · have hxl : k < xs.length := by rw [Hx.out.1.1]; exact hlt
      have hul : at_ + k < us.length := by rw [hH.out.2.1.2.2.1]; omega
      have gx := List.getElem?_eq_getElem hxl
      have gz := List.getElem?_eq_getElem hul
      have hvB : xs[k] < B64 := Hx.out.1.2.2.2.1 _ (List.getElem_mem hxl)
      have hzB : us[at_ + k] < B64 := hH.out.2.1.2.1 _ (List.getElem_mem hul)
      have htk := V_take_succ xs k hxl
      obtain ⟨b, o, rfl, _, hcx⟩ := (Hx.out.1.grown' hH.out.2.1.2.2.2 (Hx.out.2.1 (by omega))).2.2.2.2.at (uvs_get gx)
      generalize xs[k] = v at *
      generalize us[at_ + k] = z at *
      obtain ⟨h, l, hm1, hcall⟩ := mul64_any v wt hvB Hx.out.2.2.2.2.2
      have hc := hH.out.1
      obtain ⟨s1, d1, hf1, hc1⟩ := add64_zero l cy hm1.2.1 hc
      obtain ⟨s2, d2, hf2, hc2⟩ := add64_zero z s1 hzB hf1.2.1
      have he := addw hm1.1 hf1.1 hf2.1
      have hlt2 := carry_lt hvB Hx.out.2.2.2.2.2 hc hzB he
      have hrow := add_round gz he rfl hH.out.2.2
      rw [← htk, Nat.add_assoc at_] at hrow
      obtain ⟨k1, hk1⟩ : ∃ k1, k1 = h + d1 := ⟨_, rfl⟩
      obtain ⟨k2, hk2⟩ : ∃ k2, k2 = h + d1 + d2 := ⟨_, rfl⟩
      have e1 : (h : Int) + (d1 : Int) = (k1 : Int) := by omega
      have e2 : (k1 : Int) + (d2 : Int) = (k2 : Int) := by omega
      rw [← hk2] at he hlt2 hrow
      have hw1 : IntKind.u64.wrap (k1 : Int) = (k1 : Int) := by rw [IntKind.wrap_u64]; have : B64 = 18446744073709551616 := rfl; omega
      have hw2 : IntKind.u64.wrap (k2 : Int) = (k2 : Int) := by rw [IntKind.wrap_u64]; have : B64 = 18446744073709551616 := rfl; omega
      have c4 := hH.out.2.1.1.cell gz
      have f4 := hH.out.2.1.1.frozen (at_ + k)
      have hkm : (k : Int) < (m : Int) := by omega
      have HN : Hid (k2 < B64 ∧ FA w (wr.setCell ⟨g, at_ + k, none⟩ (.int .u64 (s2 : Int))) g N (us.set (at_ + k) s2) ∧ V (us.set (at_ + k) s2) + k2 * B64 ^ (at_ + (k + 1)) = V zs + wt * V (xs.take (k + 1)) * B64 ^ at_) :=
        ⟨hlt2, ⟨hH.out.2.1.1.set _ _, Ws_set hH.out.2.1.2.1 _ _ hf2.2.1, by rw [List.length_set]; exact hH.out.2.1.2.2.1, grown_trans hH.out.2.1.2.2.2 (grown_set _ _ _ _)⟩, hrow⟩
      have Hcall := Lib.hid hcall
      clear hcall hxl hul gx gz hvB hzB htk hm1 hc he hlt2 hrow hk1 hk2 hf1 hf2 hH
      go_wp2_with (fail)
      refine (Hcall.out _).mono ?_
      rintro e w1 ⟨rfl, rfl⟩
      go_wp2_with (fail)
      go_roundw
      case rel => exact ⟨k + 1, k2, _, by omega, by go_num, rfl, HN⟩
      case measure => simp [intOf]; omega
    · have hkn : k = n := by omega
      have hni : ¬ (k : Int) < (n : Int) := by omega
      have hI := hH.out.2.2
      rw [hkn, Hx.out.1.take_all] at hI
      have H0 := Lib.hid (And.intro hH.out.1 (And.intro hH.out.2.1 hI))
      clear hH hI
      go_wp2
      go_loopw [7, 13] (fun cv iv wr => ∃ (i j cy : Nat) (us : List Nat), i ≤ m ∧ iv = .int .i64 i ∧ cv = .int .u64 cy ∧ Hid (cy < B64 ∧ j = at_ + i ∧ FA w wr g N us ∧ V us + cy * B64 ^ j = V zs + wt * V xs * B64 ^ at_)) (fun _ iv _ => m - (intOf iv).toNat)
      case atStart => exact ⟨n, at_ + n, cy, us, by omega, rfl, rfl, H0.out.1, rfl, H0.out.2.1, H0.out.2.2⟩
      case round =>
        clear H0
        obtain ⟨i, j, cy, us, hi, rfl, rfl, hH⟩ := hrel
        have hj := hH.out.2.1
        by_cases hlt2 : i < m ∧ 0 < cy
        · obtain ⟨h2, h3⟩ := hlt2
          have hul : j < us.length := by rw [hH.out.2.2.1.2.2.1]; omega
          have gz := List.getElem?_eq_getElem hul
          have hzB : us[j] < B64 := hH.out.2.2.1.2.1 _ (List.getElem_mem hul)
          generalize us[j] = z at *
          obtain ⟨s2, d2, hf2, hc2⟩ := add64_zero z cy hzB hH.out.1
          have c4 := hH.out.2.2.1.1.cell gz
          have f4 := hH.out.2.2.1.1.frozen j
          rw [hj] at c4 f4
          have him : (i : Int) < (m : Int) := by omega
          have hcy : (0 : Int) < (cy : Int) := by omega
          have HN : Hid (d2 < B64 ∧ at_ + i + 1 = at_ + (i + 1) ∧ FA w (wr.setCell ⟨g, at_ + i, none⟩ (.int .u64 (s2 : Int))) g N (us.set j s2) ∧ V (us.set j s2) + d2 * B64 ^ (at_ + i + 1) = V zs + wt * V xs * B64 ^ at_) :=
            ⟨Nat.lt_of_le_of_lt hf2.2.2 B64_one, by omega, ⟨by rw [← hj]; exact hH.out.2.2.1.1.set _ _, Ws_set hH.out.2.2.1.2.1 _ _ hf2.2.1, by rw [List.length_set]; exact hH.out.2.2.1.2.2.1, grown_trans hH.out.2.2.1.2.2.2 (grown_set _ _ _ _)⟩, by rw [← hj]; exact add_rest gz hf2.1 hH.out.2.2.2⟩
          clear hul gz hzB hf2 hH hj
          go_wp2_with (fail)
          go_roundw
          case rel => exact ⟨i + 1, at_ + i + 1, d2, _, by omega, by go_num, rfl, HN⟩
          case measure => simp [intOf]; omega
        · have HcB := Lib.hid hH.out.1
          have HE : Hid (AddC w wr g N (V zs + wt * V xs * B64 ^ at_) cy) := by
            rcases Nat.eq_zero_or_pos cy with h0 | h0
            · refine ⟨us, hH.out.2.2.1, ?_⟩
              have h4 := hH.out.2.2.2
              rw [h0, Nat.zero_mul] at h4
              rw [h0, Nat.zero_mul]
              exact h4
            · refine ⟨us, hH.out.2.2.1, ?_⟩
              have h4 := hH.out.2.2.2
              rw [show j = N by omega] at h4
              exact h4
          rcases (show m ≤ i ∨ (i < m ∧ cy = 0) by omega) with h2 | ⟨h2, h3⟩
          · have him : ¬ (i : Int) < (m : Int) := by omega
            clear hH hlt2 hj
            go_wp2
            go_ret
            exact ⟨cy, rfl, HcB.out, HE.out⟩
          · have him : (i : Int) < (m : Int) := by omega
            subst h3
            clear hH hlt2 hj
            go_wp2
            go_ret
            exact ⟨0, rfl, HcB.out, HE.out⟩

set_option maxHeartbeats 1000000 in
theorem ftake_ok (g at_ m cz : Nat) (zs : List Nat) (A : Option Addr) (n c : Nat) (xs : List Nat) (wt : Nat) (N : Nat) (w : World) (hz : RowAt w g zs) (wz : Ws zs) (hN : zs.length = N) (hm : at_ + m = N) (hN5 : N ≤ 100000) (hmc : m ≤ cz) (hcz : cz ≤ 9223372036854775807)
    (hn : n ≤ m) (hx : Sl w A n c xs) (hxg : n ≠ 0 → ∀ a, A = some a → some a.block ≠ some g) (hw : wt < B64) :
    Calls Tryz.prog 62 #[.slice (some ⟨g, at_, none⟩) m cz, .slice A n c, .int .u64 wt] w fun e w' => ∃ cy : Nat, e = .returned (.int .u64 (cy : Int)) ∧ cy < B64 ∧ SubC w w' g N (V zs) (wt * V xs * B64 ^ at_) cy := by
  have Hx := Lib.hid (And.intro hx (And.intro hxg (And.intro wz (And.intro hz (And.intro hN hw)))))
  clear hx hxg wz hz hN hw
  go_enter Tryz.func62, Tryz.ntmps62
  go_wp2
  go_loopw [7, 8, 9, 10, 11, 12, 16] (fun cv _ _ _ _ _ iv wr => ∃ (k cy : Nat) (us : List Nat), k ≤ n ∧ iv = .int .i64 k ∧ cv = .int .u64 cy ∧ Hid (cy < B64 ∧ FA w wr g N us ∧ V us + wt * V (xs.take k) * B64 ^ at_ = V zs + cy * B64 ^ (at_ + k))) (fun _ _ _ _ _ _ iv _ => n - (intOf iv).toNat)
  case atStart => exact ⟨0, 0, zs, by omega, rfl, rfl, by decide, ⟨Hx.out.2.2.2.1, Hx.out.2.2.1, Hx.out.2.2.2.2.1, World.grownBy.refl w _⟩, by simp [V]⟩
  case round =>
    obtain ⟨k, cy, us, hk, rfl, rfl, hH⟩ := hrel
    by_cases hlt : k < n
    · have hxl : k < xs.length := by rw [Hx.out.1.1]; exact hlt
      have hul : at_ + k < us.length := by rw [hH.out.2.1.2.2.1]; omega
      have gx := List.getElem?_eq_getElem hxl
      have gz := List.getElem?_eq_getElem hul
      have hvB : xs[k] < B64 := Hx.out.1.2.2.2.1 _ (List.getElem_mem hxl)
      have hzB : us[at_ + k] < B64 := hH.out.2.1.2.1 _ (List.getElem_mem hul)
      have htk := V_take_succ xs k hxl
      obtain ⟨b, o, rfl, _, hcx⟩ := (Hx.out.1.grown' hH.out.2.1.2.2.2 (Hx.out.2.1 (by omega))).2.2.2.2.at (uvs_get gx)
      generalize xs[k] = v at *
      generalize us[at_ + k] = z at *
      obtain ⟨h, l, hm1, hcall⟩ := mul64_any v wt hvB Hx.out.2.2.2.2.2
      have hc := hH.out.1
      obtain ⟨s1, d1, hf1, hc1⟩ := add64_zero l cy hm1.2.1 hc
      obtain ⟨s2, d2, hf2, hc2⟩ := sub64_zero z s1 hzB hf1.2.1
      have he := takew hm1.1 hf1.1 hf2.1
      have hlt2 := borrow_lt hvB Hx.out.2.2.2.2.2 hc hf2.2.1 he
      have hrow := take_round gz he rfl hH.out.2.2
      rw [← htk, Nat.add_assoc at_] at hrow
      obtain ⟨k1, hk1⟩ : ∃ k1, k1 = h + d1 := ⟨_, rfl⟩
      obtain ⟨k2, hk2⟩ : ∃ k2, k2 = h + d1 + d2 := ⟨_, rfl⟩
      have e1 : (h : Int) + (d1 : Int) = (k1 : Int) := by omega
      have e2 : (k1 : Int) + (d2 : Int) = (k2 : Int) := by omega
      rw [← hk2] at he hlt2 hrow
      have hw1 : IntKind.u64.wrap (k1 : Int) = (k1 : Int) := by rw [IntKind.wrap_u64]; have : B64 = 18446744073709551616 := rfl; omega
      have hw2 : IntKind.u64.wrap (k2 : Int) = (k2 : Int) := by rw [IntKind.wrap_u64]; have : B64 = 18446744073709551616 := rfl; omega
      have c4 := hH.out.2.1.1.cell gz
      have f4 := hH.out.2.1.1.frozen (at_ + k)
      have hkm : (k : Int) < (m : Int) := by omega
      have HN : Hid (k2 < B64 ∧ FA w (wr.setCell ⟨g, at_ + k, none⟩ (.int .u64 (s2 : Int))) g N (us.set (at_ + k) s2) ∧ V (us.set (at_ + k) s2) + wt * V (xs.take (k + 1)) * B64 ^ at_ = V zs + k2 * B64 ^ (at_ + (k + 1))) :=
        ⟨hlt2, ⟨hH.out.2.1.1.set _ _, Ws_set hH.out.2.1.2.1 _ _ hf2.2.1, by rw [List.length_set]; exact hH.out.2.1.2.2.1, grown_trans hH.out.2.1.2.2.2 (grown_set _ _ _ _)⟩, hrow⟩
      have Hcall := Lib.hid hcall
      clear hcall hxl hul gx gz hvB hzB htk hm1 hc he hlt2 hrow hk1 hk2 hf1 hf2 hH
      go_wp2_with (fail)
      refine (Hcall.out _).mono ?_
      rintro e w1 ⟨rfl, rfl⟩
      go_wp2_with (fail)
      go_roundw
      case rel => exact ⟨k + 1, k2, _, by omega, by go_num, rfl, HN⟩
      case measure => simp [intOf]; omega
    · have hkn : k = n := by omega
      have hni : ¬ (k : Int) < (n : Int) := by omega
      have hI := hH.out.2.2
      rw [hkn, Hx.out.1.take_all] at hI
      have H0 := Lib.hid (And.intro hH.out.1 (And.intro hH.out.2.1 hI))
      clear hH hI
      go_wp2
      go_loopw [7, 13] (fun cv iv wr => ∃ (i j cy : Nat) (us : List Nat), i ≤ m ∧ iv = .int .i64 i ∧ cv = .int .u64 cy ∧ Hid (cy < B64 ∧ j = at_ + i ∧ FA w wr g N us ∧ V us + wt * V xs * B64 ^ at_ = V zs + cy * B64 ^ j)) (fun _ iv _ => m - (intOf iv).toNat)
      case atStart => exact ⟨n, at_ + n, cy, us, by omega, rfl, rfl, H0.out.1, rfl, H0.out.2.1, H0.out.2.2⟩
      case round =>
        clear H0
        obtain ⟨i, j, cy, us, hi, rfl, rfl, hH⟩ := hrel
        have hj := hH.out.2.1
        by_cases hlt2 : i < m ∧ 0 < cy
        · obtain ⟨h2, h3⟩ := hlt2
          have hul : j < us.length := by rw [hH.out.2.2.1.2.2.1]; omega
          have gz := List.getElem?_eq_getElem hul
          have hzB : us[j] < B64 := hH.out.2.2.1.2.1 _ (List.getElem_mem hul)
          generalize us[j] = z at *
          obtain ⟨s2, d2, hf2, hc2⟩ := sub64_zero z cy hzB hH.out.1
          have c4 := hH.out.2.2.1.1.cell gz
          have f4 := hH.out.2.2.1.1.frozen j
          rw [hj] at c4 f4
          have him : (i : Int) < (m : Int) := by omega
          have hcy : (0 : Int) < (cy : Int) := by omega
          have HN : Hid (d2 < B64 ∧ at_ + i + 1 = at_ + (i + 1) ∧ FA w (wr.setCell ⟨g, at_ + i, none⟩ (.int .u64 (s2 : Int))) g N (us.set j s2) ∧ V (us.set j s2) + wt * V xs * B64 ^ at_ = V zs + d2 * B64 ^ (at_ + i + 1)) :=
            ⟨Nat.lt_of_le_of_lt hf2.2.2 B64_one, by omega, ⟨by rw [← hj]; exact hH.out.2.2.1.1.set _ _, Ws_set hH.out.2.2.1.2.1 _ _ hf2.2.1, by rw [List.length_set]; exact hH.out.2.2.1.2.2.1, grown_trans hH.out.2.2.1.2.2.2 (grown_set _ _ _ _)⟩, by rw [← hj]; exact take_rest gz hf2.1 hH.out.2.2.2⟩
          clear hul gz hzB hf2 hH hj
          go_wp2_with (fail)
          go_roundw
          case rel => exact ⟨i + 1, at_ + i + 1, d2, _, by omega, by go_num, rfl, HN⟩
          case measure => simp [intOf]; omega
        · have HcB := Lib.hid hH.out.1
          have HE : Hid (SubC w wr g N (V zs) (wt * V xs * B64 ^ at_) cy) := by
            rcases Nat.eq_zero_or_pos cy with h0 | h0
            · refine ⟨us, hH.out.2.2.1, ?_⟩
              have h4 := hH.out.2.2.2
              rw [h0, Nat.zero_mul] at h4
              rw [h0, Nat.zero_mul]
              exact h4
            · refine ⟨us, hH.out.2.2.1, ?_⟩
              have h4 := hH.out.2.2.2
              rw [show j = N by omega] at h4
              exact h4
          rcases (show m ≤ i ∨ (i < m ∧ cy = 0) by omega) with h2 | ⟨h2, h3⟩
          · have him : ¬ (i : Int) < (m : Int) := by omega
            clear hH hlt2 hj
            go_wp2
            go_ret
            exact ⟨cy, rfl, HcB.out, HE.out⟩
          · have him : (i : Int) < (m : Int) := by omega
            subst h3
            clear hH hlt2 hj
            go_wp2
            go_ret
            exact ⟨0, rfl, HcB.out, HE.out⟩

set_option maxHeartbeats 1000000 in
theorem fneg_ok (g c : Nat) (zs : List Nat) (N : Nat) (w : World) (hz : RowAt w g zs) (wz : Ws zs) (hN : zs.length = N) (hN5 : N ≤ 100000) (hNc : N ≤ c) :
    Calls Tryz.prog 63 #[.slice (some ⟨g, 0, none⟩) N c] w fun e w' => e = .returned (.tuple #[]) ∧ NegR w w' g N (V zs) := by
  have Hx := Lib.hid (And.intro hz (And.intro wz hN))
  clear hz wz hN
  go_enter Tryz.func63, Tryz.ntmps63
  go_wp2
  go_loopw [2, 3, 4, 7] (fun cv _ _ iv wr => ∃ (k cy : Nat) (us : List Nat), k ≤ N ∧ iv = .int .i64 k ∧ cv = .int .u64 cy ∧ Hid (cy ≤ 1 ∧ FA w wr g N us ∧ (∀ j, k ≤ j → us[j]? = zs[j]?) ∧ V (us.take k) + V (zs.take k) = cy * B64 ^ k)) (fun _ _ _ iv _ => N - (intOf iv).toNat)
  case atStart => exact ⟨0, 0, zs, by omega, rfl, rfl, by decide, ⟨Hx.out.1, Hx.out.2.1, Hx.out.2.2, World.grownBy.refl w _⟩, fun _ _ => rfl, by simp [V]⟩
  case round =>
    obtain ⟨k, cy, us, hk, rfl, rfl, hH⟩ := hrel
    by_cases hlt : k < N
    · have hul : k < us.length := by rw [hH.out.2.1.2.2.1]; exact hlt
      have hzl : k < zs.length := by rw [Hx.out.2.2]; exact hlt
      have gz := List.getElem?_eq_getElem hul
      have g0 := hH.out.2.2.1 k (Nat.le_refl _)
      have hzB : us[k] < B64 := hH.out.2.1.2.1 _ (List.getElem_mem hul)
      have ht0 := V_take_succ zs k hzl
      have hzk : zs[k] = us[k] := by rw [gz, List.getElem?_eq_getElem hzl] at g0; injection g0 with g0; exact g0.symm
      rw [hzk] at ht0
      generalize us[k] = z at *
      obtain ⟨s2, d2, hf2, hc2'⟩ := sub64_any 0 z cy (by decide) hzB hH.out.1
      have hc2 : ∀ w, (callFunc 92 #[.int .u64 0, .int .u64 z, .int .u64 cy]).run Tryz.prog w = .ok (.value (.tuple #[.int .u64 (s2 : Int), .int .u64 (d2 : Int)])) w := hc2'
      clear hc2'
      have c4 := hH.out.2.1.1.cell gz
      have f4 := hH.out.2.1.1.frozen k
      have him : (k : Int) < (N : Int) := by omega
      have hst : V ((us.set k s2).take (k + 1)) + V (zs.take (k + 1)) = d2 * B64 ^ (k + 1) := by
        have hl2 : k < (us.set k s2).length := by rw [List.length_set]; exact hul
        have h1 := V_take_succ (us.set k s2) k hl2
        rw [List.getElem_set_self, List.take_set_of_le (Nat.le_refl _)] at h1
        rw [h1, ht0, Nat.pow_succ]
        have h2 := hH.out.2.2.2
        have h3 := hf2.1
        generalize B64 = b at *
        generalize b ^ k = p at *
        grind
      have HN : Hid (d2 ≤ 1 ∧ FA w (wr.setCell ⟨g, k, none⟩ (.int .u64 (s2 : Int))) g N (us.set k s2) ∧ (∀ j, k + 1 ≤ j → (us.set k s2)[j]? = zs[j]?) ∧ V ((us.set k s2).take (k + 1)) + V (zs.take (k + 1)) = d2 * B64 ^ (k + 1)) :=
        ⟨hf2.2.2, ⟨hH.out.2.1.1.set _ _, Ws_set hH.out.2.1.2.1 _ _ hf2.2.1, by rw [List.length_set]; exact hH.out.2.1.2.2.1, grown_trans hH.out.2.1.2.2.2 (grown_set _ _ _ _)⟩, fun j hj => by rw [List.getElem?_set_ne (by omega)]; exact hH.out.2.2.1 j (by omega), hst⟩
      clear hul hzl gz g0 hzB ht0 hzk hf2 hst hH
      go_wp2_with (fail)
      go_roundw
      case rel => exact ⟨k + 1, d2, _, by omega, by go_num, rfl, HN⟩
      case measure => simp [intOf]; omega
    · have hkN : k = N := by omega
      have him : ¬ (k : Int) < (N : Int) := by omega
      have HE : Hid (NegR w wr g N (V zs)) := by
        have h4 := hH.out.2.2.2
        rw [hkN, List.take_of_length_le (by rw [hH.out.2.1.2.2.1]; exact Nat.le_refl _), List.take_of_length_le (by rw [Hx.out.2.2]; exact Nat.le_refl _)] at h4
        exact ⟨us, cy, hH.out.2.1, hH.out.1, h4⟩
      clear hH
      go_wp2
      refine bodyPost_end (v := .tuple #[]) (by simp [results, Tryz.results63, go_sem]) rfl ?_
      exact ⟨rfl, HE.out⟩
end Go.Proofs.YthpgdpkemnhneaaGreatDoor

namespace Go.Proofs.YthpgdpkemnhneaaGreatDoor
open Go.RowKit Go.Shelf
set_option linter.unusedVariables false
set_option maxRecDepth 10000

/-- a term: its value's sign, its words (where they lie, and what they are), its weight, its place -/
structure Tm where
  neg : Bool
  A : Option Addr
  n : Nat
  c : Nat
  xs : List Nat
  wt : Int
  pl : Nat
abbrev sgV (s : Bool) (A : Option Addr) (n c : Nat) : Value := .agg #[.bool s, .slice A n c]
abbrev tmV (t : Tm) : Value := .agg #[.bool t.neg, .slice t.A t.n t.c, .int .i64 t.wt, .int .i64 (t.pl : Int)]
/-- its four cells -/
def tcs (t : Tm) : List Value := [.bool t.neg, .slice t.A t.n t.c, .int .i64 t.wt, .int .i64 (t.pl : Int)]
def tvs (ts : List Tm) : List Value := ts.flatMap tcs
def sgn (s : Bool) (x : Nat) : Int := if s then -(x : Int) else x
/-- what it adds to the sum -/
def tval (t : Tm) : Int := sgn t.neg (V t.xs) * t.wt * ((B64 ^ t.pl : Nat) : Int)
def tsum (ts : List Tm) : Int := (ts.map tval).sum
/-- the slice holds these terms, whose words are canonical numbers -/
def Tl (w : World) (A : Option Addr) (m c : Nat) (ts : List Tm) : Prop :=
  ts.length = m ∧ m ≤ c ∧ c ≤ 9223372036854775807 ∧ Rd w w.heap.size A (tvs ts) ∧ ∀ t ∈ ts, Sl w t.A t.n t.c t.xs
theorem tcs_get (ts : List Tm) (i j : Nat) (t : Tm) (u : Value) (hi : ts[i]? = some t) (hj : (tcs t)[j]? = some u) : (tvs ts)[4 * i + j]? = some u := by
  induction ts generalizing i with
  | nil => simp at hi
  | cons a al ih =>
    have hl : (tcs a).length = 4 := rfl
    cases i with
    | zero =>
      simp at hi
      subst hi
      have hj4 : j < 4 := by
        rcases Nat.lt_or_ge j 4 with h | h
        · exact h
        · rw [List.getElem?_eq_none (by rw [hl]; exact h)] at hj; cases hj
      rw [tvs, List.flatMap_cons, Nat.mul_zero, Nat.zero_add, List.getElem?_append_left (by rw [hl]; exact hj4)]
      exact hj
    | succ i =>
      rw [List.getElem?_cons_succ] at hi
      rw [tvs, List.flatMap_cons, List.getElem?_append_right (by rw [hl]; omega), hl, show 4 * (i + 1) + j - 4 = 4 * i + j by omega]
      exact ih i hi
theorem Tl.below {w w' : World} {A : Option Addr} {m c : Nat} {ts : List Tm} (h : Tl w A m c ts) (hb : Below w.heap.size w w') : Tl w' A m c ts :=
  ⟨h.1, h.2.1, h.2.2.1, (h.2.2.2.1.below hb).more hb.size, fun t ht => (h.2.2.2.2 t ht).below hb⟩
/-- the four cells of term i -/
theorem Tl.at {w : World} {A : Option Addr} {m c : Nat} {ts : List Tm} (h : Tl w A m c ts) {i : Nat} {t : Tm} (hi : ts[i]? = some t) :
    ∃ b o, A = some ⟨b, o, none⟩ ∧ b < w.heap.size ∧ w.cell? ⟨b, o + i * 4, none⟩ = some (.bool t.neg) ∧ w.cell? ⟨b, o + i * 4 + 1, none⟩ = some (.slice t.A t.n t.c) ∧ w.cell? ⟨b, o + i * 4 + 2, none⟩ = some (.int .i64 t.wt) ∧ w.cell? ⟨b, o + i * 4 + 3, none⟩ = some (.int .i64 (t.pl : Int)) := by
  have h0 := tcs_get ts i 0 t (.bool t.neg) hi rfl
  have h1 := tcs_get ts i 1 t (.slice t.A t.n t.c) hi rfl
  have h2 := tcs_get ts i 2 t (.int .i64 t.wt) hi rfl
  have h3 := tcs_get ts i 3 t (.int .i64 (t.pl : Int)) hi rfl
  obtain ⟨b, o, e, hb, hc⟩ := h.2.2.2.1 (by intro h; rw [h] at h0; simp at h0)
  exact ⟨b, o, e, hb, by rw [show o + i * 4 = o + (4 * i + 0) by omega]; exact hc _ _ h0, by rw [show o + i * 4 + 1 = o + (4 * i + 1) by omega]; exact hc _ _ h1, by rw [show o + i * 4 + 2 = o + (4 * i + 2) by omega]; exact hc _ _ h2, by rw [show o + i * 4 + 3 = o + (4 * i + 3) by omega]; exact hc _ _ h3⟩
theorem tsum_succ (ts : List Tm) (k : Nat) (h : k < ts.length) : tsum (ts.take (k + 1)) = tsum (ts.take k) + tval ts[k] := by
  simp only [tsum]
  rw [List.take_succ_eq_append_getElem h, List.map_append, List.sum_append]
  simp
theorem sgn_abs (s : Bool) (x : Nat) : (sgn s x).natAbs = x := by cases s <;> simp [sgn]
/-- the weights, together -/
def wsum (ts : List Tm) : Nat := (ts.map fun t => t.wt.natAbs).sum
theorem tval_abs (t : Tm) {l : Nat} (hx : V t.xs < B64 ^ t.n) (h : t.pl + t.n ≤ l) : (tval t).natAbs ≤ t.wt.natAbs * B64 ^ l := by
  rw [tval, Int.natAbs_mul, Int.natAbs_mul, sgn_abs, Int.natAbs_natCast]
  have h1 : V t.xs * B64 ^ t.pl ≤ B64 ^ l := by
    refine Nat.le_trans (Nat.mul_le_mul_right _ (Nat.le_of_lt hx)) ?_
    rw [← Nat.pow_add]
    exact Nat.pow_le_pow_right B64_pos (by omega)
  rw [Nat.mul_comm (V t.xs), Nat.mul_assoc]
  exact Nat.mul_le_mul_left _ h1
theorem tsum_abs (ts : List Tm) (l : Nat) (h : ∀ t ∈ ts, V t.xs < B64 ^ t.n ∧ t.pl + t.n ≤ l) : (tsum ts).natAbs ≤ wsum ts * B64 ^ l := by
  induction ts with
  | nil => simp [tsum]
  | cons a al ih =>
    have h1 := tval_abs a (h a (by simp)).1 (h a (by simp)).2
    have h2 := ih (fun t ht => h t (by simp [ht]))
    rw [show tsum (a :: al) = tval a + tsum al by simp [tsum], show wsum (a :: al) = a.wt.natAbs + wsum al by simp [wsum], Nat.add_mul]
    exact Nat.le_trans (Int.natAbs_add_le _ _) (Nat.add_le_add h1 h2)
/-- half of what a word holds -/
def H63 : Nat := 9223372036854775808
theorem B_half : B64 = 2 * H63 := rfl
/-- the row is S, but for a multiple of what it holds -/
def ModR (us : List Nat) (N : Nat) (S : Int) : Prop := ∃ q : Int, (V us : Int) = S + q * ((B64 ^ N : Nat) : Int)
theorem ModR.add {us vs : List Nat} {N q T : Nat} {S : Int} (h : ModR us N S) (e : V vs + q * B64 ^ N = V us + T) : ModR vs N (S + T) := by
  obtain ⟨p, hp⟩ := h
  refine ⟨p - q, ?_⟩
  have e2 : (V vs : Int) + (q : Int) * ((B64 ^ N : Nat) : Int) = (V us : Int) + T := by exact_mod_cast e
  rw [Int.sub_mul]
  omega
theorem ModR.sub {us vs : List Nat} {N q T : Nat} {S : Int} (h : ModR us N S) (e : V vs + T = V us + q * B64 ^ N) : ModR vs N (S - T) := by
  obtain ⟨p, hp⟩ := h
  refine ⟨p + q, ?_⟩
  have e2 : (V vs : Int) + T = (V us : Int) + (q : Int) * ((B64 ^ N : Nat) : Int) := by exact_mod_cast e
  rw [Int.add_mul]
  omega
theorem tval_same (t : Tm) (h : t.neg = decide (t.wt < 0)) : tval t = ((t.wt.natAbs * V t.xs * B64 ^ t.pl : Nat) : Int) := by
  rw [tval, h, Int.natCast_mul, Int.natCast_mul, sgn]
  by_cases hw : t.wt < 0
  · rw [decide_eq_true hw, if_pos rfl, show ((t.wt.natAbs : Nat) : Int) = -t.wt by omega]
    generalize ((B64 ^ t.pl : Nat) : Int) = p
    grind
  · rw [decide_eq_false hw, if_neg (by decide), show ((t.wt.natAbs : Nat) : Int) = t.wt by omega, Int.mul_comm (V t.xs : Int)]
theorem tval_other (t : Tm) (h : t.neg = !decide (t.wt < 0)) : tval t = -((t.wt.natAbs * V t.xs * B64 ^ t.pl : Nat) : Int) := by
  rw [tval, h, Int.natCast_mul, Int.natCast_mul, sgn]
  by_cases hw : t.wt < 0
  · rw [decide_eq_true hw, if_neg (by decide), show ((t.wt.natAbs : Nat) : Int) = -t.wt by omega, Int.neg_mul, Int.neg_mul, Int.neg_neg, Int.mul_comm (V t.xs : Int)]
  · rw [decide_eq_false hw, if_pos (by decide), show ((t.wt.natAbs : Nat) : Int) = t.wt by omega, Int.neg_mul, Int.neg_mul, Int.mul_comm (V t.xs : Int)]
/-- what the highest word tells -/
theorem sum_top {us : List Nat} {l t : Nat} {S : Int} {W : Nat} (hu : Ws us) (hl : us.length = l + 1) (ht : us[l]? = some t) (hM : ModR us (l + 1) S) (hS : S.natAbs ≤ W * B64 ^ l) (hW : W < H63) :
    (t < H63 → S = V us) ∧ (H63 ≤ t → S = (V us : Int) - ((B64 ^ (l + 1) : Nat) : Int) ∧ 0 < V us) := by
  obtain ⟨q, hq⟩ := hM
  have hk : l < us.length := by omega
  have h1 := V_take_succ us l hk
  rw [List.take_of_length_le (by omega)] at h1
  rw [List.getElem?_eq_getElem hk] at ht
  injection ht with ht
  rw [ht] at h1
  have h2 := V_lt _ (Ws_take hu l)
  rw [List.length_take, Nat.min_eq_left (by omega)] at h2
  have h3 := V_lt _ hu
  rw [hl] at h3
  have hP : 0 < B64 ^ l := Nat.pow_pos B64_pos
  have h4 : B64 ^ (l + 1) = 2 * (H63 * B64 ^ l) := by rw [Nat.pow_succ, Nat.mul_comm, B_half, Nat.mul_assoc]
  have h5 : W * B64 ^ l < H63 * B64 ^ l := Nat.mul_lt_mul_of_pos_right hW hP
  obtain ⟨M, hM⟩ : ∃ M, M = H63 * B64 ^ l := ⟨_, rfl⟩
  have h6 := top_half (lo := V (us.take l)) (t := t) (H := H63) h2 hM
  rw [← h1] at h6
  rw [← hM] at h4 h5
  rw [h4] at h3 hq ⊢
  have h7 := sum_end (M := M) (x := V us) (S := S) (q := q) h3 (by rw [hq]; simp) (by omega) (by omega)
  exact ⟨fun h => h7.1 (h6.2 h), fun h => by
    have h9 : M ≤ V us := by
      rcases Nat.lt_or_ge (V us) M with h8 | h8
      · exact absurd (h6.1 h8) (by omega)
      · exact h8
    refine ⟨?_, by omega⟩
    rw [h7.2 h9]
    simp⟩
theorem row_own {w : World} {base g n : Nat} {zs : List Nat} (h : w.ownsRow base 44 1 (.slice (some ⟨g, 0, none⟩) n n) n (uvs zs)) : RowAt w g zs := by
  rcases h.2 with ⟨hv, h0⟩ | ⟨g', cap, cur, hv, _, hh, _, _, hcs, ht⟩
  · injection hv with hv
    cases hv
  · injection hv with h1 h2 h3
    injection h1 with h1
    injection h1 with h1
    subst h1
    subst h3
    rw [Nat.mul_one] at hcs ht
    rw [List.take_of_length_le (by simp; omega)] at ht
    unfold RowAt
    rw [hh, ← ht]
theorem Sl.alloc_ {w : World} {A : Option Addr} {n c : Nat} {xs : List Nat} (h : Sl w A n c xs) (o : Obj) : Sl (w.alloc o) A n c xs := h.below ((Below.refl _ w).alloc (Nat.le_refl _) o)
theorem AddR.gr {w W : World} {g N X : Nat} (h : AddR w W g N X) : w.grownBy W (some g) := by obtain ⟨_, _, h1, _⟩ := h; exact h1.2.2.2
theorem SubR.gr {w W : World} {g N X Y : Nat} (h : SubR w W g N X Y) : w.grownBy W (some g) := by obtain ⟨_, _, h1, _⟩ := h; exact h1.2.2.2
theorem cell_grown {w W : World} {r : Option Nat} {p : Addr} {u : Value} (h : w.grownBy W r) (hp : some p.block ≠ r) (hc : w.cell? p = some u) : W.cell? p = some u := h.cell hc hp
theorem new_at1 (w : World) (a b c d : Value) (t : TypeId) : (w.alloc (.cells #[a, b, c, d] t)).cell? ⟨w.heap.size, 1, none⟩ = some b := by simp
theorem new_at3 (w : World) (a b c d : Value) (t : TypeId) : (w.alloc (.cells #[a, b, c, d] t)).cell? ⟨w.heap.size, 3, none⟩ = some d := by simp
/-- between two rounds of the sum: the row is the sum of the terms so far -/
def SumI (w2 W : World) (g N : Nat) (us : List Nat) (S : Int) : Prop := FA w2 W g N us ∧ ModR us N S
theorem SumI.added {w2 wr w3 : World} {g N : Nat} {us : List Nat} {S : Int} {t : Tm} {o : Obj} (h : FA w2 wr g N us) (hm : ModR us N S) (ht : t.neg = decide (t.wt < 0)) (hA : AddR (wr.alloc o) w3 g N (V us + t.wt.natAbs * V t.xs * B64 ^ t.pl)) : ∃ vs, SumI w2 w3 g N vs (S + tval t) := by
  obtain ⟨vs, q, h1, h2⟩ := hA
  exact ⟨vs, ⟨h1.1, h1.2.1, h1.2.2.1, grown_trans (grown_trans h.2.2.2 (World.grownBy_alloc wr o (some g))) h1.2.2.2⟩, by rw [tval_same t ht]; exact hm.add h2⟩
theorem SumI.taken {w2 wr w3 : World} {g N : Nat} {us : List Nat} {S : Int} {t : Tm} {o : Obj} (h : FA w2 wr g N us) (hm : ModR us N S) (ht : t.neg = !decide (t.wt < 0)) (hA : SubR (wr.alloc o) w3 g N (V us) (t.wt.natAbs * V t.xs * B64 ^ t.pl)) : ∃ vs, SumI w2 w3 g N vs (S + tval t) := by
  obtain ⟨vs, q, h1, h2⟩ := hA
  exact ⟨vs, ⟨h1.1, h1.2.1, h1.2.2.1, grown_trans (grown_trans h.2.2.2 (World.grownBy_alloc wr o (some g))) h1.2.2.2⟩, by rw [tval_other t ht, ← Int.sub_eq_add_neg]; exact hm.sub h2⟩
/-- a signed number that is new, and what it is -/
def Sg (w W : World) (s : Bool) (A : Option Addr) (n c : Nat) (zs : List Nat) (S : Int) : Prop := Nw w W (.slice A n c) n zs ∧ Cn zs ∧ S = sgn s (V zs) ∧ (s = true → V zs ≠ 0)
/-- what sum answers -/
def SumR (w w' : World) (e : Ending) (S : Int) : Prop := ∃ s A n c zs, e = .returned (.agg #[.bool s, .slice A n c]) ∧ Sg w w' s A n c zs S ∧ Below w.heap.size w w'
end Go.Proofs.YthpgdpkemnhneaaGreatDoor

namespace Go.Proofs.YthpgdpkemnhneaaGreatDoor
open Go.RowKit Go.Shelf
set_option linter.unusedVariables false
set_option maxRecDepth 10000

theorem field_words (s : Bool) (A : Option Addr) (n c : Nat) (w : World) : (Instr.field 59 (.agg #[.bool s, .slice A n c]) 1).run Tryz.prog w = .ok (.slice A n c) w := by kernel_rfl
theorem field_sign (s : Bool) (A : Option Addr) (n c : Nat) (w : World) : (Instr.field 59 (.agg #[.bool s, .slice A n c]) 0).run Tryz.prog w = .ok (.agg #[.bool s]) w := by kernel_rfl
theorem natural_ok (A : Option Addr) (n c : Nat) (w : World) :
    Calls Tryz.prog 60 #[.slice A n c] w fun e w' => e = .returned (.agg #[.bool false, .slice A n c]) ∧ Below w.heap.size w w' := by
  go_enter Tryz.func60, Tryz.ntmps60
  go_wp2
  exact bodyPost_ret (v := sgV false A n c) (by simp [results, Tryz.results60, go_sem]) rfl ⟨rfl, (Below.refl _ _).alloc (Nat.le_refl _) _⟩
/-- block r holds the values vs, and may be written -/
def Bk (W : World) (r : Nat) (vs : List Value) : Prop := ∀ j v, vs[j]? = some v → W.cell? ⟨r, j, none⟩ = some v ∧ W.frozen? ⟨r, j, none⟩ = false
theorem Bk.below {W W' : World} {r B : Nat} {vs : List Value} (h : Bk W r vs) (hb : Below B W W') (hr : r < B) : Bk W' r vs := fun j v hj =>
  ⟨(hb.cell (p := ⟨r, j, none⟩) hr).trans (h j v hj).1, (hb.frozen (p := ⟨r, j, none⟩) hr).trans (h j v hj).2⟩
theorem Bk.new (w : World) (vs : List Value) (t : TypeId) : Bk (w.alloc (.cells vs.toArray t)) w.heap.size vs := fun j v hj => by
  refine ⟨?_, by simp⟩
  have h := World.news_of_block (cs := vs.toArray) (t := t) (fr := (0, 0)) (heap_alloc_new w (.cells vs.toArray t)) j v (by simpa using hj)
  rwa [Addr.add_lit, Nat.zero_add] at h
theorem placed_ok (A : Option Addr) (n c : Nat) (p : Int) (w : World) :
    Calls Tryz.prog 25 #[.slice A n c, .int .i64 p] w fun e w' => e = .returned (.agg #[.bool false, .slice A n c, .int .i64 1, .int .i64 p]) ∧ Below w.heap.size w w' := by
  go_enter Tryz.func25, Tryz.ntmps25
  go_wp2_with (fail)
  refine (natural_ok A n c _).mono ?_
  rintro e w1 ⟨rfl, hb⟩
  have hk := (Bk.new w [.bool false, .slice none 0 0, .int .i64 0, .int .i64 0] 61).below hb (by simp)
  obtain ⟨p0, f0⟩ := hk 0 _ rfl
  obtain ⟨p1, f1⟩ := hk 1 _ rfl
  obtain ⟨p2, f2⟩ := hk 2 _ rfl
  obtain ⟨p3, f3⟩ := hk 3 _ rfl
  have HB := Lib.hid (show Below w.heap.size w w1 from ((Below.refl _ w).alloc (Nat.le_refl _) _).trans (hb.mono (by simp)))
  clear hb hk
  go_wp2_with (fail)
  exact bodyPost_ret (v := .agg #[.bool false, .slice A n c, .int .i64 1, .int .i64 p]) (by simp [results, Tryz.results25, go_sem, World.cell?_setCell_same', p0, p1, p2, p3]) rfl ⟨rfl, ((((HB.out.setCell (p := ⟨w.heap.size, 0, none⟩) (Nat.le_refl _) _).setCell (p := ⟨w.heap.size, 1, none⟩) (Nat.le_refl _) _).setCell (p := ⟨w.heap.size, 2, none⟩) (Nat.le_refl _) _).setCell (p := ⟨w.heap.size, 3, none⟩) (Nat.le_refl _) _)⟩
end Go.Proofs.YthpgdpkemnhneaaGreatDoor

namespace Go.Proofs.YthpgdpkemnhneaaGreatDoor
open Go.RowKit Go.Shelf
set_option linter.unusedVariables false
set_option maxRecDepth 10000

/-- the error of numbers, and of a least -/
def chkL (least : Int) (ls : List (Option Addr × Nat × Nat)) : Int := if chkS ls = 0 then (if least < 3 ∨ 64 < least then 1 else 0) else chkS ls
theorem chkS_two_or (ls : List (Option Addr × Nat × Nat)) : chkS ls = 0 ∨ chkS ls = 2 := by unfold chkS; split <;> simp
set_option maxHeartbeats 400000 in
theorem checkLeast_any (least : Int) (ls : List (Option Addr × Nat × Nat)) (A : Option Addr) (m c : Nat) (w : World) (hl : ls.length = m) (hm : m ≤ 100000) (hr : Rd w w.heap.size A (svs ls)) :
    Calls Tryz.prog 36 #[.int .i64 least, .slice A m c] w fun e w' => e = .returned (.int .i64 (chkL least ls)) ∧ w = w' := by
  have Hr := Lib.hid (And.intro hl hr)
  clear hl hr
  rcases chkS_two_or ls with h0 | h2
  · have H0 := Lib.hid h0
    by_cases h3 : least < 3
    · have HC := Lib.hid (show chkL least ls = 1 by rw [chkL, if_pos h0, if_pos (by omega)])
      clear h0
      go_enter Tryz.func36, Tryz.ntmps36
      go_wp2_with (fail)
      refine (fcheck_any ls A m c w Hr.out.1 hm Hr.out.2).mono ?_
      rintro e w1 ⟨rfl, rfl⟩
      rw [H0.out]
      go_wp2_with (fail)
      go_ret
      rw [HC.out]
      exact ⟨rfl, rfl⟩
    · by_cases h4 : least > 64
      · have HC := Lib.hid (show chkL least ls = 1 by rw [chkL, if_pos h0, if_pos (by omega)])
        clear h0
        go_enter Tryz.func36, Tryz.ntmps36
        go_wp2_with (fail)
        refine (fcheck_any ls A m c w Hr.out.1 hm Hr.out.2).mono ?_
        rintro e w1 ⟨rfl, rfl⟩
        rw [H0.out]
        go_wp2_with (fail)
        go_ret
        rw [HC.out]
        exact ⟨rfl, rfl⟩
      · have HC := Lib.hid (show chkL least ls = 0 by rw [chkL, if_pos h0, if_neg (by omega)])
        clear h0
        go_enter Tryz.func36, Tryz.ntmps36
        go_wp2_with (fail)
        refine (fcheck_any ls A m c w Hr.out.1 hm Hr.out.2).mono ?_
        rintro e w1 ⟨rfl, rfl⟩
        rw [H0.out]
        go_wp2_with (fail)
        go_ret
        rw [HC.out]
        exact ⟨rfl, rfl⟩
  · have H0 := Lib.hid h2
    have HC := Lib.hid (show chkL least ls = 2 by rw [chkL, h2]; rfl)
    clear h2
    go_enter Tryz.func36, Tryz.ntmps36
    go_wp2_with (fail)
    refine (fcheck_any ls A m c w Hr.out.1 hm Hr.out.2).mono ?_
    rintro e w1 ⟨rfl, rfl⟩
    rw [H0.out]
    go_wp2_with (fail)
    go_ret
    rw [HC.out]
    exact ⟨rfl, rfl⟩
theorem checkLeast_two (least : Int) (A A' : Option Addr) (n n' c c' : Nat) (t : TypeId) (b : Nat) (w : World) (hb : b = w.heap.size) :
    Calls Tryz.prog 36 #[.int .i64 least, .slice (some ⟨b, 0, none⟩) 2 2] (w.alloc (.cells #[.slice A n c, .slice A' n' c'] t)) fun e w' => e = .returned (.int .i64 (chkL least [(A, n, c), (A', n', c')])) ∧ Below w.heap.size w w' := by
  subst hb
  refine (checkLeast_any least [(A, n, c), (A', n', c')] _ 2 2 _ rfl (by omega) (fun _ => ⟨w.heap.size, 0, rfl, by simp, fun j u hj => ?_⟩)).mono (by rintro e w' ⟨rfl, rfl⟩; exact ⟨rfl, (Below.refl _ _).alloc (Nat.le_refl _) _⟩)
  match j, hj with
  | 0, hj => simp [svs] at hj; subst hj; simp
  | 1, hj => simp [svs] at hj; subst hj; simp
theorem checkLeast_one (least : Int) (A : Option Addr) (n c : Nat) (t : TypeId) (b : Nat) (w : World) (hb : b = w.heap.size) :
    Calls Tryz.prog 36 #[.int .i64 least, .slice (some ⟨b, 0, none⟩) 1 1] (w.alloc (.cells #[.slice A n c] t)) fun e w' => e = .returned (.int .i64 (chkL least [(A, n, c)])) ∧ Below w.heap.size w w' := by
  subst hb
  refine (checkLeast_any least [(A, n, c)] _ 1 1 _ rfl (by omega) (fun _ => ⟨w.heap.size, 0, rfl, by simp, fun j u hj => ?_⟩)).mono (by rintro e w' ⟨rfl, rfl⟩; exact ⟨rfl, (Below.refl _ _).alloc (Nat.le_refl _) _⟩)
  match j, hj with
  | 0, hj => simp [svs] at hj; subst hj; simp
end Go.Proofs.YthpgdpkemnhneaaGreatDoor

namespace Go.Proofs.YthpgdpkemnhneaaGreatDoor
open Go.RowKit
set_option linter.unusedVariables false

section
variable {P : Program} {ops : Array Oper} {Q : Exit → Act → World → Prop} {md : Region.Mode} {S : World → Prop} {z : Nat}

/-- Whatever order is picked from here on, and S holds behind every operation that is carried out ahead of z. -/
def wpAnyM (P : Program) (md : Region.Mode) (ops : Array Oper) (Q : Exit → Act → World → Prop) (S : World → Prop) (z : Nat) : Nat → Array Bool → Act → World → Prop
  | 0, listed, a, w => Region.ready md ops listed = [] ∧ Q .normal a w
  | fuel + 1, listed, a, w =>
    (Region.ready md ops listed = [] → Q .normal a w) ∧
    ∀ i ∈ Region.ready md ops listed, wpOp P ops Q i (fun a' w' => ((listed.setIfInBounds i true).getD z true = false → S w') ∧ wpAnyM P md ops Q S z fuel (listed.setIfInBounds i true) a' w') a w

theorem wpAny_of_M : ∀ (fuel : Nat) (listed : Array Bool) (a : Act) (w : World), wpAnyM P md ops Q S z fuel listed a w → wpAny P md ops Q fuel listed a w
  | 0, _, _, _, h => h
  | fuel + 1, _, _, _, h => ⟨h.1, fun i hi => wpOp_mono (fun a' w' h' => wpAny_of_M fuel _ a' w' h'.2) (h.2 i hi)⟩

theorem wpAnyM_first {i : Nat} {oi oz : Oper} {v : Value} (hi : ops[i]? = some oi) (hz : ops[z]? = some oz) (hdep : ∃ e ∈ oz.after, Region.binds md e = true ∧ e.on = i) (hzi : z ≠ i)
    (hsel : ∀ (j : Nat) (o : Oper) cs b, ops[j]? = some o → o.op ≠ .select cs b) (hQ : ∀ c a w, Q (.panic c) (a.put oi.dst v) w → Q (.panic c) a w) :
    ∀ (fuel : Nat) (listed : Array Bool) (a : Act) (w : World),
      (∀ j oj, ops[j]? = some oj → j ≠ i → listed.getD j true = false → (∀ e ∈ oj.after, Region.binds md e = true → e.on ≠ i) → oi.apart ops oj = true) →
      i ∈ Region.ready md ops listed → listed.getD z true = false → YieldsIf P ops S oi v a → S w →
      wpAnyM P md ops Q S z fuel (listed.setIfInBounds i true) (a.put oi.dst v) w → wpAnyM P md ops Q S z (fuel + 1) listed a w := by
  intro fuel
  induction fuel with
  | zero =>
    intro listed a w _ hr hlz hy hS H
    refine ⟨fun h => (by rw [h] at hr; cases hr), fun j hj => ?_⟩
    by_cases hji : j = i
    · subst hji; exact hy.wpOp hi hS ⟨fun _ => hS, H⟩
    · have := ready_mono hj hji
      rw [H.1] at this
      cases this
  | succ fuel ih =>
    intro listed a w hfree hr hlz hy hS H
    refine ⟨fun h => (by rw [h] at hr; cases hr), fun j hj => ?_⟩
    by_cases hji : j = i
    · subst hji; exact hy.wpOp hi hS ⟨fun _ => hS, H⟩
    · have h1 := H.2 j (ready_mono hj hji)
      obtain ⟨hjun, oj, hoj, hall⟩ := mem_ready.1 hj
      have hnot : ∀ e ∈ oj.after, Region.binds md e = true → e.on ≠ i := fun e he hb heq => by
        have h1 := hall e he hb
        have h0 := (mem_ready.1 hr).1
        rw [heq] at h1
        rcases Nat.lt_or_ge i listed.size with h' | h'
        · simp [h'] at h0 h1; rw [h0] at h1; cases h1
        · simp [Array.getElem?_eq_none h'] at h1
      have hjz : j ≠ z := fun e => by
        subst e
        rw [hz] at hoj
        cases hoj
        obtain ⟨e', he', hb', ho'⟩ := hdep
        exact hnot e' he' hb' ho'
      have h2 := wpOp_putIf hoj (hfree j oj hoj hji hjun hnot) (fun cs b => hsel i oi cs b hi) (fun cs b => hsel j oj cs b hoj) hQ hy h1
      have hfree' : ∀ k ok, ops[k]? = some ok → k ≠ i → (listed.setIfInBounds j true).getD k true = false →
          (∀ e ∈ ok.after, Region.binds md e = true → e.on ≠ i) → oi.apart ops ok = true := fun k ok hk hki hun hno => by
        refine hfree k ok hk hki ?_ hno
        by_cases hjk : j = k
        · subst hjk; exact hjun
        · rw [getD_set_ne true hjk] at hun; exact hun
      have hlz2 : (listed.setIfInBounds j true).getD z true = false := by rw [getD_set_ne true hjz]; exact hlz
      have hlz3 : ((listed.setIfInBounds i true).setIfInBounds j true).getD z true = false := by rw [getD_set_ne true hjz, getD_set_ne true (Ne.symm hzi)]; exact hlz
      refine wpOp_mono (fun a' w' h3 => ⟨fun hz' => h3.2.1 hlz3, ih (listed.setIfInBounds j true) a' w' hfree' (ready_mono hr (Ne.symm hji)) hlz2 h3.1 (h3.2.1 hlz3) ?_⟩) h2
      rw [Array.setIfInBounds_comm _ _ hji]
      exact h3.2.2

/-- Take number i first. -/
theorem wpAnyM_take {i : Nat} {oi oz : Oper} {v : Value} {fuel : Nat} {listed : Array Bool} {a : Act} {w : World} (hi : ops[i]? = some oi) (hz : ops[z]? = some oz)
    (hdep : (oz.after.toList.any fun e => Region.binds md e && (e.on == i)) = true) (hzi : (z == i) = false)
    (hs : Region.noSelect ops = true) (hf : Region.free md ops listed i = true) (hr : (Region.ready md ops listed).contains i = true) (hlz : listed.getD z true = false)
    (hQ : ∀ c a w, Q (.panic c) (a.put oi.dst v) w → Q (.panic c) a w) (hS : S w) (hy : YieldsIf P ops S oi v a)
    (h : wpAnyM P md ops Q S z fuel (listed.setIfInBounds i true) (a.put oi.dst v) w) : wpAnyM P md ops Q S z (fuel + 1) listed a w := by
  obtain ⟨e, he, h1⟩ := List.any_eq_true.1 hdep
  rw [Bool.and_eq_true] at h1
  exact wpAnyM_first hi hz ⟨e, by simpa using he, h1.1, by simpa using h1.2⟩ (by simpa using hzi) (Region.noSelect_spec hs) hQ fuel listed a w (Region.free_spec hi hf) (by simpa using hr) hlz hy hS h

/-- One alone may come up. -/
theorem wpAnyM_one {i : Nat} {o : Oper} {fuel : Nat} {listed : Array Bool} {a : Act} {w : World} (ho : ops[i]? = some o) (hr : Region.ready md ops listed = [i])
    (h : ∀ K' : Act → World → Prop, Shut (∀ a w, ((listed.setIfInBounds i true).getD z true = false → S w) → wpAnyM P md ops Q S z fuel (listed.setIfInBounds i true) a w → K' a w) → if Region.wanted o (yielded ops a.tmps) = true then Oper.wp P o a w K' Q else K' (a.put o.dst undef) w) :
    wpAnyM P md ops Q S z (fuel + 1) listed a w := by
  refine ⟨fun h0 => (by rw [hr] at h0; cases h0), fun j hj => ?_⟩
  rw [hr, List.mem_singleton] at hj
  subst hj
  exact wpOp_step ho (fun K' hK => h K' (fun a w hS hW => hK a w ⟨hS, hW⟩))
/-- whichever may come up -/
theorem wpAnyM_ready {fuel : Nat} {listed : Array Bool} {a : Act} {w : World} (rs : List Nat) (hr : Region.ready md ops listed = rs) (hne : rs ≠ [])
    (h : ∀ i ∈ rs, ∃ o, ops[i]? = some o ∧ ∀ K' : Act → World → Prop, Shut (∀ a w, ((listed.setIfInBounds i true).getD z true = false → S w) → wpAnyM P md ops Q S z fuel (listed.setIfInBounds i true) a w → K' a w) → if Region.wanted o (yielded ops a.tmps) = true then Oper.wp P o a w K' Q else K' (a.put o.dst undef) w) :
    wpAnyM P md ops Q S z (fuel + 1) listed a w := by
  refine ⟨fun h0 => absurd (hr.symm.trans h0) hne, fun j hj => ?_⟩
  rw [hr] at hj
  obtain ⟨o, ho, h2⟩ := h j hj
  exact wpOp_step ho (fun K' hK => h2 K' (fun a w hS hW => hK a w ⟨hS, hW⟩))
theorem wpAnyM_done {listed : Array Bool} {a : Act} {w : World} (hr : Region.ready md ops listed = []) (h : Q .normal a w) :
    ∀ fuel, wpAnyM P md ops Q S z fuel listed a w
  | 0 => ⟨hr, h⟩
  | _ + 1 => ⟨fun _ => h, by rw [hr]; simp⟩
theorem wp_region_M {id : Nat} {a : Act} {w : World} (z : Nat) (S : World → Prop) (hm : P.follows .mixedOrders = true)
    (h : wpAnyM P .any ops Q S z ops.size (Array.replicate ops.size false) a w.drew) : (Code.region id ops true).wp P Q a w :=
  wp_region_any hm (wpAny_of_M _ _ _ _ h)
end
end Go.Proofs.YthpgdpkemnhneaaGreatDoor

namespace Go.Proofs.YthpgdpkemnhneaaGreatDoor
open Go.RowKit
set_option linter.unusedVariables false
variable {P : Program} {ops : Array Oper} {Q : Exit → Act → World → Prop}

/-- no operation defers a call -/
def deferless (ops : Array Oper) : Bool := ops.toList.all fun o => match o.op with | .defer _ => false | _ => true
theorem deferless_at {i : Nat} {o : Oper} (h : deferless ops = true) (ho : ops[i]? = some o) : ∀ c, o.op ≠ .defer c := fun c e => by
  have h1 := List.all_eq_true.1 h o (by rw [← Array.getElem?_toList] at ho; exact List.mem_of_getElem? ho)
  rw [e] at h1
  cases h1
theorem wpOpIn_of {l n i : Nat} {K : Act → World → Prop} {a : Act} {w : World} (hnd : deferless ops = true) (hlo : ¬ LetsOut Q) (h : wpOp P ops Q i K a w) :
    wpOpIn (Fence.wide.inRound l) n P ops Q i K a w := by
  unfold wpOp at h
  unfold wpOpIn
  cases ho : ops[i]? with
  | none => rw [ho] at h; exact h
  | some o =>
    rw [ho] at h
    simp only at h ⊢
    split at h
    · rename_i hw
      rw [if_pos hw]
      rcases h with h | h
      · refine ⟨fun _ _ => trivial, ?_⟩
        rw [Fence.inRound_round, Oper.semAt_some _ _ _ (deferless_at hnd ho)]
        unfold Oper.wp at h
        generalize (execOp a.eval o).run P w = r at *
        cases r with
        | ok nx w' =>
          cases nx with
          | enter f args => exact ⟨(fun hd => nomatch hd), (callsIn_wide (n := n - 1)).2 h⟩
          | row r args => exact ⟨(fun hd => nomatch hd), fun c cs _ => let ⟨v, w', r, s⟩ := h c cs; ⟨v, w', r, stepsIn_wide.2 s⟩⟩
          | value v => exact h
          | skip => exact h
          | defer d => exact h
          | _ => exact h.elim
        | halt hl w' =>
          cases hl with
          | panic v => exact h
          | _ => exact h.elim
      · exact absurd h.2 hlo
    · rename_i hw
      rw [if_neg hw]
      exact ⟨fun _ _ => trivial, h⟩
theorem wpAnyIn_of {l n : Nat} {md : Region.Mode} (hnd : deferless ops = true) (hlo : ¬ LetsOut Q) : ∀ (fuel : Nat) (listed : Array Bool) (a : Act) (w : World), wpAny P md ops Q fuel listed a w →
    wpAnyIn (Fence.wide.inRound l) n P md ops Q fuel listed a w
  | 0, _, _, _, h => h
  | fuel + 1, listed, a, w, h => ⟨h.1, fun i hi => wpOpIn_of hnd hlo (wpOp_mono (fun a' w' h' => wpAnyIn_of hnd hlo fuel _ a' w' h') (h.2 i hi))⟩
/-- the region in the body of a round -/
theorem wpIn_region_round {l n id : Nat} {a : Act} {w : World} (hm : P.follows .mixedOrders = true) (hnd : deferless ops = true) (hlo : ¬ LetsOut Q)
    (h : wpAny P .any ops Q ops.size (Array.replicate ops.size false) a w.drew) : (Code.region id ops true).wpIn (Fence.wide.inRound l) n P Q a w :=
  wpIn_region_any hm (wpAnyIn_of hnd hlo _ _ _ _ h)
theorem wpIn_region_M {l n id : Nat} {a : Act} {w : World} (z : Nat) (S : World → Prop) (hm : P.follows .mixedOrders = true) (hnd : deferless ops = true) (hlo : ¬ LetsOut Q)
    (h : wpAnyM P .any ops Q S z ops.size (Array.replicate ops.size false) a w.drew) : (Code.region id ops true).wpIn (Fence.wide.inRound l) n P Q a w :=
  wpIn_region_round hm hnd hlo (wpAny_of_M _ _ _ _ h)
end Go.Proofs.YthpgdpkemnhneaaGreatDoor
