/- The values of rows of words: plain arithmetic. -/
import Derived.Test.YtekikolhnfofeaaWord
namespace Go.Proofs.Ytekikolhnfofeaa
open Go.RowKit
set_option linter.unusedVariables false

/-- the value of a row -/
def V : List Nat → Nat
  | [] => 0
  | x :: xs => x + B64 * V xs
/-- all are words -/
def Ws (xs : List Nat) : Prop := ∀ x ∈ xs, x < B64

theorem V_snoc (xs : List Nat) (x : Nat) : V (xs ++ [x]) = V xs + x * B64 ^ xs.length := by
  induction xs with
  | nil => simp [V]
  | cons y ys ih =>
    rw [List.cons_append, V, ih, List.length_cons, Nat.pow_succ, V]
    generalize B64 = b
    grind
theorem V_take_succ (xs : List Nat) (k : Nat) (h : k < xs.length) : V (xs.take (k + 1)) = V (xs.take k) + xs[k] * B64 ^ k := by
  rw [List.take_succ_eq_append_getElem h, V_snoc, List.length_take, Nat.min_eq_left (by omega)]
theorem vlt (b y v p : Nat) (h1 : y < b) (h2 : v < p) : y + b * v < p * b := by
  have h3 : b * (v + 1) ≤ b * p := Nat.mul_le_mul_left _ h2
  rw [Nat.mul_succ] at h3
  rw [Nat.mul_comm p]
  omega
theorem V_lt (xs : List Nat) (h : Ws xs) : V xs < B64 ^ xs.length := by
  induction xs with
  | nil => simp [V]
  | cons y ys ih =>
    have h1 : y < B64 := h y (by simp)
    have h2 : V ys < B64 ^ ys.length := ih fun x hx => h x (by simp [hx])
    rw [List.length_cons, Nat.pow_succ]
    exact vlt _ _ _ _ h1 h2
theorem digit_inj (b x y p q : Nat) (hx : x < b) (hy : y < b) (h : x + b * p = y + b * q) : x = y ∧ p = q := by
  have hm : x = y := by
    have := congrArg (· % b) h
    simpa [Nat.mod_eq_of_lt hx, Nat.mod_eq_of_lt hy] using this
  subst hm
  exact ⟨rfl, Nat.eq_of_mul_eq_mul_left (show 0 < b by omega) (by omega)⟩
theorem V_inj : ∀ (xs ys : List Nat), Ws xs → Ws ys → xs.length = ys.length → V xs = V ys → xs = ys
  | [], [], _, _, _, _ => rfl
  | [], _ :: _, _, _, h, _ => by simp at h
  | _ :: _, [], _, _, h, _ => by simp at h
  | x :: xs, y :: ys, hx, hy, hl, hv => by
    obtain ⟨h1, h2⟩ := digit_inj B64 x y (V xs) (V ys) (hx x (List.mem_cons_self ..)) (hy y (List.mem_cons_self ..)) hv
    rw [h1, V_inj xs ys (fun z hz => hx z (List.mem_cons_of_mem _ hz)) (fun z hz => hy z (List.mem_cons_of_mem _ hz)) (Nat.succ.inj hl) h2]
theorem Ws_snoc {xs : List Nat} {x : Nat} (h : Ws xs) (hx : x < B64) : Ws (xs ++ [x]) := by
  intro z hz
  rcases List.mem_append.1 hz with h1 | h1
  · exact h z h1
  · rw [List.mem_singleton] at h1; subst h1; exact hx
theorem Ws_nil : Ws [] := fun _ h => by cases h

/-- one step of a sum -/
theorem step_add {z k x y c s d a b e : Nat} (h : x + y + c = s + d * B64) (i : z + c * B64 ^ k = a + b + e) : z + s * B64 ^ k + d * B64 ^ (k + 1) = a + x * B64 ^ k + (b + y * B64 ^ k) + e := by
  rw [Nat.pow_succ]
  generalize B64 = b at *
  grind
/-- one step of a difference -/
theorem step_sub {z k x y c s d a b e : Nat} (h : x + d * B64 = s + y + c) (i : a + c * B64 ^ k = z + b + e) : a + x * B64 ^ k + d * B64 ^ (k + 1) = z + s * B64 ^ k + (b + y * B64 ^ k) + e := by
  rw [Nat.pow_succ]
  generalize B64 = b at *
  grind
/-- one step of a product -/
theorem step_mul {z k x w c s d a e : Nat} (h : x * w + c = d * B64 + s) (i : z + c * B64 ^ k = a * w + e) : z + s * B64 ^ k + d * B64 ^ (k + 1) = (a + x * B64 ^ k) * w + e := by
  rw [Nat.pow_succ]
  generalize B64 = b at *
  grind
/-- one step of a product that is added -/
theorem step_addmul {z k x w y c s d a e : Nat} (h : x * w + y + c = d * B64 + s) (i : z + c * B64 ^ k = e + a * w) : z + s * B64 ^ k + d * B64 ^ (k + 1) = (e + y * B64 ^ k) + (a + x * B64 ^ k) * w := by
  rw [Nat.pow_succ]
  generalize B64 = b at *
  grind
/-- one step of a product that is taken away -/
theorem step_submul {z k x w y c s d a e : Nat} (h : y + d * B64 = s + (x * w + c)) (i : e + c * B64 ^ k = z + a * w) : (e + y * B64 ^ k) + d * B64 ^ (k + 1) = (z + s * B64 ^ k) + (a + x * B64 ^ k) * w := by
  rw [Nat.pow_succ]
  generalize B64 = b at *
  grind

/-- The slice (A, n, c) holds the row xs. -/
def Sl (w : World) (A : Option Addr) (n c : Nat) (xs : List Nat) : Prop := xs.length = n ∧ n ≤ c ∧ c ≤ 9223372036854775807 ∧ Ws xs ∧ Rd w w.heap.size A (uvs xs)
/-- The variable at block p holds the slice (A, n, c), and this the row xs. -/
def Cap (a : World) (B0 : Nat) (p : Nat) (A : Option Addr) (n c : Nat) (xs : List Nat) : Prop := Wd a p (.slice A n c) ∧ xs.length = n ∧ Ws xs ∧ Rd a B0 A (uvs xs)
theorem Cap.below {a b : World} {B B0 p : Nat} {A : Option Addr} {n c : Nat} {xs : List Nat} (h : Cap a B0 p A n c xs) (hb : Below B a b) (hp : p < B) (h0 : B0 ≤ B) : Cap b B0 p A n c xs :=
  ⟨h.1.below hb hp, h.2.1, h.2.2.1, h.2.2.2.below (hb.mono h0)⟩
theorem Cap.grown {a b : World} {B0 p g : Nat} {A : Option Addr} {n c : Nat} {xs : List Nat} (h : Cap a B0 p A n c xs) (hg : a.grownBy b (some g)) (hp : p ≠ g) (h0 : B0 ≤ a.heap.size) (hg0 : B0 ≤ g) : Cap b B0 p A n c xs :=
  ⟨h.1.grown hg hp, h.2.1, h.2.2.1, h.2.2.2.grown hg h0 hg0⟩
theorem Cap.at {a : World} {B0 p : Nat} {A : Option Addr} {n c : Nat} {xs : List Nat} (h : Cap a B0 p A n c xs) {k : Nat} (hk : k < n) :
    ∃ x b o, A = some ⟨b, o, none⟩ ∧ x < B64 ∧ V (xs.take (k + 1)) = V (xs.take k) + x * B64 ^ k ∧ xs[k]? = some x ∧ a.cell? ⟨b, o + k, none⟩ = some (.int .u64 (x : Int)) := by
  have hl : k < xs.length := by rw [h.2.1]; exact hk
  have hg : xs[k]? = some xs[k] := List.getElem?_eq_getElem hl
  obtain ⟨b, o, e, _, hc⟩ := h.2.2.2.at (uvs_get hg)
  exact ⟨xs[k], b, o, e, h.2.2.1 _ (List.getElem_mem hl), V_take_succ xs k hl, hg, hc⟩
theorem Cap.at2 {a : World} {B0 p : Nat} {A : Option Addr} {n c : Nat} {xs : List Nat} (h : Cap a B0 p A n c xs) {k : Nat} (hk : k < n) :
    ∃ x b o, A = some ⟨b, o, none⟩ ∧ b < B0 ∧ x < B64 ∧ V (xs.take (k + 1)) = V (xs.take k) + x * B64 ^ k ∧ xs[k]? = some x ∧ a.cell? ⟨b, o + k, none⟩ = some (.int .u64 (x : Int)) := by
  have hl : k < xs.length := by rw [h.2.1]; exact hk
  have hg : xs[k]? = some xs[k] := List.getElem?_eq_getElem hl
  obtain ⟨b, o, e, hb, hc⟩ := h.2.2.2.at (uvs_get hg)
  exact ⟨xs[k], b, o, e, hb, h.2.2.1 _ (List.getElem_mem hl), V_take_succ xs k hl, hg, hc⟩
/-- v is a new row zs of n words. -/
def Nw (w w' : World) (v : Value) (n : Nat) (zs : List Nat) : Prop := zs.length = n ∧ Ws zs ∧ w'.ownsRow w.heap.size 37 1 v n (uvs zs)
theorem Sl.get {w : World} {A : Option Addr} {n c : Nat} {xs : List Nat} (h : Sl w A n c xs) {k : Nat} (hk : k < n) :
    ∃ x, xs[k]? = some x ∧ x < B64 ∧ V (xs.take (k + 1)) = V (xs.take k) + x * B64 ^ k := by
  have hl : k < xs.length := by rw [h.1]; exact hk
  exact ⟨xs[k], List.getElem?_eq_getElem hl, h.2.2.2.1 _ (List.getElem_mem hl), V_take_succ xs k hl⟩
theorem Sl.below {w w' : World} {A : Option Addr} {n c : Nat} {xs : List Nat} (h : Sl w A n c xs) (hb : Below w.heap.size w w') : Sl w' A n c xs :=
  ⟨h.1, h.2.1, h.2.2.1, h.2.2.2.1, (h.2.2.2.2.below hb).more hb.size⟩
theorem Sl.take_all {w : World} {A : Option Addr} {n c : Nat} {xs : List Nat} (h : Sl w A n c xs) : xs.take n = xs := List.take_of_length_le (by rw [h.1]; exact Nat.le_refl _)
theorem Nw.sl {w w' : World} {v : Value} {n : Nat} {zs : List Nat} (h : Nw w w' v n zs) : ∃ A c, v = .slice A n c ∧ Sl w' A n c zs := by
  obtain ⟨A, c, e, h1, h2, _, h4⟩ := own_form h.2.2
  exact ⟨A, c, e, h.1, h1, by unfold maxLen at h2; exact h2, h.2.1, h4⟩
end Go.Proofs.Ytekikolhnfofeaa
