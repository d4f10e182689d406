/- The contract of fast.halves. -/
import Derived.Test.YtelenmfajhamlaaDoorZFUsed
import Derived.Deep.RegionHeld3
namespace Go.Proofs.YtelenmfajhamlaaDoor
open Go.RowKit Go.Shelf
set_option linter.unusedVariables false
set_option linter.unusedSimpArgs false
set_option maxRecDepth 10000

/-- the slice holds a canonical number -/
def Sc (w : World) (A : Option Addr) (n c : Nat) (xs : List Nat) : Prop := Sl w A n c xs ∧ Cn xs
theorem Sc.below {w w' : World} {A : Option Addr} {n c : Nat} {xs : List Nat} (h : Sc w A n c xs) (hb : Below w.heap.size w w') : Sc w' A n c xs := ⟨h.1.below hb, h.2⟩
theorem Sc.nil (w : World) : Sc w none 0 0 [] := ⟨⟨rfl, by omega, by omega, Ws_nil, Rd.nil⟩, Cn_nil⟩
theorem Cn_drop {xs : List Nat} (h : Cn xs) (k : Nat) : Cn (xs.drop k) := fun m hm => by
  rw [List.length_drop] at hm
  rw [List.getElem?_drop]
  exact h (k + m) (by omega)
theorem Sl.cap_ {w : World} {A : Option Addr} {n c c' : Nat} {xs : List Nat} (h : Sl w A n c xs) (h1 : n ≤ c') (h2 : c' ≤ 9223372036854775807) : Sl w A n c' xs := ⟨h.1, h1, h2, h.2.2.2⟩
/-- the rows beyond a place in a row -/
theorem Sl.from_ {w : World} {b o n c m k c' : Nat} {xs : List Nat} (h : Sl w (some ⟨b, o, none⟩) n c xs) (hk : k + m = n) (hc' : m ≤ c') (hc : c' ≤ 9223372036854775807) : Sl w (some ⟨b, o + k, none⟩) m c' (xs.drop k) := by
  refine ⟨by rw [List.length_drop, h.1]; omega, hc', hc, fun x hx => h.2.2.2.1 x (List.mem_of_mem_drop hx), fun hne => ?_⟩
  obtain ⟨b', o', e, hb, hcell⟩ := h.2.2.2.2 (by intro h0; exact hne (by simp only [uvs, List.map_eq_nil_iff] at h0 ⊢; rw [h0, List.drop_nil]))
  injection e with e
  injection e with e1 e2
  subst e1 e2
  refine ⟨b, o + k, rfl, hb, fun j u hu => ?_⟩
  rw [Nat.add_assoc]
  refine hcell (k + j) u ?_
  rw [← hu]
  simp [uvs, List.getElem?_map, List.getElem?_drop]

/-- what halves answers -/
def HalvesR (w : World) (e : Ending) (n m : Nat) (x : Nat) : Prop := ∃ A1 k1 c1 l1 A2 k2 c2 l2, e = .returned (.tuple #[.slice A1 k1 c1, .slice A2 k2 c2]) ∧ Sc w A1 k1 c1 l1 ∧ Sc w A2 k2 c2 l2 ∧ k1 ≤ m ∧ k1 ≤ n ∧ k2 = n - m ∧ x = V l1 + V l2 * B64 ^ m ∧ (n ≤ m → k1 = n)

set_option maxHeartbeats 400000 in
theorem fhalves_ok (A : Option Addr) (n c m : Nat) (xs : List Nat) (w : World) (hn : n ≤ 100000) (hm : m ≤ 100000) (hx : Sc w A n c xs) :
    Calls Tryd.prog 76 #[.slice A n c, .int .i64 m] w fun e w' => HalvesR w e n m (V xs) ∧ ∃ k, w' = w.drewN k := by
  have Hx := Lib.hid hx
  have hnc := hx.1.2.1
  have hc := hx.1.2.2.1
  by_cases hle : n ≤ m
  · have hi : (n : Int) ≤ (m : Int) := by omega
    clear hx
    go_enter Tryd.func76, Tryd.ntmps76
    go_wp2_with (fail)
    go_ret2
    exact ⟨⟨A, n, c, xs, none, 0, 0, [], rfl, Hx.out, Sc.nil _, hle, Nat.le_refl _, by omega, by simp [V], fun _ => rfl⟩, 0, rfl⟩
  · have hi : ¬ (n : Int) ≤ (m : Int) := by omega
    obtain ⟨b, o, rfl, _, _⟩ := hx.1.2.2.2.2 (by intro h; have := congrArg List.length h; rw [uvs_length, hx.1.1] at this; simp at this; omega)
    obtain ⟨r, hr⟩ : ∃ r, r = n - m := ⟨_, rfl⟩
    have hmn : (m : Int) ≤ (n : Int) := by omega
    have hmc : (m : Int) ≤ (c : Int) := by omega
    have hnc2 : (n : Int) ≤ (c : Int) := by omega
    have hne : ¬ m = n := by omega
    have hne2 : ¬ n = m := by omega
    have hsub : (n : Int) - (m : Int) = (r : Int) := by omega
    have Hr := Lib.hid hr
    clear hx hle
    go_enter Tryd.func76, Tryd.ntmps76
    go_wp2_with (fail)
    go_region_held3 (fun w' => True) (trivial) (first | (go_at_call 46; refine (fused_ok _ m m (xs.take m) w.drew (by omega) ((Sl.tk (show Sl w.drew _ n c xs from Hx.out.1) (by omega)).cap_ (by omega) (by omega))).mono ?_; rintro e w1 ⟨k, rfl, hk, hU, rfl⟩; have HU := Lib.hid hU; clear hU))
    go_wp2_with (fail)
    go_ret2
    have h1 := HU.out.out
    rw [List.take_take, Nat.min_eq_left hk] at h1
    refine ⟨⟨_, k, m, xs.take k, _, n - m, n - m, xs.drop m, rfl, ⟨(Hx.out.1.tk (by omega)).cap_ (by omega) (by omega), h1.2⟩, ⟨Hx.out.1.from_ (by omega) (Nat.le_refl _) (by omega), Cn_drop Hx.out.2 m⟩, hk, by omega, rfl, ?_, fun h => by omega⟩, 1, rfl⟩
    rw [h1.1]
    exact V_split xs m (by rw [Hx.out.1.1]; omega)
end Go.Proofs.YtelenmfajhamlaaDoor
