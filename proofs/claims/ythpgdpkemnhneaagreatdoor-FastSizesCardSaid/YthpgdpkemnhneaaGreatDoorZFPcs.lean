/- The contract of the iterator fast.pieces. -/
import Derived.Test.YthpgdpkemnhneaaGreatDoorP8
import Derived.Test.YthpgdpkemnhneaaGreatDoorP1
namespace Go.Proofs.YthpgdpkemnhneaaGreatDoor
open Go.RowKit Go.Shelf
set_option linter.unusedVariables false
set_option linter.unusedSimpArgs false
set_option maxRecDepth 10000

/-- how many words are used -/
noncomputable def ul (xs : List Nat) : Nat := open Classical in if h : ∃ k, k ≤ xs.length ∧ V (xs.take k) = V xs ∧ Cn (xs.take k) then Classical.choose h else 0
theorem ul_eq {xs : List Nat} {k : Nat} (hw : Ws xs) (hk : k ≤ xs.length) (hv : V (xs.take k) = V xs) (hc : Cn (xs.take k)) : ul xs = k := by
  have h : ∃ k, k ≤ xs.length ∧ V (xs.take k) = V xs ∧ Cn (xs.take k) := ⟨k, hk, hv, hc⟩
  have e : ul xs = Classical.choose h := dif_pos h
  obtain ⟨h1, h2, h3⟩ := Classical.choose_spec h
  rw [e]
  have := congrArg List.length (Cn_inj (fun x hx => hw x (List.mem_of_mem_take hx)) (fun x hx => hw x (List.mem_of_mem_take hx)) h3 hc (h2.trans hv.symm))
  rw [List.length_take, List.length_take] at this
  omega
/-- piece k of n words of a row of L, and how many words it has -/
def pw (xs : List Nat) (n k : Nat) : List Nat := (xs.drop (k * n)).take n
def pl (L n k : Nat) : Nat := min n (L - k * n)
/-- where piece k begins -/
def ptI (n k : Nat) : Int := ((k * n : Nat) : Int)
/-- what the iterator hands over in round k -/
noncomputable abbrev pcs (A : Option Addr) (L n : Nat) (xs : List Nat) (k : Nat) : Array Value := #[.int .i64 (ptI n k), .slice (A.map (·.add (k * n))) (ul (pw xs n k)) (pl L n k)]
def RdP (Bx Bn : Nat) (A : Option Addr) (L c n : Nat) (xs : List Nat) (W : World) : Prop :=
  W.cell? ⟨Bx, 0, none⟩ = some (.slice A L c) ∧ W.cell? ⟨Bn, 0, none⟩ = some (.int .i64 (n : Int)) ∧ Sl W A L c xs
/-- piece k, as a row -/
theorem pw_sl {W : World} {b o L c n k : Nat} {xs : List Nat} (h : Sl W (some ⟨b, o, none⟩) L c xs) (hk : k * n < L) : Sl W (some ⟨b, o + k * n, none⟩) (pl L n k) (pl L n k) (pw xs n k) := by
  have h1 := (h.from_ (k := k * n) (m := L - k * n) (c' := L - k * n) (by omega) (Nat.le_refl _) (by have := h.2.1; have := h.2.2.1; omega))
  have h2 := h1.tk (k := pl L n k) (by unfold pl; omega)
  have e : (xs.drop (k * n)).take (pl L n k) = pw xs n k := by
    unfold pw pl
    rw [List.take_eq_take_iff, List.length_drop, h.1]
    omega
  rw [e] at h2
  exact h2.cap_ (Nat.le_refl _) (by have := h.2.1; have := h.2.2.1; unfold pl; omega)

set_option maxHeartbeats 2000000 in
theorem pieces_rounds (m : Nat) (hm : 1 ≤ m) (Bx Bn : Nat) (A : Option Addr) (L c n : Nat) (xs : List Nat) (hL : L ≤ 100000) (hn1 : 1 ≤ n) (hn2 : n ≤ 100000) (w : World) :
    Rounds Fence.wide m Tryz.prog 59 #[.pointer (some ⟨Bx, 0, none⟩), .pointer (some ⟨Bn, 0, none⟩)] (pcs A L n xs) ((L + n - 1) / n) (fun _ => RdP Bx Bn A L c n xs) w := by
  intro l J Jx W hW hJ hJx hR hY h0
  refine callsIn_of_wp Tryz.func59 rfl trivial ?_ rfl
  simp only [Tryz.ntmps59, List.size_toArray, List.length_cons, List.length_nil, Nat.reduceAdd, Nat.reduceSub, Array.replicate_succ, Array.replicate_zero, List.push_toArray, List.append_toArray, List.nil_append, List.cons_append]
  gi_wp2
  gi_loopw [4] (fun p wr => ∃ (k : Nat) (j : Nat), p = .int .i64 (j : Int) ∧ Hid (j = k * n ∧ k ≤ (L + n - 1) / n) ∧ j ≤ L + n ∧ J k wr) (fun p wr => (L + n + 1) - (intOf p).toNat)
  case atStart => exact ⟨0, 0, rfl, ⟨by omega, Nat.zero_le _⟩, Nat.zero_le _, h0⟩
  case round =>
    obtain ⟨k, j, rfl, Hj, hjL, hJk⟩ := hrel
    obtain ⟨hc1, hc2, hs⟩ := hR k wr hJk
    by_cases hlt : j < L
    · have hkN : k < (L + n - 1) / n := by
        rw [Nat.lt_div_iff_mul_lt (by omega)]
        rw [Hj.out.1] at hlt
        omega
      obtain ⟨b, o, rfl, _, _⟩ := hs.2.2.2.2 (by intro h; have := congrArg List.length h; rw [uvs_length, hs.1] at this; simp at this; omega)
      have hk1 : k * n < L := by rw [← Hj.out.1]; exact hlt
      have hpw := pw_sl hs hk1
      obtain ⟨fn, tmps, assign, body, hy, hRd⟩ := hY k wr hJk hkN
      rw [pcs, Option.map_some, Addr.add_lit, show ptI n k = ((k * n : Nat) : Int) from rfl] at hy
      have hu : ∀ u, u ≤ pl L n k → V ((pw xs n k).take u) = V (pw xs n k) → Cn ((pw xs n k).take u) → ul (pw xs n k) = u := fun u h1 h2 h3 => ul_eq hpw.2.2.2.1 (by rw [hpw.1]; exact h1) h2 h3
      obtain ⟨r, hr⟩ : ∃ r, r = pl L n k := ⟨_, rfl⟩
      obtain ⟨zs, hzs⟩ : ∃ zs, pw xs n k = zs := ⟨_, rfl⟩
      obtain ⟨q, hq⟩ : ∃ q, ul zs = q := ⟨_, rfl⟩
      have hrj : (j + r = L ∨ j + r = j + n) ∧ r ≤ n ∧ j + r ≤ L ∧ 1 ≤ r := by rw [hr, pl, ← Hj.out.1]; omega
      rw [← hr] at hpw hu hy
      rw [← Hj.out.1] at hpw hy
      rw [hzs] at hpw hu hy
      rw [hq] at hu hy
      have hmin : min ((j : Int) + (n : Int)) (L : Int) = ((j + r : Nat) : Int) := by omega
      have h1 : (j : Int) ≤ ((j + r : Nat) : Int) := by omega
      have h2 : ((j + r : Nat) : Int) ≤ (c : Int) := by have := hs.2.1; omega
      have h3 : ((j + r : Nat) : Int) - (j : Int) = (r : Int) := by omega
      have h4 : ¬ j + r = j := by omega
      have h5 : ¬ j = j + r := by omega
      have h6 : (j : Int) < (L : Int) := by omega
      have h7 : (j : Int) ≤ (c : Int) := by have := hs.2.1; omega
      obtain ⟨x, hx⟩ : ∃ x, x = j + r := ⟨_, rfl⟩
      have h10 : x - j = r := by omega
      have h8 : r ≤ n := hrj.2.1
      have h9 : x ≤ L := by omega
      rw [← hx] at hmin h1 h2 h3 h4 h5
      have Hrj := Lib.hid hrj
      have Hx := Lib.hid hx
      have Hu := Lib.hid hu
      have Hp := Lib.hid hpw
      have HR := Lib.hid hR
      clear hrj hx hu hpw hr hzs hq hk1 hR hY hlt
      gi_wp2_with (first
        | (refine ⟨trivial, ?_⟩; gi_at_call 23; refine (callsIn_wide.2 (fused_ok _ r r zs _ (by omega) Hp.out)).mono ?_; rintro e w' ⟨u, rfl, hu1, hu2, rfl⟩; obtain rfl := Hu.out u hu1 hu2.out.1 hu2.out.2))
      refine hRd.mono ?_
      rintro e W3 (⟨rfl, hJ3⟩ | ⟨rfl, hJx3⟩)
      · have hc3 := (HR.out _ _ hJ3).2.1
        gi_wp2
        go_roundw
        case rel => exact ⟨k + 1, j + n, by go_num, ⟨by rw [Nat.succ_mul, ← Hj.out.1], hkN⟩, by omega, hJ3⟩
        case measure => (simp [intOf]; omega)
      · gi_wp2
        refine bodyPost_ret (results_none rfl _ _ _) rfl ?_
        exact ⟨⟨_, rfl⟩, .inr ⟨k + 1, hJx3⟩⟩
    · have hk : k = (L + n - 1) / n := by
        refine Nat.le_antisymm Hj.out.2 ?_
        rw [Nat.div_le_iff_le_mul (by omega)]
        rw [Hj.out.1] at hlt
        omega
      subst hk
      have h6 : ¬ (j : Int) < (L : Int) := by omega
      clear hs hR hY
      gi_wp2
      go_end0
      exact ⟨⟨_, rfl⟩, .inl hJk⟩
end Go.Proofs.YthpgdpkemnhneaaGreatDoor
