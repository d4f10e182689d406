/- The reference's Join, and the error end of fast.Join. -/
import Derived.Test.YtalcikmngglplaaDoorZWj
import Derived.Test.YtalcikmngglplaaDoorP5
import Derived.Test.YtalcikmngglplaaDoorZFJoin
import Derived.Test.YtalcikmngglplaaDoorZFJdL
import Derived.Test.YtalcikmngglplaaDoorZLawF
namespace Go.Proofs.YtalcikmngglplaaDoor
open Go.RowKit Go.Shelf
set_option linter.unusedVariables false
set_option linter.unusedSimpArgs false
set_option maxRecDepth 10000

theorem R2IsZero_ok (A : Option Addr) (n c : Nat) (xs : List Nat) (w : World) (hn : n ≤ 100000) (hx : Sl w A n c xs) :
    Calls Tryd.prog 45 #[.slice A n c] w fun e w' => e = .returned (.bool (decide (V xs = 0))) ∧ w = w' := by
  have Hx := Lib.hid hx
  clear hx
  go_enter Tryd.func45, Tryd.ntmps45
  go_wp2_with (fail)
  refine (RLen_ok A n c xs w hn Hx.out).mono ?_
  rintro e w1 ⟨l, rfl, hl, hB, rfl⟩
  by_cases h0 : V xs = 0
  · obtain rfl : l = 0 := hB.2.2 h0
    have HD := Lib.hid (decide_eq_true h0)
    clear hB h0
    go_wp2_with (fail)
    go_ret
    rw [HD.out]
    exact ⟨rfl, rfl⟩
  · have hl0 : ((l : Int) == 0) = false := by have := (hB.2.1 (Nat.pos_of_ne_zero h0)).1; simp; omega
    have HD := Lib.hid (decide_eq_false h0)
    clear hB h0
    go_wp2_with (fail)
    go_ret
    rw [HD.out]
    exact ⟨rfl, rfl⟩
theorem R2Large_ok (A : Option Addr) (n c : Nat) (w : World) :
    Calls Tryd.prog 21 #[.slice A n c] w fun e w' => e = .returned (.bool (decide ((4096 : Int) < (n : Int)))) ∧ w = w' := by
  go_enter Tryd.func21, Tryd.ntmps21
  go_wp2_with (fail)
  go_ret
  exact ⟨rfl, rfl⟩
/-- a list of numbers of at most 12 words -/
def J12 (W : World) (ls : List (Option Addr × Nat × Nat)) (f : Nat → Nat) : Prop := ∀ (i : Nat) (s : Option Addr × Nat × Nat), ls[i]? = some s → ∃ zs, Sl W s.1 s.2.1 s.2.2 zs ∧ s.2.1 ≤ 12 ∧ V zs = f i
theorem J12.below {w W : World} {ls : List (Option Addr × Nat × Nat)} {f : Nat → Nat} (h : J12 w ls f) (hb : Below w.heap.size w W) : J12 W ls f := fun i s hi => by
  obtain ⟨xs, h1, h2, h3⟩ := h i s hi
  exact ⟨xs, h1.below hb, h2, h3⟩
theorem J12.jl {w : World} {ls : List (Option Addr × Nat × Nat)} {f : Nat → Nat} (h : J12 w ls f) : JL w ls f := fun i s hi => by
  obtain ⟨xs, h1, h2, h3⟩ := h i s hi
  exact ⟨xs, h1, by omega, h3⟩
theorem jsum_lt {f : Nat → Nat} {m N : Nat} (hm : 1 ≤ m) (hf : ∀ i, i < N → f i < B64 ^ 12) : ∀ k, k ≤ N → jsum f m k < B64 ^ (m * k + 12)
  | 0, _ => Nat.pow_pos B64_pos
  | k + 1, hk => by
    have h1 := jsum_lt hm hf k (by omega)
    have h2 : f k * B64 ^ (m * k) ≤ B64 ^ 12 * B64 ^ (m * k) := Nat.mul_le_mul_right _ (Nat.le_of_lt (hf k (by omega)))
    have h3 : B64 ^ (m * k + 12 + 1) ≤ B64 ^ (m * (k + 1) + 12) := Nat.pow_le_pow_right B64_pos (by rw [Nat.mul_add]; omega)
    rw [Nat.pow_succ] at h3
    rw [Nat.pow_add] at h1 h3
    rw [jsum]
    have hB : 2 ≤ B64 := by decide
    have h4 : B64 ^ (m * k) * B64 ^ 12 * 2 ≤ B64 ^ (m * k) * B64 ^ 12 * B64 := Nat.mul_le_mul_left _ hB
    rw [Nat.mul_comm (B64 ^ 12)] at h2
    omega
theorem jpow (m k : Nat) : 2 ^ (64 * m * k) = B64 ^ (m * k) := by rw [B64_two, Nat.mul_assoc]
/-- what the reference's Join answers -/
def RJR (w w' : World) (e : Ending) (x : Nat) : Prop := ∃ A n c zs, e = .returned (.slice A n c) ∧ Nw w w' (.slice A n c) n zs ∧ Cn zs ∧ V zs = x ∧ Below w.heap.size w w'
def RJI (w wr : World) (f : Nat → Nat) (m k : Nat) (A : Option Addr) (n c : Nat) (zs : List Nat) : Prop := Nw w wr (.slice A n c) n zs ∧ Cn zs ∧ V zs = jsum f m k ∧ Below w.heap.size w wr

set_option maxHeartbeats 2000000 in
theorem RJoin3_ok (ls : List (Option Addr × Nat × Nat)) (f : Nat → Nat) (P : Option Addr) (lp cp m : Nat) (w : World) (hl : ls.length = lp) (hp : lp ≤ 12) (hm1 : 1 ≤ m) (hm2 : m ≤ 1000) (hr : Rd w w.heap.size P (svs ls)) (hf : J12 w ls f) :
    Calls Tryd.prog 20 #[.slice P lp cp, .int .i64 (m : Int)] w fun e w' => RJR w w' e (jsum f m lp) := by
  have hfl : ∀ i, i < lp → f i < B64 ^ 12 := fun i hi => by
    obtain ⟨zs, h1, h2, h3⟩ := hf i _ (List.getElem?_eq_getElem (show i < ls.length by omega))
    rw [← h3]
    exact Nat.lt_of_lt_of_le h1.lt (Nat.pow_le_pow_right B64_pos h2)
  have Hx := Lib.hid (And.intro hl (And.intro hr (And.intro hf hfl)))
  clear hl hr hf hfl
  go_enter Tryd.func20, Tryd.ntmps20
  go_wp2
  go_loopw [5, 6] (fun v iv wr => ∃ (k : Nat) (A : Option Addr) (n c : Nat), k ≤ lp ∧ iv = .int .i64 k ∧ v = .slice A n c ∧ Hid (∃ zs, RJI w wr f m k A n c zs)) (fun _ iv _ => lp - (intOf iv).toNat)
  case atStart => exact ⟨0, none, 0, 0, by omega, rfl, rfl, [], ⟨rfl, Ws_nil, World.ownsRow_nil _ _ _ _⟩, Cn_nil, rfl, Below.refl _ _⟩
  case round =>
    obtain ⟨k, A, n, c, hk, rfl, rfl, HE⟩ := hrel
    obtain ⟨zs, hI⟩ := HE.out
    have HI := Lib.hid hI
    clear HE hI
    by_cases hlt : k < lp
    · have hkl : k < ls.length := by rw [Hx.out.1]; exact hlt
      obtain ⟨b, o, rfl, hbw, hc0⟩ := (Hx.out.2.1.below HI.out.2.2.2).at (svs_get (List.getElem?_eq_getElem hkl))
      obtain ⟨xs, e1, e2, e3⟩ := (Hx.out.2.2.1.below HI.out.2.2.2) k _ (List.getElem?_eq_getElem hkl)
      generalize ls[k] = z at *
      obtain ⟨za, zn, zc⟩ := z
      simp only at hc0 e1 e2
      have hki : (k : Int) < (lp : Int) := by omega
      have HQ := Lib.hid (And.intro e1 e3)
      clear e1 e3 hkl
      go_wp2_with (fail)
      refine (R2IsZero_ok za zn zc xs _ (by omega) HQ.out.1).mono ?_
      rintro e w1 ⟨rfl, rfl⟩
      by_cases h0 : V xs = 0
      · rw [decide_eq_true h0]
        have HN : Hid (∃ zs, RJI w wr f m (k + 1) A n c zs) := ⟨zs, HI.out.1, HI.out.2.1, by rw [HI.out.2.2.1, jsum, ← HQ.out.2, h0, Nat.zero_mul, Nat.add_zero], HI.out.2.2.2⟩
        clear HI HQ h0
        go_wp2_with (fail)
        go_roundw
        case rel => exact ⟨k + 1, A, n, c, by omega, by go_num, rfl, HN⟩
        case measure => simp [intOf]; omega
      · rw [decide_eq_false h0]
        obtain ⟨s, hs⟩ : ∃ s, 64 * m = s := ⟨_, rfl⟩
        obtain ⟨p, hp2⟩ : ∃ p, s * k = p := ⟨_, rfl⟩
        have hsI : (64 : Int) * (m : Int) = (s : Int) := by omega
        have hpI : (s : Int) * (k : Int) = (p : Int) := by rw [← hp2]; push_cast; rfl
        have hs6 : s ≤ 64000 := by omega
        have hp7 : p ≤ 704000 := by
          have : s * k ≤ 64000 * 11 := Nat.mul_le_mul hs6 (by omega)
          omega
        have hsw : IntKind.i64.wrap (s : Int) = (s : Int) := IntWalk.i64_in _ (by omega)
        have hpw : IntKind.i64.wrap (p : Int) = (p : Int) := IntWalk.i64_in _ (by omega)
        have HP := Lib.hid (show 2 ^ p = B64 ^ (m * k) by rw [← hp2, ← hs]; exact jpow m k)
        clear h0 hs hp2
        go_wp2_with (fail)
        refine (R2LeftJ_ok za zn zc xs p _ (by omega) hp7 HQ.out.1).mono ?_
        rintro e w2 ⟨v2, rfl, ⟨n2, z2, hN2, hC2, hV2⟩, hb2⟩
        obtain ⟨A2, c2, rfl, hs2⟩ := hN2.sl
        rw [HP.out] at hV2
        have hz1 := (HI.out.1.sc HI.out.2.1).1.below hb2
        have hn : n ≤ m * k + 12 := by
          have h := (Cn_len hz1.2.2.2.1 HI.out.2.1 (m * k + 12)).2 (by rw [HI.out.2.2.1]; exact jsum_lt hm1 Hx.out.2.2.2 k hk)
          rw [hz1.1] at h
          exact h
        have hn2 : n2 ≤ m * k + 12 := by
          have h := (Cn_len hs2.2.2.2.1 hC2 (m * k + 12)).2 (by
            rw [hV2, HQ.out.2, Nat.add_comm, Nat.pow_add]
            exact Nat.mul_lt_mul_of_pos_right (Hx.out.2.2.2 k hlt) (Nat.pow_pos B64_pos))
          rw [hs2.1] at h
          exact h
        have hmk : m * k ≤ 11000 := by
          have : m * k ≤ 1000 * 11 := Nat.mul_le_mul hm2 (by omega)
          omega
        have HS := Lib.hid (And.intro hz1 (And.intro hs2 (And.intro hV2 (HI.out.2.2.2.trans (hb2.mono HI.out.2.2.2.size)))))
        have h12 : n ≤ 12000 := by omega
        have h12' : n2 ≤ 12000 := by omega
        clear hN2 hC2 hz1 hs2 hV2 hb2 hn hn2 hmk
        go_wp2_with (fail)
        refine (RNAddJ_ok A A2 n n2 c c2 zs z2 _ h12 h12' HS.out.1 HS.out.2.1).mono ?_
        rintro e w3 ⟨v3, rfl, ⟨n3, z3, hN3, hC3, hV3⟩, hb3⟩
        obtain ⟨A3, c3, rfl, hs3⟩ := hN3.sl
        have HN : Hid (∃ zs, RJI w w3 f m (k + 1) A3 n3 c3 zs) := ⟨z3, ⟨hN3.1, hN3.2.1, own_base hN3.2.2 HS.out.2.2.2.size⟩, hC3, by rw [hV3, HI.out.2.2.1, HS.out.2.2.1, HQ.out.2, jsum], HS.out.2.2.2.trans (hb3.mono HS.out.2.2.2.size)⟩
        clear hN3 hC3 hV3 hb3 hs3 HI HQ HS HP
        go_wp2_with (fail)
        go_roundw
        case rel => exact ⟨k + 1, A3, n3, c3, by omega, by go_num, rfl, HN⟩
        case measure => simp [intOf]; omega
    · obtain rfl : k = lp := by omega
      have hki : ¬ (k : Int) < (k : Int) := by omega
      go_wp2_with (fail)
      go_ret
      exact ⟨A, n, c, zs, rfl, HI.out⟩

set_option maxHeartbeats 1000000 in
theorem FJoin_arg (ls : List (Option Addr × Nat × Nat)) (A : Option Addr) (m c : Nat) (n : Int) (w : World) (hl : ls.length = m) (hm : m ≤ 100000) (hn : n < 1 ∨ 1000 < n ∨ 5000 < m) (hr : Rd w w.heap.size A (svs ls)) (hs : ∀ s ∈ ls, s.2.1 ≤ 4096) :
    Calls Tryd.prog 19 #[.slice A m c, .int .i64 n] w fun e w' => e = .returned (.tuple #[.slice none 0 0, .int .i64 1]) ∧ Below w.heap.size w w' := by
  have HC := Lib.hid (show chkS ls = 0 from chkS_zero hs)
  have Hx := Lib.hid (And.intro hl hr)
  have hmi : 5000 < m ↔ (5000 : Int) < (m : Int) := by omega
  rw [hmi] at hn
  clear hl hr hs hmi
  obtain ⟨q, hq⟩ : ∃ q, decide (n < 1 ∨ 1000 < n) = q := ⟨_, rfl⟩
  go_enter Tryd.func19, Tryd.ntmps19
  go_wp2_with (fail)
  refine (fcheck_any ls A m c _ Hx.out.1 hm Hx.out.2).mono ?_
  rintro e w1 ⟨rfl, rfl⟩
  rw [HC.out]
  go_wp2_with (fail)
  refine (outOfPiece_ok _ _).mono ?_
  rintro e w2 ⟨rfl, rfl⟩
  rw [hq]
  cases q with
  | true =>
    clear hq hn
    go_wp2_with (fail)
    go_ret2
    exact ⟨rfl, Below.refl _ _⟩
  | false =>
    have h1 : ¬ (n < 1 ∨ 1000 < n) := of_decide_eq_false hq
    have h2 : (5000 : Int) < (m : Int) := by omega
    clear hq hn h1
    go_wp2_with (fail)
    go_ret2
    exact ⟨rfl, Below.refl _ _⟩
end Go.Proofs.YtalcikmngglplaaDoor
