/- The contract of reckonerref03.Split, and of the law's few. -/
import Derived.Test.YtelenmfajhamlaaDoorZFSplit
import Derived.Test.YtelenmfajhamlaaDoorP4
import Derived.Test.YtelenmfajhamlaaDoorZFKar
namespace Go.Proofs.YtelenmfajhamlaaDoor
open Go.RowKit Go.Shelf
set_option linter.unusedVariables false
set_option linter.unusedSimpArgs false
set_option maxRecDepth 10000

theorem V_drop_div {xs : List Nat} (hw : Ws xs) (k : Nat) : V (xs.drop k) = V xs / B64 ^ k := by
  rcases Nat.le_total k xs.length with h | h
  · exact V_dropped hw h
  · rw [List.drop_of_length_le h, Nat.div_eq_of_lt (Nat.lt_of_lt_of_le (V_lt _ hw) (Nat.pow_le_pow_right B64_pos h))]
    rfl
theorem pw_val {xs : List Nat} (hw : Ws xs) (n i : Nat) : V (pw xs n i) = V xs / B64 ^ (i * n) % B64 ^ n := by
  rw [pw, V_low (Ws_drop hw _), V_drop_div hw]
/-- numbers appended so far -/
def NsA (w : World) (f : Nat → Nat) (k : Nat) (v : Value) (ls : List (Option Addr × Nat × Nat)) (W : World) : Prop :=
  W.ownsRow w.heap.size 23 1 v k (svs ls) ∧ ls.length = k ∧ NsL w W ls f ∧ Below w.heap.size w W
theorem NsA.next {w W w3 W2 : World} {f : Nat → Nat} {k : Nat} {v v' : Value} {ls : List (Option Addr × Nat × Nat)} {A : Option Addr} {n c : Nat} {zs : List Nat} (h : NsA w f k v ls W) (hb : Below W.heap.size W w3) (hN : Nw W w3 (.slice A n c) n zs) (hc : Cn zs) (hv : V zs = f k)
    (hown : W2.ownsRow w.heap.size 23 1 v' (k + 1) (svs ls ++ [.slice A n c])) (hgrow : (w3.alloc (.cells #[.slice A n c] 23)).grownBy W2 v.ownBlock) : NsA w f (k + 1) v' (ls ++ [(A, n, c)]) W2 := by
  obtain ⟨h1, h2, h3, h5⟩ := h
  have h1' := own_below h1 hb (Nat.le_refl _)
  have hal : Below w3.heap.size w3 (w3.alloc (.cells #[.slice A n c] 23)) := (Below.refl _ _).alloc (Nat.le_refl _) _
  have e2 : 23 ≠ 74 := by decide
  have hb3 : Below w.heap.size w w3 := h5.trans (hb.mono h5.size)
  have hn3 := ((h3.below hb).add h2 (hN.later h5.size (Below.refl _ _)) hc hv).below hal
  refine ⟨?_, by simp [h2], hn3.grown hgrow (fun r e base v4 n4 vs4 ho => own_ne (own_below h1' hal (Nat.le_refl _)) ho e2 r e), ?_⟩
  · have : svs (ls ++ [(A, n, c)]) = svs ls ++ [.slice A n c] := by simp [svs]
    rw [this]
    exact hown
  · exact (hb3.trans (hal.mono hb3.size)).grown hgrow (by have := hb3.size; have := hal.size; omega) (fun j hj => (h1.lt j hj).1)
theorem NsA.below {w W W' : World} {f : Nat → Nat} {k : Nat} {v : Value} {ls : List (Option Addr × Nat × Nat)} (h : NsA w f k v ls W) (hb : Below W.heap.size W W') : NsA w f k v ls W' :=
  ⟨own_below h.1 hb (Nat.le_refl _), h.2.1, h.2.2.1.below hb, h.2.2.2.trans (hb.mono h.2.2.2.size)⟩
theorem Nu.nw {w w' : World} {A : Option Addr} {n c x : Nat} {zs : List Nat} (h : Nu w w' A n c zs x) : Nw w w' (.slice A n c) n zs := by
  obtain ⟨n', zs', h1, h2, h3⟩ := h.2.2.2.2.1
  obtain ⟨A', c', e, hs⟩ := h1.sl
  injection e with e1 e2 e3
  subst e1 e2 e3
  have e4 : zs' = zs := Cn_inj hs.2.2.2.1 h.1.2.2.2.1 h2 h.2.1 (by rw [h3, h.2.2.1])
  subst e4
  exact h1
theorem len_less {x n k m n' : Nat} {z : List Nat} (hw : Ws z) (hc : Cn z) (hl : z.length = n') (hx : x < B64 ^ m) (hv : V z = x / B64 ^ n) (hn : 1 ≤ n) (hm : 0 < m) : n' < m := by
  have h1 : V z < B64 ^ (m - 1) := by
    rw [hv]
    refine Nat.div_lt_of_lt_mul (Nat.lt_of_lt_of_le hx ?_)
    rw [← Nat.pow_add]
    exact Nat.pow_le_pow_right B64_pos (by omega)
  have := (Cn_len hw hc (m - 1)).2 h1
  omega
def lenOf : Value → Nat
  | .slice _ n _ => n
  | _ => 0
/-- what the reference's Split answers -/
def RSplitR (w w' : World) (z : Ending) (X N n : Nat) : Prop :=
  ∃ A c ls, ls.length = N ∧ z = .returned (.slice A N c) ∧ w'.ownsRow w.heap.size 23 1 (.slice A N c) N (svs ls) ∧ NsL w w' ls (fun i => X / B64 ^ (i * n) % B64 ^ n) ∧ Below w.heap.size w w'
theorem split_more {X q k n : Nat} (h1 : X < B64 ^ q) (h2 : 0 < q → B64 ^ (q - 1) ≤ X) : 0 < X / B64 ^ (k * n) ↔ k * n < q := by
  rw [Nat.div_pos_iff]
  constructor
  · rintro ⟨-, h⟩
    rcases Nat.lt_or_ge (k * n) q with h3 | h3
    · exact h3
    · have := Nat.pow_le_pow_right (n := B64) B64_pos h3
      omega
  · intro h
    exact ⟨Nat.pow_pos B64_pos, Nat.le_trans (Nat.pow_le_pow_right B64_pos (by omega)) (h2 (by omega))⟩

set_option maxHeartbeats 4000000 in
theorem RSplit_ok (A : Option Addr) (L c n q : Nat) (xs : List Nat) (w : World) (hL : L ≤ 4096) (hn1 : 1 ≤ n) (hn2 : n ≤ 1000) (hx : Sl w A L c xs) (hq1 : V xs < B64 ^ q) (hq2 : 0 < q → B64 ^ (q - 1) ≤ V xs) (hq3 : q ≤ 4096) :
    Calls Tryd.prog 14 #[.slice A L c, .int .i64 (n : Int)] w fun z w' => RSplitR w w' z (V xs) ((q + n - 1) / n) n := by
  obtain ⟨i0, hi, hz0, hz1, hz2⟩ := info_parts Tryd.info23
  have HB := Lib.hid (show V xs < Big from Big_of hx.lt hL)
  obtain ⟨X, hX⟩ : ∃ X, V xs = X := ⟨_, rfl⟩
  have HX := Lib.hid hX
  have Hx := Lib.hid hx
  rw [hX] at hq1 hq2 HB ⊢
  have HQ := Lib.hid (And.intro hq1 hq2)
  obtain ⟨m, hm⟩ : ∃ m, 64 * n = m := ⟨_, rfl⟩
  have hm2 : m ≤ 262144 := by omega
  have hmi : (64 : Int) * (n : Int) = (m : Int) := by omega
  have hmw : IntKind.i64.wrap (m : Int) = (m : Int) := IntWalk.i64_in _ (by omega)
  have HP := Lib.hid (show (2 : Nat) ^ m = B64 ^ n by rw [← hm, Nat.pow_mul]; rfl)
  clear hx hX hq1 hq2 hm
  go_enter Tryd.func14, Tryd.ntmps14
  go_wp2_with (fail)
  refine (RTrim_ok A L c xs w hL Hx.out).mono ?_
  rintro e w1 hR
  rw [HX.out] at hR
  obtain ⟨A1, n1, c1, z1, rfl, h1⟩ := hR.open HB.out
  have H1 := Lib.hid h1
  clear h1 hR
  go_wp2_with (fail)
  go_loopw [0, 5] (fun xv v wr => ∃ (k : Nat) (A2 : Option Addr) (n2 c2 : Nat) (z2 : List Nat), xv = .slice A2 n2 c2 ∧ k ≤ (q + n - 1) / n ∧ Hid (Nw w wr (.slice A2 n2 c2) n2 z2 ∧ Cn z2 ∧ V z2 = X / B64 ^ (k * n) ∧ n2 ≤ 4096 ∧ ∃ ls, NsA w (fun i => X / B64 ^ (i * n) % B64 ^ n) k v ls wr)) (fun xv _ _ => lenOf xv)
  case atStart => exact ⟨0, A1, n1, c1, z1, rfl, Nat.zero_le _, H1.out.nw, H1.out.2.1, by rw [H1.out.2.2.1, Nat.zero_mul, Nat.pow_zero, Nat.div_one], H1.out.2.2.2.1, [], World.ownsRow_nil _ _ _ _, rfl, fun i s h => by simp at h, H1.out.bel⟩
  case round =>
    clear H1
    obtain ⟨k, A2, n2, c2, z2, rfl, hkN, H⟩ := hrel
    have hn24 := H.out.2.2.2.1
    have hsl := (H.out.1.sc H.out.2.1).1
    have hlen := Cn_len hsl.2.2.2.1 H.out.2.1
    rw [hsl.1] at hlen
    have hk4 : k ≤ 5096 := by
      have : (q + n - 1) / n ≤ q + n - 1 := Nat.div_le_self _ _
      omega
    obtain ⟨ls, hA⟩ := H.out.2.2.2.2
    have HA := Lib.hid hA
    by_cases hlt : 0 < n2
    · have hki : (0 : Int) < (n2 : Int) := by omega
      have hpos : 0 < X / B64 ^ (k * n) := by
        rw [← H.out.2.2.1]
        rcases Nat.eq_zero_or_pos (V z2) with h0 | h0
        · have := (hlen 0).2 (by rw [h0]; decide)
          omega
        · exact h0
      have hkq := (split_more HQ.out.1 HQ.out.2).1 hpos
      have hkN1 : k + 1 ≤ (q + n - 1) / n := by
        rw [Nat.le_div_iff_mul_le (by omega), Nat.add_mul]
        omega
      have HS := Lib.hid hsl
      clear hA hlen hpos hkq hsl
      go_wp2_with (fail)
      refine (R2Low_ok A2 n2 c2 z2 m _ hn24 hm2 HS.out).mono ?_
      rintro e w3 hR
      rw [HP.out] at hR
      obtain ⟨v3, rfl, hN3, hb3⟩ := hR
      obtain ⟨A3, n3, c3, z3, rfl, s3, hc3, hv3, hw3⟩ := hN3.sl
      have H3 := Lib.hid (And.intro hb3 (And.intro hw3 (And.intro hc3 (show V z3 = X / B64 ^ (k * n) % B64 ^ n by rw [hv3, H.out.2.2.1]))))
      have hs3 : w.heap.size ≤ w3.heap.size := Nat.le_trans HA.out.2.2.2.size hb3.size
      have HO := Lib.hid (own_below HA.out.1 hb3 (Nat.le_refl _))
      clear hN3 hb3 s3 hc3 hv3 hw3
      go_wp2_with (at_builtin; refine wpList_append_own_at _ rfl (.tmp 15) (.tmp 20) 25 rfl w.heap.size 23 i0 (.slice none 0 0) 1 24 Tryd.underlying25 hi hz0 hz1 hz2 rfl (by omega) u5 k _ rfl (HO.out.alloc _) ⟨w3.heap.size, 0, none⟩ 1 1 [.slice A3 n3 c3] rfl rfl (World.news_of_block (cs := #[.slice A3 n3 c3]) (t := 23) (fr := (0, 0)) (heap_alloc_new w3 _)) (by simp [Value.oneCell']) (by unfold maxLen; omega) (by omega) (by simp; omega) ?_)
      intro v' w4 hown4 hgrow4 hnil4 hblk4
      have HN := Lib.hid (HA.out.next H3.out.1 H3.out.2.1 H3.out.2.2.1 H3.out.2.2.2 hown4 hgrow4)
      have hx4 : Nw w w4 (.slice A2 n2 c2) n2 z2 := by
        have e1 := (H.out.1.later (Nat.le_refl _) H3.out.1)
        exact ⟨e1.1, e1.2.1, own_off (e1.2.2.alloc _) hgrow4 (fun r e => own_ne HO.out e1.2.2 (by decide) r e)⟩
      have HX4 := Lib.hid (And.intro hx4 (And.intro H.out.2.1 H.out.2.2.1))
      clear H3 HO hown4 hgrow4 hnil4 hblk4 HA HS hx4 H
      go_wp2_with (fail)
      refine (R2Right_ok A2 n2 c2 z2 m _ hn24 (by omega) (HX4.out.1.sc HX4.out.2.1).1).mono ?_
      rintro e w5 hR
      rw [HP.out] at hR
      obtain ⟨v5, rfl, hN5, hb5⟩ := hR
      obtain ⟨A5, n5, c5, z5, rfl, s5, hc5, hv5, hw5⟩ := hN5.sl
      have hless : n5 < n2 := len_less (k := 0) s5.2.2.2.1 hc5 s5.1 (HX4.out.1.sc HX4.out.2.1).1.lt hv5 hn1 hlt
      have hd : V z5 = X / B64 ^ ((k + 1) * n) := by rw [hv5, HX4.out.2.2, Nat.div_div_eq_div_mul, ← Nat.pow_add, Nat.add_mul, Nat.one_mul]
      have HN5 : Hid (Nw w w5 (.slice A5 n5 c5) n5 z5 ∧ Cn z5 ∧ V z5 = X / B64 ^ ((k + 1) * n) ∧ n5 ≤ 4096 ∧ ∃ ls, NsA w (fun i => X / B64 ^ (i * n) % B64 ^ n) (k + 1) v' ls w5) :=
        ⟨hw5.later HN.out.2.2.2.size (Below.refl _ _), hc5, hd, by omega, _, HN.out.below hb5⟩
      clear hN5 hb5 s5 hc5 hv5 hw5 hd HX4 HN
      go_wp2_with (fail)
      go_roundw
      case rel => exact ⟨k + 1, A5, n5, c5, z5, rfl, hkN1, HN5⟩
      case measure => simpa [lenOf] using hless
    · have hki : ¬ (0 : Int) < (n2 : Int) := by omega
      obtain rfl : n2 = 0 := by omega
      have hz : X / B64 ^ (k * n) = 0 := by
        rw [← H.out.2.2.1, List.eq_nil_of_length_eq_zero hsl.1]; rfl
      have hkq : q ≤ k * n := by
        rcases Nat.lt_or_ge (k * n) q with h | h
        · have := (split_more HQ.out.1 HQ.out.2).2 h
          omega
        · exact h
      have hkN2 : k = (q + n - 1) / n := by
        refine Nat.le_antisymm hkN ?_
        rw [← Nat.lt_succ_iff, Nat.div_lt_iff_lt_mul (by omega), Nat.succ_mul]
        omega
      obtain ⟨Ar, cr, rfl⟩ := own_slice HA.out.1
      clear hA hlen hz hkq hsl H
      go_wp2_with (fail)
      go_ret
      rw [← hkN2]
      exact ⟨Ar, cr, ls, HA.out.2.1, rfl, HA.out.1, HA.out.2.2.1, HA.out.2.2.2⟩
end Go.Proofs.YtelenmfajhamlaaDoor
