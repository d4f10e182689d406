/- The contract of fast.Join. -/
import Derived.Test.YtalcikmngglplaaDoorZFFrom
import Derived.Test.YtalcikmngglplaaDoorZFKar
import Derived.Test.YtalcikmngglplaaDoorZFInt
import Derived.Test.YtalcikmngglplaaDoorP1
namespace Go.Proofs.YtalcikmngglplaaDoor
open Go.RowKit Go.Shelf
set_option linter.unusedVariables false
set_option linter.unusedSimpArgs false
set_option maxRecDepth 10000

theorem chkS_zero {ls : List (Option Addr × Nat × Nat)} (h : ∀ s ∈ ls, s.2.1 ≤ 4096) : chkS ls = 0 := by
  have : ls.any (fun s => decide (4096 < s.2.1)) = false := by
    rw [List.any_eq_false]
    intro s hs
    have := h s hs
    simp
    omega
  simp [chkS, this]
/-- the sum of the first k numbers, each n words above the one before -/
def jsum (f : Nat → Nat) (n : Nat) : Nat → Nat
  | 0 => 0
  | k + 1 => jsum f n k + f k * B64 ^ (n * k)
theorem jsum_le (f : Nat → Nat) (n k : Nat) : ∀ m, k ≤ m → jsum f n k ≤ jsum f n m := by
  intro m h
  induction h with
  | refl => exact Nat.le_refl _
  | step h ih => exact Nat.le_trans ih (Nat.le_add_right _ _)
/-- a list of numbers that have these values -/
def JL (w : World) (ls : List (Option Addr × Nat × Nat)) (f : Nat → Nat) : Prop :=
  ∀ (i : Nat) (s : Option Addr × Nat × Nat), ls[i]? = some s → ∃ xs, Sl w s.1 s.2.1 s.2.2 xs ∧ s.2.1 ≤ 4096 ∧ V xs = f i
theorem JL.below {w W : World} {ls : List (Option Addr × Nat × Nat)} {f : Nat → Nat} (h : JL w ls f) (hb : Below w.heap.size w W) : JL W ls f := fun i s hi => by
  obtain ⟨xs, h1, h2, h3⟩ := h i s hi
  exact ⟨xs, h1.below hb, h2, h3⟩
/-- the terms that are gathered so far -/
def JT (w : World) (ts : List Tm) (k : Nat) : Prop := ts.length ≤ k ∧ wsum ts = ts.length ∧ ∀ t ∈ ts, Sl w t.A t.n t.c t.xs ∧ t.pl + t.n ≤ 4096
theorem JT.below {w W : World} {ts : List Tm} {k : Nat} (h : JT w ts k) (hb : Below w.heap.size w W) : JT W ts k := ⟨h.1, h.2.1, fun t ht => ⟨(h.2.2 t ht).1.below hb, (h.2.2 t ht).2⟩⟩
theorem JT.more {w : World} {ts : List Tm} {k : Nat} (h : JT w ts k) : JT w ts (k + 1) := ⟨by have := h.1; omega, h.2⟩
theorem JT.add {w : World} {ts : List Tm} {k : Nat} {A : Option Addr} {n c p : Nat} {xs : List Nat} (h : JT w ts k) (hx : Sl w A n c xs) (hp : p + n ≤ 4096) : JT w (ts ++ [tplus A n c xs p]) (k + 1) := by
  refine ⟨by have := h.1; simp; omega, ?_, fun t ht => ?_⟩
  · have h1 := h.2.1
    simp [wsum] at h1 ⊢
    omega
  · rcases List.mem_append.1 ht with h1 | h1
    · exact h.2.2 t h1
    · rw [List.mem_singleton] at h1
      subst h1
      exact ⟨hx, hp⟩
/-- between two rounds -/
def JI (w W : World) (f : Nat → Nat) (n k : Nat) (v : Value) (ts : List Tm) : Prop :=
  W.ownsRow w.heap.size 69 4 v ts.length (tvs ts) ∧ JT w ts k ∧ tsum ts = ((jsum f n k : Nat) : Int) ∧ Below w.heap.size w W
theorem sgn_posJ {s : Bool} {z R : Nat} (h1 : (R : Int) = sgn s z) (h2 : s = true → z ≠ 0) : s = false ∧ z = R := by
  cases s with
  | false => simp [sgn] at h1; exact ⟨rfl, by omega⟩
  | true => have := h2 rfl; simp [sgn] at h1; omega
theorem item_big {xs : List Nat} {k p : Nat} (hw : Ws xs) (hc : Cn xs) (hl : xs.length = k) (hk : 0 < k) (hp : 4096 < p + k) : Big ≤ V xs * B64 ^ p := by
  have h1 : B64 ^ (k - 1) ≤ V xs := by
    rcases Nat.lt_or_ge (V xs) (B64 ^ (k - 1)) with h1 | h1
    · have := (Cn_len hw hc (k - 1)).2 h1
      omega
    · exact h1
  refine Nat.le_trans ?_ (Nat.mul_le_mul_right _ h1)
  rw [← Nat.pow_add]
  exact Nat.pow_le_pow_right B64_pos (by unfold Most; omega)

set_option maxHeartbeats 4000000 in
theorem Join_ok (ls : List (Option Addr × Nat × Nat)) (f : Nat → Nat) (A : Option Addr) (m c n : Nat) (w : World) (hl : ls.length = m) (hm : m ≤ 5000) (hn1 : 1 ≤ n) (hn2 : n ≤ 1000) (hr : Rd w w.heap.size A (svs ls)) (hf : JL w ls f) :
    Calls Tryd.prog 19 #[.slice A m c, .int .i64 (n : Int)] w fun e w' => Rs w w' e (jsum f n m) := by
  obtain ⟨i0, hi, hz0, hz1, hz2⟩ := info_parts Tryd.info69
  have HC := Lib.hid (show chkS ls = 0 from chkS_zero fun s hs => by
    obtain ⟨i, h⟩ := List.getElem?_of_mem hs
    obtain ⟨_, _, h2, _⟩ := hf i s h
    exact h2)
  have Ho := Lib.hid (show decide ((n : Int) < 1 ∨ 1000 < (n : Int)) = false from decide_eq_false (by omega))
  have Hx := Lib.hid (And.intro hl (And.intro hr hf))
  have hmi : ¬ (5000 : Int) < (m : Int) := by omega
  have hmi2 : (m : Int) ≤ 5000 := by omega
  clear hr hf hl
  go_enter Tryd.func19, Tryd.ntmps19
  go_wp2_with (fail)
  refine (fcheck_any ls A m c _ Hx.out.1 (by omega) Hx.out.2.1).mono ?_
  rintro e w1 ⟨rfl, rfl⟩
  rw [HC.out]
  go_wp2_with (fail)
  refine (outOfPiece_ok _ _).mono ?_
  rintro e w2 ⟨rfl, rfl⟩
  rw [Ho.out]
  go_wp2_with (fail)
  go_loopw [7, 8, 9, 24] (fun v _ _ iv wr => ∃ k : Nat, k ≤ m ∧ iv = .int .i64 k ∧ Hid (∃ ts, JI w wr f n k v ts)) (fun _ _ _ iv _ => m - (intOf iv).toNat)
  case atStart => exact ⟨0, Nat.zero_le _, rfl, [], World.ownsRow_nil _ _ _ _, ⟨Nat.le_refl _, rfl, fun t ht => by cases ht⟩, rfl, Below.refl _ _⟩
  case round =>
    obtain ⟨k, hk, rfl, HE⟩ := hrel
    obtain ⟨ts, hI⟩ := HE.out
    have HI := Lib.hid hI
    clear HE hI
    by_cases hlt : k < m
    · have hkl : k < ls.length := by rw [Hx.out.1]; exact hlt
      have hg := List.getElem?_eq_getElem hkl
      obtain ⟨b, o, rfl, hb1, hc1⟩ := (Hx.out.2.1.below HI.out.2.2.2).at (svs_get hg)
      obtain ⟨xs, e1, e2, e3⟩ := Hx.out.2.2 k _ hg
      generalize ls[k] = z at *
      obtain ⟨za, zn, zc⟩ := z
      simp only at hc1 e2
      have HQ := Lib.hid (And.intro (show Sl w za zn zc xs from e1) e3)
      have hki : (k : Int) < (m : Int) := by omega
      clear hkl hg e1 e3
      go_wp2_with (fail)
      refine (fused_ok za zn zc xs _ (by omega) (HQ.out.1.below HI.out.2.2.2)).mono ?_
      rintro e w3 ⟨q, rfl, hq, hU, rfl⟩
      have HU := Lib.hid (And.intro hU.out (HQ.out.1.tk hq))
      clear hU
      obtain ⟨p, hp⟩ : ∃ p, n * k = p := ⟨_, rfl⟩
      have hp5 : p ≤ 5000000 := by rw [← hp]; exact Nat.le_trans (Nat.mul_le_mul hn2 (show k ≤ 5000 by omega)) (by omega)
      have hpi : (n : Int) * (k : Int) = (p : Int) := by rw [← hp]; push_cast; rfl
      have hpw : IntKind.i64.wrap (p : Int) = (p : Int) := IntWalk.i64_in _ (by omega)
      have HP := Lib.hid hp
      clear hp
      by_cases h0 : q = 0
      · subst h0
        have hz : f k = 0 := by
          rw [← HQ.out.2, ← HU.out.1.1]; rfl
        have HN : Hid (∃ ts, JI w wr f n (k + 1) u7 ts) := by
          refine ⟨ts, HI.out.1, HI.out.2.1.more, ?_, HI.out.2.2.2⟩
          rw [HI.out.2.2.1, jsum, hz, Nat.zero_mul, Nat.add_zero]
        clear HI hz
        go_wp2_with (fail)
        refine ⟨⟨k + 1, by omega, by go_num, HN⟩, ?_⟩
        simp [intOf]; omega
      · have hqi : ((q : Int) == 0) = false := by simp; omega
        have hqi2 : ¬ (q : Int) = 0 := by omega
        by_cases hbig : 4096 < p + q
        · have hbi : (4096 : Int) < (p : Int) + (q : Int) := by omega
          have HB := Lib.hid (show Big ≤ jsum f n m from by
            refine Nat.le_trans (item_big HU.out.2.2.2.2.1 HU.out.1.2 HU.out.2.1 (by omega) hbig) (Nat.le_trans ?_ (jsum_le f n (k + 1) m (by omega)))
            rw [HU.out.1.1, HQ.out.2, jsum, HP.out]
            exact Nat.le_add_left _ _)
          go_wp2_with (fail)
          go_ret2
          exact ⟨.inr ⟨rfl, HB.out⟩, HI.out.2.2.2⟩
        · have hbi : ¬ (4096 : Int) < (p : Int) + (q : Int) := by omega
          have hbi2 : (p : Int) + (q : Int) ≤ 4096 := by omega
          have hbw : IntKind.i64.wrap ((p : Int) + (q : Int)) = (p : Int) + (q : Int) := IntWalk.i64_in _ (by omega)
          have htl : ts.length ≤ 5000 := by have := HI.out.2.1.1; omega
          go_wp2_with (fail)
          refine (placed_ok za q zc (p : Int) _).mono ?_
          rintro e w4 ⟨rfl, hb4⟩
          have H4 := Lib.hid hb4
          have hws := HI.out.2.2.2.size
          have hws4 := hb4.size
          have HO := Lib.hid (own_below HI.out.1 hb4 (Nat.le_refl _))
          have Hnews := Lib.hid (World.news_of_block (heap_alloc_new w4 (.cells (tcs (tplus za q zc (xs.take q) p)).toArray 69)))
          clear hb4
          go_wp2_with (at_builtin; refine wpList_append_own_at _ rfl (.tmp 31) (.tmp 37) 63 rfl w.heap.size 69 i0 (.agg #[.bool false, .slice none 0 0, .int .i64 0, .int .i64 0]) 4 48 Tryd.underlying63 hi hz0 hz1 hz2 rfl (by omega) u7 _ _ rfl (HO.out.alloc _) ⟨w4.heap.size, 0, none⟩ 1 1 (tcs (tplus za q zc (xs.take q) p)) rfl rfl Hnews.out (by simp [tcs, Value.oneCell']) (by unfold maxLen; omega) (by omega) (by simp; omega) ?_)
          intro v' w5 hown5 hgrow5 hnil5 hblk5
          have hb5 : Below w.heap.size w w5 := by
            have h1 := HI.out.2.2.2.trans (H4.out.mono HI.out.2.2.2.size)
            exact (h1.trans (((Below.refl _ w4).alloc (Nat.le_refl _) _).mono h1.size)).grown hgrow5 (by have := h1.size; simp; omega) (fun j hj => (HO.out.lt j hj).1)
          have HN : Hid (∃ ts, JI w w5 f n (k + 1) v' ts) := by
            refine ⟨ts ++ [tplus za q zc (xs.take q) p], ?_, HI.out.2.1.add HU.out.2 (by omega), ?_, hb5⟩
            · rw [tvs_app, List.length_append, List.length_singleton]
              exact hown5
            · rw [tsum_app, HI.out.2.2.1, show tsum [tplus za q zc (xs.take q) p] = ((V (xs.take q) * B64 ^ p : Nat) : Int) by simp [tsum, tval_plus], HU.out.1.1, HQ.out.2, jsum, HP.out]
              push_cast
              rfl
          clear HI HO Hnews H4 hown5 hgrow5 hnil5 hblk5 hb5
          go_wp2_with (fail)
          refine ⟨⟨k + 1, by omega, by go_num, HN⟩, ?_⟩
          simp [intOf]; omega
    · obtain rfl : k = m := by omega
      have hki : ¬ (k : Int) < (k : Int) := by omega
      obtain ⟨A', c', rfl⟩ := own_slice HI.out.1
      obtain ⟨j, hj⟩ : ∃ j, ts.length = j := ⟨_, rfl⟩
      have hj5 : j ≤ 5000 := by rw [← hj]; exact Nat.le_trans HI.out.2.1.1 hm
      have HT := Lib.hid (And.intro (show wr.ownsRow w.heap.size 69 4 (.slice A' j c') j (tvs ts) by rw [← hj]; exact HI.out.1) (And.intro hj (HI.out.2.1.below HI.out.2.2.2)))
      rw [hj]
      clear hlt
      go_wp2_with (fail)
      refine (fsum_ok ts A' j c' 50000 _ (by omega) (Tl.own HT.out.1 hj (fun x hx => (HT.out.2.2.2.2 x hx).1)) (fun x hx => by have := (HT.out.2.2.2.2 x hx).2; omega) (by omega) (by rw [HT.out.2.2.2.1, hj]; have : H63 = 9223372036854775808 := rfl; omega)).mono ?_
      rintro e' w3 ⟨s3, A3, n3, c3, zs, rfl, hS, hb3⟩
      rw [HI.out.2.2.1] at hS
      have hpos := sgn_posJ hS.2.2.1 hS.2.2.2
      obtain rfl := hpos.1
      have HS := Lib.hid (And.intro (hS.1.later HI.out.2.2.2.size (Below.refl _ _)) (And.intro hS.2.1 (And.intro hpos.2 (HI.out.2.2.2.trans (hb3.mono HI.out.2.2.2.size)))))
      have hfw := field_words false A3 n3 c3
      have hn3 : n3 ≤ 9223372036854775807 := by have h := (hS.1.sc hS.2.1).1; exact Nat.le_trans h.2.1 h.2.2.1
      clear hS hb3 hpos hj
      go_wp2_with (fail)
      refine (fresult_ok w A3 n3 c3 zs w3 HS.out.1 HS.out.2.1 hn3).mono ?_
      rintro e w6 ⟨hz, hb2⟩
      rw [HS.out.2.2.1] at hz
      have HB2 := Lib.hid (HS.out.2.2.2.trans (hb2.mono HS.out.2.2.2.size))
      clear hb2
      rcases hz with ⟨rfl, h1, h2, h3⟩ | ⟨rfl, h1⟩
      · have H2 := Lib.hid (And.intro h1 h2)
        clear h1 h2 h3
        go_wp2_with (fail)
        go_ret2
        exact ⟨.inl ⟨_, rfl, H2.out.1, H2.out.2⟩, HB2.out⟩
      · have H2 := Lib.hid h1
        clear h1
        go_wp2_with (fail)
        go_ret2
        exact ⟨.inr ⟨rfl, H2.out⟩, HB2.out⟩
end Go.Proofs.YtalcikmngglplaaDoor
