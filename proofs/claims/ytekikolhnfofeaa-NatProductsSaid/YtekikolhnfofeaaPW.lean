/- The words of a product: nat.productWords and its iterator. -/
import Derived.Test.YtekikolhnfofeaaGath
import Derived.Test.YtekikolhnfofeaaCol
import Derived.Test.YtekikolhnfofeaaHeld
namespace Go.Proofs.Ytekikolhnfofeaa
open Go.RowKit Go.Shelf
set_option linter.unusedVariables false
set_option linter.unusedSimpArgs false
set_option maxRecDepth 10000
attribute [local go_sem] Oper.semAt_some

theorem col_room {xs ys : List Nat} (hx : Ws xs) (hy : Ws ys) (hn : xs.length ≤ 4096) (k i : Nat) (hi : i ≤ xs.length) : cry (fun k => pc xs ys k xs.length) k + pc xs ys k i < B3 := by
  have h1 : ∀ k, pc xs ys k xs.length ≤ 4096 * (B64 * B64) := fun k => Nat.le_trans (pc_le xs ys hx hy k xs.length) (Nat.mul_le_mul_right _ hn)
  have h2 := cry_le (fun k => pc xs ys k xs.length) 4096 h1 k
  have h3 := Nat.le_trans (pc_le xs ys hx hy k i) (Nat.mul_le_mul_right _ (Nat.le_trans hi hn))
  have h4 : 2 * 4096 * B64 + 4096 * (B64 * B64) < B3 := by decide
  omega
theorem pc_step {xs ys : List Nat} {k i x y : Nat} (hik : i ≤ k) (hx : xs[i]? = some x) (hy : ys[k - i]? = some y) : pc xs ys k (i + 1) = pc xs ys k i + x * y := by
  rw [pc, if_pos hik, List.getD_eq_getElem?_getD, List.getD_eq_getElem?_getD, hx, hy]
  rfl
theorem pc_end {xs ys : List Nat} {k i : Nat} (h : xs.length = i ∨ k < i) (hi : i ≤ xs.length) : pc xs ys k xs.length = pc xs ys k i := by
  rcases h with h | h
  · rw [h]
  · exact pc_beyond xs ys k h hi

/-- what the iterator of a product reads -/
def RPW (B0 px py : Nat) (A A' : Option Addr) (n m c c' : Nat) (xs ys : List Nat) (W : World) : Prop := Cap W B0 px A n c xs ∧ Cap W B0 py A' m c' ys ∧ B0 ≤ W.heap.size ∧ px < B0 ∧ py < B0
theorem cell_set3 {w : World} {g l m h : Nat} {p : Addr} (hp : p.block ≠ g) : (set3 w g l m h).cell? p = w.cell? p := by
  rw [set3, World.cell?_setCell_other _ _ _ _ (fun e => hp (by rw [← e])), World.cell?_setCell_other _ _ _ _ (fun e => hp (by rw [← e])), World.cell?_setCell_other _ _ _ _ (fun e => hp (by rw [← e]))]

set_option maxHeartbeats 4000000 in
theorem prod_rounds (B0 px py : Nat) (A A' : Option Addr) (n m c c' : Nat) (xs ys : List Nat) (hn : n ≤ 4096) (hm : m ≤ 4096) (hl : xs.length = n) :
    RoundsG 5 Try.prog 101 #[.pointer (some ⟨px, 0, none⟩), .pointer (some ⟨py, 0, none⟩)] (fun k => #[.int .u64 (wrd (fun k => pc xs ys k xs.length) k : Int)]) (n + m) (RPW B0 px py A A' n m c c' xs ys) := by
  intro l J W hJg hR hY h0
  refine callsIn_of_wp Try.func101 rfl trivial ?_ rfl
  simp only [Try.ntmps101, List.size_toArray, List.length_cons, List.length_nil, Nat.reduceAdd, Nat.reduceSub, Array.replicate_succ, Array.replicate_zero, List.push_toArray, List.append_toArray, List.nil_append, List.cons_append]
  obtain ⟨hX, hYy, hB0, hp1, hp2⟩ := hR 0 W h0
  have c1 := hX.1.1
  have c2 := hYy.1.1
  have l1 := hX.1.lt
  have l2 := hYy.1.lt
  have hJ1 : J 0 (W.alloc (.cells #[.int .u64 0, .int .u64 0, .int .u64 0] 100)) := hJg 0 _ _ h0 (World.grownBy_alloc W _ _)
  have hC1 : C3 (W.alloc (.cells #[.int .u64 0, .int .u64 0, .int .u64 0] 100)) W.heap.size 0 0 0 := C3.new W 0 0 0 _
  obtain ⟨N, hN, hN2⟩ : ∃ N : Nat, (n : Int) + (m : Int) = (N : Int) ∧ N = n + m := ⟨n + m, by omega, rfl⟩
  rw [← hN2] at hY ⊢
  have hN3 : N ≤ 8192 := by omega
  have HN := Lib.hid hN2
  clear hN2
  have HJ := Lib.hid (And.intro hJ1 hC1)
  have HA := Lib.hid (And.intro hJg (And.intro hR hY))
  clear hX hYy hJ1 hC1 hJg hR hY h0
  gi_wp2
  generalize W.heap.size = g at *
  gi_loopw [12] (fun kv wr => ∃ k : Nat, k ≤ N ∧ kv = .int .i64 k ∧ ∃ a b d, Hid (J k wr ∧ C3 wr g a b d ∧ cv a b d = cry (fun k => pc xs ys k xs.length) k ∧ a < B64 ∧ b < B64)) (fun kv _ => N - (intOf kv).toNat)
  case atStart => exact ⟨0, by omega, rfl, 0, 0, 0, HJ.out.1, HJ.out.2, rfl, by decide, by decide⟩
  case round =>
    clear HJ
    obtain ⟨k, hk, rfl, a, b, d, hH⟩ := hrel
    by_cases hlt : k < N
    · obtain ⟨hX, hYy, hB1, _, _⟩ := HA.out.2.1 k wr hH.out.1
      have c1 := hX.1.1
      have c2 := hYy.1.1
      obtain ⟨wo, hwo⟩ : ∃ wo : World, wo = wr := ⟨_, rfl⟩
      have hki : (k : Int) < (N : Int) := by omega
      obtain ⟨i0, hi0, hi1⟩ : ∃ i0 : Nat, (i0 = 0 ∧ k + 1 ≤ m ∨ k + 1 = i0 + m ∧ m ≤ k) ∧ True := by
        rcases Nat.lt_or_ge k m with h | h
        · exact ⟨0, .inl ⟨rfl, by omega⟩, trivial⟩
        · exact ⟨k + 1 - m, .inr ⟨by omega, h⟩, trivial⟩
      have hz0 : pc xs ys k i0 = 0 := by
        rcases hi0 with ⟨rfl, _⟩ | ⟨h, _⟩
        · rfl
        · exact pc_low xs ys k i0 (by rw [hYy.2.1]; omega)
      have HS : Hid (wo.grownBy wr (some g) ∧ C3 wr g a b d ∧ cv a b d = cry (fun k => pc xs ys k xs.length) k + pc xs ys k i0 ∧ a < B64 ∧ b < B64 ∧ J k wo) :=
        ⟨by rw [hwo]; exact World.grownBy.refl wr _, hH.out.2.1, by rw [hz0]; exact hH.out.2.2.1, hH.out.2.2.2.1, hH.out.2.2.2.2, by rw [hwo]; exact hH.out.1⟩
      clear hX hYy hB1 hH hi1 hz0
      have HL := Lib.hid (show k < i0 + m ∧ i0 ≤ k + 1 by omega)
      have hcase : (¬ (0 : Int) < (k : Int) - m + 1 ∧ i0 = 0) ∨ ((0 : Int) < (k : Int) - m + 1 ∧ (k : Int) - m + 1 = (i0 : Int)) := by omega
      have HI := Lib.hid (show i0 ≤ n by have := HN.out; omega)
      clear hi0
      rcases hcase with ⟨hcm, rfl⟩ | ⟨hcm, hcm2⟩
      all_goals
        gi_wp2
        gi_loopw [6] (fun iv wi => ∃ i : Nat, i ≤ n ∧ i ≤ k + 1 ∧ iv = .int .i64 i ∧ ∃ a b d, Hid (k < i + m ∧ wo.grownBy wi (some g) ∧ C3 wi g a b d ∧ cv a b d = cry (fun k => pc xs ys k xs.length) k + pc xs ys k i ∧ a < B64 ∧ b < B64 ∧ J k wo)) (fun iv _ => n - (intOf iv).toNat)
        case atStart => exact ⟨_, HI.out, HL.out.2, rfl, a, b, d, HL.out.1, HS.out⟩
        case round =>
          clear HS HL HI
          obtain ⟨i, hin, hik, rfl, a, b, d, hH⟩ := hrel
          have hJi := HA.out.1 k _ _ hH.out.2.2.2.2.2.2 hH.out.2.1
          obtain ⟨hX, hYy, hB2, _, _⟩ := HA.out.2.1 k wr hJi
          have c1 := hX.1.1
          have c2 := hYy.1.1
          by_cases hcond : i < n ∧ i ≤ k
          · obtain ⟨x, bx, ox, rfl, hbx, hx, _, hgx, hcx⟩ := hX.at2 hcond.1
            obtain ⟨j, hj, hj2⟩ : ∃ j : Nat, (k : Int) - (i : Int) = (j : Int) ∧ j = k - i := ⟨k - i, by omega, rfl⟩
            obtain ⟨y, bby, oy, rfl, hby, hy, _, hgy, hcy⟩ := hYy.at2 (show j < m by have := hH.out.1; omega)
            have hst := pc_step hcond.2 hgx (by rw [← hj2]; exact hgy)
            obtain ⟨l1, m1, ⟨e1, e2, e3⟩, hw⟩ := wide_any x y hx hy
            have hroom := col_room hX.2.2.1 hYy.2.2.1 (by rw [hl]; exact hn) k (i + 1) (by rw [hl]; exact hcond.1)
            obtain ⟨a2, b2, d2, ⟨e4, e5, e6, e7⟩, hp⟩ := colplus_any a b d l1 m1 0 hH.out.2.2.2.2.1 hH.out.2.2.2.2.2.1 e2 e3 (by rw [e1, hH.out.2.2.2.1, Nat.add_assoc, ← hst]; exact hroom)
            rw [e1, hH.out.2.2.2.1, Nat.add_assoc, ← hst] at e4
            have Hw := Lib.hid hw
            have Hp := Lib.hid hp
            have HE := Lib.hid (And.intro e4 (And.intro e5 e6))
            have hi1 : (i : Int) < n := by omega
            have hi2 : (i : Int) ≤ k := by omega
            have hj3 : (j : Int) < m := by have := hH.out.1; omega
            have hj4 : IntKind.i64.wrap (j : Int) = (j : Int) := IntWalk.i64_in _ (by omega)
            have hj5 : IntKind.i64.wrap ((k : Int) - (i : Int)) = (j : Int) := by rw [hj]; exact hj4
            obtain ⟨s0, s1, s2, f0, f1, f2⟩ := hH.out.2.2.1
            have lg := hH.out.2.2.1.lt
            have lx := hX.1.lt
            have ly := hYy.1.lt
            have PK := Lib.hid (fun (w' : World) (hb : Below wr.heap.size wr w') => show (w'.cell? ⟨g, 0, none⟩ = some (.int .u64 (a : Int)) ∧ w'.cell? ⟨g, 1, none⟩ = some (.int .u64 (b : Int)) ∧ w'.cell? ⟨g, 2, none⟩ = some (.int .u64 (d : Int)) ∧ w'.cell? ⟨px, 0, none⟩ = some (.slice (some ⟨bx, ox, none⟩) n c) ∧ w'.cell? ⟨py, 0, none⟩ = some (.slice (some ⟨bby, oy, none⟩) m c') ∧ w'.cell? ⟨bx, ox + i, none⟩ = some (.int .u64 (x : Int)) ∧ w'.cell? ⟨bby, oy + j, none⟩ = some (.int .u64 (y : Int))) ∧ w'.frozen? ⟨g, 0, none⟩ = false ∧ w'.frozen? ⟨g, 1, none⟩ = false ∧ w'.frozen? ⟨g, 2, none⟩ = false from
              ⟨⟨(hb.cell (p := ⟨g, 0, none⟩) lg).trans s0, (hb.cell (p := ⟨g, 1, none⟩) lg).trans s1, (hb.cell (p := ⟨g, 2, none⟩) lg).trans s2, (hb.cell (p := ⟨px, 0, none⟩) lx).trans c1, (hb.cell (p := ⟨py, 0, none⟩) ly).trans c2, (hb.cell (p := ⟨bx, ox + i, none⟩) (Nat.lt_of_lt_of_le hbx hB2)).trans hcx, (hb.cell (p := ⟨bby, oy + j, none⟩) (Nat.lt_of_lt_of_le hby hB2)).trans hcy⟩,
                (hb.frozen (p := ⟨g, 0, none⟩) lg).trans f0, (hb.frozen (p := ⟨g, 1, none⟩) lg).trans f1, (hb.frozen (p := ⟨g, 2, none⟩) lg).trans f2⟩)
            clear hX hYy hgx hgy hst e1 e2 e3 hw hroom e4 e5 e6 e7 hp hj2 hx hy
            gi_wp2
            refine wpIn_wide.2 ?_
            have hmix : Try.prog.follows Departure.mixedOrders = true := by kernel_rfl
            refine wp_region_L 13 (fun w' => w'.cell? ⟨g, 0, none⟩ = some (.int .u64 (a : Int)) ∧ w'.cell? ⟨g, 1, none⟩ = some (.int .u64 (b : Int)) ∧ w'.cell? ⟨g, 2, none⟩ = some (.int .u64 (d : Int)) ∧ w'.cell? ⟨px, 0, none⟩ = some (.slice (some ⟨bx, ox, none⟩) n c) ∧ w'.cell? ⟨py, 0, none⟩ = some (.slice (some ⟨bby, oy, none⟩) m c') ∧ w'.cell? ⟨bx, ox + i, none⟩ = some (.int .u64 (x : Int)) ∧ w'.cell? ⟨bby, oy + j, none⟩ = some (.int .u64 (y : Int))) hmix ?_
            have HS0 := Lib.hid (show (fun w' : World => w'.cell? ⟨g, 0, none⟩ = some (.int .u64 (a : Int)) ∧ w'.cell? ⟨g, 1, none⟩ = some (.int .u64 (b : Int)) ∧ w'.cell? ⟨g, 2, none⟩ = some (.int .u64 (d : Int)) ∧ w'.cell? ⟨px, 0, none⟩ = some (.slice (some ⟨bx, ox, none⟩) n c) ∧ w'.cell? ⟨py, 0, none⟩ = some (.slice (some ⟨bby, oy, none⟩) m c') ∧ w'.cell? ⟨bx, ox + i, none⟩ = some (.int .u64 (x : Int)) ∧ w'.cell? ⟨bby, oy + j, none⟩ = some (.int .u64 (y : Int))) wr.drew from ⟨s0, s1, s2, c1, c2, hcx, hcy⟩)
            refine wpAnyL_take (i := 0) (v := ?_) rfl rfl (by kernel_rfl) (by kernel_rfl) (by kernel_rfl) (by kernel_rfl) (by kernel_rfl) (fun _ _ _ h => h) HS0.out (Or.inl ⟨by rfl, ?_⟩) ?_
            rotate_left
            · rintro w ⟨q0, q1, q2, q3, q4, q5, q6⟩; go_simp; try with_reducible rfl
            try simp only [Act.put, List.setIfInBounds_toArray, List.set_cons_zero, List.set_cons_succ]
            refine wpAnyL_take (i := 1) (v := ?_) rfl rfl (by kernel_rfl) (by kernel_rfl) (by kernel_rfl) (by kernel_rfl) (by kernel_rfl) (fun _ _ _ h => h) HS0.out (Or.inl ⟨by rfl, ?_⟩) ?_
            rotate_left
            · rintro w ⟨q0, q1, q2, q3, q4, q5, q6⟩; go_simp; try with_reducible rfl
            try simp only [Act.put, List.setIfInBounds_toArray, List.set_cons_zero, List.set_cons_succ]
            refine wpAnyL_take (i := 2) (v := ?_) rfl rfl (by kernel_rfl) (by kernel_rfl) (by kernel_rfl) (by kernel_rfl) (by kernel_rfl) (fun _ _ _ h => h) HS0.out (Or.inl ⟨by rfl, ?_⟩) ?_
            rotate_left
            · rintro w ⟨q0, q1, q2, q3, q4, q5, q6⟩; go_simp; try with_reducible rfl
            try simp only [Act.put, List.setIfInBounds_toArray, List.set_cons_zero, List.set_cons_succ]
            refine wpAnyL_take (i := 3) (v := ?_) rfl rfl (by kernel_rfl) (by kernel_rfl) (by kernel_rfl) (by kernel_rfl) (by kernel_rfl) (fun _ _ _ h => h) HS0.out (Or.inl ⟨by rfl, ?_⟩) ?_
            rotate_left
            · rintro w ⟨q0, q1, q2, q3, q4, q5, q6⟩; go_simp; try with_reducible rfl
            try simp only [Act.put, List.setIfInBounds_toArray, List.set_cons_zero, List.set_cons_succ]
            refine wpAnyL_take (i := 4) (v := ?_) rfl rfl (by kernel_rfl) (by kernel_rfl) (by kernel_rfl) (by kernel_rfl) (by kernel_rfl) (fun _ _ _ h => h) HS0.out (Or.inl ⟨by rfl, ?_⟩) ?_
            rotate_left
            · rintro w ⟨q0, q1, q2, q3, q4, q5, q6⟩; go_simp; try with_reducible rfl
            try simp only [Act.put, List.setIfInBounds_toArray, List.set_cons_zero, List.set_cons_succ]
            refine wpAnyL_take (i := 5) (v := ?_) rfl rfl (by kernel_rfl) (by kernel_rfl) (by kernel_rfl) (by kernel_rfl) (by kernel_rfl) (fun _ _ _ h => h) HS0.out (Or.inl ⟨by rfl, ?_⟩) ?_
            rotate_left
            · rintro w ⟨q0, q1, q2, q3, q4, q5, q6⟩; go_simp; try with_reducible rfl
            try simp only [Act.put, List.setIfInBounds_toArray, List.set_cons_zero, List.set_cons_succ]
            refine wpAnyL_take (i := 6) (v := ?_) rfl rfl (by kernel_rfl) (by kernel_rfl) (by kernel_rfl) (by kernel_rfl) (by kernel_rfl) (fun _ _ _ h => h) HS0.out (Or.inl ⟨by rfl, ?_⟩) ?_
            rotate_left
            · rintro w ⟨q0, q1, q2, q3, q4, q5, q6⟩; go_simp; try with_reducible rfl
            try simp only [Act.put, List.setIfInBounds_toArray, List.set_cons_zero, List.set_cons_succ]
            refine wpAnyL_take (i := 7) (v := ?_) rfl rfl (by kernel_rfl) (by kernel_rfl) (by kernel_rfl) (by kernel_rfl) (by kernel_rfl) (fun _ _ _ h => h) HS0.out (Or.inl ⟨by rfl, ?_⟩) ?_
            rotate_left
            · rintro w ⟨q0, q1, q2, q3, q4, q5, q6⟩; go_simp; try with_reducible rfl
            try simp only [Act.put, List.setIfInBounds_toArray, List.set_cons_zero, List.set_cons_succ]
            refine wpAnyL_take (i := 8) (v := ?_) rfl rfl (by kernel_rfl) (by kernel_rfl) (by kernel_rfl) (by kernel_rfl) (by kernel_rfl) (fun _ _ _ h => h) HS0.out (Or.inl ⟨by rfl, ?_⟩) ?_
            rotate_left
            · rintro w ⟨q0, q1, q2, q3, q4, q5, q6⟩; go_simp; try with_reducible rfl
            try simp only [Act.put, List.setIfInBounds_toArray, List.set_cons_zero, List.set_cons_succ]
            refine wpAnyL_take (i := 9) (v := ?_) rfl rfl (by kernel_rfl) (by kernel_rfl) (by kernel_rfl) (by kernel_rfl) (by kernel_rfl) (fun _ _ _ h => h) HS0.out (Or.inl ⟨by rfl, ?_⟩) ?_
            rotate_left
            · rintro w ⟨q0, q1, q2, q3, q4, q5, q6⟩; go_simp; try with_reducible rfl
            try simp only [Act.put, List.setIfInBounds_toArray, List.set_cons_zero, List.set_cons_succ]
            refine wpAnyL_take (i := 10) (v := ?_) rfl rfl (by kernel_rfl) (by kernel_rfl) (by kernel_rfl) (by kernel_rfl) (by kernel_rfl) (fun _ _ _ h => h) HS0.out (Or.inl ⟨by rfl, ?_⟩) ?_
            rotate_left
            · rintro w ⟨q0, q1, q2, q3, q4, q5, q6⟩; go_simp; try with_reducible rfl
            try simp only [Act.put, List.setIfInBounds_toArray, List.set_cons_zero, List.set_cons_succ]
            refine wpAnyL_one (i := 11) rfl (by kernel_rfl) (fun K hK => ?_)
            go_simp
            refine (Hw.out _).mono ?_
            rintro e w1 ⟨rfl, hb1⟩
            have hB1 := belowA hb1
            obtain ⟨hz, y0, y1, y2⟩ := PK.out w1 hB1
            refine hK.out _ _ (fun _ => hz) ?_
            clear hK K hb1
            try simp only [Act.put, List.setIfInBounds_toArray, List.set_cons_zero, List.set_cons_succ]
            refine wpAnyL_one (i := 12) rfl (by kernel_rfl) (fun K hK => ?_)
            go_simp
            refine (Hp.out _).mono ?_
            rintro e w2 ⟨rfl, hb2⟩
            have hB2' := hB1.trans (hb2.mono hB1.size)
            obtain ⟨hz2, x0, x1, x2⟩ := PK.out w2 hB2'
            obtain ⟨v0, v1, v2, v3, v4, v5, v6⟩ := hz2
            refine hK.out _ _ (fun _ => ⟨v0, v1, v2, v3, v4, v5, v6⟩) ?_
            clear hK K hb2
            try simp only [Act.put, List.setIfInBounds_toArray, List.set_cons_zero, List.set_cons_succ]
            refine wpAnyL_one (i := 13) rfl (by kernel_rfl) (fun K hK => ?_)
            go_simp
            refine hK.out _ _ (fun h => absurd rfl h) ?_
            clear hK K
            try simp only [Act.put, List.setIfInBounds_toArray, List.set_cons_zero, List.set_cons_succ]
            refine wpAnyL_done (by kernel_rfl) ?_ _
            have HNew : Hid (k < (i + 1) + m ∧ wo.grownBy (set3 w2 g a2 b2 d2) (some g) ∧ C3 (set3 w2 g a2 b2 d2) g a2 b2 d2 ∧ cv a2 b2 d2 = cry (fun k => pc xs ys k xs.length) k + pc xs ys k (i + 1) ∧ a2 < B64 ∧ b2 < B64 ∧ J k wo) :=
              ⟨by have := hH.out.1; omega, grown_trans (grown_below hH.out.2.1 (hB2'.mono hH.out.2.1.size)) (grown_set3 _ _ _ _ _), (hH.out.2.2.1.below hB2' lg).set _ _ _, HE.out.1, HE.out.2.1, HE.out.2.2, hH.out.2.2.2.2.2.2⟩
            clear hH PK HE hB1 hB2' s0 s1 s2 f0 f1 f2 HS0
            gi_wp2
            go_roundw
            case rel => exact ⟨i + 1, by omega, by omega, by go_num, a2, b2, d2, HNew⟩
            case measure => simp [intOf]; omega
          · have hfull : pc xs ys k xs.length = pc xs ys k i := pc_end (by rw [hl]; omega) (by rw [hl]; exact hin)
            have hcv : cv a b d = cry (fun k => pc xs ys k xs.length) k + (fun k => pc xs ys k xs.length) k := by rw [hH.out.2.2.2.1, ← hfull]
            have hnx := next_cv a b d hH.out.2.2.2.2.1
            rw [hcv] at hnx
            have ha : a = wrd (fun k => pc xs ys k xs.length) k := hnx.2
            have hcy : cv b d 0 = cry (fun k => pc xs ys k xs.length) (k + 1) := hnx.1
            have lg := hH.out.2.2.1.lt
            obtain ⟨fn, tmps, assign, body, hyy, hRd⟩ := HA.out.2.2 k wr hJi hlt lg
            rw [← ha] at hyy
            obtain ⟨s0, s1, s2, f0, f1, f2⟩ := hH.out.2.2.1
            have hdl : d < B64 := cv_high (by rw [hcv]; exact col_room hX.2.2.1 hYy.2.2.1 (by rw [hl]; exact hn) k _ (Nat.le_refl _))
            have HC := Lib.hid (And.intro hH.out.2.2.1 (And.intro hcy (And.intro hH.out.2.2.2.2.2.1 (And.intro lg hdl))))
            have hcase : ¬ (i : Int) < n ∨ ((i : Int) < n ∧ ¬ (i : Int) ≤ k) := by omega
            clear hH hX hYy hfull hdl hcv hnx ha hcy hJi hB2 hcond
            rcases hcase with hc3 | ⟨hc3, hc4⟩
            all_goals
              gi_wp2
              refine hRd.mono ?_
              clear hRd hyy
              rintro e W3 ⟨rfl, hJ3, hg3⟩
              have hC3 := HC.out.1.block hg3
              have hC3b := hC3
              obtain ⟨t0, t1, t2, t3, t4, t5⟩ := hC3b
              have HJ3 := Lib.hid (And.intro hJ3 (And.intro hC3 hC3.lt))
              clear s0 s1 s2 f0 f1 f2 hJ3 hg3
              gi_wp2_with (refine ⟨trivial, ?_⟩; gi_at_call 104; refine (callsIn_wide.2 (next_any a b d _)).mono ?_; rintro e w4 ⟨rfl, hb4⟩; have hC4 := HJ3.out.2.1.below hb4 HJ3.out.2.2; have hC4b := hC4; obtain ⟨u0', u1', u2', u3', u4', u5'⟩ := hC4b; have HC4 := Lib.hid (And.intro hC4 hb4); clear hC4 hb4)
              have HNew : Hid (J (k + 1) (set3 w4 g b d 0) ∧ C3 (set3 w4 g b d 0) g b d 0 ∧ cv b d 0 = cry (fun k => pc xs ys k xs.length) (k + 1) ∧ b < B64 ∧ d < B64) :=
                ⟨HA.out.1 _ _ _ HJ3.out.1 (grown_trans (grown_below (World.grownBy.refl W3 _) HC4.out.2) (grown_set3 _ _ _ _ _)), HC4.out.1.set _ _ _, HC.out.2.1, HC.out.2.2.1, HC.out.2.2.2.2⟩
              go_roundw
              case rel => exact ⟨k + 1, by omega, by go_num, b, d, 0, HNew⟩
              case measure => simp [intOf]; omega
    · obtain rfl : k = N := by omega
      have hki : ¬ (k : Int) < (k : Int) := by omega
      gi_wp2
      go_end0
      exact ⟨⟨_, rfl⟩, hH.out.1⟩

set_option maxHeartbeats 400000 in
theorem productWords_any (A A' : Option Addr) (n m c c' : Nat) (w : World) :
    Calls Try.prog 70 #[.slice A n c, .slice A' m c'] w fun e w' => e = .returned (.func (.func 101) #[] #[.pointer (some ⟨w.heap.size, 0, none⟩), .pointer (some ⟨w.heap.size + 1, 0, none⟩)]) ∧ (w.alloc (.cells #[.slice A n c] 23)).alloc (.cells #[.slice A' m c'] 23) = w' := by
  go_enter Try.func70, Try.ntmps70
  go_wp2
  go_ret
  exact ⟨rfl, rfl⟩
end Go.Proofs.Ytekikolhnfofeaa
