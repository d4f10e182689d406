/- The words of a square: nat.squareWords, its iterator and its closure. -/
import Derived.Test.YtekikolhnfofeaaPW
namespace Go.Proofs.Ytekikolhnfofeaa
open Go.RowKit Go.Shelf
set_option linter.unusedVariables false
set_option linter.unusedSimpArgs false
set_option maxRecDepth 10000
attribute [local go_sem] Oper.semAt_some

set_option maxHeartbeats 2000000 in
/-- the closure: the column at block g becomes that plus twice the argument -/
theorem addTwice_any (a b d p q r g : Nat) (ha : a < B64) (hb : b < B64) (hp : p < B64) (hq : q < B64) (hs : cv a b d + cv p q r + cv p q r < B3) : ∃ a2 b2 d2 : Nat, (cv a2 b2 d2 = cv a b d + cv p q r + cv p q r ∧ a2 < B64 ∧ b2 < B64 ∧ d2 < B64) ∧
    ∀ w, C3 w g a b d → Calls Try.prog 106 #[colV p q r, .pointer (some ⟨g, 0, none⟩)] w fun e w' => (∃ v, e = .returned v) ∧ C3 w' g a2 b2 d2 ∧ w.grownBy w' (some g) := by
  obtain ⟨a1, b1, d1, ⟨e1, e2, e3, e4⟩, hc1⟩ := colplus_any a b d p q r ha hb hp hq (by omega)
  obtain ⟨a2, b2, d2, ⟨e5, e6, e7, e8⟩, hc2⟩ := colplus_any a1 b1 d1 p q r e2 e3 hp hq (by rw [e1]; exact hs)
  rw [e1] at e5
  refine ⟨a2, b2, d2, ⟨e5, e6, e7, e8⟩, fun w hC => ?_⟩
  have H1 := Lib.hid hc1
  have H2 := Lib.hid hc2
  have hlt := hC.lt
  have hCa : C3 (w.alloc (.cells #[.int .u64 (p : Int), .int .u64 (q : Int), .int .u64 (r : Int)] 100)) g a b d := hC.alloc _
  have hPa : C3 (w.alloc (.cells #[.int .u64 (p : Int), .int .u64 (q : Int), .int .u64 (r : Int)] 100)) w.heap.size p q r := C3.new w p q r _
  have HC := Lib.hid (And.intro hC (And.intro hCa hPa))
  obtain ⟨s0, s1, s2, f0, f1, f2⟩ := hCa
  obtain ⟨p0, p1, p2, _⟩ := hPa
  have hmix : Try.prog.follows Departure.mixedOrders = true := by kernel_rfl
  clear e1 e2 e3 e4 e5 e6 e7 e8 hc1 hc2 hs ha hb hp hq hC
  go_enter Try.func106, Try.ntmps106
  go_wp2
  refine wp_region_L 5 (fun w' => w'.cell? ⟨g, 0, none⟩ = some (.int .u64 (a : Int)) ∧ w'.cell? ⟨g, 1, none⟩ = some (.int .u64 (b : Int)) ∧ w'.cell? ⟨g, 2, none⟩ = some (.int .u64 (d : Int)) ∧ w'.cell? ⟨w.heap.size, 0, none⟩ = some (.int .u64 (p : Int)) ∧ w'.cell? ⟨w.heap.size, 1, none⟩ = some (.int .u64 (q : Int)) ∧ w'.cell? ⟨w.heap.size, 2, none⟩ = some (.int .u64 (r : Int))) hmix ?_
  have HS0 := Lib.hid (show (fun w' : World => w'.cell? ⟨g, 0, none⟩ = some (.int .u64 (a : Int)) ∧ w'.cell? ⟨g, 1, none⟩ = some (.int .u64 (b : Int)) ∧ w'.cell? ⟨g, 2, none⟩ = some (.int .u64 (d : Int)) ∧ w'.cell? ⟨w.heap.size, 0, none⟩ = some (.int .u64 (p : Int)) ∧ w'.cell? ⟨w.heap.size, 1, none⟩ = some (.int .u64 (q : Int)) ∧ w'.cell? ⟨w.heap.size, 2, none⟩ = some (.int .u64 (r : Int))) (w.alloc (.cells #[.int .u64 (p : Int), .int .u64 (q : Int), .int .u64 (r : Int)] 100)).drew from ⟨s0, s1, s2, p0, p1, p2⟩)
  refine wpAnyL_take (i := 0) (v := ?_) rfl rfl (by kernel_rfl) (by kernel_rfl) (by kernel_rfl) (by kernel_rfl) (by kernel_rfl) (fun _ _ _ h => h) HS0.out (Or.inl ⟨by rfl, ?_⟩) ?_
  rotate_left
  · rintro w ⟨q0, q1, q2, q3, q4, q5⟩; go_simp; try with_reducible rfl
  try simp only [Act.put, List.setIfInBounds_toArray, List.set_cons_zero, List.set_cons_succ]
  refine wpAnyL_take (i := 1) (v := ?_) rfl rfl (by kernel_rfl) (by kernel_rfl) (by kernel_rfl) (by kernel_rfl) (by kernel_rfl) (fun _ _ _ h => h) HS0.out (Or.inl ⟨by rfl, ?_⟩) ?_
  rotate_left
  · rintro w ⟨q0, q1, q2, q3, q4, q5⟩; go_simp; try with_reducible rfl
  try simp only [Act.put, List.setIfInBounds_toArray, List.set_cons_zero, List.set_cons_succ]
  refine wpAnyL_take (i := 3) (v := ?_) rfl rfl (by kernel_rfl) (by kernel_rfl) (by kernel_rfl) (by kernel_rfl) (by kernel_rfl) (fun _ _ _ h => h) HS0.out (Or.inl ⟨by rfl, ?_⟩) ?_
  rotate_left
  · rintro w ⟨q0, q1, q2, q3, q4, q5⟩; go_simp; try with_reducible rfl
  try simp only [Act.put, List.setIfInBounds_toArray, List.set_cons_zero, List.set_cons_succ]
  have PK := Lib.hid (fun (w' : World) (hbw : Below (w.heap.size + 1) (w.alloc (.cells #[.int .u64 (p : Int), .int .u64 (q : Int), .int .u64 (r : Int)] 100)) w') => And.intro (HC.out.2.1.below hbw (by omega)) (HC.out.2.2.below hbw (by omega)))
  refine wpAnyL_one (i := 2) rfl (by kernel_rfl) (fun K hK => ?_)
  go_simp
  refine (H1.out _).mono ?_
  rintro e w1 ⟨rfl, hb1⟩
  have hB1 : Below (w.heap.size + 1) (w.alloc (.cells #[.int .u64 (p : Int), .int .u64 (q : Int), .int .u64 (r : Int)] 100)) w1 := by have := belowA hb1; rw [World.size_alloc] at this; exact this
  obtain ⟨⟨z0, z1, z2, _⟩, z3, z4, z5, _⟩ := PK.out w1 hB1
  refine hK.out _ _ (fun _ => ⟨z0, z1, z2, z3, z4, z5⟩) ?_
  clear hK K
  try simp only [Act.put, List.setIfInBounds_toArray, List.set_cons_zero, List.set_cons_succ]
  refine wpAnyL_one (i := 4) rfl (by kernel_rfl) (fun K hK => ?_)
  go_simp
  refine (H2.out _).mono ?_
  rintro e w2 ⟨rfl, hb2⟩
  have hB2 := hB1.trans (hb2.mono (by have := hB1.size; simpa using this))
  obtain ⟨⟨y0, y1, y2, x0, x1, x2⟩, y3, y4, y5, _⟩ := PK.out w2 hB2
  refine hK.out _ _ (fun _ => ⟨y0, y1, y2, y3, y4, y5⟩) ?_
  clear hK K
  try simp only [Act.put, List.setIfInBounds_toArray, List.set_cons_zero, List.set_cons_succ]
  refine wpAnyL_one (i := 5) rfl (by kernel_rfl) (fun K hK => ?_)
  go_simp
  refine hK.out _ _ (fun h => absurd rfl h) ?_
  clear hK K
  try simp only [Act.put, List.setIfInBounds_toArray, List.set_cons_zero, List.set_cons_succ]
  refine wpAnyL_done (by kernel_rfl) ?_ _
  have HE : Hid (C3 (set3 w2 g a2 b2 d2) g a2 b2 d2 ∧ w.grownBy (set3 w2 g a2 b2 d2) (some g)) :=
    ⟨(HC.out.2.1.below hB2 (by omega)).set _ _ _, grown_trans (grown_below (World.grownBy_alloc w _ _) (hB2.mono (by omega))) (grown_set3 _ _ _ _ _)⟩
  clear PK HC HS0 hB1 hB2
  go_wp2
  go_end0
  exact ⟨⟨_, rfl⟩, HE.out⟩

/-- what the iterator of a square reads -/
def RSW (B0 px : Nat) (A : Option Addr) (n c : Nat) (xs : List Nat) (W : World) : Prop := Cap W B0 px A n c xs ∧ B0 ≤ W.heap.size ∧ px < B0
theorem grown_new3 {w w' : World} {g g' : Nat} (h : w.grownBy w' (some g)) (hg : w.heap.size ≤ g') (l m h' : Nat) : w.grownBy (set3 w' g' l m h') (some g) :=
  ⟨(grown_set3 w' g' l m h').os.trans h.os, (grown_set3 w' g' l m h').tape.trans h.tape, (grown_set3 w' g' l m h').output.trans h.output, Nat.le_trans h.size (grown_set3 w' g' l m h').size,
    fun i hi hr => ((grown_set3 w' g' l m h').block i (Nat.lt_of_lt_of_le hi h.size) (by intro e; injection e with e; omega)).trans (h.block i hi hr)⟩
theorem C3.far {w : World} {g g' l m h a b d : Nat} (k : C3 w g l m h) (hne : g ≠ g') : C3 (set3 w g' a b d) g l m h :=
  k.block ((grown_set3 w g' a b d).block g k.lt (by intro e; injection e with e; exact hne e))
theorem pc_zero (xs ys : List Nat) (k : Nat) : pc xs ys k 0 = 0 := rfl

set_option maxHeartbeats 8000000 in
theorem square_rounds (B0 px : Nat) (A : Option Addr) (n c : Nat) (xs : List Nat) (hn : n ≤ 4096) (hl : xs.length = n) :
    RoundsG 5 Try.prog 105 #[.pointer (some ⟨px, 0, none⟩)] (fun k => #[.int .u64 (wrd (fun k => pc xs xs k xs.length) k : Int)]) (2 * n) (RSW B0 px A n c xs) := by
  intro l J W hJg hR hY h0
  refine callsIn_of_wp Try.func105 rfl trivial ?_ rfl
  simp only [Try.ntmps105, List.size_toArray, List.length_cons, List.length_nil, Nat.reduceAdd, Nat.reduceSub, Array.replicate_succ, Array.replicate_zero, List.push_toArray, List.append_toArray, List.nil_append, List.cons_append]
  obtain ⟨hX, hB0, hp1⟩ := hR 0 W h0
  have c1 := hX.1.1
  have l1 := hX.1.lt
  have hJ1 : J 0 (W.alloc (.cells #[.int .u64 0, .int .u64 0, .int .u64 0] 100)) := hJg 0 _ _ h0 (World.grownBy_alloc W _ _)
  have hC1 : C3 (W.alloc (.cells #[.int .u64 0, .int .u64 0, .int .u64 0] 100)) W.heap.size 0 0 0 := C3.new W 0 0 0 _
  obtain ⟨N, hN, hN2⟩ : ∃ N : Nat, (2 : Int) * (n : Int) = (N : Int) ∧ N = 2 * n := ⟨2 * n, by omega, rfl⟩
  rw [← hN2] at hY ⊢
  have hN3 : N ≤ 8192 := by omega
  have HN := Lib.hid hN2
  clear hN2
  have HJ := Lib.hid (And.intro hJ1 hC1)
  have HA := Lib.hid (And.intro hJg (And.intro hR hY))
  clear hX hJ1 hC1 hJg hR hY h0
  gi_wp2
  generalize W.heap.size = g at *
  gi_loopw [12] (fun kv wr => ∃ k : Nat, k ≤ N ∧ kv = .int .i64 k ∧ ∃ a b d, Hid (J k wr ∧ C3 wr g a b d ∧ cv a b d = cry (fun k => pc xs xs k xs.length) k ∧ a < B64 ∧ b < B64)) (fun kv _ => N - (intOf kv).toNat)
  case atStart => exact ⟨0, by omega, rfl, 0, 0, 0, HJ.out.1, HJ.out.2, rfl, by decide, by decide⟩
  case round =>
    clear HJ
    obtain ⟨k, hk, rfl, a, b, d, hH⟩ := hrel
    by_cases hlt : k < N
    · obtain ⟨hX, hB1, _⟩ := HA.out.2.1 k wr hH.out.1
      have c1 := hX.1.1
      have l1 := hX.1.lt
      obtain ⟨wo, hwo⟩ : ∃ wo : World, wo = wr := ⟨_, rfl⟩
      have hki : (k : Int) < (N : Int) := by omega
      have lg := hH.out.2.1.lt
      obtain ⟨pb, hpb⟩ : ∃ pb : Nat, wr.heap.size = pb := ⟨_, rfl⟩
      have hgp : g ≠ pb := by omega
      have l1b : px < pb := by omega
      have lgb : g < pb := by omega
      obtain ⟨i0, hi0⟩ : ∃ i0 : Nat, (i0 = 0 ∧ k + 1 ≤ n ∨ k + 1 = i0 + n ∧ n ≤ k) := by
        rcases Nat.lt_or_ge k n with h | h
        · exact ⟨0, .inl ⟨rfl, by omega⟩⟩
        · exact ⟨k + 1 - n, .inr ⟨by omega, h⟩⟩
      have hz0 : pc xs xs k i0 = 0 := by
        rcases hi0 with ⟨rfl, _⟩ | ⟨h, _⟩
        · rfl
        · exact pc_low xs xs k i0 (by rw [hl]; omega)
      have hNn := HN.out
      have HL := Lib.hid (show k < i0 + n ∧ 2 * i0 ≤ k + 1 by omega)
      have hcase : (¬ (0 : Int) < (k : Int) - n + 1 ∧ i0 = 0) ∨ ((0 : Int) < (k : Int) - n + 1 ∧ (k : Int) - n + 1 = (i0 : Int)) := by omega
      have HS : Hid (wo.grownBy (wr.alloc (.cells #[.int .u64 0, .int .u64 0, .int .u64 0] 100)) (some g) ∧ C3 (wr.alloc (.cells #[.int .u64 0, .int .u64 0, .int .u64 0] 100)) pb 0 0 0 ∧ cv 0 0 0 = pc xs xs k i0 ∧ 0 < B64 ∧ 0 < B64 ∧ J k wo ∧ wo.heap.size = pb ∧ C3 (wr.alloc (.cells #[.int .u64 0, .int .u64 0, .int .u64 0] 100)) g a b d) :=
        ⟨by rw [hwo]; exact World.grownBy_alloc wr _ _, by rw [← hpb]; exact C3.new wr 0 0 0 _, by rw [hz0]; rfl, by decide, by decide, by rw [hwo]; exact hH.out.1, by rw [hwo]; exact hpb, hH.out.2.1.alloc _⟩
      have HC0 := Lib.hid hH.out.2.2
      clear hX hB1 hH hz0 hi0 hNn
      rcases hcase with ⟨hcm, rfl⟩ | ⟨hcm, hcm2⟩
      all_goals
        gi_wp2
        gi_loopw [7] (fun iv wi => ∃ i : Nat, iv = .int .i64 i ∧ 2 * i ≤ k + 1 ∧ ∃ p q r, Hid (k < i + n ∧ wo.grownBy wi (some g) ∧ C3 wi pb p q r ∧ cv p q r = pc xs xs k i ∧ p < B64 ∧ q < B64 ∧ J k wo ∧ wo.heap.size = pb ∧ C3 wi g a b d)) (fun iv _ => k - (intOf iv).toNat)
        case atStart => exact ⟨_, rfl, HL.out.2, 0, 0, 0, HL.out.1, HS.out⟩
        case round =>
          clear HS HL
          obtain ⟨i, rfl, hik, p, q, r, hH⟩ := hrel
          have hJi := HA.out.1 k _ _ hH.out.2.2.2.2.2.2.1 hH.out.2.1
          obtain ⟨hX, hB2, _⟩ := HA.out.2.1 k wr hJi
          have c1 := hX.1.1
          obtain ⟨j, hj, hj2⟩ : ∃ j : Nat, (k : Int) - (i : Int) = (j : Int) ∧ i + j = k := ⟨k - i, by omega, by omega⟩
          have hj4 : IntKind.i64.wrap (j : Int) = (j : Int) := IntWalk.i64_in _ (by omega)
          have hj5 : IntKind.i64.wrap ((k : Int) - (i : Int)) = (j : Int) := by rw [hj]; exact hj4
          have hl' : pb < wr.heap.size := hH.out.2.2.1.lt
          by_cases hcond : i < j
          · have hjn : j < n := by have := hH.out.1; omega
            obtain ⟨x, bx, ox, rfl, hbx, hx, _, hgx, hcx⟩ := hX.at2 (show i < n by omega)
            obtain ⟨y, by', oy, he, hby, hy, _, hgy, hcy⟩ := hX.at2 hjn
            injection he with he
            injection he with he1 he2
            subst he1 he2
            have hst := pc_step (k := k) (show i ≤ k by omega) hgx (show xs[k - i]? = some y by rw [show k - i = j by omega]; exact hgy)
            obtain ⟨l1', m1, ⟨e1, e2, e3⟩, hw⟩ := wide_any x y hx hy
            have hroom := col_room hX.2.2.1 hX.2.2.1 (by rw [hl]; exact hn) k (i + 1) (by rw [hl]; omega)
            obtain ⟨p2, q2, r2, ⟨e4, e5, e6, e7⟩, hpl⟩ := colplus_any p q r l1' m1 0 hH.out.2.2.2.2.1 hH.out.2.2.2.2.2.1 e2 e3 (by rw [e1, hH.out.2.2.2.1, ← hst]; omega)
            rw [e1, hH.out.2.2.2.1, ← hst] at e4
            have Hw := Lib.hid hw
            have Hp := Lib.hid hpl
            have HE := Lib.hid (And.intro e4 (And.intro e5 (And.intro e6 (show k < (i + 1) + n by omega))))
            have hi1 : (i : Int) < (j : Int) := by omega
            have hi2 : (i : Int) < (n : Int) := by omega
            have hj3 : (j : Int) < (n : Int) := by omega
            obtain ⟨s0, s1, s2, f0, f1, f2⟩ := hH.out.2.2.1
            have lx := hX.1.lt
            have PK := Lib.hid (fun (w' : World) (hb : Below wr.heap.size wr w') => show ((fun w' => w'.cell? ⟨pb, 0, none⟩ = some (.int .u64 (p : Int)) ∧ w'.cell? ⟨pb, 1, none⟩ = some (.int .u64 (q : Int)) ∧ w'.cell? ⟨pb, 2, none⟩ = some (.int .u64 (r : Int)) ∧ w'.cell? ⟨px, 0, none⟩ = some (.slice (some ⟨bx, ox, none⟩) n c) ∧ w'.cell? ⟨bx, ox + i, none⟩ = some (.int .u64 (x : Int)) ∧ w'.cell? ⟨bx, ox + j, none⟩ = some (.int .u64 (y : Int))) w') ∧ w'.frozen? ⟨pb, 0, none⟩ = false ∧ w'.frozen? ⟨pb, 1, none⟩ = false ∧ w'.frozen? ⟨pb, 2, none⟩ = false from
              ⟨⟨(hb.cell (p := ⟨pb, 0, none⟩) hl').trans s0, (hb.cell (p := ⟨pb, 1, none⟩) hl').trans s1, (hb.cell (p := ⟨pb, 2, none⟩) hl').trans s2, (hb.cell (p := ⟨px, 0, none⟩) lx).trans c1, (hb.cell (p := ⟨bx, ox + i, none⟩) (Nat.lt_of_lt_of_le hbx hB2)).trans hcx, (hb.cell (p := ⟨bx, ox + j, none⟩) (Nat.lt_of_lt_of_le hby hB2)).trans hcy⟩,
                (hb.frozen (p := ⟨pb, 0, none⟩) hl').trans f0, (hb.frozen (p := ⟨pb, 1, none⟩) hl').trans f1, (hb.frozen (p := ⟨pb, 2, none⟩) hl').trans f2⟩)
            have Hj2 := Lib.hid hj2
            clear hX hgx hgy hst e1 e2 e3 hw hroom e4 e5 e6 e7 hpl hx hy hj2
            gi_wp2
            refine wpIn_wide.2 ?_
            have hmix : Try.prog.follows Departure.mixedOrders = true := by kernel_rfl
            refine wp_region_L 13 (fun w' => w'.cell? ⟨pb, 0, none⟩ = some (.int .u64 (p : Int)) ∧ w'.cell? ⟨pb, 1, none⟩ = some (.int .u64 (q : Int)) ∧ w'.cell? ⟨pb, 2, none⟩ = some (.int .u64 (r : Int)) ∧ w'.cell? ⟨px, 0, none⟩ = some (.slice (some ⟨bx, ox, none⟩) n c) ∧ w'.cell? ⟨bx, ox + i, none⟩ = some (.int .u64 (x : Int)) ∧ w'.cell? ⟨bx, ox + j, none⟩ = some (.int .u64 (y : Int))) hmix ?_
            have HS0 := Lib.hid (show (fun w' : World => w'.cell? ⟨pb, 0, none⟩ = some (.int .u64 (p : Int)) ∧ w'.cell? ⟨pb, 1, none⟩ = some (.int .u64 (q : Int)) ∧ w'.cell? ⟨pb, 2, none⟩ = some (.int .u64 (r : Int)) ∧ w'.cell? ⟨px, 0, none⟩ = some (.slice (some ⟨bx, ox, none⟩) n c) ∧ w'.cell? ⟨bx, ox + i, none⟩ = some (.int .u64 (x : Int)) ∧ w'.cell? ⟨bx, ox + j, none⟩ = some (.int .u64 (y : Int))) wr.drew from ⟨s0, s1, s2, c1, hcx, hcy⟩)
            refine wpAnyL_take (i := 0) (v := ?_) rfl rfl (by kernel_rfl) (by kernel_rfl) (by kernel_rfl) (by kernel_rfl) (by kernel_rfl) (fun _ _ _ h => h) HS0.out (Or.inl ⟨by rfl, ?_⟩) ?_
            rotate_left
            · rintro w ⟨q0, q1, q2, q3, q4, q5⟩; go_simp; try with_reducible rfl
            try simp only [Act.put, List.setIfInBounds_toArray, List.set_cons_zero, List.set_cons_succ]
            refine wpAnyL_take (i := 1) (v := ?_) rfl rfl (by kernel_rfl) (by kernel_rfl) (by kernel_rfl) (by kernel_rfl) (by kernel_rfl) (fun _ _ _ h => h) HS0.out (Or.inl ⟨by rfl, ?_⟩) ?_
            rotate_left
            · rintro w ⟨q0, q1, q2, q3, q4, q5⟩; go_simp; try with_reducible rfl
            try simp only [Act.put, List.setIfInBounds_toArray, List.set_cons_zero, List.set_cons_succ]
            refine wpAnyL_take (i := 2) (v := ?_) rfl rfl (by kernel_rfl) (by kernel_rfl) (by kernel_rfl) (by kernel_rfl) (by kernel_rfl) (fun _ _ _ h => h) HS0.out (Or.inl ⟨by rfl, ?_⟩) ?_
            rotate_left
            · rintro w ⟨q0, q1, q2, q3, q4, q5⟩; go_simp; try with_reducible rfl
            try simp only [Act.put, List.setIfInBounds_toArray, List.set_cons_zero, List.set_cons_succ]
            refine wpAnyL_take (i := 3) (v := ?_) rfl rfl (by kernel_rfl) (by kernel_rfl) (by kernel_rfl) (by kernel_rfl) (by kernel_rfl) (fun _ _ _ h => h) HS0.out (Or.inl ⟨by rfl, ?_⟩) ?_
            rotate_left
            · rintro w ⟨q0, q1, q2, q3, q4, q5⟩; go_simp; try with_reducible rfl
            try simp only [Act.put, List.setIfInBounds_toArray, List.set_cons_zero, List.set_cons_succ]
            refine wpAnyL_take (i := 4) (v := ?_) rfl rfl (by kernel_rfl) (by kernel_rfl) (by kernel_rfl) (by kernel_rfl) (by kernel_rfl) (fun _ _ _ h => h) HS0.out (Or.inl ⟨by rfl, ?_⟩) ?_
            rotate_left
            · rintro w ⟨q0, q1, q2, q3, q4, q5⟩; go_simp; try with_reducible rfl
            try simp only [Act.put, List.setIfInBounds_toArray, List.set_cons_zero, List.set_cons_succ]
            refine wpAnyL_take (i := 5) (v := ?_) rfl rfl (by kernel_rfl) (by kernel_rfl) (by kernel_rfl) (by kernel_rfl) (by kernel_rfl) (fun _ _ _ h => h) HS0.out (Or.inl ⟨by rfl, ?_⟩) ?_
            rotate_left
            · rintro w ⟨q0, q1, q2, q3, q4, q5⟩; go_simp; try with_reducible rfl
            try simp only [Act.put, List.setIfInBounds_toArray, List.set_cons_zero, List.set_cons_succ]
            refine wpAnyL_take (i := 6) (v := ?_) rfl rfl (by kernel_rfl) (by kernel_rfl) (by kernel_rfl) (by kernel_rfl) (by kernel_rfl) (fun _ _ _ h => h) HS0.out (Or.inl ⟨by rfl, ?_⟩) ?_
            rotate_left
            · rintro w ⟨q0, q1, q2, q3, q4, q5⟩; go_simp; try with_reducible rfl
            try simp only [Act.put, List.setIfInBounds_toArray, List.set_cons_zero, List.set_cons_succ]
            refine wpAnyL_take (i := 7) (v := ?_) rfl rfl (by kernel_rfl) (by kernel_rfl) (by kernel_rfl) (by kernel_rfl) (by kernel_rfl) (fun _ _ _ h => h) HS0.out (Or.inl ⟨by rfl, ?_⟩) ?_
            rotate_left
            · rintro w ⟨q0, q1, q2, q3, q4, q5⟩; go_simp; try with_reducible rfl
            try simp only [Act.put, List.setIfInBounds_toArray, List.set_cons_zero, List.set_cons_succ]
            refine wpAnyL_take (i := 8) (v := ?_) rfl rfl (by kernel_rfl) (by kernel_rfl) (by kernel_rfl) (by kernel_rfl) (by kernel_rfl) (fun _ _ _ h => h) HS0.out (Or.inl ⟨by rfl, ?_⟩) ?_
            rotate_left
            · rintro w ⟨q0, q1, q2, q3, q4, q5⟩; go_simp; try with_reducible rfl
            try simp only [Act.put, List.setIfInBounds_toArray, List.set_cons_zero, List.set_cons_succ]
            refine wpAnyL_take (i := 9) (v := ?_) rfl rfl (by kernel_rfl) (by kernel_rfl) (by kernel_rfl) (by kernel_rfl) (by kernel_rfl) (fun _ _ _ h => h) HS0.out (Or.inl ⟨by rfl, ?_⟩) ?_
            rotate_left
            · rintro w ⟨q0, q1, q2, q3, q4, q5⟩; go_simp; try with_reducible rfl
            try simp only [Act.put, List.setIfInBounds_toArray, List.set_cons_zero, List.set_cons_succ]
            refine wpAnyL_take (i := 10) (v := ?_) rfl rfl (by kernel_rfl) (by kernel_rfl) (by kernel_rfl) (by kernel_rfl) (by kernel_rfl) (fun _ _ _ h => h) HS0.out (Or.inl ⟨by rfl, ?_⟩) ?_
            rotate_left
            · rintro w ⟨q0, q1, q2, q3, q4, q5⟩; go_simp; try with_reducible rfl
            try simp only [Act.put, List.setIfInBounds_toArray, List.set_cons_zero, List.set_cons_succ]
            refine wpAnyL_one (i := 11) rfl (by kernel_rfl) (fun K hK => ?_)
            go_simp
            refine (Hw.out _).mono ?_
            rintro e w1 ⟨rfl, hb1⟩
            have hB1 := belowA hb1
            obtain ⟨hz, y0, y1, y2⟩ := PK.out w1 hB1
            refine hK.out _ _ (fun _ => hz) ?_
            clear hK K
            try simp only [Act.put, List.setIfInBounds_toArray, List.set_cons_zero, List.set_cons_succ]
            refine wpAnyL_one (i := 12) rfl (by kernel_rfl) (fun K hK => ?_)
            go_simp
            refine (Hp.out _).mono ?_
            rintro e w2 ⟨rfl, hb2⟩
            have hB2' := hB1.trans (hb2.mono hB1.size)
            obtain ⟨⟨v0, v1, v2, v3, v4, v5⟩, x0, x1, x2⟩ := PK.out w2 hB2'
            refine hK.out _ _ (fun _ => ⟨v0, v1, v2, v3, v4, v5⟩) ?_
            clear hK K
            try simp only [Act.put, List.setIfInBounds_toArray, List.set_cons_zero, List.set_cons_succ]
            refine wpAnyL_one (i := 13) rfl (by kernel_rfl) (fun K hK => ?_)
            go_simp
            refine hK.out _ _ (fun h => absurd rfl h) ?_
            clear hK K
            try simp only [Act.put, List.setIfInBounds_toArray, List.set_cons_zero, List.set_cons_succ]
            refine wpAnyL_done (by kernel_rfl) ?_ _
            have HNew : Hid (k < (i + 1) + n ∧ wo.grownBy (set3 w2 pb p2 q2 r2) (some g) ∧ C3 (set3 w2 pb p2 q2 r2) pb p2 q2 r2 ∧ cv p2 q2 r2 = pc xs xs k (i + 1) ∧ p2 < B64 ∧ q2 < B64 ∧ J k wo ∧ wo.heap.size = pb ∧ C3 (set3 w2 pb p2 q2 r2) g a b d) :=
              ⟨HE.out.2.2.2, grown_new3 (grown_below hH.out.2.1 (hB2'.mono hH.out.2.1.size)) (by rw [hH.out.2.2.2.2.2.2.2.1]; omega) _ _ _, (hH.out.2.2.1.below hB2' hl').set _ _ _, HE.out.1, HE.out.2.1, HE.out.2.2.1, hH.out.2.2.2.2.2.2.1, hH.out.2.2.2.2.2.2.2.1, (hH.out.2.2.2.2.2.2.2.2.below hB2' hH.out.2.2.2.2.2.2.2.2.lt).far hgp⟩
            clear hH PK HE hB1 hB2' s0 s1 s2 f0 f1 f2 HS0
            gi_wp2
            go_roundw
            case rel => exact ⟨i + 1, by go_num, by have := Hj2.out; omega, p2, q2, r2, HNew⟩
            case measure => simp [intOf]; have := Hj2.out; omega
          · have hi3 : ¬ (i : Int) < (j : Int) := by omega
            have hcc : 2 * i = k ∨ 2 * i = k + 1 := by omega
            have hroom := col_room hX.2.2.1 hX.2.2.1 (by rw [hl]; exact hn) k xs.length (Nat.le_refl _)
            have lgr := hH.out.2.2.2.2.2.2.2.2.lt
            obtain ⟨p0, p1, p2', pf0, pf1, pf2⟩ := hH.out.2.2.1
            rcases hcc with hev | hod
            · have hin : i < n := by have := HN.out; omega
              have hev' := pc_even xs k i hev
              obtain ⟨x, bx, ox, rfl, hbx, hx, _, hgx, hcx⟩ := hX.at2 hin
              have hgd : xs.getD i 0 = x := by rw [List.getD_eq_getElem?_getD, hgx]; rfl
              rw [hgd] at hev'
              have hrm : cv a b d + cv p q r + cv p q r + x * x < B3 := by rw [hH.out.2.2.2.1, HC0.out.1]; rw [hev'] at hroom; omega
              obtain ⟨a2, b2, d2, ⟨e1, e2, e3, e4⟩, hat⟩ := addTwice_any a b d p q r g HC0.out.2.1 HC0.out.2.2 hH.out.2.2.2.2.1 hH.out.2.2.2.2.2.1 (by omega)
              obtain ⟨l1', m1, ⟨w1', w2', w3'⟩, hwd⟩ := wide_any x x hx hx
              obtain ⟨ta, tb, td, ⟨e5, e6, e7, e8⟩, hpl⟩ := colplus_any a2 b2 d2 l1' m1 0 e2 e3 w2' w3' (by rw [e1, w1']; exact hrm)
              have hfin : cv ta tb td = cry (fun k => pc xs xs k xs.length) k + (fun k => pc xs xs k xs.length) k := by
                show _ = _ + pc xs xs k xs.length
                rw [e5, e1, w1', hH.out.2.2.2.1, HC0.out.1, hev']; omega
              have Hat := Lib.hid hat
              have Hw := Lib.hid hwd
              have Hp := Lib.hid hpl
              have HF := Lib.hid (And.intro hfin (And.intro e6 (And.intro e7 e8)))
              have hk1 : (k : Int).tmod 2 = 0 := by rw [Int.tmod_eq_emod_of_nonneg (by omega)]; omega
              have hk2 : (k : Int) % 2 = 0 := by omega
              have hk3 : (k : Int).tdiv 2 = (i : Int) := by rw [Int.tdiv_eq_ediv_of_nonneg (by omega)]; omega
              have hk4 : (k : Int) / 2 = (i : Int) := by omega
              have hk5 : IntKind.i64.wrap (i : Int) = (i : Int) := IntWalk.i64_in _ (by omega)
              have hi2 : (i : Int) < (n : Int) := by omega
              clear hrm e1 e2 e3 e4 hat w1' w2' w3' hwd e5 e6 e7 e8 hpl hfin hev' hgd hroom hX hcond hj2 hev
              gi_wp2_with (refine ⟨trivial, ?_⟩; gi_at_call 106; refine (callsIn_wide.2 (Hat.out wr hH.out.2.2.2.2.2.2.2.2)).mono ?_; rintro e w1 ⟨⟨vv, rfl⟩, hC1, hg1⟩; have HG1 := Lib.hid (And.intro (grown_trans hH.out.2.1 hg1) hC1); have hJ1' := HA.out.1 k _ _ hH.out.2.2.2.2.2.2.1 HG1.out.1; have hXR := HA.out.2.1 k w1 hJ1'; obtain ⟨x', bx', ox', hAe', hbx', hx', _, hgx', hcx'⟩ := hXR.1.at2 hin; rw [hgx] at hgx'; injection hgx' with hgx'; subst hgx'; injection hAe' with hAe'; injection hAe' with hAe1 hAe2; subst hAe1; subst hAe2; have c1' := hXR.1.1.1; have lx := hXR.1.1.lt; have lb := Nat.lt_of_lt_of_le hbx' hXR.2.1; clear hC1 hg1 hXR hbx' hx')
              have hC1 := HG1.out.2
              have lgw := hC1.lt
              obtain ⟨s0, s1, s2, f0, f1, f2⟩ := hC1
              have PK := Lib.hid (fun (w' : World) (hb : Below w1.heap.size w1 w') => show ((fun w' => w'.cell? ⟨g, 0, none⟩ = some (.int .u64 (a2 : Int)) ∧ w'.cell? ⟨g, 1, none⟩ = some (.int .u64 (b2 : Int)) ∧ w'.cell? ⟨g, 2, none⟩ = some (.int .u64 (d2 : Int)) ∧ w'.cell? ⟨px, 0, none⟩ = some (.slice (some ⟨bx, ox, none⟩) n c) ∧ w'.cell? ⟨bx, ox + i, none⟩ = some (.int .u64 (x : Int))) w') ∧ w'.frozen? ⟨g, 0, none⟩ = false ∧ w'.frozen? ⟨g, 1, none⟩ = false ∧ w'.frozen? ⟨g, 2, none⟩ = false from
                ⟨⟨(hb.cell (p := ⟨g, 0, none⟩) lgw).trans s0, (hb.cell (p := ⟨g, 1, none⟩) lgw).trans s1, (hb.cell (p := ⟨g, 2, none⟩) lgw).trans s2, (hb.cell (p := ⟨px, 0, none⟩) lx).trans c1', (hb.cell (p := ⟨bx, ox + i, none⟩) lb).trans hcx'⟩,
                  (hb.frozen (p := ⟨g, 0, none⟩) lgw).trans f0, (hb.frozen (p := ⟨g, 1, none⟩) lgw).trans f1, (hb.frozen (p := ⟨g, 2, none⟩) lgw).trans f2⟩)
              refine wpIn_wide.2 ?_
              have hmix : Try.prog.follows Departure.mixedOrders = true := by kernel_rfl
              refine wp_region_L 13 (fun w' => w'.cell? ⟨g, 0, none⟩ = some (.int .u64 (a2 : Int)) ∧ w'.cell? ⟨g, 1, none⟩ = some (.int .u64 (b2 : Int)) ∧ w'.cell? ⟨g, 2, none⟩ = some (.int .u64 (d2 : Int)) ∧ w'.cell? ⟨px, 0, none⟩ = some (.slice (some ⟨bx, ox, none⟩) n c) ∧ w'.cell? ⟨bx, ox + i, none⟩ = some (.int .u64 (x : Int))) hmix ?_
              have HS0 := Lib.hid (show (fun w' : World => w'.cell? ⟨g, 0, none⟩ = some (.int .u64 (a2 : Int)) ∧ w'.cell? ⟨g, 1, none⟩ = some (.int .u64 (b2 : Int)) ∧ w'.cell? ⟨g, 2, none⟩ = some (.int .u64 (d2 : Int)) ∧ w'.cell? ⟨px, 0, none⟩ = some (.slice (some ⟨bx, ox, none⟩) n c) ∧ w'.cell? ⟨bx, ox + i, none⟩ = some (.int .u64 (x : Int))) w1.drew from ⟨s0, s1, s2, c1', hcx'⟩)
              refine wpAnyL_take (i := 0) (v := ?_) rfl rfl (by kernel_rfl) (by kernel_rfl) (by kernel_rfl) (by kernel_rfl) (by kernel_rfl) (fun _ _ _ h => h) HS0.out (Or.inl ⟨by rfl, ?_⟩) ?_
              rotate_left
              · rintro w ⟨q0, q1, q2, q3, q4⟩; go_simp; try with_reducible rfl
              try simp only [Act.put, List.setIfInBounds_toArray, List.set_cons_zero, List.set_cons_succ]
              refine wpAnyL_take (i := 1) (v := ?_) rfl rfl (by kernel_rfl) (by kernel_rfl) (by kernel_rfl) (by kernel_rfl) (by kernel_rfl) (fun _ _ _ h => h) HS0.out (Or.inl ⟨by rfl, ?_⟩) ?_
              rotate_left
              · rintro w ⟨q0, q1, q2, q3, q4⟩; go_simp; try with_reducible rfl
              try simp only [Act.put, List.setIfInBounds_toArray, List.set_cons_zero, List.set_cons_succ]
              refine wpAnyL_take (i := 2) (v := ?_) rfl rfl (by kernel_rfl) (by kernel_rfl) (by kernel_rfl) (by kernel_rfl) (by kernel_rfl) (fun _ _ _ h => h) HS0.out (Or.inl ⟨by rfl, ?_⟩) ?_
              rotate_left
              · rintro w ⟨q0, q1, q2, q3, q4⟩; go_simp; try with_reducible rfl
              try simp only [Act.put, List.setIfInBounds_toArray, List.set_cons_zero, List.set_cons_succ]
              refine wpAnyL_take (i := 3) (v := ?_) rfl rfl (by kernel_rfl) (by kernel_rfl) (by kernel_rfl) (by kernel_rfl) (by kernel_rfl) (fun _ _ _ h => h) HS0.out (Or.inl ⟨by rfl, ?_⟩) ?_
              rotate_left
              · rintro w ⟨q0, q1, q2, q3, q4⟩; go_simp; try with_reducible rfl
              try simp only [Act.put, List.setIfInBounds_toArray, List.set_cons_zero, List.set_cons_succ]
              refine wpAnyL_take (i := 4) (v := ?_) rfl rfl (by kernel_rfl) (by kernel_rfl) (by kernel_rfl) (by kernel_rfl) (by kernel_rfl) (fun _ _ _ h => h) HS0.out (Or.inl ⟨by rfl, ?_⟩) ?_
              rotate_left
              · rintro w ⟨q0, q1, q2, q3, q4⟩; go_simp; try with_reducible rfl
              try simp only [Act.put, List.setIfInBounds_toArray, List.set_cons_zero, List.set_cons_succ]
              refine wpAnyL_take (i := 5) (v := ?_) rfl rfl (by kernel_rfl) (by kernel_rfl) (by kernel_rfl) (by kernel_rfl) (by kernel_rfl) (fun _ _ _ h => h) HS0.out (Or.inl ⟨by rfl, ?_⟩) ?_
              rotate_left
              · rintro w ⟨q0, q1, q2, q3, q4⟩; go_simp; try with_reducible rfl
              try simp only [Act.put, List.setIfInBounds_toArray, List.set_cons_zero, List.set_cons_succ]
              refine wpAnyL_take (i := 6) (v := ?_) rfl rfl (by kernel_rfl) (by kernel_rfl) (by kernel_rfl) (by kernel_rfl) (by kernel_rfl) (fun _ _ _ h => h) HS0.out (Or.inl ⟨by rfl, ?_⟩) ?_
              rotate_left
              · rintro w ⟨q0, q1, q2, q3, q4⟩; go_simp; try with_reducible rfl
              try simp only [Act.put, List.setIfInBounds_toArray, List.set_cons_zero, List.set_cons_succ]
              refine wpAnyL_take (i := 7) (v := ?_) rfl rfl (by kernel_rfl) (by kernel_rfl) (by kernel_rfl) (by kernel_rfl) (by kernel_rfl) (fun _ _ _ h => h) HS0.out (Or.inl ⟨by rfl, ?_⟩) ?_
              rotate_left
              · rintro w ⟨q0, q1, q2, q3, q4⟩; go_simp; try with_reducible rfl
              try simp only [Act.put, List.setIfInBounds_toArray, List.set_cons_zero, List.set_cons_succ]
              refine wpAnyL_take (i := 8) (v := ?_) rfl rfl (by kernel_rfl) (by kernel_rfl) (by kernel_rfl) (by kernel_rfl) (by kernel_rfl) (fun _ _ _ h => h) HS0.out (Or.inl ⟨by rfl, ?_⟩) ?_
              rotate_left
              · rintro w ⟨q0, q1, q2, q3, q4⟩; go_simp; try with_reducible rfl
              try simp only [Act.put, List.setIfInBounds_toArray, List.set_cons_zero, List.set_cons_succ]
              refine wpAnyL_take (i := 9) (v := ?_) rfl rfl (by kernel_rfl) (by kernel_rfl) (by kernel_rfl) (by kernel_rfl) (by kernel_rfl) (fun _ _ _ h => h) HS0.out (Or.inl ⟨by rfl, ?_⟩) ?_
              rotate_left
              · rintro w ⟨q0, q1, q2, q3, q4⟩; go_simp; try with_reducible rfl
              try simp only [Act.put, List.setIfInBounds_toArray, List.set_cons_zero, List.set_cons_succ]
              refine wpAnyL_take (i := 10) (v := ?_) rfl rfl (by kernel_rfl) (by kernel_rfl) (by kernel_rfl) (by kernel_rfl) (by kernel_rfl) (fun _ _ _ h => h) HS0.out (Or.inl ⟨by rfl, ?_⟩) ?_
              rotate_left
              · rintro w ⟨q0, q1, q2, q3, q4⟩; go_simp; try with_reducible rfl
              try simp only [Act.put, List.setIfInBounds_toArray, List.set_cons_zero, List.set_cons_succ]
              refine wpAnyL_one (i := 11) rfl (by kernel_rfl) (fun K hK => ?_)
              go_simp
              refine (Hw.out _).mono ?_
              rintro e w2 ⟨rfl, hb1⟩
              have hB1 := belowA hb1
              obtain ⟨hz, y0, y1, y2⟩ := PK.out w2 hB1
              refine hK.out _ _ (fun _ => hz) ?_
              clear hK K
              try simp only [Act.put, List.setIfInBounds_toArray, List.set_cons_zero, List.set_cons_succ]
              refine wpAnyL_one (i := 12) rfl (by kernel_rfl) (fun K hK => ?_)
              go_simp
              refine (Hp.out _).mono ?_
              rintro e w3 ⟨rfl, hb2⟩
              have hB2' := hB1.trans (hb2.mono hB1.size)
              obtain ⟨⟨v0, v1, v2, v3, v4⟩, x0, x1, x2⟩ := PK.out w3 hB2'
              refine hK.out _ _ (fun _ => ⟨v0, v1, v2, v3, v4⟩) ?_
              clear hK K
              try simp only [Act.put, List.setIfInBounds_toArray, List.set_cons_zero, List.set_cons_succ]
              refine wpAnyL_one (i := 13) rfl (by kernel_rfl) (fun K hK => ?_)
              go_simp
              refine hK.out _ _ (fun h => absurd rfl h) ?_
              clear hK K
              try simp only [Act.put, List.setIfInBounds_toArray, List.set_cons_zero, List.set_cons_succ]
              refine wpAnyL_done (by kernel_rfl) ?_ _
              obtain ⟨tw, htw⟩ : ∃ tw, ((w3.setCell ⟨g, 0, none⟩ (.int .u64 (ta : Int))).setCell ⟨g, 1, none⟩ (.int .u64 (tb : Int))).setCell ⟨g, 2, none⟩ (.int .u64 (td : Int)) = tw := ⟨_, rfl⟩
              have hgT : wo.grownBy tw (some g) := by rw [← htw]; exact grown_trans (grown_below HG1.out.1 (hB2'.mono HG1.out.1.size)) (grown_set3 _ _ _ _ _)
              have hT := Lib.hid (And.intro (HA.out.1 k _ _ hH.out.2.2.2.2.2.2.1 hgT) (And.intro (show C3 tw g ta tb td by rw [← htw]; exact (HG1.out.2.below hB2' lgw).set _ _ _) HF.out))
              rw [htw]
              clear hH PK HF hB1 hB2' s0 s1 s2 f0 f1 f2 HS0 htw hgT p0 p1 p2' pf0 pf1 pf2 lgr HG1 hJ1' c1 c1' hcx hcx' hgx y0 y1 y2 hz v0 v1 v2 v3 v4 x0 x1 x2 lx lb lgw hbx HC0 Hat Hw Hp
              have hnx := next_cv ta tb td hT.out.2.2.2.1
              rw [hT.out.2.2.1] at hnx
              have hta : ta = wrd (fun k => pc xs xs k xs.length) k := hnx.2
              have hcy : cv tb td 0 = cry (fun k => pc xs xs k xs.length) (k + 1) := hnx.1
              have lg' := hT.out.2.1.lt
              obtain ⟨fn, tmps, assign, body, hyy, hRd⟩ := HA.out.2.2 k tw hT.out.1 hlt lg'
              rw [← hta] at hyy
              obtain ⟨s0, s1, s2, f0, f1, f2⟩ := hT.out.2.1
              have HC := Lib.hid (And.intro hT.out.2.1 (And.intro hcy hT.out.2.2.2.2))
              clear hT hnx hta hcy
              gi_wp2
              refine hRd.mono ?_
              clear hRd hyy
              rintro e W3 ⟨rfl, hJ3, hg3⟩
              have hC3 := HC.out.1.block hg3
              have hC3b := hC3
              obtain ⟨t0, t1, t2, t3, t4, t5⟩ := hC3b
              have HJ3 := Lib.hid (And.intro hJ3 (And.intro hC3 hC3.lt))
              clear s0 s1 s2 f0 f1 f2 hJ3 hg3 hC3
              gi_wp2_with (refine ⟨trivial, ?_⟩; gi_at_call 104; refine (callsIn_wide.2 (next_any ta tb td _)).mono ?_; rintro e w4 ⟨rfl, hb4⟩; have hC4 := HJ3.out.2.1.below hb4 HJ3.out.2.2; have hC4b := hC4; obtain ⟨u0', u1', u2', u3', u4', u5'⟩ := hC4b; have HC4 := Lib.hid (And.intro hC4 hb4); clear hC4 hb4)
              have HNew : Hid (J (k + 1) (set3 w4 g tb td 0) ∧ C3 (set3 w4 g tb td 0) g tb td 0 ∧ cv tb td 0 = cry (fun k => pc xs xs k xs.length) (k + 1) ∧ tb < B64 ∧ td < B64) :=
                ⟨HA.out.1 _ _ _ HJ3.out.1 (grown_trans (grown_below (World.grownBy.refl W3 _) HC4.out.2) (grown_set3 _ _ _ _ _)), HC4.out.1.set _ _ _, HC.out.2.1, HC.out.2.2.1, HC.out.2.2.2⟩
              go_roundw
              case rel => exact ⟨k + 1, by omega, by go_num, tb, td, 0, HNew⟩
              case measure => simp [intOf]; omega
            · have hev' := pc_odd xs k i hod
              obtain ⟨ta, tb, td, ⟨e1, e2, e3, e4⟩, hat⟩ := addTwice_any a b d p q r g HC0.out.2.1 HC0.out.2.2 hH.out.2.2.2.2.1 hH.out.2.2.2.2.2.1 (by rw [hH.out.2.2.2.1, HC0.out.1]; rw [hev'] at hroom; omega)
              have hfin : cv ta tb td = cry (fun k => pc xs xs k xs.length) k + (fun k => pc xs xs k xs.length) k := by
                show _ = _ + pc xs xs k xs.length
                rw [e1, hH.out.2.2.2.1, HC0.out.1, hev']; omega
              have Hat := Lib.hid hat
              have HF := Lib.hid (And.intro hfin (And.intro e2 (And.intro e3 e4)))
              have hk1 : (k : Int).tmod 2 = 1 := by rw [Int.tmod_eq_emod_of_nonneg (by omega)]; omega
              have hk2 : (k : Int) % 2 = 1 := by omega
              clear e1 e2 e3 e4 hat hfin hev' hroom hX hcond hj2 hod
              have lwr := lgr
              gi_wp2_with (refine ⟨trivial, ?_⟩; gi_at_call 106; refine (callsIn_wide.2 (Hat.out wr hH.out.2.2.2.2.2.2.2.2)).mono ?_; rintro e tw ⟨⟨vv, rfl⟩, hC1, hg1⟩; have hT := Lib.hid (And.intro (HA.out.1 k _ _ hH.out.2.2.2.2.2.2.1 (grown_trans hH.out.2.1 hg1)) (And.intro hC1 HF.out)); have hTc := hT.out.2.1; obtain ⟨s0, s1, s2, f0, f1, f2⟩ := hTc; obtain ⟨fn, tmps, assign, body, hyy, hRd⟩ := HA.out.2.2 k tw hT.out.1 hlt hT.out.2.1.lt; rw [← (show ta = wrd (fun k => pc xs xs k xs.length) k from by have := (next_cv ta tb td HF.out.2.1).2; rw [HF.out.1] at this; exact this)] at hyy; clear hC1 hg1)
              have hnx := next_cv ta tb td hT.out.2.2.2.1
              rw [hT.out.2.2.1] at hnx
              have hta : ta = wrd (fun k => pc xs xs k xs.length) k := hnx.2
              have hcy : cv tb td 0 = cry (fun k => pc xs xs k xs.length) (k + 1) := hnx.1
              have HC := Lib.hid (And.intro hT.out.2.1 (And.intro hcy hT.out.2.2.2.2))
              clear hT hnx hta hcy hH HF p0 p1 p2' pf0 pf1 pf2 lgr lwr c1 HC0 Hat
              refine hRd.mono ?_
              clear hRd hyy
              rintro e W3 ⟨rfl, hJ3, hg3⟩
              have hC3 := HC.out.1.block hg3
              have hC3b := hC3
              obtain ⟨t0, t1, t2, t3, t4, t5⟩ := hC3b
              have HJ3 := Lib.hid (And.intro hJ3 (And.intro hC3 hC3.lt))
              clear s0 s1 s2 f0 f1 f2 hJ3 hg3 hC3
              gi_wp2_with (refine ⟨trivial, ?_⟩; gi_at_call 104; refine (callsIn_wide.2 (next_any ta tb td _)).mono ?_; rintro e w4 ⟨rfl, hb4⟩; have hC4 := HJ3.out.2.1.below hb4 HJ3.out.2.2; have hC4b := hC4; obtain ⟨u0', u1', u2', u3', u4', u5'⟩ := hC4b; have HC4 := Lib.hid (And.intro hC4 hb4); clear hC4 hb4)
              have HNew : Hid (J (k + 1) (set3 w4 g tb td 0) ∧ C3 (set3 w4 g tb td 0) g tb td 0 ∧ cv tb td 0 = cry (fun k => pc xs xs k xs.length) (k + 1) ∧ tb < B64 ∧ td < B64) :=
                ⟨HA.out.1 _ _ _ HJ3.out.1 (grown_trans (grown_below (World.grownBy.refl W3 _) HC4.out.2) (grown_set3 _ _ _ _ _)), HC4.out.1.set _ _ _, HC.out.2.1, HC.out.2.2.1, HC.out.2.2.2⟩
              go_roundw
              case rel => exact ⟨k + 1, by omega, by go_num, tb, td, 0, HNew⟩
              case measure => simp [intOf]; omega
    · obtain rfl : k = N := by omega
      have hki : ¬ (k : Int) < (k : Int) := by omega
      gi_wp2
      go_end0
      exact ⟨⟨_, rfl⟩, hH.out.1⟩
end Go.Proofs.Ytekikolhnfofeaa
