/- The contracts of reckonerref04.Long, Round and Turned. -/
import Derived.Test.YthpgdpkemnhneaaDoorZYRfT
import Derived.Test.YthpgdpkemnhneaaDoorP2
namespace Go.Proofs.YthpgdpkemnhneaaDoor
open Go.RowKit Go.Shelf
set_option linter.unusedVariables false
set_option linter.unusedSimpArgs false
set_option maxRecDepth 10000

/-- the long product as far as row i, element j -/
def lp (l : Nat) (a b : Nat → Nat) (i j m : Nat) : Nat := Sm i (fun i' => Sm l (fun j' => if m = i' + j' then a i' * b j' else 0)) + Sm j (fun j' => if m = i + j' then a i * b j' else 0)
theorem lp_step {l : Nat} {a b : Nat → Nat} {i j m : Nat} : lp l a b i (j + 1) m = lp l a b i j m + (if m = i + j then a i * b j else 0) := by
  unfold lp
  show Sm i _ + (Sm j _ + (if m = i + j then a i * b j else 0)) = _
  omega
theorem lp_row {l : Nat} {a b : Nat → Nat} {i m : Nat} : lp l a b i l m = lp l a b (i + 1) 0 m := by
  unfold lp
  rfl
theorem lp_zero {l : Nat} {a b : Nat → Nat} {m : Nat} : lp l a b 0 0 m = 0 := rfl
theorem lp_all {k l : Nat} {a b : Nat → Nat} {m : Nat} : lp l a b k 0 m = Lc k l a b m := rfl
theorem mod_lt_B (x : Nat) : x % PP < B64 := PP_B (Nat.mod_lt _ PP_pos)
set_option maxHeartbeats 2000000 in
theorem R4Long_ok (A A' : Option Addr) (k l c c' : Nat) (xs ys : List Nat) (w : World) (hk5 : k ≤ 1000) (hl5 : l ≤ 1000) (hx : Sl w A k c xs) (hy : Sl w A' l c' ys) :
    Calls Tryd.prog 24 #[.slice A k c, .slice A' l c'] w fun e w' => Ls w w' e (lcn k l) (fun m => Lc k l (yx xs) (yx ys) m % PP) := by
  obtain ⟨i0, hi, hz0, hz1, hz2⟩ := info_parts Tryd.info43
  have hmix : Tryd.prog.follows Departure.mixedOrders = true := by kernel_rfl
  have HX := Lib.hid (And.intro hx hy)
  clear hx hy
  by_cases hz : k = 0 ∨ l = 0
  · have HL := Lib.hid (show lcn k l = 0 from if_pos hz)
    rcases hz with rfl | rfl
    · go_enter Tryd.func24, Tryd.ntmps24
      go_wp2_with (fail)
      go_ret
      rw [HL.out]
      exact ⟨none, 0, rfl, ⟨rfl, by omega, by omega, Ws_nil, Rd.nil⟩, Below.refl _ _⟩
    · by_cases hk0 : k = 0
      · subst hk0
        go_enter Tryd.func24, Tryd.ntmps24
        go_wp2_with (fail)
        go_ret
        rw [HL.out]
        exact ⟨none, 0, rfl, ⟨rfl, by omega, by omega, Ws_nil, Rd.nil⟩, Below.refl _ _⟩
      · have hk1 : ((k : Int) == 0) = false := by simp; exact hk0
        go_enter Tryd.func24, Tryd.ntmps24
        go_wp2_with (fail)
        go_ret
        rw [HL.out]
        exact ⟨none, 0, rfl, ⟨rfl, by omega, by omega, Ws_nil, Rd.nil⟩, Below.refl _ _⟩
  · have hk0 : ((k : Int) == 0) = false := by simp; omega
    have hl0 : ((l : Int) == 0) = false := by simp; omega
    obtain ⟨N, hN⟩ : ∃ N, k + l - 1 = N := ⟨_, rfl⟩
    have HL := Lib.hid (show lcn k l = N by rw [← hN]; exact if_neg hz)
    have hN5 : N ≤ 2000 := by omega
    have e0 : (k : Int) + (l : Int) - 1 = (N : Int) := by omega
    have e1 : IntKind.i64.wrap (N : Int) = (N : Int) := IntWalk.i64_in _ (by omega)
    have HNk : Hid (k + l - 1 = N) := Lib.hid hN
    clear hN hz
    go_enter Tryd.func24, Tryd.ntmps24
    go_wp2_with (at_make; refine wpList_make_full _ rfl _ _ 22 rfl w.heap.size 43 i0 (.int .u64 0) 1 Tryd.underlying22 hi hz0 hz1 .i64 .i64 _ _ N rfl rfl rfl rfl (by rw [hz2]; omega) (by unfold maxLen; omega) (Nat.le_refl _) ?_)
    intro w1 hown hgrow
    have hb1 := below_of_grown hgrow (Nat.le_refl _)
    have hr := Rw.made hown
    obtain ⟨g, hg⟩ : ∃ g, g = w.heap.size := ⟨_, rfl⟩
    rw [← hg] at hr ⊢
    have H0 : Hid (Below w.heap.size w w1 ∧ Rw 43 w1 g N (fun m => lp l (yx xs) (yx ys) 0 0 m % PP) ∧ w.heap.size ≤ g) := ⟨hb1, hr.congr (fun i _ => by rw [lp_zero]; rfl), by omega⟩
    clear hown hgrow hb1 hr hg
    go_wp2_with (fail)
    go_loopw [6, 7] (fun iv _ wr => ∃ (i : Nat), i ≤ k ∧ iv = .int .i64 i ∧ Hid (Below w.heap.size w wr ∧ Rw 43 wr g N (fun m => lp l (yx xs) (yx ys) i 0 m % PP) ∧ w.heap.size ≤ g)) (fun iv _ _ => k - (intOf iv).toNat)
    case atStart => exact ⟨0, Nat.zero_le _, rfl, H0⟩
    case round =>
      clear H0
      obtain ⟨i, hik, rfl, hH⟩ := hrel
      by_cases hlt : i < k
      · have hki : (i : Int) < k := by omega
        go_wp2_with (fail)
        go_loopw [7] (fun jv wr => ∃ (j : Nat), j ≤ l ∧ jv = .int .i64 j ∧ Hid (Below w.heap.size w wr ∧ Rw 43 wr g N (fun m => lp l (yx xs) (yx ys) i j m % PP) ∧ w.heap.size ≤ g)) (fun jv _ => l - (intOf jv).toNat)
        case atStart => exact ⟨0, Nat.zero_le _, rfl, hH⟩
        case round =>
          clear hH
          obtain ⟨j, hjl, rfl, hJ⟩ := hrel
          by_cases hlj : j < l
          · have hji : (j : Int) < l := by omega
            obtain ⟨q, hq⟩ : ∃ q, i + j = q := ⟨_, rfl⟩
            have hqN : q < N := by have := HNk.out; omega
            have e2 : (i : Int) + (j : Int) = (q : Int) := by omega
            have e3 : IntKind.i64.wrap (q : Int) = (q : Int) := IntWalk.i64_in _ (by omega)
            have hqi : (q : Int) < N := by omega
            have hi0 : (0 : Int) ≤ (i : Int) := by omega
            have hj0 : (0 : Int) ≤ (j : Int) := by omega
            have hq0 : (0 : Int) ≤ (q : Int) := by omega
            have hc := hJ.out.2.1.cell hqN
            have hf := hJ.out.2.1.frozen q
            have hgl := hJ.out.2.1.lt
            obtain ⟨b1, o1, hA, hb1, hcx⟩ := (HX.out.1.below hJ.out.1).rd hlt
            obtain ⟨b2, o2, hB, hb2, hcy⟩ := (HX.out.2.below hJ.out.1).rd hlj
            subst hA hB
            have hxB := yx_lt HX.out.1.2.2.2.1 i
            have hyB := yx_lt HX.out.2.2.2.2.1 j
            obtain ⟨x, hxv⟩ : ∃ x, yx xs i = x := ⟨_, rfl⟩
            obtain ⟨y, hyv⟩ : ∃ y, yx ys j = y := ⟨_, rfl⟩
            obtain ⟨z, hzv⟩ : ∃ z, lp l (yx xs) (yx ys) i j q % PP = z := ⟨_, rfl⟩
            obtain ⟨u, hu⟩ : ∃ u, x * y % PP = u := ⟨_, rfl⟩
            obtain ⟨v, hv⟩ : ∃ v, (z + u) % PP = v := ⟨_, rfl⟩
            have hT := fun W => R4Times_ok x y W (by rw [← hxv]; exact hxB) (by rw [← hyv]; exact hyB)
            have hA := fun W => R4Add_ok z u W (by rw [← hzv]; exact mod_lt_B _) (by rw [← hu]; exact mod_lt_B _)
            rw [hu] at hT
            rw [hv] at hA
            have hnew : lp l (yx xs) (yx ys) i (j + 1) q % PP = v := by
              rw [← hv, ← hzv, ← hu, ← hxv, ← hyv, lp_step, if_pos hq.symm]
              exact (Eqm.add (Eqm.mod _) (Eqm.mod _)).symm
            have hold : ∀ m, m ≠ q → lp l (yx xs) (yx ys) i (j + 1) m = lp l (yx xs) (yx ys) i j m := fun m hm => by
              rw [lp_step, if_neg (by omega), Nat.add_zero]
            rw [hxv] at hcx
            rw [hyv] at hcy
            simp only [hzv] at hc
            have HT := Lib.hid (And.intro hT (And.intro hA (And.intro hnew (And.intro hold (show v < B64 by rw [← hv]; exact mod_lt_B _)))))
            have HS0 := Lib.hid (show (fun w' : World => w'.cell? ⟨g, q, none⟩ = some (.int .u64 (z : Int)) ∧ w'.cell? ⟨b1, o1 + i, none⟩ = some (.int .u64 (x : Int)) ∧ w'.cell? ⟨b2, o2 + j, none⟩ = some (.int .u64 (y : Int))) wr.drew from ⟨hc, hcx, hcy⟩)
            have HC := Lib.hid (And.intro (World.block_lt_of_cell? _ _ hc) (And.intro (World.block_lt_of_cell? _ _ hcx) (World.block_lt_of_cell? _ _ hcy)))
            have HF := Lib.hid (And.intro hf hgl)
            clear hT hA hnew hold hu hv hxv hyv hzv hxB hyB hc hcx hcy hf hgl hq hqN hb1 hb2
            go_wp2_with (fail)
            refine wp_region_L 21 (fun w' => w'.cell? ⟨g, q, none⟩ = some (.int .u64 (z : Int)) ∧ w'.cell? ⟨b1, o1 + i, none⟩ = some (.int .u64 (x : Int)) ∧ w'.cell? ⟨b2, o2 + j, none⟩ = some (.int .u64 (y : Int))) hmix ?_
            refine wpAnyL_take (i := 0) (v := ?_) rfl rfl (by kernel_rfl) (by kernel_rfl) (by kernel_rfl) (by kernel_rfl) (by kernel_rfl) (fun _ _ _ h => h) HS0.out (Or.inl ⟨by rfl, ?_⟩) ?_
            rotate_left
            · rintro w ⟨q0, q1, q2⟩; go_simp; try with_reducible rfl
            try simp only [Act.put, List.getElem_toArray, List.getElem_cons_zero, List.getElem_cons_succ, List.setIfInBounds_toArray, List.set_cons_zero, List.set_cons_succ]
            refine wpAnyL_take (i := 1) (v := ?_) rfl rfl (by kernel_rfl) (by kernel_rfl) (by kernel_rfl) (by kernel_rfl) (by kernel_rfl) (fun _ _ _ h => h) HS0.out (Or.inl ⟨by rfl, ?_⟩) ?_
            rotate_left
            · rintro w ⟨q0, q1, q2⟩; go_simp; try with_reducible rfl
            try simp only [Act.put, List.getElem_toArray, List.getElem_cons_zero, List.getElem_cons_succ, List.setIfInBounds_toArray, List.set_cons_zero, List.set_cons_succ]
            refine wpAnyL_take (i := 2) (v := ?_) rfl rfl (by kernel_rfl) (by kernel_rfl) (by kernel_rfl) (by kernel_rfl) (by kernel_rfl) (fun _ _ _ h => h) HS0.out (Or.inl ⟨by rfl, ?_⟩) ?_
            rotate_left
            · rintro w ⟨q0, q1, q2⟩; go_simp; try with_reducible rfl
            try simp only [Act.put, List.getElem_toArray, List.getElem_cons_zero, List.getElem_cons_succ, List.setIfInBounds_toArray, List.set_cons_zero, List.set_cons_succ]
            refine wpAnyL_take (i := 3) (v := ?_) rfl rfl (by kernel_rfl) (by kernel_rfl) (by kernel_rfl) (by kernel_rfl) (by kernel_rfl) (fun _ _ _ h => h) HS0.out (Or.inl ⟨by rfl, ?_⟩) ?_
            rotate_left
            · rintro w ⟨q0, q1, q2⟩; go_simp; try with_reducible rfl
            try simp only [Act.put, List.getElem_toArray, List.getElem_cons_zero, List.getElem_cons_succ, List.setIfInBounds_toArray, List.set_cons_zero, List.set_cons_succ]
            refine wpAnyL_take (i := 4) (v := ?_) rfl rfl (by kernel_rfl) (by kernel_rfl) (by kernel_rfl) (by kernel_rfl) (by kernel_rfl) (fun _ _ _ h => h) HS0.out (Or.inl ⟨by rfl, ?_⟩) ?_
            rotate_left
            · rintro w ⟨q0, q1, q2⟩; go_simp; try with_reducible rfl
            try simp only [Act.put, List.getElem_toArray, List.getElem_cons_zero, List.getElem_cons_succ, List.setIfInBounds_toArray, List.set_cons_zero, List.set_cons_succ]
            refine wpAnyL_take (i := 5) (v := ?_) rfl rfl (by kernel_rfl) (by kernel_rfl) (by kernel_rfl) (by kernel_rfl) (by kernel_rfl) (fun _ _ _ h => h) HS0.out (Or.inl ⟨by rfl, ?_⟩) ?_
            rotate_left
            · rintro w ⟨q0, q1, q2⟩; go_simp; try with_reducible rfl
            try simp only [Act.put, List.getElem_toArray, List.getElem_cons_zero, List.getElem_cons_succ, List.setIfInBounds_toArray, List.set_cons_zero, List.set_cons_succ]
            refine wpAnyL_take (i := 6) (v := ?_) rfl rfl (by kernel_rfl) (by kernel_rfl) (by kernel_rfl) (by kernel_rfl) (by kernel_rfl) (fun _ _ _ h => h) HS0.out (Or.inl ⟨by rfl, ?_⟩) ?_
            rotate_left
            · rintro w ⟨q0, q1, q2⟩; go_simp; try with_reducible rfl
            try simp only [Act.put, List.getElem_toArray, List.getElem_cons_zero, List.getElem_cons_succ, List.setIfInBounds_toArray, List.set_cons_zero, List.set_cons_succ]
            refine wpAnyL_take (i := 7) (v := ?_) rfl rfl (by kernel_rfl) (by kernel_rfl) (by kernel_rfl) (by kernel_rfl) (by kernel_rfl) (fun _ _ _ h => h) HS0.out (Or.inl ⟨by rfl, ?_⟩) ?_
            rotate_left
            · rintro w ⟨q0, q1, q2⟩; go_simp; try with_reducible rfl
            try simp only [Act.put, List.getElem_toArray, List.getElem_cons_zero, List.getElem_cons_succ, List.setIfInBounds_toArray, List.set_cons_zero, List.set_cons_succ]
            refine wpAnyL_take (i := 8) (v := ?_) rfl rfl (by kernel_rfl) (by kernel_rfl) (by kernel_rfl) (by kernel_rfl) (by kernel_rfl) (fun _ _ _ h => h) HS0.out (Or.inl ⟨by rfl, ?_⟩) ?_
            rotate_left
            · rintro w ⟨q0, q1, q2⟩; go_simp; try with_reducible rfl
            try simp only [Act.put, List.getElem_toArray, List.getElem_cons_zero, List.getElem_cons_succ, List.setIfInBounds_toArray, List.set_cons_zero, List.set_cons_succ]
            refine wpAnyL_take (i := 9) (v := ?_) rfl rfl (by kernel_rfl) (by kernel_rfl) (by kernel_rfl) (by kernel_rfl) (by kernel_rfl) (fun _ _ _ h => h) HS0.out (Or.inl ⟨by rfl, ?_⟩) ?_
            rotate_left
            · rintro w ⟨q0, q1, q2⟩; go_simp; try with_reducible rfl
            try simp only [Act.put, List.getElem_toArray, List.getElem_cons_zero, List.getElem_cons_succ, List.setIfInBounds_toArray, List.set_cons_zero, List.set_cons_succ]
            refine wpAnyL_take (i := 10) (v := ?_) rfl rfl (by kernel_rfl) (by kernel_rfl) (by kernel_rfl) (by kernel_rfl) (by kernel_rfl) (fun _ _ _ h => h) HS0.out (Or.inl ⟨by rfl, ?_⟩) ?_
            rotate_left
            · rintro w ⟨q0, q1, q2⟩; go_simp; try with_reducible rfl
            try simp only [Act.put, List.getElem_toArray, List.getElem_cons_zero, List.getElem_cons_succ, List.setIfInBounds_toArray, List.set_cons_zero, List.set_cons_succ]
            refine wpAnyL_take (i := 11) (v := ?_) rfl rfl (by kernel_rfl) (by kernel_rfl) (by kernel_rfl) (by kernel_rfl) (by kernel_rfl) (fun _ _ _ h => h) HS0.out (Or.inl ⟨by rfl, ?_⟩) ?_
            rotate_left
            · rintro w ⟨q0, q1, q2⟩; go_simp; try with_reducible rfl
            try simp only [Act.put, List.getElem_toArray, List.getElem_cons_zero, List.getElem_cons_succ, List.setIfInBounds_toArray, List.set_cons_zero, List.set_cons_succ]
            refine wpAnyL_take (i := 12) (v := ?_) rfl rfl (by kernel_rfl) (by kernel_rfl) (by kernel_rfl) (by kernel_rfl) (by kernel_rfl) (fun _ _ _ h => h) HS0.out (Or.inl ⟨by rfl, ?_⟩) ?_
            rotate_left
            · rintro w ⟨q0, q1, q2⟩; go_simp; try with_reducible rfl
            try simp only [Act.put, List.getElem_toArray, List.getElem_cons_zero, List.getElem_cons_succ, List.setIfInBounds_toArray, List.set_cons_zero, List.set_cons_succ]
            refine wpAnyL_take (i := 13) (v := ?_) rfl rfl (by kernel_rfl) (by kernel_rfl) (by kernel_rfl) (by kernel_rfl) (by kernel_rfl) (fun _ _ _ h => h) HS0.out (Or.inl ⟨by rfl, ?_⟩) ?_
            rotate_left
            · rintro w ⟨q0, q1, q2⟩; go_simp; try with_reducible rfl
            try simp only [Act.put, List.getElem_toArray, List.getElem_cons_zero, List.getElem_cons_succ, List.setIfInBounds_toArray, List.set_cons_zero, List.set_cons_succ]
            refine wpAnyL_take (i := 14) (v := ?_) rfl rfl (by kernel_rfl) (by kernel_rfl) (by kernel_rfl) (by kernel_rfl) (by kernel_rfl) (fun _ _ _ h => h) HS0.out (Or.inl ⟨by rfl, ?_⟩) ?_
            rotate_left
            · rintro w ⟨q0, q1, q2⟩; go_simp; try with_reducible rfl
            try simp only [Act.put, List.getElem_toArray, List.getElem_cons_zero, List.getElem_cons_succ, List.setIfInBounds_toArray, List.set_cons_zero, List.set_cons_succ]
            refine wpAnyL_take (i := 15) (v := ?_) rfl rfl (by kernel_rfl) (by kernel_rfl) (by kernel_rfl) (by kernel_rfl) (by kernel_rfl) (fun _ _ _ h => h) HS0.out (Or.inl ⟨by rfl, ?_⟩) ?_
            rotate_left
            · rintro w ⟨q0, q1, q2⟩; go_simp; try with_reducible rfl
            try simp only [Act.put, List.getElem_toArray, List.getElem_cons_zero, List.getElem_cons_succ, List.setIfInBounds_toArray, List.set_cons_zero, List.set_cons_succ]
            refine wpAnyL_take (i := 16) (v := ?_) rfl rfl (by kernel_rfl) (by kernel_rfl) (by kernel_rfl) (by kernel_rfl) (by kernel_rfl) (fun _ _ _ h => h) HS0.out (Or.inl ⟨by rfl, ?_⟩) ?_
            rotate_left
            · rintro w ⟨q0, q1, q2⟩; go_simp; try with_reducible rfl
            try simp only [Act.put, List.getElem_toArray, List.getElem_cons_zero, List.getElem_cons_succ, List.setIfInBounds_toArray, List.set_cons_zero, List.set_cons_succ]
            refine wpAnyL_take (i := 17) (v := ?_) rfl rfl (by kernel_rfl) (by kernel_rfl) (by kernel_rfl) (by kernel_rfl) (by kernel_rfl) (fun _ _ _ h => h) HS0.out (Or.inl ⟨by rfl, ?_⟩) ?_
            rotate_left
            · rintro w ⟨q0, q1, q2⟩; go_simp; try with_reducible rfl
            try simp only [Act.put, List.getElem_toArray, List.getElem_cons_zero, List.getElem_cons_succ, List.setIfInBounds_toArray, List.set_cons_zero, List.set_cons_succ]
            refine wpAnyL_one (i := 18) rfl (by kernel_rfl) (fun K hK => ?_)
            go_simp
            refine (HT.out.1 _).mono ?_
            rintro e w3 ⟨rfl, hb3⟩
            have HB3 := Lib.hid (show Below wr.heap.size wr w3 from belowA hb3)
            have HS3 : Hid ((fun w' : World => w'.cell? ⟨g, q, none⟩ = some (.int .u64 (z : Int)) ∧ w'.cell? ⟨b1, o1 + i, none⟩ = some (.int .u64 (x : Int)) ∧ w'.cell? ⟨b2, o2 + j, none⟩ = some (.int .u64 (y : Int))) w3) := Lib.hid ⟨(HB3.out.cell HC.out.1).trans HS0.out.1, (HB3.out.cell HC.out.2.1).trans HS0.out.2.1, (HB3.out.cell HC.out.2.2).trans HS0.out.2.2⟩
            clear hb3
            refine hK.out _ _ (fun _ => HS3.out) ?_
            clear hK K
            try simp only [Act.put, List.getElem_toArray, List.getElem_cons_zero, List.getElem_cons_succ, List.setIfInBounds_toArray, List.set_cons_zero, List.set_cons_succ]
            refine wpAnyL_one (i := 19) rfl (by kernel_rfl) (fun K hK => ?_)
            go_simp
            refine (HT.out.2.1 _).mono ?_
            rintro e w4 ⟨rfl, hb4⟩
            have HB4 := Lib.hid (HB3.out.trans (hb4.mono HB3.out.size))
            have HS4 : Hid ((fun w' : World => w'.cell? ⟨g, q, none⟩ = some (.int .u64 (z : Int)) ∧ w'.cell? ⟨b1, o1 + i, none⟩ = some (.int .u64 (x : Int)) ∧ w'.cell? ⟨b2, o2 + j, none⟩ = some (.int .u64 (y : Int))) w4) := Lib.hid ⟨(HB4.out.cell HC.out.1).trans HS0.out.1, (HB4.out.cell HC.out.2.1).trans HS0.out.2.1, (HB4.out.cell HC.out.2.2).trans HS0.out.2.2⟩
            clear hb4
            refine hK.out _ _ (fun _ => HS4.out) ?_
            clear hK K
            try simp only [Act.put, List.getElem_toArray, List.getElem_cons_zero, List.getElem_cons_succ, List.setIfInBounds_toArray, List.set_cons_zero, List.set_cons_succ]
            have hR4 := hJ.out.2.1.below HB4.out HF.out.2
            have hc4 := HS4.out.1
            have hf4 := hR4.frozen q
            have HR4 := Lib.hid hR4
            clear hR4 HS0 HS3
            refine wpAnyL_take (i := 20) (v := ?_) rfl rfl (by kernel_rfl) (by kernel_rfl) (by kernel_rfl) (by kernel_rfl) (by kernel_rfl) (fun _ _ _ h => h) HS4.out (Or.inl ⟨by rfl, ?_⟩) ?_
            rotate_left
            · rintro w ⟨q0, q1, q2⟩; go_simp; try with_reducible rfl
            try simp only [Act.put, List.getElem_toArray, List.getElem_cons_zero, List.getElem_cons_succ, List.setIfInBounds_toArray, List.set_cons_zero, List.set_cons_succ]
            refine wpAnyL_one (i := 21) rfl (by kernel_rfl) (fun K hK => ?_)
            go_simp
            refine hK.out _ _ (fun h => absurd rfl h) ?_
            clear hK K
            try simp only [Act.put, List.getElem_toArray, List.getElem_cons_zero, List.getElem_cons_succ, List.setIfInBounds_toArray, List.set_cons_zero, List.set_cons_succ]
            refine wpAnyL_done (by kernel_rfl) ?_ _
            have HN : Hid (Below w.heap.size w (w4.setCell ⟨g, q, none⟩ (.int .u64 v)) ∧ Rw 43 (w4.setCell ⟨g, q, none⟩ (.int .u64 v)) g N (fun m => lp l (yx xs) (yx ys) i (j + 1) m % PP) ∧ w.heap.size ≤ g) := by
              refine Lib.hid ⟨(hJ.out.1.trans (HB4.out.mono hJ.out.1.size)).setCell hJ.out.2.2 _, (HR4.out.set q HT.out.2.2.2.2).congr fun m hm => ?_, hJ.out.2.2⟩
              by_cases h5 : m = q
              · subst h5; rw [if_pos rfl]; exact HT.out.2.2.1.symm
              · rw [if_neg h5, HT.out.2.2.2.1 m h5]
            clear hJ HR4 hc4 hf4 HS4 HT HB3 HB4 HC HF
            go_wp2_with (fail)
            go_roundw
            case rel => exact ⟨j + 1, by omega, by go_num, HN⟩
            case measure => simp [intOf]; omega
          · have hji : ¬ (j : Int) < l := by omega
            obtain rfl : j = l := by omega
            have HN : Hid (Below w.heap.size w wr ∧ Rw 43 wr g N (fun m => lp j (yx xs) (yx ys) (i + 1) 0 m % PP) ∧ w.heap.size ≤ g) := Lib.hid ⟨hJ.out.1, hJ.out.2.1.congr fun m _ => by rw [lp_row], hJ.out.2.2⟩
            clear hJ
            go_wp2_with (fail)
            go_roundw
            case rel => exact ⟨i + 1, by omega, by go_num, HN⟩
            case measure => simp [intOf]; omega
      · have hki : ¬ (i : Int) < k := by omega
        obtain rfl : i = k := by omega
        go_wp2_with (fail)
        go_ret
        rw [HL.out]
        exact ⟨some ⟨g, 0, none⟩, N, rfl, (hH.out.2.1.congr fun m _ => by rw [lp_all]).sl (by omega), hH.out.1⟩
/-- the round product as far as element i -/
def rdp (n : Nat) (L : Nat → Nat) (i m : Nat) : Nat := Sm i (fun t => if t % n = m then L t else 0)
theorem rdp_all {n : Nat} (hn : 0 < n) {L : Nat → Nat} (h0 : L (2 * n - 1) = 0) {m : Nat} (hm : m < n) : rdp n L (2 * n - 1) m = L m + L (m + n) := by
  unfold rdp
  have h1 : Sm (2 * n - 1 + 1) (fun t => if t % n = m then L t else 0) = Sm (2 * n - 1) (fun t => if t % n = m then L t else 0) := by
    show _ + (if (2 * n - 1) % n = m then L (2 * n - 1) else 0) = _
    rw [h0]; simp
  rw [← h1, show 2 * n - 1 + 1 = n + n by omega, Sm_split]
  rw [Sm_congr (g := fun i => if i = m then L i else 0) fun i hi => by rw [Nat.mod_eq_of_lt hi], Sm_pick hm]
  rw [Sm_congr (n := n) (f := fun i => if (n + i) % n = m then L (n + i) else 0) (g := fun i => if i = m then L (n + i) else 0) fun i hi => by rw [Nat.add_mod_left, Nat.mod_eq_of_lt hi], Sm_pick hm (fun i => L (n + i)), Nat.add_comm n m]
/-- the list that Long hands back -/
theorem lg_far {n : Nat} (a b : Nat → Nat) : Lc n n a b (2 * n - 1) % PP = 0 := by rw [Lc_far (by omega)]; rfl
theorem rd_fin {n : Nat} (hn : 0 < n) (a b : Nat → Nat) {m : Nat} (hm : m < n) : rdp n (fun t => Lc n n a b t % PP) (2 * n - 1) m % PP = Cv n a b m % PP := by
  rw [rdp_all hn (lg_far a b) hm, Cv_Lc a b hm]
  exact Eqm.add (Eqm.mod _) (Eqm.mod _)
set_option maxHeartbeats 2000000 in
theorem R4Round_ok (A A' : Option Addr) (n c c' : Nat) (xs ys : List Nat) (w : World) (hn0 : 0 < n) (hn5 : n ≤ 1000) (hx : Sl w A n c xs) (hy : Sl w A' n c' ys) :
    Calls Tryd.prog 22 #[.slice A n c, .slice A' n c'] w fun e w' => Ls w w' e n (fun m => Cv n (yx xs) (yx ys) m % PP) := by
  obtain ⟨i0, hi, hz0, hz1, hz2⟩ := info_parts Tryd.info43
  have hmix : Tryd.prog.follows Departure.mixedOrders = true := by kernel_rfl
  have hL := R4Long_ok A A' n n c c' xs ys w hn5 hn5 hx hy
  have hln : lcn n n = 2 * n - 1 := by unfold lcn; rw [if_neg (by omega)]; omega
  obtain ⟨N, hN⟩ : ∃ N, 2 * n - 1 = N := ⟨_, rfl⟩
  rw [hln, hN] at hL
  obtain ⟨L, hLd⟩ : ∃ L : Nat → Nat, (fun m => Lc n n (yx xs) (yx ys) m % PP) = L := ⟨_, rfl⟩
  have hLB : ∀ i, L i < B64 := fun i => by rw [← hLd]; exact mod_lt_B _
  have hfin : ∀ m, m < n → rdp n L N m % PP = Cv n (yx xs) (yx ys) m % PP := fun m hm => by rw [← hN, ← hLd]; exact rd_fin hn0 _ _ hm
  rw [hLd] at hL
  have HH := Lib.hid (And.intro hL (And.intro hLB hfin))
  have hnn : ¬ (n : Int) = 0 := by omega
  have hnn2 : ¬ n = 0 := by omega
  have hN5 : N ≤ 2000 := by omega
  clear hL hLB hfin hLd hx hy hln hN
  go_enter Tryd.func22, Tryd.ntmps22
  go_wp2_with (fail)
  refine HH.out.1.mono ?_
  rintro e wp ⟨BL, dL, rfl, hsL, hbL⟩
  have HL := Lib.hid (And.intro hsL hbL)
  clear hsL hbL
  go_wp2_with (at_make; refine wpList_make_full _ rfl _ _ 22 rfl wp.heap.size 43 i0 (.int .u64 0) 1 Tryd.underlying22 hi hz0 hz1 .i64 .i64 _ _ n rfl rfl rfl rfl (by rw [hz2]; omega) (by unfold maxLen; omega) (Nat.le_refl _) ?_)
  intro w1 hown hgrow
  have hb1 := below_of_grown hgrow (Nat.le_refl _)
  have hr := Rw.made hown
  obtain ⟨g, hg⟩ : ∃ g, g = wp.heap.size := ⟨_, rfl⟩
  rw [← hg] at hr ⊢
  have H0 : Hid (Below wp.heap.size wp w1 ∧ Rw 43 w1 g n (fun m => rdp n L 0 m % PP) ∧ wp.heap.size ≤ g) := ⟨hb1, hr.congr (fun i _ => rfl), by omega⟩
  clear hown hgrow hb1 hr hg
  go_wp2_with (fail)
  go_loopw [7] (fun iv wr => ∃ (i : Nat), i ≤ N ∧ iv = .int .i64 i ∧ Hid (Below wp.heap.size wp wr ∧ Rw 43 wr g n (fun m => rdp n L i m % PP) ∧ wp.heap.size ≤ g)) (fun iv _ => N - (intOf iv).toNat)
  case atStart => exact ⟨0, Nat.zero_le _, rfl, H0⟩
  case round =>
    clear H0
    obtain ⟨i, hik, rfl, hJ⟩ := hrel
    by_cases hlt : i < N
    · have hki : (i : Int) < N := by omega
      obtain ⟨q, hq⟩ : ∃ q, i % n = q := ⟨_, rfl⟩
      have hqN : q < n := by rw [← hq]; exact Nat.mod_lt _ hn0
      have e2 : (i : Int).tmod (n : Int) = (q : Int) := by rw [← hq, Int.tmod_eq_emod_of_nonneg (by omega)]; simp
      have e3 : (i : Int) % (n : Int) = (q : Int) := by rw [← hq]; simp
      have e4 : IntKind.i64.wrap (q : Int) = (q : Int) := IntWalk.i64_in _ (by omega)
      have hqi : (q : Int) < n := by omega
      have hi0 : (0 : Int) ≤ (i : Int) := by omega
      have hq0 : (0 : Int) ≤ (q : Int) := by omega
      have hc := hJ.out.2.1.cell hqN
      have hgl := hJ.out.2.1.lt
      obtain ⟨b1, o1, hA, hb1, hcx⟩ := (HL.out.1.below hJ.out.1).rd hlt
      subst hA
      rw [yx_tb _ hlt] at hcx
      have hxB := HH.out.2.1 i
      obtain ⟨x, hxv⟩ : ∃ x, L i = x := ⟨_, rfl⟩
      obtain ⟨z, hzv⟩ : ∃ z, rdp n L i q % PP = z := ⟨_, rfl⟩
      obtain ⟨v, hv⟩ : ∃ v, (z + x) % PP = v := ⟨_, rfl⟩
      have hA := fun W => R4Add_ok z x W (by rw [← hzv]; exact mod_lt_B _) (by rw [← hxv]; exact hxB)
      rw [hv] at hA
      have hnew : rdp n L (i + 1) q % PP = v := by
        rw [← hv, ← hzv, ← hxv]
        show (_ + (if i % n = q then L i else 0)) % PP = _
        rw [if_pos hq]
        exact (Eqm.add (Eqm.mod _) (.refl _)).symm
      have hold : ∀ m, m ≠ q → rdp n L (i + 1) m = rdp n L i m := fun m hm => by
        show _ + (if i % n = m then L i else 0) = _
        rw [if_neg (by rw [hq]; exact fun h => hm h.symm)]; rfl
      rw [hxv] at hcx
      simp only [hzv] at hc
      have HT := Lib.hid (And.intro hA (And.intro hnew (And.intro hold (show v < B64 by rw [← hv]; exact mod_lt_B _))))
      have HS0 := Lib.hid (show (fun w' : World => w'.cell? ⟨g, q, none⟩ = some (.int .u64 (z : Int)) ∧ w'.cell? ⟨b1, o1 + i, none⟩ = some (.int .u64 (x : Int))) wr.drew from ⟨hc, hcx⟩)
      have HC := Lib.hid (And.intro (World.block_lt_of_cell? _ _ hc) (World.block_lt_of_cell? _ _ hcx))
      have HF := Lib.hid hgl
      clear hA hnew hold hv hxv hzv hxB hc hcx hgl hq hqN hb1
      go_wp2_with (fail)
      refine wp_region_L 18 (fun w' => w'.cell? ⟨g, q, none⟩ = some (.int .u64 (z : Int)) ∧ w'.cell? ⟨b1, o1 + i, none⟩ = some (.int .u64 (x : Int))) hmix ?_
      refine wpAnyL_take (i := 0) (v := ?_) rfl rfl (by kernel_rfl) (by kernel_rfl) (by kernel_rfl) (by kernel_rfl) (by kernel_rfl) (fun _ _ _ h => h) HS0.out (Or.inl ⟨by rfl, ?_⟩) ?_
      rotate_left
      · rintro w ⟨q0, q1⟩; go_simp; try with_reducible rfl
      try simp only [Act.put, List.getElem_toArray, List.getElem_cons_zero, List.getElem_cons_succ, List.setIfInBounds_toArray, List.set_cons_zero, List.set_cons_succ]
      refine wpAnyL_take (i := 1) (v := ?_) rfl rfl (by kernel_rfl) (by kernel_rfl) (by kernel_rfl) (by kernel_rfl) (by kernel_rfl) (fun _ _ _ h => h) HS0.out (Or.inl ⟨by rfl, ?_⟩) ?_
      rotate_left
      · rintro w ⟨q0, q1⟩; go_simp; try with_reducible rfl
      try simp only [Act.put, List.getElem_toArray, List.getElem_cons_zero, List.getElem_cons_succ, List.setIfInBounds_toArray, List.set_cons_zero, List.set_cons_succ]
      refine wpAnyL_take (i := 2) (v := ?_) rfl rfl (by kernel_rfl) (by kernel_rfl) (by kernel_rfl) (by kernel_rfl) (by kernel_rfl) (fun _ _ _ h => h) HS0.out (Or.inl ⟨by rfl, ?_⟩) ?_
      rotate_left
      · rintro w ⟨q0, q1⟩; go_simp; try with_reducible rfl
      try simp only [Act.put, List.getElem_toArray, List.getElem_cons_zero, List.getElem_cons_succ, List.setIfInBounds_toArray, List.set_cons_zero, List.set_cons_succ]
      refine wpAnyL_take (i := 3) (v := ?_) rfl rfl (by kernel_rfl) (by kernel_rfl) (by kernel_rfl) (by kernel_rfl) (by kernel_rfl) (fun _ _ _ h => h) HS0.out (Or.inl ⟨by rfl, ?_⟩) ?_
      rotate_left
      · rintro w ⟨q0, q1⟩; go_simp; try with_reducible rfl
      try simp only [Act.put, List.getElem_toArray, List.getElem_cons_zero, List.getElem_cons_succ, List.setIfInBounds_toArray, List.set_cons_zero, List.set_cons_succ]
      refine wpAnyL_take (i := 4) (v := ?_) rfl rfl (by kernel_rfl) (by kernel_rfl) (by kernel_rfl) (by kernel_rfl) (by kernel_rfl) (fun _ _ _ h => h) HS0.out (Or.inl ⟨by rfl, ?_⟩) ?_
      rotate_left
      · rintro w ⟨q0, q1⟩; go_simp; try with_reducible rfl
      try simp only [Act.put, List.getElem_toArray, List.getElem_cons_zero, List.getElem_cons_succ, List.setIfInBounds_toArray, List.set_cons_zero, List.set_cons_succ]
      refine wpAnyL_take (i := 5) (v := ?_) rfl rfl (by kernel_rfl) (by kernel_rfl) (by kernel_rfl) (by kernel_rfl) (by kernel_rfl) (fun _ _ _ h => h) HS0.out (Or.inl ⟨by rfl, ?_⟩) ?_
      rotate_left
      · rintro w ⟨q0, q1⟩; go_simp; try with_reducible rfl
      try simp only [Act.put, List.getElem_toArray, List.getElem_cons_zero, List.getElem_cons_succ, List.setIfInBounds_toArray, List.set_cons_zero, List.set_cons_succ]
      refine wpAnyL_take (i := 6) (v := ?_) rfl rfl (by kernel_rfl) (by kernel_rfl) (by kernel_rfl) (by kernel_rfl) (by kernel_rfl) (fun _ _ _ h => h) HS0.out (Or.inl ⟨by rfl, ?_⟩) ?_
      rotate_left
      · rintro w ⟨q0, q1⟩; go_simp; try with_reducible rfl
      try simp only [Act.put, List.getElem_toArray, List.getElem_cons_zero, List.getElem_cons_succ, List.setIfInBounds_toArray, List.set_cons_zero, List.set_cons_succ]
      refine wpAnyL_take (i := 7) (v := ?_) rfl rfl (by kernel_rfl) (by kernel_rfl) (by kernel_rfl) (by kernel_rfl) (by kernel_rfl) (fun _ _ _ h => h) HS0.out (Or.inl ⟨by rfl, ?_⟩) ?_
      rotate_left
      · rintro w ⟨q0, q1⟩; go_simp; try with_reducible rfl
      try simp only [Act.put, List.getElem_toArray, List.getElem_cons_zero, List.getElem_cons_succ, List.setIfInBounds_toArray, List.set_cons_zero, List.set_cons_succ]
      refine wpAnyL_take (i := 8) (v := ?_) rfl rfl (by kernel_rfl) (by kernel_rfl) (by kernel_rfl) (by kernel_rfl) (by kernel_rfl) (fun _ _ _ h => h) HS0.out (Or.inl ⟨by rfl, ?_⟩) ?_
      rotate_left
      · rintro w ⟨q0, q1⟩; go_simp; try with_reducible rfl
      try simp only [Act.put, List.getElem_toArray, List.getElem_cons_zero, List.getElem_cons_succ, List.setIfInBounds_toArray, List.set_cons_zero, List.set_cons_succ]
      refine wpAnyL_take (i := 9) (v := ?_) rfl rfl (by kernel_rfl) (by kernel_rfl) (by kernel_rfl) (by kernel_rfl) (by kernel_rfl) (fun _ _ _ h => h) HS0.out (Or.inl ⟨by rfl, ?_⟩) ?_
      rotate_left
      · rintro w ⟨q0, q1⟩; go_simp; try with_reducible rfl
      try simp only [Act.put, List.getElem_toArray, List.getElem_cons_zero, List.getElem_cons_succ, List.setIfInBounds_toArray, List.set_cons_zero, List.set_cons_succ]
      refine wpAnyL_take (i := 10) (v := ?_) rfl rfl (by kernel_rfl) (by kernel_rfl) (by kernel_rfl) (by kernel_rfl) (by kernel_rfl) (fun _ _ _ h => h) HS0.out (Or.inl ⟨by rfl, ?_⟩) ?_
      rotate_left
      · rintro w ⟨q0, q1⟩; go_simp; try with_reducible rfl
      try simp only [Act.put, List.getElem_toArray, List.getElem_cons_zero, List.getElem_cons_succ, List.setIfInBounds_toArray, List.set_cons_zero, List.set_cons_succ]
      refine wpAnyL_take (i := 11) (v := ?_) rfl rfl (by kernel_rfl) (by kernel_rfl) (by kernel_rfl) (by kernel_rfl) (by kernel_rfl) (fun _ _ _ h => h) HS0.out (Or.inl ⟨by rfl, ?_⟩) ?_
      rotate_left
      · rintro w ⟨q0, q1⟩; go_simp; try with_reducible rfl
      try simp only [Act.put, List.getElem_toArray, List.getElem_cons_zero, List.getElem_cons_succ, List.setIfInBounds_toArray, List.set_cons_zero, List.set_cons_succ]
      refine wpAnyL_take (i := 12) (v := ?_) rfl rfl (by kernel_rfl) (by kernel_rfl) (by kernel_rfl) (by kernel_rfl) (by kernel_rfl) (fun _ _ _ h => h) HS0.out (Or.inl ⟨by rfl, ?_⟩) ?_
      rotate_left
      · rintro w ⟨q0, q1⟩; go_simp; try with_reducible rfl
      try simp only [Act.put, List.getElem_toArray, List.getElem_cons_zero, List.getElem_cons_succ, List.setIfInBounds_toArray, List.set_cons_zero, List.set_cons_succ]
      refine wpAnyL_take (i := 13) (v := ?_) rfl rfl (by kernel_rfl) (by kernel_rfl) (by kernel_rfl) (by kernel_rfl) (by kernel_rfl) (fun _ _ _ h => h) HS0.out (Or.inl ⟨by rfl, ?_⟩) ?_
      rotate_left
      · rintro w ⟨q0, q1⟩; go_simp; try with_reducible rfl
      try simp only [Act.put, List.getElem_toArray, List.getElem_cons_zero, List.getElem_cons_succ, List.setIfInBounds_toArray, List.set_cons_zero, List.set_cons_succ]
      refine wpAnyL_take (i := 14) (v := ?_) rfl rfl (by kernel_rfl) (by kernel_rfl) (by kernel_rfl) (by kernel_rfl) (by kernel_rfl) (fun _ _ _ h => h) HS0.out (Or.inl ⟨by rfl, ?_⟩) ?_
      rotate_left
      · rintro w ⟨q0, q1⟩; go_simp; try with_reducible rfl
      try simp only [Act.put, List.getElem_toArray, List.getElem_cons_zero, List.getElem_cons_succ, List.setIfInBounds_toArray, List.set_cons_zero, List.set_cons_succ]
      refine wpAnyL_take (i := 15) (v := ?_) rfl rfl (by kernel_rfl) (by kernel_rfl) (by kernel_rfl) (by kernel_rfl) (by kernel_rfl) (fun _ _ _ h => h) HS0.out (Or.inl ⟨by rfl, ?_⟩) ?_
      rotate_left
      · rintro w ⟨q0, q1⟩; go_simp; try with_reducible rfl
      try simp only [Act.put, List.getElem_toArray, List.getElem_cons_zero, List.getElem_cons_succ, List.setIfInBounds_toArray, List.set_cons_zero, List.set_cons_succ]
      refine wpAnyL_one (i := 16) rfl (by kernel_rfl) (fun K hK => ?_)
      go_simp
      refine (HT.out.1 _).mono ?_
      rintro e w4 ⟨rfl, hb4⟩
      have HB4 := Lib.hid (show Below wr.heap.size wr w4 from belowA hb4)
      have HS4 : Hid ((fun w' : World => w'.cell? ⟨g, q, none⟩ = some (.int .u64 (z : Int)) ∧ w'.cell? ⟨b1, o1 + i, none⟩ = some (.int .u64 (x : Int))) w4) := Lib.hid ⟨(HB4.out.cell HC.out.1).trans HS0.out.1, (HB4.out.cell HC.out.2).trans HS0.out.2⟩
      clear hb4
      refine hK.out _ _ (fun _ => HS4.out) ?_
      clear hK K
      try simp only [Act.put, List.getElem_toArray, List.getElem_cons_zero, List.getElem_cons_succ, List.setIfInBounds_toArray, List.set_cons_zero, List.set_cons_succ]
      have hR4 := hJ.out.2.1.below HB4.out HF.out
      have hc4 := HS4.out.1
      have hf4 := hR4.frozen q
      have HR4 := Lib.hid hR4
      clear hR4 HS0
      refine wpAnyL_take (i := 17) (v := ?_) rfl rfl (by kernel_rfl) (by kernel_rfl) (by kernel_rfl) (by kernel_rfl) (by kernel_rfl) (fun _ _ _ h => h) HS4.out (Or.inl ⟨by rfl, ?_⟩) ?_
      rotate_left
      · rintro w ⟨q0, q1⟩; go_simp; try with_reducible rfl
      try simp only [Act.put, List.getElem_toArray, List.getElem_cons_zero, List.getElem_cons_succ, List.setIfInBounds_toArray, List.set_cons_zero, List.set_cons_succ]
      refine wpAnyL_one (i := 18) rfl (by kernel_rfl) (fun K hK => ?_)
      go_simp
      refine hK.out _ _ (fun h => absurd rfl h) ?_
      clear hK K
      try simp only [Act.put, List.getElem_toArray, List.getElem_cons_zero, List.getElem_cons_succ, List.setIfInBounds_toArray, List.set_cons_zero, List.set_cons_succ]
      refine wpAnyL_done (by kernel_rfl) ?_ _
      have HN : Hid (Below wp.heap.size wp (w4.setCell ⟨g, q, none⟩ (.int .u64 v)) ∧ Rw 43 (w4.setCell ⟨g, q, none⟩ (.int .u64 v)) g n (fun m => rdp n L (i + 1) m % PP) ∧ wp.heap.size ≤ g) := by
        refine Lib.hid ⟨(hJ.out.1.trans (HB4.out.mono hJ.out.1.size)).setCell hJ.out.2.2 _, (HR4.out.set q HT.out.2.2.2).congr fun m hm => ?_, hJ.out.2.2⟩
        by_cases h5 : m = q
        · subst h5; rw [if_pos rfl]; exact HT.out.2.1.symm
        · rw [if_neg h5, HT.out.2.2.1 m h5]
      clear hJ HR4 hc4 hf4 HS4 HT HB4 HC HF
      go_wp2_with (fail)
      go_roundw
      case rel => exact ⟨i + 1, by omega, by go_num, HN⟩
      case measure => simp [intOf]; omega
    · have hki : ¬ (i : Int) < N := by omega
      obtain rfl : i = N := by omega
      go_wp2_with (fail)
      go_ret
      exact ⟨some ⟨g, 0, none⟩, n, rfl, (hJ.out.2.1.congr fun m hm => HH.out.2.2 m hm).sl (by omega), HL.out.2.trans (hJ.out.1.mono HL.out.2.size)⟩
/-- the turned product as far as element i -/
def tdp (n : Nat) (L : Nat → Nat) (i m : Nat) : Nat := if i ≤ n then (if m < i then L m else 0) else if m < i - n then (L m + (PP - L (m + n))) % PP else L m
theorem td_fin {n : Nat} (hn : 0 < n) (a b : Nat → Nat) {m : Nat} (hm : m < n) : tdp n (fun t => Lc n n a b t % PP) (2 * n - 1) m = Tn n a b m := by
  unfold tdp Tn
  by_cases h1 : n = 1
  · subst h1
    obtain rfl : m = 0 := by omega
    rw [if_pos (by omega), if_pos (by omega), Lc_far (show 1 + 1 ≤ (0 + 1) + 1 by omega), Nat.zero_mod, Nat.sub_zero, Nat.add_mod_right]
  · rw [if_neg (by omega)]
    by_cases h2 : m < 2 * n - 1 - n
    · rw [if_pos h2]
      exact Eqm.add (Eqm.mod _) (.refl _)
    · rw [if_neg h2, Lc_far (show n + n ≤ (m + n) + 1 by omega), Nat.zero_mod, Nat.sub_zero, Nat.add_mod_right]
set_option maxHeartbeats 2000000 in
theorem R4Turned_ok (A A' : Option Addr) (n c c' : Nat) (xs ys : List Nat) (w : World) (hn0 : 0 < n) (hn5 : n ≤ 1000) (hx : Sl w A n c xs) (hy : Sl w A' n c' ys) :
    Calls Tryd.prog 23 #[.slice A n c, .slice A' n c'] w fun e w' => Ls w w' e n (Tn n (yx xs) (yx ys)) := by
  obtain ⟨i0, hi, hz0, hz1, hz2⟩ := info_parts Tryd.info43
  have hmix : Tryd.prog.follows Departure.mixedOrders = true := by kernel_rfl
  have hL := R4Long_ok A A' n n c c' xs ys w hn5 hn5 hx hy
  have hln : lcn n n = 2 * n - 1 := by unfold lcn; rw [if_neg (by omega)]; omega
  obtain ⟨N, hN⟩ : ∃ N, 2 * n - 1 = N := ⟨_, rfl⟩
  rw [hln, hN] at hL
  obtain ⟨L, hLd⟩ : ∃ L : Nat → Nat, (fun m => Lc n n (yx xs) (yx ys) m % PP) = L := ⟨_, rfl⟩
  have hLB : ∀ i, L i < PP := fun i => by rw [← hLd]; exact Nat.mod_lt _ PP_pos
  have hfin : ∀ m, m < n → tdp n L N m = Tn n (yx xs) (yx ys) m := fun m hm => by rw [← hN, ← hLd]; exact td_fin hn0 _ _ hm
  rw [hLd] at hL
  have HH := Lib.hid (And.intro hL (And.intro hLB (And.intro hfin hN)))
  have hN5 : N ≤ 2000 := by omega
  clear hL hLB hfin hLd hx hy hln hN
  go_enter Tryd.func23, Tryd.ntmps23
  go_wp2_with (fail)
  refine HH.out.1.mono ?_
  rintro e wp ⟨BL, dL, rfl, hsL, hbL⟩
  have HL := Lib.hid (And.intro hsL hbL)
  clear hsL hbL
  go_wp2_with (at_make; refine wpList_make_full _ rfl _ _ 22 rfl wp.heap.size 43 i0 (.int .u64 0) 1 Tryd.underlying22 hi hz0 hz1 .i64 .i64 _ _ n rfl rfl rfl rfl (by rw [hz2]; omega) (by unfold maxLen; omega) (Nat.le_refl _) ?_)
  intro w1 hown hgrow
  have hb1 := below_of_grown hgrow (Nat.le_refl _)
  have hr := Rw.made hown
  obtain ⟨g, hg⟩ : ∃ g, g = wp.heap.size := ⟨_, rfl⟩
  rw [← hg] at hr ⊢
  have H0 : Hid (Below wp.heap.size wp w1 ∧ Rw 43 w1 g n (tdp n L 0) ∧ wp.heap.size ≤ g) := ⟨hb1, hr.congr (fun i _ => by unfold tdp; simp), by omega⟩
  clear hown hgrow hb1 hr hg
  go_wp2_with (fail)
  go_loopw [7] (fun iv wr => ∃ (i : Nat), i ≤ N ∧ iv = .int .i64 i ∧ Hid (Below wp.heap.size wp wr ∧ Rw 43 wr g n (tdp n L i) ∧ wp.heap.size ≤ g)) (fun iv _ => N - (intOf iv).toNat)
  case atStart => exact ⟨0, Nat.zero_le _, rfl, H0⟩
  case round =>
    clear H0
    obtain ⟨i, hik, rfl, hJ⟩ := hrel
    by_cases hlt : i < N
    · have hki : (i : Int) < N := by omega
      have hi0 : (0 : Int) ≤ (i : Int) := by omega
      obtain ⟨b1, o1, hA, hb1, hcx⟩ := (HL.out.1.below hJ.out.1).rd hlt
      subst hA
      rw [yx_tb _ hlt] at hcx
      have hxP := HH.out.2.1 i
      by_cases hin : i < n
      · have hin2 : (i : Int) < n := by omega
        have hc := hJ.out.2.1.cell hin
        have hgl := hJ.out.2.1.lt
        have h0 : tdp n L i i = 0 := by unfold tdp; rw [if_pos (by omega), if_neg (by omega)]
        rw [h0] at hc
        have hA := fun W => R4Add_ok 0 (L i) W B64_pos (PP_B hxP)
        rw [Nat.zero_add, Nat.mod_eq_of_lt hxP] at hA
        obtain ⟨x, hxv⟩ : ∃ x, L i = x := ⟨_, rfl⟩
        have hnew : ∀ m, m < n → tdp n L (i + 1) m = if m = i then x else tdp n L i m := fun m hm => by
          unfold tdp
          rw [if_pos (show i + 1 ≤ n by omega), if_pos (show i ≤ n by omega)]
          by_cases h5 : m = i
          · subst h5; rw [if_pos (show m < m + 1 by omega), if_pos rfl, hxv]
          · rw [if_neg h5]
            by_cases h6 : m < i
            · rw [if_pos (show m < i + 1 by omega), if_pos h6]
            · rw [if_neg (show ¬ m < i + 1 by omega), if_neg h6]
        rw [hxv] at hcx hA hxP
        have HT := Lib.hid (And.intro hA (And.intro hnew hxP))
        have HS0 := Lib.hid (show (fun w' : World => w'.cell? ⟨g, i, none⟩ = some (.int .u64 0) ∧ w'.cell? ⟨b1, o1 + i, none⟩ = some (.int .u64 (x : Int))) wr.drew from ⟨hc, hcx⟩)
        have HC := Lib.hid (And.intro (World.block_lt_of_cell? _ _ hc) (World.block_lt_of_cell? _ _ hcx))
        have HF := Lib.hid hgl
        clear hA hnew hxv hxP hc hcx hgl hb1 h0
        go_wp2_with (fail)
        refine wp_region_L 12 (fun w' => w'.cell? ⟨g, i, none⟩ = some (.int .u64 0) ∧ w'.cell? ⟨b1, o1 + i, none⟩ = some (.int .u64 (x : Int))) hmix ?_
        refine wpAnyL_take (i := 0) (v := ?_) rfl rfl (by kernel_rfl) (by kernel_rfl) (by kernel_rfl) (by kernel_rfl) (by kernel_rfl) (fun _ _ _ h => h) HS0.out (Or.inl ⟨by rfl, ?_⟩) ?_
        rotate_left
        · rintro w ⟨q0, q1⟩; go_simp; try with_reducible rfl
        try simp only [Act.put, List.getElem_toArray, List.getElem_cons_zero, List.getElem_cons_succ, List.setIfInBounds_toArray, List.set_cons_zero, List.set_cons_succ]
        refine wpAnyL_take (i := 1) (v := ?_) rfl rfl (by kernel_rfl) (by kernel_rfl) (by kernel_rfl) (by kernel_rfl) (by kernel_rfl) (fun _ _ _ h => h) HS0.out (Or.inl ⟨by rfl, ?_⟩) ?_
        rotate_left
        · rintro w ⟨q0, q1⟩; go_simp; try with_reducible rfl
        try simp only [Act.put, List.getElem_toArray, List.getElem_cons_zero, List.getElem_cons_succ, List.setIfInBounds_toArray, List.set_cons_zero, List.set_cons_succ]
        refine wpAnyL_take (i := 2) (v := ?_) rfl rfl (by kernel_rfl) (by kernel_rfl) (by kernel_rfl) (by kernel_rfl) (by kernel_rfl) (fun _ _ _ h => h) HS0.out (Or.inl ⟨by rfl, ?_⟩) ?_
        rotate_left
        · rintro w ⟨q0, q1⟩; go_simp; try with_reducible rfl
        try simp only [Act.put, List.getElem_toArray, List.getElem_cons_zero, List.getElem_cons_succ, List.setIfInBounds_toArray, List.set_cons_zero, List.set_cons_succ]
        refine wpAnyL_take (i := 3) (v := ?_) rfl rfl (by kernel_rfl) (by kernel_rfl) (by kernel_rfl) (by kernel_rfl) (by kernel_rfl) (fun _ _ _ h => h) HS0.out (Or.inl ⟨by rfl, ?_⟩) ?_
        rotate_left
        · rintro w ⟨q0, q1⟩; go_simp; try with_reducible rfl
        try simp only [Act.put, List.getElem_toArray, List.getElem_cons_zero, List.getElem_cons_succ, List.setIfInBounds_toArray, List.set_cons_zero, List.set_cons_succ]
        refine wpAnyL_take (i := 4) (v := ?_) rfl rfl (by kernel_rfl) (by kernel_rfl) (by kernel_rfl) (by kernel_rfl) (by kernel_rfl) (fun _ _ _ h => h) HS0.out (Or.inl ⟨by rfl, ?_⟩) ?_
        rotate_left
        · rintro w ⟨q0, q1⟩; go_simp; try with_reducible rfl
        try simp only [Act.put, List.getElem_toArray, List.getElem_cons_zero, List.getElem_cons_succ, List.setIfInBounds_toArray, List.set_cons_zero, List.set_cons_succ]
        refine wpAnyL_take (i := 5) (v := ?_) rfl rfl (by kernel_rfl) (by kernel_rfl) (by kernel_rfl) (by kernel_rfl) (by kernel_rfl) (fun _ _ _ h => h) HS0.out (Or.inl ⟨by rfl, ?_⟩) ?_
        rotate_left
        · rintro w ⟨q0, q1⟩; go_simp; try with_reducible rfl
        try simp only [Act.put, List.getElem_toArray, List.getElem_cons_zero, List.getElem_cons_succ, List.setIfInBounds_toArray, List.set_cons_zero, List.set_cons_succ]
        refine wpAnyL_take (i := 6) (v := ?_) rfl rfl (by kernel_rfl) (by kernel_rfl) (by kernel_rfl) (by kernel_rfl) (by kernel_rfl) (fun _ _ _ h => h) HS0.out (Or.inl ⟨by rfl, ?_⟩) ?_
        rotate_left
        · rintro w ⟨q0, q1⟩; go_simp; try with_reducible rfl
        try simp only [Act.put, List.getElem_toArray, List.getElem_cons_zero, List.getElem_cons_succ, List.setIfInBounds_toArray, List.set_cons_zero, List.set_cons_succ]
        refine wpAnyL_take (i := 7) (v := ?_) rfl rfl (by kernel_rfl) (by kernel_rfl) (by kernel_rfl) (by kernel_rfl) (by kernel_rfl) (fun _ _ _ h => h) HS0.out (Or.inl ⟨by rfl, ?_⟩) ?_
        rotate_left
        · rintro w ⟨q0, q1⟩; go_simp; try with_reducible rfl
        try simp only [Act.put, List.getElem_toArray, List.getElem_cons_zero, List.getElem_cons_succ, List.setIfInBounds_toArray, List.set_cons_zero, List.set_cons_succ]
        refine wpAnyL_take (i := 8) (v := ?_) rfl rfl (by kernel_rfl) (by kernel_rfl) (by kernel_rfl) (by kernel_rfl) (by kernel_rfl) (fun _ _ _ h => h) HS0.out (Or.inl ⟨by rfl, ?_⟩) ?_
        rotate_left
        · rintro w ⟨q0, q1⟩; go_simp; try with_reducible rfl
        try simp only [Act.put, List.getElem_toArray, List.getElem_cons_zero, List.getElem_cons_succ, List.setIfInBounds_toArray, List.set_cons_zero, List.set_cons_succ]
        refine wpAnyL_take (i := 9) (v := ?_) rfl rfl (by kernel_rfl) (by kernel_rfl) (by kernel_rfl) (by kernel_rfl) (by kernel_rfl) (fun _ _ _ h => h) HS0.out (Or.inl ⟨by rfl, ?_⟩) ?_
        rotate_left
        · rintro w ⟨q0, q1⟩; go_simp; try with_reducible rfl
        try simp only [Act.put, List.getElem_toArray, List.getElem_cons_zero, List.getElem_cons_succ, List.setIfInBounds_toArray, List.set_cons_zero, List.set_cons_succ]
        refine wpAnyL_one (i := 10) rfl (by kernel_rfl) (fun K hK => ?_)
        go_simp
        refine (HT.out.1 _).mono ?_
        rintro e w4 ⟨rfl, hb4⟩
        have HB4 := Lib.hid (show Below wr.heap.size wr w4 from belowA hb4)
        have HS4 : Hid ((fun w' : World => w'.cell? ⟨g, i, none⟩ = some (.int .u64 0) ∧ w'.cell? ⟨b1, o1 + i, none⟩ = some (.int .u64 (x : Int))) w4) := Lib.hid ⟨(HB4.out.cell HC.out.1).trans HS0.out.1, (HB4.out.cell HC.out.2).trans HS0.out.2⟩
        clear hb4
        refine hK.out _ _ (fun _ => HS4.out) ?_
        clear hK K
        try simp only [Act.put, List.getElem_toArray, List.getElem_cons_zero, List.getElem_cons_succ, List.setIfInBounds_toArray, List.set_cons_zero, List.set_cons_succ]
        have hR4 := hJ.out.2.1.below HB4.out HF.out
        have hc4 := HS4.out.1
        have hf4 := hR4.frozen i
        have HR4 := Lib.hid hR4
        clear hR4 HS0
        refine wpAnyL_take (i := 11) (v := ?_) rfl rfl (by kernel_rfl) (by kernel_rfl) (by kernel_rfl) (by kernel_rfl) (by kernel_rfl) (fun _ _ _ h => h) HS4.out (Or.inl ⟨by rfl, ?_⟩) ?_
        rotate_left
        · rintro w ⟨q0, q1⟩; go_simp; try with_reducible rfl
        try simp only [Act.put, List.getElem_toArray, List.getElem_cons_zero, List.getElem_cons_succ, List.setIfInBounds_toArray, List.set_cons_zero, List.set_cons_succ]
        refine wpAnyL_one (i := 12) rfl (by kernel_rfl) (fun K hK => ?_)
        go_simp
        refine hK.out _ _ (fun h => absurd rfl h) ?_
        clear hK K
        try simp only [Act.put, List.getElem_toArray, List.getElem_cons_zero, List.getElem_cons_succ, List.setIfInBounds_toArray, List.set_cons_zero, List.set_cons_succ]
        refine wpAnyL_done (by kernel_rfl) ?_ _
        have HN : Hid (Below wp.heap.size wp (w4.setCell ⟨g, i, none⟩ (.int .u64 x)) ∧ Rw 43 (w4.setCell ⟨g, i, none⟩ (.int .u64 x)) g n (tdp n L (i + 1)) ∧ wp.heap.size ≤ g) :=
          Lib.hid ⟨(hJ.out.1.trans (HB4.out.mono hJ.out.1.size)).setCell hJ.out.2.2 _, (HR4.out.set i (PP_B HT.out.2.2)).congr fun m hm => (HT.out.2.1 m hm).symm, hJ.out.2.2⟩
        clear hJ HR4 hc4 hf4 HS4 HT HB4 HC HF
        go_wp2_with (fail)
        go_roundw
        case rel => exact ⟨i + 1, by omega, by go_num, HN⟩
        case measure => simp [intOf]; omega
      · have hin2 : ¬ (i : Int) < n := by omega
        obtain ⟨q, hq⟩ : ∃ q, i - n = q := ⟨_, rfl⟩
        have hqn : q < n - 1 := by have := HH.out.2.2.2; omega
        have e2 : (i : Int) - (n : Int) = (q : Int) := by omega
        have e4 : IntKind.i64.wrap (q : Int) = (q : Int) := IntWalk.i64_in _ (by omega)
        have hqi : (q : Int) < n := by omega
        have hq0 : (0 : Int) ≤ (q : Int) := by omega
        have hc := hJ.out.2.1.cell (i := q) (by omega)
        have hgl := hJ.out.2.1.lt
        have h0 : tdp n L i q = L q := by
          unfold tdp
          by_cases h1 : i ≤ n
          · rw [if_pos h1, if_pos (by omega)]
          · rw [if_neg h1, if_neg (by omega)]
        rw [h0] at hc
        have hA := fun W => R4Sub_ok (L q) (L i) W (PP_B (HH.out.2.1 q)) hxP
        obtain ⟨x, hxv⟩ : ∃ x, L i = x := ⟨_, rfl⟩
        obtain ⟨z, hzv⟩ : ∃ z, L q = z := ⟨_, rfl⟩
        obtain ⟨v, hv⟩ : ∃ v, (z + (PP - x)) % PP = v := ⟨_, rfl⟩
        have hnew : ∀ m, m < n → tdp n L (i + 1) m = if m = q then v else tdp n L i m := fun m hm => by
          unfold tdp
          rw [if_neg (show ¬ i + 1 ≤ n by omega)]
          by_cases h5 : m = q
          · subst h5; rw [if_pos (show m < i + 1 - n by omega), if_pos rfl, ← hv, ← hxv, ← hzv, show m + n = i by omega]
          · rw [if_neg h5]
            by_cases h1 : i ≤ n
            · rw [if_neg (show ¬ m < i + 1 - n by omega), if_pos h1, if_pos (show m < i by omega)]
            · rw [if_neg h1]
              by_cases h6 : m < i - n
              · rw [if_pos (show m < i + 1 - n by omega), if_pos h6]
              · rw [if_neg (show ¬ m < i + 1 - n by omega), if_neg h6]
        rw [hxv] at hcx hA hxP
        rw [hzv] at hc hA
        rw [hv] at hA
        have HT := Lib.hid (And.intro hA (And.intro hnew (show v < B64 by rw [← hv]; exact mod_lt_B _)))
        have HS0 := Lib.hid (show (fun w' : World => w'.cell? ⟨g, q, none⟩ = some (.int .u64 (z : Int)) ∧ w'.cell? ⟨b1, o1 + i, none⟩ = some (.int .u64 (x : Int))) wr.drew from ⟨hc, hcx⟩)
        have HC := Lib.hid (And.intro (World.block_lt_of_cell? _ _ hc) (World.block_lt_of_cell? _ _ hcx))
        have HF := Lib.hid hgl
        clear hA hnew hxv hzv hv hxP hc hcx hgl hb1 h0 hqn hq
        go_wp2_with (fail)
        refine wp_region_L 18 (fun w' => w'.cell? ⟨g, q, none⟩ = some (.int .u64 (z : Int)) ∧ w'.cell? ⟨b1, o1 + i, none⟩ = some (.int .u64 (x : Int))) hmix ?_
        refine wpAnyL_take (i := 0) (v := ?_) rfl rfl (by kernel_rfl) (by kernel_rfl) (by kernel_rfl) (by kernel_rfl) (by kernel_rfl) (fun _ _ _ h => h) HS0.out (Or.inl ⟨by rfl, ?_⟩) ?_
        rotate_left
        · rintro w ⟨q0, q1⟩; go_simp; try with_reducible rfl
        try simp only [Act.put, List.getElem_toArray, List.getElem_cons_zero, List.getElem_cons_succ, List.setIfInBounds_toArray, List.set_cons_zero, List.set_cons_succ]
        refine wpAnyL_take (i := 1) (v := ?_) rfl rfl (by kernel_rfl) (by kernel_rfl) (by kernel_rfl) (by kernel_rfl) (by kernel_rfl) (fun _ _ _ h => h) HS0.out (Or.inl ⟨by rfl, ?_⟩) ?_
        rotate_left
        · rintro w ⟨q0, q1⟩; go_simp; try with_reducible rfl
        try simp only [Act.put, List.getElem_toArray, List.getElem_cons_zero, List.getElem_cons_succ, List.setIfInBounds_toArray, List.set_cons_zero, List.set_cons_succ]
        refine wpAnyL_take (i := 2) (v := ?_) rfl rfl (by kernel_rfl) (by kernel_rfl) (by kernel_rfl) (by kernel_rfl) (by kernel_rfl) (fun _ _ _ h => h) HS0.out (Or.inl ⟨by rfl, ?_⟩) ?_
        rotate_left
        · rintro w ⟨q0, q1⟩; go_simp; try with_reducible rfl
        try simp only [Act.put, List.getElem_toArray, List.getElem_cons_zero, List.getElem_cons_succ, List.setIfInBounds_toArray, List.set_cons_zero, List.set_cons_succ]
        refine wpAnyL_take (i := 3) (v := ?_) rfl rfl (by kernel_rfl) (by kernel_rfl) (by kernel_rfl) (by kernel_rfl) (by kernel_rfl) (fun _ _ _ h => h) HS0.out (Or.inl ⟨by rfl, ?_⟩) ?_
        rotate_left
        · rintro w ⟨q0, q1⟩; go_simp; try with_reducible rfl
        try simp only [Act.put, List.getElem_toArray, List.getElem_cons_zero, List.getElem_cons_succ, List.setIfInBounds_toArray, List.set_cons_zero, List.set_cons_succ]
        refine wpAnyL_take (i := 4) (v := ?_) rfl rfl (by kernel_rfl) (by kernel_rfl) (by kernel_rfl) (by kernel_rfl) (by kernel_rfl) (fun _ _ _ h => h) HS0.out (Or.inl ⟨by rfl, ?_⟩) ?_
        rotate_left
        · rintro w ⟨q0, q1⟩; go_simp; try with_reducible rfl
        try simp only [Act.put, List.getElem_toArray, List.getElem_cons_zero, List.getElem_cons_succ, List.setIfInBounds_toArray, List.set_cons_zero, List.set_cons_succ]
        refine wpAnyL_take (i := 5) (v := ?_) rfl rfl (by kernel_rfl) (by kernel_rfl) (by kernel_rfl) (by kernel_rfl) (by kernel_rfl) (fun _ _ _ h => h) HS0.out (Or.inl ⟨by rfl, ?_⟩) ?_
        rotate_left
        · rintro w ⟨q0, q1⟩; go_simp; try with_reducible rfl
        try simp only [Act.put, List.getElem_toArray, List.getElem_cons_zero, List.getElem_cons_succ, List.setIfInBounds_toArray, List.set_cons_zero, List.set_cons_succ]
        refine wpAnyL_take (i := 6) (v := ?_) rfl rfl (by kernel_rfl) (by kernel_rfl) (by kernel_rfl) (by kernel_rfl) (by kernel_rfl) (fun _ _ _ h => h) HS0.out (Or.inl ⟨by rfl, ?_⟩) ?_
        rotate_left
        · rintro w ⟨q0, q1⟩; go_simp; try with_reducible rfl
        try simp only [Act.put, List.getElem_toArray, List.getElem_cons_zero, List.getElem_cons_succ, List.setIfInBounds_toArray, List.set_cons_zero, List.set_cons_succ]
        refine wpAnyL_take (i := 7) (v := ?_) rfl rfl (by kernel_rfl) (by kernel_rfl) (by kernel_rfl) (by kernel_rfl) (by kernel_rfl) (fun _ _ _ h => h) HS0.out (Or.inl ⟨by rfl, ?_⟩) ?_
        rotate_left
        · rintro w ⟨q0, q1⟩; go_simp; try with_reducible rfl
        try simp only [Act.put, List.getElem_toArray, List.getElem_cons_zero, List.getElem_cons_succ, List.setIfInBounds_toArray, List.set_cons_zero, List.set_cons_succ]
        refine wpAnyL_take (i := 8) (v := ?_) rfl rfl (by kernel_rfl) (by kernel_rfl) (by kernel_rfl) (by kernel_rfl) (by kernel_rfl) (fun _ _ _ h => h) HS0.out (Or.inl ⟨by rfl, ?_⟩) ?_
        rotate_left
        · rintro w ⟨q0, q1⟩; go_simp; try with_reducible rfl
        try simp only [Act.put, List.getElem_toArray, List.getElem_cons_zero, List.getElem_cons_succ, List.setIfInBounds_toArray, List.set_cons_zero, List.set_cons_succ]
        refine wpAnyL_take (i := 9) (v := ?_) rfl rfl (by kernel_rfl) (by kernel_rfl) (by kernel_rfl) (by kernel_rfl) (by kernel_rfl) (fun _ _ _ h => h) HS0.out (Or.inl ⟨by rfl, ?_⟩) ?_
        rotate_left
        · rintro w ⟨q0, q1⟩; go_simp; try with_reducible rfl
        try simp only [Act.put, List.getElem_toArray, List.getElem_cons_zero, List.getElem_cons_succ, List.setIfInBounds_toArray, List.set_cons_zero, List.set_cons_succ]
        refine wpAnyL_take (i := 10) (v := ?_) rfl rfl (by kernel_rfl) (by kernel_rfl) (by kernel_rfl) (by kernel_rfl) (by kernel_rfl) (fun _ _ _ h => h) HS0.out (Or.inl ⟨by rfl, ?_⟩) ?_
        rotate_left
        · rintro w ⟨q0, q1⟩; go_simp; try with_reducible rfl
        try simp only [Act.put, List.getElem_toArray, List.getElem_cons_zero, List.getElem_cons_succ, List.setIfInBounds_toArray, List.set_cons_zero, List.set_cons_succ]
        refine wpAnyL_take (i := 11) (v := ?_) rfl rfl (by kernel_rfl) (by kernel_rfl) (by kernel_rfl) (by kernel_rfl) (by kernel_rfl) (fun _ _ _ h => h) HS0.out (Or.inl ⟨by rfl, ?_⟩) ?_
        rotate_left
        · rintro w ⟨q0, q1⟩; go_simp; try with_reducible rfl
        try simp only [Act.put, List.getElem_toArray, List.getElem_cons_zero, List.getElem_cons_succ, List.setIfInBounds_toArray, List.set_cons_zero, List.set_cons_succ]
        refine wpAnyL_take (i := 12) (v := ?_) rfl rfl (by kernel_rfl) (by kernel_rfl) (by kernel_rfl) (by kernel_rfl) (by kernel_rfl) (fun _ _ _ h => h) HS0.out (Or.inl ⟨by rfl, ?_⟩) ?_
        rotate_left
        · rintro w ⟨q0, q1⟩; go_simp; try with_reducible rfl
        try simp only [Act.put, List.getElem_toArray, List.getElem_cons_zero, List.getElem_cons_succ, List.setIfInBounds_toArray, List.set_cons_zero, List.set_cons_succ]
        refine wpAnyL_take (i := 13) (v := ?_) rfl rfl (by kernel_rfl) (by kernel_rfl) (by kernel_rfl) (by kernel_rfl) (by kernel_rfl) (fun _ _ _ h => h) HS0.out (Or.inl ⟨by rfl, ?_⟩) ?_
        rotate_left
        · rintro w ⟨q0, q1⟩; go_simp; try with_reducible rfl
        try simp only [Act.put, List.getElem_toArray, List.getElem_cons_zero, List.getElem_cons_succ, List.setIfInBounds_toArray, List.set_cons_zero, List.set_cons_succ]
        refine wpAnyL_take (i := 14) (v := ?_) rfl rfl (by kernel_rfl) (by kernel_rfl) (by kernel_rfl) (by kernel_rfl) (by kernel_rfl) (fun _ _ _ h => h) HS0.out (Or.inl ⟨by rfl, ?_⟩) ?_
        rotate_left
        · rintro w ⟨q0, q1⟩; go_simp; try with_reducible rfl
        try simp only [Act.put, List.getElem_toArray, List.getElem_cons_zero, List.getElem_cons_succ, List.setIfInBounds_toArray, List.set_cons_zero, List.set_cons_succ]
        refine wpAnyL_take (i := 15) (v := ?_) rfl rfl (by kernel_rfl) (by kernel_rfl) (by kernel_rfl) (by kernel_rfl) (by kernel_rfl) (fun _ _ _ h => h) HS0.out (Or.inl ⟨by rfl, ?_⟩) ?_
        rotate_left
        · rintro w ⟨q0, q1⟩; go_simp; try with_reducible rfl
        try simp only [Act.put, List.getElem_toArray, List.getElem_cons_zero, List.getElem_cons_succ, List.setIfInBounds_toArray, List.set_cons_zero, List.set_cons_succ]
        refine wpAnyL_one (i := 16) rfl (by kernel_rfl) (fun K hK => ?_)
        go_simp
        refine (HT.out.1 _).mono ?_
        rintro e w4 ⟨rfl, hb4⟩
        have HB4 := Lib.hid (show Below wr.heap.size wr w4 from belowA hb4)
        have HS4 : Hid ((fun w' : World => w'.cell? ⟨g, q, none⟩ = some (.int .u64 (z : Int)) ∧ w'.cell? ⟨b1, o1 + i, none⟩ = some (.int .u64 (x : Int))) w4) := Lib.hid ⟨(HB4.out.cell HC.out.1).trans HS0.out.1, (HB4.out.cell HC.out.2).trans HS0.out.2⟩
        clear hb4
        refine hK.out _ _ (fun _ => HS4.out) ?_
        clear hK K
        try simp only [Act.put, List.getElem_toArray, List.getElem_cons_zero, List.getElem_cons_succ, List.setIfInBounds_toArray, List.set_cons_zero, List.set_cons_succ]
        have hR4 := hJ.out.2.1.below HB4.out HF.out
        have hc4 := HS4.out.1
        have hf4 := hR4.frozen q
        have HR4 := Lib.hid hR4
        clear hR4 HS0
        refine wpAnyL_take (i := 17) (v := ?_) rfl rfl (by kernel_rfl) (by kernel_rfl) (by kernel_rfl) (by kernel_rfl) (by kernel_rfl) (fun _ _ _ h => h) HS4.out (Or.inl ⟨by rfl, ?_⟩) ?_
        rotate_left
        · rintro w ⟨q0, q1⟩; go_simp; try with_reducible rfl
        try simp only [Act.put, List.getElem_toArray, List.getElem_cons_zero, List.getElem_cons_succ, List.setIfInBounds_toArray, List.set_cons_zero, List.set_cons_succ]
        refine wpAnyL_one (i := 18) rfl (by kernel_rfl) (fun K hK => ?_)
        go_simp
        refine hK.out _ _ (fun h => absurd rfl h) ?_
        clear hK K
        try simp only [Act.put, List.getElem_toArray, List.getElem_cons_zero, List.getElem_cons_succ, List.setIfInBounds_toArray, List.set_cons_zero, List.set_cons_succ]
        refine wpAnyL_done (by kernel_rfl) ?_ _
        have HN : Hid (Below wp.heap.size wp (w4.setCell ⟨g, q, none⟩ (.int .u64 v)) ∧ Rw 43 (w4.setCell ⟨g, q, none⟩ (.int .u64 v)) g n (tdp n L (i + 1)) ∧ wp.heap.size ≤ g) :=
          Lib.hid ⟨(hJ.out.1.trans (HB4.out.mono hJ.out.1.size)).setCell hJ.out.2.2 _, (HR4.out.set q HT.out.2.2).congr fun m hm => (HT.out.2.1 m hm).symm, hJ.out.2.2⟩
        clear hJ HR4 hc4 hf4 HS4 HT HB4 HC HF
        go_wp2_with (fail)
        go_roundw
        case rel => exact ⟨i + 1, by omega, by go_num, HN⟩
        case measure => simp [intOf]; omega
    · have hki : ¬ (i : Int) < N := by omega
      obtain rfl : i = N := by omega
      go_wp2_with (fail)
      go_ret
      exact ⟨some ⟨g, 0, none⟩, n, rfl, (hJ.out.2.1.congr fun m hm => HH.out.2.2.1 m hm).sl (by omega), HL.out.2.trans (hJ.out.1.mono HL.out.2.size)⟩
end Go.Proofs.YthpgdpkemnhneaaDoor
