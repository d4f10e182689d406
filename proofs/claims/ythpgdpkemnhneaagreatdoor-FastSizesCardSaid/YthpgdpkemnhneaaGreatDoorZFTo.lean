/- The contracts of toom's closure. -/
import Derived.Test.YthpgdpkemnhneaaGreatDoorZFToI
namespace Go.Proofs.YthpgdpkemnhneaaGreatDoor
open Go.RowKit Go.Shelf
set_option linter.unusedVariables false
set_option linter.unusedSimpArgs false
set_option maxRecDepth 10000

/-- what a round reads -/
def TS (bv bw k pl pp f : Nat) (r q : Sn) (W : World) : Prop :=
  W.cell? ⟨bv, k * 2, none⟩ = some (.bool r.s) ∧ W.cell? ⟨bv, k * 2 + 1, none⟩ = some (.slice r.A r.n r.c) ∧ W.cell? ⟨bw, k * 2, none⟩ = some (.bool q.s) ∧ W.cell? ⟨bw, k * 2 + 1, none⟩ = some (.slice q.A q.n q.c) ∧
  W.cell? ⟨pp, 0, none⟩ = some (.func (.func f) #[] #[.pointer (some ⟨pl, 0, none⟩), .pointer (some ⟨pp, 0, none⟩)])
theorem TS.below {bv bw k pl pp f : Nat} {r q : Sn} {W W' : World} (h : TS bv bw k pl pp f r q W) (hb : Below W.heap.size W W') : TS bv bw k pl pp f r q W' :=
  ⟨(hb.cell (World.block_lt_of_cell? _ _ h.1)).trans h.1, (hb.cell (World.block_lt_of_cell? _ _ h.2.1)).trans h.2.1, (hb.cell (World.block_lt_of_cell? _ _ h.2.2.1)).trans h.2.2.1, (hb.cell (World.block_lt_of_cell? _ _ h.2.2.2.1)).trans h.2.2.2.1, (hb.cell (World.block_lt_of_cell? _ _ h.2.2.2.2)).trans h.2.2.2.2⟩
theorem TmI.ts {w W : World} {bv bw h pl pp least f : Nat} {R Q : List Sn} {S T : List Int} {k : Nat} {r q : Sn} (H : TmI w W bv bw h R Q S T k) (hr : R[k]? = some r) (hq : Q[k]? = some q) (hK : KBox w pl pp least f) : TS bv bw k pl pp f r q W := by
  have h1 := sncs_get2 R k hr
  have h2 := sncs_get2 Q k hq
  rw [Nat.mul_comm 2 k] at h1 h2
  exact ⟨(H.1.1 _ _ h1.1).1, (H.1.1 _ _ h1.2).1, (H.1.2.1 _ _ h2.1).1, (H.1.2.1 _ _ h2.2).1, (H.kbox hK).2.1⟩

set_option maxHeartbeats 4000000 in
theorem tprod_step (N : Nat) (pl pp least : Nat) (hl3 : 3 ≤ least) (hl64 : least ≤ 64)
    (IH : ∀ (A A' : Option Addr) (n n' c c' : Nat) (xs ys : List Nat) (w : World), n < N → n' < N → Sc w A n c xs → Sc w A' n' c' ys → KBox w pl pp least 73 → TabF w → Room least n n' (V xs * V ys) →
      Calls Tryz.prog 73 #[.slice A n c, .slice A' n' c', .pointer (some ⟨pl, 0, none⟩), .pointer (some ⟨pp, 0, none⟩)] w fun e w' => Rv w w' e (V xs * V ys))
    (A A' : Option Addr) (n n' c c' : Nat) (xs ys : List Nat) (w : World) (hn : n ≤ N) (hn' : n' ≤ N) (hx : Sc w A n c xs) (hy : Sc w A' n' c' ys) (hK : KBox w pl pp least 73) (hT : TabF w) (hR : Room least n n' (V xs * V ys)) :
      Calls Tryz.prog 73 #[.slice A n c, .slice A' n' c', .pointer (some ⟨pl, 0, none⟩), .pointer (some ⟨pp, 0, none⟩)] w fun e w' => Rv w w' e (V xs * V ys) := by
  have hmix : Tryz.prog.follows Departure.mixedOrders = true := by kernel_rfl
  have Hx := Lib.hid (And.intro hx (And.intro hy (And.intro hK (And.intro hR hT))))
  have HI := Lib.hid IH
  have hs := hR.1
  have k1 := hK.1
  clear hx hy hK hR IH hT
  obtain ⟨mn, hmn⟩ : ∃ mn, mn = min n n' := ⟨_, rfl⟩
  have hmi : min (n : Int) (n' : Int) = (mn : Int) := by omega
  by_cases hlt : mn < least
  · have hli : (mn : Int) < (least : Int) := by omega
    have HL := Lib.hid (show V xs * V ys < Big from Hx.out.2.2.2.1.2 (by omega))
    have h1 := hs.2
    clear hmn
    go_enter Tryz.func73, Tryz.ntmps73
    go_wp2_with (fail)
    refine (school_ok _ _ _ _ _ _ _ xs ys _ h1.1 h1.2 Hx.out.1.1 Hx.out.2.1.1 HL.out).mono ?_
    rintro e w1 ⟨v, rfl, h2, h3⟩
    have H := Lib.hid (And.intro h2 h3)
    clear h2 h3
    go_wp2_with (fail)
    go_ret
    exact ⟨v, rfl, H.out.1, H.out.2⟩
  · have hli : ¬ (mn : Int) < (least : Int) := by omega
    obtain ⟨M, hM⟩ : ∃ M, M = max n n' := ⟨_, rfl⟩
    have hMi : max (n : Int) (n' : Int) = (M : Int) := by omega
    obtain ⟨h, hh⟩ : ∃ h, h = (M + 2) / 3 := ⟨_, rfl⟩
    have hhi : ((M : Int) + 2) / 3 = (h : Int) := by omega
    have hhi2 : ((M : Int) + 2).tdiv 3 = (h : Int) := by rw [Int.tdiv_eq_ediv_of_nonneg (by omega)]; exact hhi
    have hMs : n ≤ M ∧ n' ≤ M ∧ M ≤ N ∧ 3 ≤ M ∧ M ≤ 4094 := by omega
    have HS := Lib.hid (show n ≤ 3 * h ∧ n' ≤ 3 * h ∧ h + 1 < N ∧ 1 ≤ h ∧ h ≤ 1366 by omega)
    have hh5 : 1 ≤ h := by omega
    have hh6 : h ≤ 1366 := by omega
    have hw1 : IntKind.i64.wrap ((M : Int) + 2) = (M : Int) + 2 := IntWalk.i64_in _ (by omega)
    have hw2 : IntKind.i64.wrap (h : Int) = (h : Int) := IntWalk.i64_in _ (by omega)
    obtain ⟨hM4, hn5, hn5'⟩ : M ≤ 4094 ∧ n ≤ 4096 ∧ n' ≤ 4096 := by omega
    clear hmn hM hh hMs hs
    go_enter Tryz.func73, Tryz.ntmps73
    go_wp2_with (fail)
    refine (thirds_ok A n c h xs _ (by omega) hh5 (by omega) (by have := HS.out; omega) Hx.out.1 Hx.out.2.2.2.2).mono ?_
    rintro z w1 ⟨a, b, c1, d, e, rfl, hsc, hv, hb1⟩
    have H1 := Lib.hid (And.intro hsc (And.intro hv (And.intro hb1 (And.intro (Hx.out.2.1.below hb1) (Hx.out.2.2.2.2.below hb1)))))
    clear hsc hv hb1
    go_wp2_with (fail)
    refine (thirds_ok A' n' c' h ys w1 (by omega) hh5 (by omega) (by have := HS.out; omega) H1.out.2.2.2.1 H1.out.2.2.2.2).mono ?_
    rintro z w2 ⟨a2, b2, c2, d2, e2, rfl, hsc, hv, hb2⟩
    have H2 := Lib.hid (And.intro hsc (And.intro hv hb2))
    clear hsc hv hb2
    go_wp2_with (fail)
    obtain ⟨W0, hW0⟩ : ∃ W0, (w2.alloc (.cells (snL a b c1 d e).toArray 72)).alloc (.cells (snL a2 b2 c2 d2 e2).toArray 72) = W0 := ⟨_, rfl⟩
    obtain ⟨bv, hbv⟩ : ∃ bv, w2.heap.size = bv := ⟨_, rfl⟩
    obtain ⟨bw, hbw⟩ : ∃ bw, w2.heap.size + 1 = bw := ⟨_, rfl⟩
    have hI0 : Hid (TmI w W0 bv bw h [a, b, c1, d, e] [a2, b2, c2, d2, e2] (thS (V (pw xs h 0)) (V (pw xs h 1)) (V (pw xs h 2))) (thS (V (pw ys h 0)) (V (pw ys h 1)) (V (pw ys h 2))) 0) := by
      rw [← hW0, ← hbv, ← hbw]
      exact TmI.start H1.out.1 H1.out.2.1 H1.out.2.2.1 H2.out.1 H2.out.2.1 H2.out.2.2 (fun i v hv => th_lt (pw_lt Hx.out.1.1) (pw_lt Hx.out.1.1) (pw_lt Hx.out.1.1) hv) (fun i v hv => th_lt (pw_lt Hx.out.2.1.1) (pw_lt Hx.out.2.1.1) (pw_lt Hx.out.2.1.1) hv) hh6
    rw [hW0, hbw, hbv]
    obtain ⟨S, hS⟩ : ∃ S, thS (V (pw xs h 0)) (V (pw xs h 1)) (V (pw xs h 2)) = S := ⟨_, rfl⟩
    obtain ⟨T, hT⟩ : ∃ T, thS (V (pw ys h 0)) (V (pw ys h 1)) (V (pw ys h 2)) = T := ⟨_, rfl⟩
    obtain ⟨Q, hQ⟩ : ∃ Q, [a2, b2, c2, d2, e2] = Q := ⟨_, rfl⟩
    obtain ⟨R0, hR0⟩ : ∃ R0, [a, b, c1, d, e] = R0 := ⟨_, rfl⟩
    rw [hS, hT, hQ, hR0] at hI0
    have HE := Lib.hid (And.intro hS hT)
    clear hS hT hQ hW0 hbv hbw H1 H2 hR0
    go_loopw [10, 37] (fun _ kv wr => ∃ (k : Nat) (R : List Sn), k ≤ 5 ∧ kv = .int .i64 k ∧ Hid (TmI w wr bv bw h R Q S T k)) (fun _ kv _ => 5 - (intOf kv).toNat)
    case atStart => exact ⟨0, R0, by omega, rfl, hI0⟩
    case round =>
      clear hI0
      obtain ⟨k, R, hk, rfl, H⟩ := hrel
      by_cases hlt : k < 5
      · have hki : (k : Int) < 5 := by omega
        obtain ⟨r, hr⟩ : ∃ r, R[k]? = some r := ⟨_, List.getElem?_eq_getElem (by rw [H.out.1.2.2.1]; exact hlt)⟩
        obtain ⟨q, hq⟩ : ∃ q, Q[k]? = some q := ⟨_, List.getElem?_eq_getElem (by rw [H.out.1.2.2.2]; exact hlt)⟩
        have HS0 : Hid (TS bv bw k pl pp 73 r q wr.drew) := H.out.ts hr hq Hx.out.2.2.1
        have HX := Lib.hid (And.intro hr hq)
        have hk5 : (k : Int) < 5 := by omega
        clear hr hq
        go_wp2_with (fail)
        refine wp_region_M 22 (TS bv bw k pl pp 73 r q) hmix ?_
        refine wpAnyM_take (i := 0) (v := ?_) rfl rfl (by kernel_rfl) (by kernel_rfl) (by kernel_rfl) (by kernel_rfl) (by kernel_rfl) (by kernel_rfl) (fun _ _ _ h => h) HS0.out (Or.inl ⟨by rfl, ?_⟩) ?_
        rotate_left
        · rintro w ⟨q0, q1, q2, q3, q4⟩; go_simp; try with_reducible rfl
        try simp only [Act.put, List.getElem_toArray, List.getElem_cons_zero, List.getElem_cons_succ, List.setIfInBounds_toArray, List.set_cons_zero, List.set_cons_succ]
        refine wpAnyM_take (i := 1) (v := ?_) rfl rfl (by kernel_rfl) (by kernel_rfl) (by kernel_rfl) (by kernel_rfl) (by kernel_rfl) (by kernel_rfl) (fun _ _ _ h => h) HS0.out (Or.inl ⟨by rfl, ?_⟩) ?_
        rotate_left
        · rintro w ⟨q0, q1, q2, q3, q4⟩; go_simp; try with_reducible rfl
        try simp only [Act.put, List.getElem_toArray, List.getElem_cons_zero, List.getElem_cons_succ, List.setIfInBounds_toArray, List.set_cons_zero, List.set_cons_succ]
        refine wpAnyM_take (i := 2) (v := ?_) rfl rfl (by kernel_rfl) (by kernel_rfl) (by kernel_rfl) (by kernel_rfl) (by kernel_rfl) (by kernel_rfl) (fun _ _ _ h => h) HS0.out (Or.inl ⟨by rfl, ?_⟩) ?_
        rotate_left
        · rintro w ⟨q0, q1, q2, q3, q4⟩; go_simp; try with_reducible rfl
        try simp only [Act.put, List.getElem_toArray, List.getElem_cons_zero, List.getElem_cons_succ, List.setIfInBounds_toArray, List.set_cons_zero, List.set_cons_succ]
        refine wpAnyM_take (i := 3) (v := ?_) rfl rfl (by kernel_rfl) (by kernel_rfl) (by kernel_rfl) (by kernel_rfl) (by kernel_rfl) (by kernel_rfl) (fun _ _ _ h => h) HS0.out (Or.inl ⟨by rfl, ?_⟩) ?_
        rotate_left
        · rintro w ⟨q0, q1, q2, q3, q4⟩; go_simp; try with_reducible rfl
        try simp only [Act.put, List.getElem_toArray, List.getElem_cons_zero, List.getElem_cons_succ, List.setIfInBounds_toArray, List.set_cons_zero, List.set_cons_succ]
        refine wpAnyM_take (i := 4) (v := ?_) rfl rfl (by kernel_rfl) (by kernel_rfl) (by kernel_rfl) (by kernel_rfl) (by kernel_rfl) (by kernel_rfl) (fun _ _ _ h => h) HS0.out (Or.inl ⟨by rfl, ?_⟩) ?_
        rotate_left
        · rintro w ⟨q0, q1, q2, q3, q4⟩; go_simp; try with_reducible rfl
        try simp only [Act.put, List.getElem_toArray, List.getElem_cons_zero, List.getElem_cons_succ, List.setIfInBounds_toArray, List.set_cons_zero, List.set_cons_succ]
        refine wpAnyM_take (i := 5) (v := ?_) rfl rfl (by kernel_rfl) (by kernel_rfl) (by kernel_rfl) (by kernel_rfl) (by kernel_rfl) (by kernel_rfl) (fun _ _ _ h => h) HS0.out (Or.inl ⟨by rfl, ?_⟩) ?_
        rotate_left
        · rintro w ⟨q0, q1, q2, q3, q4⟩; go_simp; try with_reducible rfl
        try simp only [Act.put, List.getElem_toArray, List.getElem_cons_zero, List.getElem_cons_succ, List.setIfInBounds_toArray, List.set_cons_zero, List.set_cons_succ]
        refine wpAnyM_take (i := 6) (v := ?_) rfl rfl (by kernel_rfl) (by kernel_rfl) (by kernel_rfl) (by kernel_rfl) (by kernel_rfl) (by kernel_rfl) (fun _ _ _ h => h) HS0.out (Or.inl ⟨by rfl, ?_⟩) ?_
        rotate_left
        · rintro w ⟨q0, q1, q2, q3, q4⟩; go_simp; try with_reducible rfl
        try simp only [Act.put, List.getElem_toArray, List.getElem_cons_zero, List.getElem_cons_succ, List.setIfInBounds_toArray, List.set_cons_zero, List.set_cons_succ]
        refine wpAnyM_take (i := 7) (v := ?_) rfl rfl (by kernel_rfl) (by kernel_rfl) (by kernel_rfl) (by kernel_rfl) (by kernel_rfl) (by kernel_rfl) (fun _ _ _ h => h) HS0.out (Or.inl ⟨by rfl, ?_⟩) ?_
        rotate_left
        · rintro w ⟨q0, q1, q2, q3, q4⟩; go_simp; try with_reducible rfl
        try simp only [Act.put, List.getElem_toArray, List.getElem_cons_zero, List.getElem_cons_succ, List.setIfInBounds_toArray, List.set_cons_zero, List.set_cons_succ]
        refine wpAnyM_take (i := 8) (v := ?_) rfl rfl (by kernel_rfl) (by kernel_rfl) (by kernel_rfl) (by kernel_rfl) (by kernel_rfl) (by kernel_rfl) (fun _ _ _ h => h) HS0.out (Or.inl ⟨by rfl, ?_⟩) ?_
        rotate_left
        · rintro w ⟨q0, q1, q2, q3, q4⟩; go_simp; try with_reducible rfl
        try simp only [Act.put, List.getElem_toArray, List.getElem_cons_zero, List.getElem_cons_succ, List.setIfInBounds_toArray, List.set_cons_zero, List.set_cons_succ]
        refine wpAnyM_take (i := 10) (v := ?_) rfl rfl (by kernel_rfl) (by kernel_rfl) (by kernel_rfl) (by kernel_rfl) (by kernel_rfl) (by kernel_rfl) (fun _ _ _ h => h) HS0.out (Or.inl ⟨by rfl, ?_⟩) ?_
        rotate_left
        · rintro w ⟨q0, q1, q2, q3, q4⟩; go_simp; try with_reducible rfl
        try simp only [Act.put, List.getElem_toArray, List.getElem_cons_zero, List.getElem_cons_succ, List.setIfInBounds_toArray, List.set_cons_zero, List.set_cons_succ]
        refine wpAnyM_take (i := 11) (v := ?_) rfl rfl (by kernel_rfl) (by kernel_rfl) (by kernel_rfl) (by kernel_rfl) (by kernel_rfl) (by kernel_rfl) (fun _ _ _ h => h) HS0.out (Or.inl ⟨by rfl, ?_⟩) ?_
        rotate_left
        · rintro w ⟨q0, q1, q2, q3, q4⟩; go_simp; try with_reducible rfl
        try simp only [Act.put, List.getElem_toArray, List.getElem_cons_zero, List.getElem_cons_succ, List.setIfInBounds_toArray, List.set_cons_zero, List.set_cons_succ]
        refine wpAnyM_take (i := 12) (v := ?_) rfl rfl (by kernel_rfl) (by kernel_rfl) (by kernel_rfl) (by kernel_rfl) (by kernel_rfl) (by kernel_rfl) (fun _ _ _ h => h) HS0.out (Or.inl ⟨by rfl, ?_⟩) ?_
        rotate_left
        · rintro w ⟨q0, q1, q2, q3, q4⟩; go_simp; try with_reducible rfl
        try simp only [Act.put, List.getElem_toArray, List.getElem_cons_zero, List.getElem_cons_succ, List.setIfInBounds_toArray, List.set_cons_zero, List.set_cons_succ]
        refine wpAnyM_take (i := 13) (v := ?_) rfl rfl (by kernel_rfl) (by kernel_rfl) (by kernel_rfl) (by kernel_rfl) (by kernel_rfl) (by kernel_rfl) (fun _ _ _ h => h) HS0.out (Or.inl ⟨by rfl, ?_⟩) ?_
        rotate_left
        · rintro w ⟨q0, q1, q2, q3, q4⟩; go_simp; try with_reducible rfl
        try simp only [Act.put, List.getElem_toArray, List.getElem_cons_zero, List.getElem_cons_succ, List.setIfInBounds_toArray, List.set_cons_zero, List.set_cons_succ]
        refine wpAnyM_take (i := 14) (v := ?_) rfl rfl (by kernel_rfl) (by kernel_rfl) (by kernel_rfl) (by kernel_rfl) (by kernel_rfl) (by kernel_rfl) (fun _ _ _ h => h) HS0.out (Or.inl ⟨by rfl, ?_⟩) ?_
        rotate_left
        · rintro w ⟨q0, q1, q2, q3, q4⟩; go_simp; try with_reducible rfl
        try simp only [Act.put, List.getElem_toArray, List.getElem_cons_zero, List.getElem_cons_succ, List.setIfInBounds_toArray, List.set_cons_zero, List.set_cons_succ]
        refine wpAnyM_take (i := 15) (v := ?_) rfl rfl (by kernel_rfl) (by kernel_rfl) (by kernel_rfl) (by kernel_rfl) (by kernel_rfl) (by kernel_rfl) (fun _ _ _ h => h) HS0.out (Or.inl ⟨by rfl, ?_⟩) ?_
        rotate_left
        · rintro w ⟨q0, q1, q2, q3, q4⟩; go_simp; try with_reducible rfl
        try simp only [Act.put, List.getElem_toArray, List.getElem_cons_zero, List.getElem_cons_succ, List.setIfInBounds_toArray, List.set_cons_zero, List.set_cons_succ]
        refine wpAnyM_take (i := 16) (v := ?_) rfl rfl (by kernel_rfl) (by kernel_rfl) (by kernel_rfl) (by kernel_rfl) (by kernel_rfl) (by kernel_rfl) (fun _ _ _ h => h) HS0.out (Or.inl ⟨by rfl, ?_⟩) ?_
        rotate_left
        · rintro w ⟨q0, q1, q2, q3, q4⟩; go_simp; try with_reducible rfl
        try simp only [Act.put, List.getElem_toArray, List.getElem_cons_zero, List.getElem_cons_succ, List.setIfInBounds_toArray, List.set_cons_zero, List.set_cons_succ]
        refine wpAnyM_take (i := 17) (v := ?_) rfl rfl (by kernel_rfl) (by kernel_rfl) (by kernel_rfl) (by kernel_rfl) (by kernel_rfl) (by kernel_rfl) (fun _ _ _ h => h) HS0.out (Or.inl ⟨by rfl, ?_⟩) ?_
        rotate_left
        · rintro w ⟨q0, q1, q2, q3, q4⟩; go_simp; try with_reducible rfl
        try simp only [Act.put, List.getElem_toArray, List.getElem_cons_zero, List.getElem_cons_succ, List.setIfInBounds_toArray, List.set_cons_zero, List.set_cons_succ]
        refine wpAnyM_take (i := 18) (v := ?_) rfl rfl (by kernel_rfl) (by kernel_rfl) (by kernel_rfl) (by kernel_rfl) (by kernel_rfl) (by kernel_rfl) (fun _ _ _ h => h) HS0.out (Or.inl ⟨by rfl, ?_⟩) ?_
        rotate_left
        · rintro w ⟨q0, q1, q2, q3, q4⟩; go_simp; try with_reducible rfl
        try simp only [Act.put, List.getElem_toArray, List.getElem_cons_zero, List.getElem_cons_succ, List.setIfInBounds_toArray, List.set_cons_zero, List.set_cons_succ]
        refine wpAnyM_one (i := 9) rfl (by kernel_rfl) (fun K hK => ?_)
        go_simp
        refine (sign_times_ok r.s q.s wr.drew).mono ?_
        rintro e3 w3 ⟨rfl, hb3⟩
        have HB3 := Lib.hid (show Below wr.heap.size wr w3 from belowA hb3)
        have HS3 := Lib.hid (HS0.out.below hb3)
        clear hb3 HS0
        refine hK.out _ _ (fun _ => HS3.out) ?_
        clear hK K
        try simp only [Act.put, List.getElem_toArray, List.getElem_cons_zero, List.getElem_cons_succ, List.setIfInBounds_toArray, List.set_cons_zero, List.set_cons_succ]
        refine wpAnyM_one (i := 19) rfl (by kernel_rfl) (fun K hK => ?_)
        go_simp
        have hr := H.out.2.1 k r HX.out.1
        have hq := H.out.2.2.1 k q HX.out.2
        have hr1 := hr.1.below HB3.out
        have hq1 := hq.1.below HB3.out
        have hlr := hr.2.2.2 (Nat.le_refl _)
        have hlq := hq.2.2
        have hsz := HS.out
        refine (HI.out r.A q.A r.n q.n r.c q.c r.xs q.xs w3 (by omega) (by omega) hr1 hq1 ((H.out.kbox Hx.out.2.2.1).below HB3.out) (Hx.out.2.2.2.2.below (H.out.2.2.2.2.1.trans (HB3.out.mono H.out.2.2.2.2.1.size))) (Room.lt hr1.1 hq1.1 (by omega))).mono ?_
        rintro e4 w4 ⟨v, rfl, hN, hb4⟩
        obtain ⟨A7, n7, c7, z7, rfl, s7, hc7, hv7, hw7⟩ := hN.sl
        have hn7 := prod_len (h := h + 1) s7 hc7 hv7 (hr1.lt hlr) (hq1.lt hlq) (by omega)
        have HB4 := Lib.hid (HB3.out.trans (hb4.mono HB3.out.size))
        have HN0 := TmI.next H.out hlt HX.out.1 HX.out.2 HB4.out hw7 hc7 HB3.out.size hn7 (show sgn (xor r.s q.s) (V z7) = r.v * q.v by rw [hv7, sgn_mul]; rfl)
        rw [Nat.mul_comm 2 k] at HN0
        have HN := Lib.hid HN0
        have HS4 := Lib.hid (HS3.out.below hb4)
        have hA := H.out.1.1.below HB4.out H.out.2.2.2.2.2.1
        have h2k := sncs_get2 R k HX.out.1
        rw [Nat.mul_comm 2 k] at h2k
        obtain ⟨p0, f0⟩ := hA _ _ h2k.1
        obtain ⟨p1, f1⟩ := hA _ _ h2k.2
        clear hr hq hr1 hq1 hlr hlq hsz hN hb4 s7 hc7 hv7 hw7 hn7 HB3 HS3 HB4 HN0 hA h2k H
        refine hK.out _ _ (fun _ => HS4.out) ?_
        clear hK K
        try simp only [Act.put, List.getElem_toArray, List.getElem_cons_zero, List.getElem_cons_succ, List.setIfInBounds_toArray, List.set_cons_zero, List.set_cons_succ]
        refine wpAnyM_one (i := 20) rfl (by kernel_rfl) (fun K hK => ?_)
        go_simp
        refine hK.out _ _ (fun _ => HS4.out) ?_
        clear hK K
        try simp only [Act.put, List.getElem_toArray, List.getElem_cons_zero, List.getElem_cons_succ, List.setIfInBounds_toArray, List.set_cons_zero, List.set_cons_succ]
        refine wpAnyM_one (i := 21) rfl (by kernel_rfl) (fun K hK => ?_)
        go_simp
        refine hK.out _ _ (fun _ => HS4.out) ?_
        clear hK K
        try simp only [Act.put, List.getElem_toArray, List.getElem_cons_zero, List.getElem_cons_succ, List.setIfInBounds_toArray, List.set_cons_zero, List.set_cons_succ]
        refine wpAnyM_one (i := 22) rfl (by kernel_rfl) (fun K hK => ?_)
        go_simp
        refine hK.out _ _ (fun h => absurd h (by decide)) ?_
        clear hK K HS4 HX
        try simp only [Act.put, List.getElem_toArray, List.getElem_cons_zero, List.getElem_cons_succ, List.setIfInBounds_toArray, List.set_cons_zero, List.set_cons_succ]
        refine wpAnyM_done (by kernel_rfl) ?_ _
        go_wp2_with (fail)
        go_roundw
        case rel => exact ⟨k + 1, _, by omega, by go_num, HN⟩
        case measure => simp [intOf]; omega
      · have hk5 : k = 5 := by omega
        subst hk5
        have hki : ¬ ((5 : Nat) : Int) < 5 := by omega
        obtain ⟨r0, r1, r2, r3, r4, rfl⟩ := list5 H.out.1.2.2.1
        have HR := Lib.hid H.out.1.1.range
        go_wp2_with (first | (refine wpList_load_mid rfl 72 _ rfl bv 0 rfl (snL r0 r1 r2 r3 r4) _ HR.out Tryz.underlying72 rfl (by kernel_rfl) ?_))
        have ok : ∀ (i : Nat) (r : Sn), [r0, r1, r2, r3, r4][i]? = some r → r.ok wr := fun i r hi => ⟨(H.out.2.1 i r hi).1.1, by have := (H.out.2.1 i r hi).2.2.1; omega⟩
        refine (back_ok r0 r1 r2 r3 r4 wr (ok 0 _ rfl) (ok 1 _ rfl) (ok 2 _ rfl) (ok 3 _ rfl) (ok 4 _ rfl) (Hx.out.2.2.2.2.below H.out.2.2.2.2.1)).mono ?_
        rintro z w5 ⟨hb5, hz⟩
        have hvals : [r0.v, r1.v, r2.v, r3.v, r4.v] = valS (V (pw xs h 0) * V (pw ys h 0) : Nat) (V (pw xs h 0) * V (pw ys h 1) + V (pw xs h 1) * V (pw ys h 0) : Nat) (V (pw xs h 0) * V (pw ys h 2) + V (pw xs h 1) * V (pw ys h 1) + V (pw xs h 2) * V (pw ys h 0) : Nat) (V (pw xs h 1) * V (pw ys h 2) + V (pw xs h 2) * V (pw ys h 1) : Nat) (V (pw xs h 2) * V (pw ys h 2) : Nat) := by
          have e1 := H.out.2.2.2.1.1
          rw [prS_five H.out.2.2.2.1.2.2.2 H.out.2.2.2.1.2.2.1, ← HE.out.1, ← HE.out.2, th_mul] at e1
          push_cast
          exact e1
        rw [hvals] at hz
        have HB5 := Lib.hid (H.out.2.2.2.2.1.trans (hb5.mono H.out.2.2.2.2.1.size))
        rcases hz with ⟨a3, b3, c3, d3, e3, S3, rfl, hl, hq, hg⟩ | ⟨⟨i, u, h1, h2⟩, -⟩
        · have hS3 := back_coef hl hq
          have hcf : S3 = cfS (V (pw xs h 0)) (V (pw xs h 1)) (V (pw xs h 2)) (V (pw ys h 0)) (V (pw ys h 1)) (V (pw ys h 2)) := hS3
          subst hcf
          have hG : ∀ (i : Nat) (r : Sn) (v : Int), [a3, b3, c3, d3, e3][i]? = some r → (cfS (V (pw xs h 0)) (V (pw xs h 1)) (V (pw xs h 2)) (V (pw ys h 0)) (V (pw ys h 1)) (V (pw ys h 2)))[i]? = some v → r.v = v ∧ Sc w5 r.A r.n r.c r.xs ∧ r.n ≤ h + h + 1 := fun i r v e1 e2 => by
            have g1 := hg i r v e1 e2
            have g2 : r.v = v := g1.2.2.1.symm
            exact ⟨g2, g1.sl, sn_len g1.sl (by rw [g2]; exact cf_lt (pw_lt Hx.out.1.1) (pw_lt Hx.out.1.1) (pw_lt Hx.out.1.1) (pw_lt Hx.out.2.1.1) (pw_lt Hx.out.2.1.1) (pw_lt Hx.out.2.1.1) (List.mem_of_getElem? e2))⟩
          have HG := Lib.hid hG
          have hR5 : (w5.alloc (.cells (snL a3 b3 c3 d3 e3).toArray 72)).rangeAt w5.heap.size 0 (snL a3 b3 c3 d3 e3) := (Bk.new w5 (snL a3 b3 c3 d3 e3) 72).range
          have HR5 := Lib.hid hR5
          clear hl hq hg hS3 hG hR5 hvals ok hb5 H HR
          go_wp2_with (first | (refine wpList_load_mid rfl 72 _ rfl w5.heap.size 0 rfl (snL a3 b3 c3 d3 e3) _ HR5.out Tryz.underlying72 rfl (by kernel_rfl) ?_))
          have hbA : Below w5.heap.size w5 (w5.alloc (.cells (snL a3 b3 c3 d3 e3).toArray 72)) := (Below.refl _ _).alloc (Nat.le_refl _) _
          have ok : ∀ (i : Nat) (r : Sn) (v : Int), [a3, b3, c3, d3, e3][i]? = some r → (cfS (V (pw xs h 0)) (V (pw xs h 1)) (V (pw xs h 2)) (V (pw ys h 0)) (V (pw ys h 1)) (V (pw ys h 2)))[i]? = some v → r.ok (w5.alloc (.cells (snL a3 b3 c3 d3 e3).toArray 72)) := fun i r v e1 e2 => ⟨((HG.out i r v e1 e2).2.1.below hbA).1, by have := (HG.out i r v e1 e2).2.2; omega⟩
          refine (fromThirds_ok a3 b3 c3 d3 e3 h _ (ok 0 _ _ rfl rfl) (ok 1 _ _ rfl rfl) (ok 2 _ _ rfl rfl) (ok 3 _ _ rfl rfl) (ok 4 _ _ rfl rfl) (by omega)).mono ?_
          rintro z w6 hW
          have hz0 : ∀ s ∈ [a3, b3, c3, d3, e3], s.n = 0 → s.v = 0 := fun s hs h0 => by
            obtain ⟨i, hi, e⟩ := List.getElem_of_mem hs
            have hsc : ∃ v, s.v = v ∧ Sc w5 s.A s.n s.c s.xs := by
              obtain ⟨v, hv⟩ : ∃ v, (cfS (V (pw xs h 0)) (V (pw xs h 1)) (V (pw xs h 2)) (V (pw ys h 0)) (V (pw ys h 1)) (V (pw ys h 2)))[i]? = some v := ⟨_, List.getElem?_eq_getElem (by simpa [cfS] using hi)⟩
              have := HG.out i s v (by rw [← e]; exact List.getElem?_eq_getElem hi) hv
              exact ⟨v, this.1, this.2.1⟩
            obtain ⟨v, -, hsc⟩ := hsc
            have hl0 := hsc.1.1
            rw [h0] at hl0
            rw [Sn.v, List.eq_nil_of_length_eq_zero hl0]
            cases s.s <;> rfl
          have hsum := toom_done (W := w) Hx.out.1.1 Hx.out.2.1.1 HS.out.1 HS.out.2.1 (a := a3) (b := b3) (c := c3) (d := d3) (e := e3) (by
            rw [(HG.out 0 _ _ rfl rfl).1, (HG.out 1 _ _ rfl rfl).1, (HG.out 2 _ _ rfl rfl).1, (HG.out 3 _ _ rfl rfl).1, (HG.out 4 _ _ rfl rfl).1]; rfl) hz0
          obtain ⟨v, rfl, hNt, hb6⟩ := hW.nat hsum
          have hbw6 : Below w.heap.size w w6 := HB5.out.trans ((hbA.trans (hb6.mono hbA.size)).mono HB5.out.size)
          have HF := Lib.hid (And.intro (hNt.base (Nat.le_trans HB5.out.size hbA.size)) hbw6)
          clear hNt hb6 hbw6 hsum hz0 hW ok hbA HG HR5
          go_wp2_with (fail)
          go_ret
          exact ⟨v, rfl, HF.out.1, HF.out.2⟩
        · exact absurd (back_dvd h1) h2

theorem tprod_ok (pl pp least : Nat) (hl3 : 3 ≤ least) (hl64 : least ≤ 64) : ∀ (N : Nat) (A A' : Option Addr) (n n' c c' : Nat) (xs ys : List Nat) (w : World), n ≤ N → n' ≤ N → Sc w A n c xs → Sc w A' n' c' ys → KBox w pl pp least 73 → TabF w → Room least n n' (V xs * V ys) →
      Calls Tryz.prog 73 #[.slice A n c, .slice A' n' c', .pointer (some ⟨pl, 0, none⟩), .pointer (some ⟨pp, 0, none⟩)] w fun e w' => Rv w w' e (V xs * V ys) := by
  intro N
  induction N with
  | zero =>
    intro A A' n n' c c' xs ys w hn hn' hx hy hK hT hR
    exact tprod_step 0 pl pp least hl3 hl64 (fun _ _ _ _ _ _ _ _ _ h => absurd h (by omega)) A A' n n' c c' xs ys w hn hn' hx hy hK hT hR
  | succ N ih =>
    intro A A' n n' c c' xs ys w hn hn' hx hy hK hT hR
    exact tprod_step (N + 1) pl pp least hl3 hl64 (fun A A' n n' c c' xs ys w h h' => ih A A' n n' c c' xs ys w (by omega) (by omega)) A A' n n' c c' xs ys w hn hn' hx hy hK hT hR
end Go.Proofs.YthpgdpkemnhneaaGreatDoor
