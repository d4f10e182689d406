/- The walk of the law FastBacks. -/
import Derived.Test.YtcnambjckmpipaaGreatDoorZFBaL
import Derived.Test.YtcnambjckmpipaaGreatDoorZRBack
import Derived.Test.YtcnambjckmpipaaGreatDoorZFAwake
import Derived.Test.YtcnambjckmpipaaGreatDoorZLInts
import Derived.Test.YtcnambjckmpipaaGreatDoorZFFB
import Derived.Deep.DeepCutAuto
namespace Go.Proofs.YtcnambjckmpipaaGreatDoor
open Go.RowKit Go.Shelf
set_option linter.unusedVariables false
set_option linter.unusedSimpArgs false
set_option maxRecDepth 10000
attribute [local go_sem] undef

theorem bk_zero {W W' : World} {b j : Nat} (h : Bk W b zero10) (hb : Below W.heap.size W W') (hl : b < W.heap.size) (hj : j < 10) : (W'.cell? ⟨b, j, none⟩).isSome = true ∧ W'.frozen? ⟨b, j, none⟩ = false := by
  have h1 := h.below hb hl j _ (List.getElem?_eq_getElem (l := zero10) (i := j) hj)
  exact ⟨by rw [h1.1]; rfl, h1.2⟩
theorem sncs_one (al : List Sn) : ∀ v ∈ al.flatMap sncs, v.oneCell' = true := fun v hv => by
  obtain ⟨a, -, ha⟩ := List.mem_flatMap.1 hv
  simp only [sncs, List.mem_cons, List.not_mem_nil, or_false] at ha
  rcases ha with rfl | rfl <;> rfl
theorem FBx.later {w w1 w2 : World} {s0 s1 s2 s3 s4 : Sn} {ev : Int} {S : List Int} (h : FBx w w1 s0 s1 s2 s3 s4 ev S) (hb : Below w1.heap.size w1 w2) : FBx w w2 s0 s1 s2 s3 s4 ev S := by
  rcases h with ⟨h1, Q, h2, h3⟩ | h
  · exact .inl ⟨h1, Q, h2, h3.later (Nat.le_refl _) hb⟩
  · exact .inr h
theorem meet {w1 W : World} {ev : Int} {g : Nat} {ok : Bool} {s0 s1 s2 s3 s4 t0 t1 t2 t3 t4 : Sn} {va vb vc vd ve q9 q11 q13 : Int} {x9 x11 x13 : Nat} (hf : FBx w1 W s0 s1 s2 s3 s4 ev [va, vb, vc, vd, ve]) (hd : Dvs va vb vc vd ve q9 q11 q13 x9 x11 x13)
    (hok : (decide (x9 = 0) && decide (x11 = 0) && decide (x13 = 0)) = ok) (ht : ∀ s ∈ [t0, t1, t2, t3, t4], Sl W s.A s.n s.c s.xs ∧ s.n ≤ 4000) (hv : t0.v = va ∧ t1.v = q11 - q13 ∧ t2.v = q9 ∧ t3.v = q13 ∧ t4.v = ve)
    (hk : Bk W g (snL s0 s1 s2 s3 s4)) (hg : g < W.heap.size) (hB : ∀ Q : List Int, Q.length = 5 → (∀ i, i < 5 → QtI [va, vb, vc, vd, ve] Q i) → ∀ s ∈ Q, s.natAbs < Big) :
    (ok = true ∧ ev = 0 ∧ PairZ W [s0, s1, s2, s3, s4] [t0, t1, t2, t3, t4]) ∨ (ok = false ∧ ev = 4 ∧ [s0, s1, s2, s3, s4] = [.zero, .zero, .zero, .zero, .zero]) := by
  cases ok with
  | true =>
    simp only [Bool.and_eq_true, decide_eq_true_eq] at hok
    obtain ⟨⟨y9, y11⟩, y13⟩ := hok
    have hy := hd.yes y9 y11 y13
    rcases hf with ⟨e0, Q, hq, hz⟩ | ⟨-, ⟨i, u, h1, h2⟩, -⟩
    · have hQ := hy.2 Q hz.1 hq
      have hF := FvK.of hz hk hg (hB Q hz.1 hq)
      refine .inl ⟨rfl, e0, fun a ha => ⟨(hF.2.1 a ha).1, (hF.2.1 a ha).2.1, (hF.2.1 a ha).2.2.1, (hF.2.1 a ha).2.2.2⟩, fun a ha => ⟨(ht a ha).1, by have := (ht a ha).2; omega⟩, ?_⟩
      rw [hF.2.2, hQ]
      obtain ⟨v0, v1, v2, v3, v4⟩ := hv
      simp only [List.map_cons, List.map_nil, v0, v1, v2, v3, v4]
    · exact absurd (hy.1 i u h1) h2
  | false =>
    have hn : ¬ (x9 = 0 ∧ x11 = 0 ∧ x13 = 0) := fun h => by
      obtain ⟨y9, y11, y13⟩ := h
      subst y9 y11 y13
      cases hok
    rcases hf with ⟨-, Q, hq, -⟩ | ⟨e4, -, hz⟩
    · exact absurd hq (hd.no hn Q)
    · exact .inr ⟨rfl, e4, hz⟩
theorem zeros_pair (W : World) : PairZ W [.zero, .zero, .zero, .zero, .zero] [.zero, .zero, .zero, .zero, .zero] := by
  have h : ∀ a ∈ [Sn.zero, .zero, .zero, .zero, .zero], Sl W a.A a.n a.c a.xs ∧ Cn a.xs ∧ a.n ≤ 4096 ∧ a.s = decide (a.v < 0) := fun a ha => by
    obtain rfl : a = Sn.zero := by simpa using ha
    exact ⟨⟨rfl, Nat.le_refl _, by simp [Sn.zero], Ws_nil, fun h => absurd rfl h⟩, Cn_nil, by simp [Sn.zero], rfl⟩
  exact ⟨h, fun a ha => ⟨(h a ha).1, (h a ha).2.2.1⟩, rfl⟩
theorem quot_big {a b c d e : Sn} (h : ∀ s ∈ [a, b, c, d, e], s.v.natAbs < B64 ^ 20) (Q : List Int) (hl : Q.length = 5) (hq : ∀ i, i < 5 → QtI [a.v, b.v, c.v, d.v, e.v] Q i) : ∀ s ∈ Q, s.natAbs < Big := fun s hs => by
  have h1 := qt_lt (h a (by simp)) (h b (by simp)) (h c (by simp)) (h d (by simp)) (h e (by simp)) hl hq s hs
  have h2 := IB_room
  have h3 : 0 < B64 ^ 20 := Nat.pow_pos B64_pos
  exact IB_big (by omega)
set_option maxHeartbeats 4000000 in
theorem walk (w : World) (a0 : Option Addr) (n0 c0 : Nat) (al0 : List Sn) (hx : Zl w a0 n0 c0 al0) (hT : TabF w) :
    Calls Tryz.prog 3 #[.slice a0 n0 c0] w fun e w' => e = .returned (.bool true) ∧ Below w.heap.size w w' := by
  have Hx := Lib.hid (And.intro hx hT)
  clear hx hT
  obtain ⟨X, hX⟩ : ∃ X, w.alloc (.cells zero10.toArray 27) = X := ⟨_, rfl⟩
  have HX : Hid (Bk X w.heap.size zero10 ∧ Below w.heap.size w X ∧ w.heap.size < X.heap.size) := by
    rw [← hX]
    exact Lib.hid ⟨Bk.new w zero10 27, (Below.refl _ _).alloc (Nat.le_refl _) _, by simp⟩
  go_enter Tryz.func3, Tryz.ntmps3
  go_upto_region 2 with (fail)
  rw [show (w.alloc (.cells #[.bool false, .slice none 0 0, .bool false, .slice none 0 0, .bool false, .slice none 0 0, .bool false, .slice none 0 0, .bool false, .slice none 0 0] 27)) = X from hX]
  clear hX
  go_cut [2] (fun a2 wx => a2 = .bool false ∧ ∃ r0 r1 r2 r3 r4, VB w wx w.heap.size r0 r1 r2 r3 r4)
  case first =>
    go_region_held3 (fun _ => True) (first | trivial | go_keep)
      (first
        | (go_at_call 5; refine (igs_new al0 a0 n0 c0 X.drew (show Zl X a0 n0 c0 al0 from Hx.out.1.below HX.out.2.1)).mono ?_; rintro e w2 ⟨A1, k1, d1, al, rfl, hk1, hz⟩; have H2 := Lib.hid (show k1 ≤ 5 ∧ K8 X w2 A1 k1 d1 al from ⟨hk1, hz.1, hz.2.1, hz.2.2.1, hz.2.2.2.1, belowA hz.2.2.2.2⟩); clear hz hk1)
        | (refine step_copy_two rfl (.tmp 10) (.tmp 12) 22 22 rfl 26 Tryz.underlying22 (by kernel_rfl) w.heap.size 0 5 5 A1 k1 d1 rfl rfl (al.flatMap sncs) (by have h1 := H2.out.1; have h2 := H2.out.2.2.1; rw [flat_len, h2, show Nat.min k1 5 = k1 from Nat.min_eq_left h1]; omega) (fun hne => by obtain ⟨b, o, e, -, hc⟩ := H2.out.2.1.2.2.2.1 hne; exact ⟨_, e, fun j v hj => by rw [Addr.add_lit]; exact hc j v hj⟩) (fun j hj => by have h := bk_zero HX.out.1 H2.out.2.2.2.2.2 HX.out.2.2 (j := j) (by rw [flat_len] at hj; have h1 := H2.out.1; have h2 := H2.out.2.2.1; omega); rw [Nat.zero_add]; exact h.1) (fun j hj => by have h := bk_zero HX.out.1 H2.out.2.2.2.2.2 HX.out.2.2 (j := j) (by rw [flat_len] at hj; have h1 := H2.out.1; have h2 := H2.out.2.2.1; omega); rw [Nat.zero_add]; exact h.2) (sncs_one al) ?_))
    all_goals
      go_wp2_with fail
      go_meet
      exact ⟨rfl, vb_copy H2.out.2 H2.out.1 (HX.out.1.below H2.out.2.2.2.2.2 HX.out.2.2) (Nat.le_refl _) (Nat.lt_of_lt_of_le HX.out.2.2 H2.out.2.2.2.2.2.size) HX.out.2.2 HX.out.2.1⟩
  case rest =>
    obtain ⟨rfl, r0, r1, r2, r3, r4, hv⟩ := hcut
    generalize wc = W1 at *
    have HV0 := Lib.hid hv
    clear hv
    go_wp2_with (fail)
    go_loopw [4, 5, 6, 7, 8, 9] (fun kv _ _ _ _ _ wr => ∃ k : Nat, k ≤ 2 ∧ kv = .int .i64 k ∧ ∃ r0 r1 r2 r3 r4, Hid (VB w wr w.heap.size r0 r1 r2 r3 r4)) (fun kv _ _ _ _ _ _ => 2 - (intOf kv).toNat)
    case atStart => exact ⟨0, by omega, rfl, r0, r1, r2, r3, r4, HV0⟩
    case round =>
      clear HV0 r0 r1 r2 r3 r4
      obtain ⟨k, hk2, rfl, r0, r1, r2, r3, r4, HV⟩ := hrel
      by_cases hlt : k < 2
      · have hki : (k : Int) < 2 := by omega
        have HR := Lib.hid HV.out.1.range
        go_wp2_with (first | (refine wpList_load_mid rfl 27 _ rfl w.heap.size 0 rfl (snL r0 r1 r2 r3 r4) _ HR.out Tryz.underlying27 rfl (by kernel_rfl) ?_))
        refine (FBack_ok r0 r1 r2 r3 r4 wr (fun s hs => ⟨(HV.out.2.1 s hs).1, by have := (HV.out.2.1 s hs).2; omega⟩) (Hx.out.2.below HV.out.2.2.1) (quot_big fun s hs => (HV.out.iv s hs).2)).mono ?_
        rintro z w3 hB
        obtain ⟨s0, s1, s2, s3, s4, ev, rfl, hfx, hb3⟩ := fbx hB
        have hbA : Below w3.heap.size w3 (w3.alloc (.cells (snL s0 s1 s2 s3 s4).toArray 27)) := (Below.refl _ _).alloc (Nat.le_refl _) _
        have H3 := Lib.hid (And.intro ((HV.out.keep hb3).keep hbA) (And.intro (hfx.later hbA) (And.intro (Bk.new w3 (snL s0 s1 s2 s3 s4) 27) (show w3.heap.size < (w3.alloc (.cells (snL s0 s1 s2 s3 s4).toArray 27)).heap.size by simp))))
        have HR3 := Lib.hid H3.out.1.1.range
        clear hB hfx hb3 hbA HR
        go_wp2_with (first | (refine wpList_load_mid rfl 27 _ rfl w.heap.size 0 rfl (snL r0 r1 r2 r3 r4) _ HR3.out Tryz.underlying27 rfl (by kernel_rfl) ?_))
        clear HR3
        obtain ⟨W3, hW3⟩ : ∃ W3, w3.alloc (.cells (snL s0 s1 s2 s3 s4).toArray 27) = W3 := ⟨_, rfl⟩
        obtain ⟨p5, hp5⟩ : ∃ p5, w3.heap.size = p5 := ⟨_, rfl⟩
        rw [hW3, hp5] at H3 ⊢
        clear hW3 hp5
        refine (RBack_ok r0 r1 r2 r3 r4 W3 (B64 ^ 20) IB_room (Nat.pow_pos B64_pos) H3.out.1.iv).mono ?_
        rintro z w4 ⟨⟨t0, t1, t2, t3, t4, q9, q11, q13, x9, x11, x13, rfl, ht, hv, e1, e2, e3⟩, hb4⟩
        obtain ⟨ok, hok⟩ : ∃ ok, (decide (x9 = 0) && decide (x11 = 0) && decide (x13 = 0)) = ok := ⟨_, rfl⟩
        rw [hok]
        obtain ⟨W5, hW5⟩ : ∃ W5, (w4.alloc (.cells (snL t0 t1 t2 t3 t4).toArray 27)).alloc (.cells zero10.toArray 27) = W5 := ⟨_, rfl⟩
        obtain ⟨p7, hp7⟩ : ∃ p7, w4.heap.size = p7 := ⟨_, rfl⟩
        have H5 : Hid (VB w W5 w.heap.size r0 r1 r2 r3 r4 ∧ Zl W5 (some ⟨p5, 0, none⟩) 5 5 [s0, s1, s2, s3, s4] ∧ Zl W5 (some ⟨p7, 0, none⟩) 5 5 [t0, t1, t2, t3, t4] ∧ Zl W5 (some ⟨p7 + 1, 0, none⟩) 5 5 [.zero, .zero, .zero, .zero, .zero] ∧
            ((ok = true ∧ ev = 0 ∧ PairZ W5 [s0, s1, s2, s3, s4] [t0, t1, t2, t3, t4]) ∨ (ok = false ∧ ev = 4 ∧ [s0, s1, s2, s3, s4] = [.zero, .zero, .zero, .zero, .zero]))) := by
          have hal : ∀ (W : World) (o : Obj), Below W.heap.size W (W.alloc o) := fun W o => (Below.refl _ _).alloc (Nat.le_refl _) _
          have hbA := hal w4 (.cells (snL t0 t1 t2 t3 t4).toArray 27)
          have hbB := hal (w4.alloc (.cells (snL t0 t1 t2 t3 t4).toArray 27)) (.cells zero10.toArray 27)
          have k7 := (Bk.new w4 (snL t0 t1 t2 t3 t4) 27).below hbB (by simp)
          have k9 := Bk.new (w4.alloc (.cells (snL t0 t1 t2 t3 t4).toArray 27)) zero10 27
          have hs5 : W5.heap.size = p7 + 2 := by rw [← hW5, ← hp7]; simp
          rw [World.size_alloc] at k9
          have hb45 : Below w4.heap.size w4 W5 := by rw [← hW5]; exact hbA.trans (hbB.mono hbA.size)
          rw [hW5] at k7 k9
          rw [hp7] at k7 k9
          have hb35 := hb4.trans (hb45.mono hb4.size)
          have ht5 : ∀ s ∈ [t0, t1, t2, t3, t4], Sl W5 s.A s.n s.c s.xs ∧ s.n ≤ 4000 := fun s hs => ⟨(ht s hs).1.below hb45, (ht s hs).2⟩
          have hk5 := H3.out.2.2.1.below hb35 H3.out.2.2.2
          have hp5 := Nat.lt_of_lt_of_le H3.out.2.2.2 hb35.size
          have hm := meet (H3.out.2.1.later hb35) ⟨e1, e2, e3⟩ hok ht5 hv hk5 hp5 (quot_big fun s hs => (H3.out.1.iv s hs).2)
          have hz : ∀ s ∈ [Sn.zero, .zero, .zero, .zero, .zero], Sl W5 s.A s.n s.c s.xs := fun s hs => ((zeros_pair W5).1 s hs).1
          refine Lib.hid ⟨H3.out.1.keep hb35, zl_new hk5 hp5 ?_, zl_new k7 (by omega) (fun s hs => (ht5 s hs).1), zl_new k9 (by omega) hz, hm⟩
          rcases hm with ⟨-, -, h⟩ | ⟨-, -, h⟩
          · exact fun s hs => (h.1 s hs).1
          · rw [h]; exact hz
        clear hok ht hv e1 e2 e3 hb4 H3
        go_upto_region 9 with (fail)
        rw [show (w4.alloc (.cells #[.bool t0.s, .slice t0.A t0.n t0.c, .bool t1.s, .slice t1.A t1.n t1.c, .bool t2.s, .slice t2.A t2.n t2.c, .bool t3.s, .slice t3.A t3.n t3.c, .bool t4.s, .slice t4.A t4.n t4.c] 27)).alloc (.cells #[.bool false, .slice none 0 0, .bool false, .slice none 0 0, .bool false, .slice none 0 0, .bool false, .slice none 0 0, .bool false, .slice none 0 0] 27) = W5 from hW5]
        try rw [hp7]
        clear hW5 hp7
        go_cut [53] (fun a53 wx => a53 = .bool false ∧ Below W5.heap.size W5 wx)
        case first =>
          rcases H5.out.2.2.2.2 with ⟨rfl, rfl, hp⟩ | ⟨rfl, rfl, hs0⟩
          · have HP := Lib.hid hp
            clear hp
            first
            | (go_region_held (fun _ => True) (first | trivial | go_keep)
              (first
                | (go_at_call 8; refine (same_ok [s0, s1, s2, s3, s4] [t0, t1, t2, t3, t4] (some ⟨p5, 0, none⟩) (some ⟨p7, 0, none⟩) 5 5 5 W5.drew (by omega) H5.out.2.1 H5.out.2.2.1 HP.out).mono ?_; rintro er w6 ⟨rfl, hb6⟩; have HB6 := Lib.hid (show Below W5.heap.size W5 w6 from belowA hb6); clear hb6)))
            | fail
            all_goals
              go_wp2_with fail
              go_meet
              exact ⟨rfl, HB6.out⟩
          · have HZ5 := Lib.hid (show Zl W5 (some ⟨p5, 0, none⟩) 5 5 [.zero, .zero, .zero, .zero, .zero] by rw [← hs0]; exact H5.out.2.1)
            clear hs0
            first
            | (go_region_held (fun _ => True) (first | trivial | go_keep)
              (first
                | (go_at_call 8; refine (same_ok [.zero, .zero, .zero, .zero, .zero] [.zero, .zero, .zero, .zero, .zero] (some ⟨p5, 0, none⟩) (some ⟨p7 + 1, 0, none⟩) 5 5 5 W5.drew (by omega) HZ5.out H5.out.2.2.2.1 (zeros_pair W5)).mono ?_; rintro er w6 ⟨rfl, hb6⟩; have HB6 := Lib.hid (show Below W5.heap.size W5 w6 from belowA hb6); clear hb6)))
            | fail
            all_goals
              go_wp2_with fail
              go_meet
              exact ⟨rfl, HB6.out⟩
        case rest =>
          obtain ⟨rfl, hb6⟩ := hcut
          generalize wc = W6 at *
          have H6 := Lib.hid (H5.out.1.keep hb6)
          clear hb6 H5
          go_wp2_with (fail)
          refine (igs_new al0 a0 n0 c0 W6 (Hx.out.1.below H6.out.2.2.1)).mono ?_
          rintro er w7 ⟨A1, k1, d1, al, rfl, hk1, hz⟩
          have H7 := Lib.hid (show k1 ≤ 5 ∧ K8 W6 w7 A1 k1 d1 al ∧ VB w w7 w.heap.size r0 r1 r2 r3 r4 from ⟨hk1, hz, H6.out.keep hz.2.2.2.2⟩)
          clear hk1 hz H6
          go_wp2_with (fail)
          refine (RFive_ok al A1 k1 d1 w7 H7.out.1 H7.out.2.1.1 H7.out.2.1.2.2.1).mono ?_
          rintro er w8 ⟨b0, b1, b2, b3, b4, rfl, hz, hb8⟩
          have H8 := Lib.hid (And.intro (vb_five (H7.out.2.2.keep hb8) (Nat.le_refl _) hz H7.out.2.1.five H7.out.2.2.2.2.2) (H7.out.2.2.keep hb8).1.there)
          clear hz hb8 H7
          go_wp2_with (first | (refine wpList_store_mid rfl 27 _ _ rfl w.heap.size 0 (snL b0 b1 b2 b3 b4).toArray rfl rfl H8.out.2 (by kernel_rfl) (by simp [Value.oneCell']) ?_; obtain ⟨W8, hW8⟩ : ∃ W8, w8.setCells w.heap.size 0 (snL b0 b1 b2 b3 b4) = W8 := ⟨_, rfl⟩; have H9 := Lib.hid H8.out.1; rw [hW8] at H9; rw [show w8.setCells w.heap.size 0 (snL b0 b1 b2 b3 b4).toArray.toList = W8 from hW8]; clear hW8 H8))
          go_roundw
          case measure => simp [intOf]; omega
          case rel =>
            (repeat apply Exists.intro)
            exact ⟨⟨k + 1, by omega, by go_num, b0, b1, b2, b3, b4, H9⟩, rfl⟩
      · obtain rfl : k = 2 := by omega
        have hki : ¬ ((2 : Nat) : Int) < 2 := by omega
        go_wp2_with (fail)
        refine (fawake_any wr (Hx.out.2.below HV.out.2.2.1)).mono ?_
        rintro e w9 ⟨rfl, hb9⟩
        have HE := Lib.hid (HV.out.2.2.1.trans (hb9.mono HV.out.2.2.1.size))
        clear hb9
        go_wp2_with (fail)
        go_ret
        exact ⟨rfl, HE.out⟩
end Go.Proofs.YtcnambjckmpipaaGreatDoor
