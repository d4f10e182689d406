/- The reference's sums and shifts of long numbers. -/
import Derived.Test.YtcnambjckmpipaaDoorP4
import Derived.Test.YtcnambjckmpipaaDoorP1
namespace Go.Proofs.YtcnambjckmpipaaDoor
open Go.RowKit Go.Shelf
set_option linter.unusedVariables false
set_option linter.unusedSimpArgs false
set_option maxRecDepth 10000

set_option maxHeartbeats 400000 in
theorem CutJ_any (A : Option Addr) (m c n : Nat) (ds : List Nat) (w : World) (hm : m ≤ 100000) (hn : n ≤ 13000) (hx : Sl w A m c ds) (hd : Dg ds) :
    Calls Tryd.prog 112 #[.slice A m c, .int .i64 n] w fun e w' => ∃ v zs, ∃ hi : Nat, e = .returned (.tuple #[v, .int .u64 hi]) ∧ Nw w w' v n zs ∧ hi < B64 ∧ V zs + hi * B64 ^ n = VD ((pad ds (2 * n + 2)).take (2 * n + 2)) ∧ Below w.heap.size w w' := by
  obtain ⟨i0, hi, hz0, hz1, hz2⟩ := info_parts Tryd.info22
  have hl := hx.1
  have hrd : Rd w w.heap.size A (uvs ds) := hx.2.2.2.2
  have hul : (uvs ds).length = m := by rw [uvs_length, hl]
  have Hx := Lib.hid (And.intro hx (And.intro hd (And.intro hrd hul)))
  clear hx hd hl hrd hul
  go_enter Tryd.func112, Tryd.ntmps112
  go_wp2_with (at_builtin; refine wpList_append_rd _ rfl (.tmp 7) (.tmp 8) 35 rfl w.heap.size 22 i0 (.int .u64 0) Tryd.underlying35 hi hz0 hz1 hz2 rfl _ 0 [] rfl (World.ownsRow_nil _ _ _ _) w.heap.size A m c (uvs ds) rfl Hx.out.2.2.2 Hx.out.2.2.1 (uvs_one _) (by omega) (by omega) ?_)
  intro v1 w1 hown1 hgrow1 hblk1
  have hb1 : Below w.heap.size w w1 := (Below.refl _ _).grown hgrow1 (Nat.le_refl _) (by intro k hk; cases hk)
  obtain ⟨A1, c1, rfl, hc1, hc2, _, hr1⟩ := own_form hown1
  have hN : ∃ N : Nat, (2 : Int) * (n : Int) = (N : Int) ∧ N = 2 * n := ⟨2 * n, by omega, rfl⟩
  obtain ⟨N, hN, hN2⟩ := hN
  have HN := Lib.hid hN2
  have hN3 : N ≤ 26000 := by omega
  have hs0 : w1.ownsRow w.heap.size 22 1 (.slice A1 m c1) m (uvs (ds ++ List.replicate (m - m) 0)) := by simpa using hown1
  clear hN2 hown1 hgrow1 hblk1 hr1 hc2
  go_wp2
  go_loopw [6] (fun v wr => ∃ (k c1 : Nat) (A1 : Option Addr) (al : List Nat), v = .slice A1 k c1 ∧ m ≤ k ∧ k ≤ max m (N + 2) ∧ wr.ownsRow w.heap.size 22 1 (.slice A1 k c1) k (uvs al) ∧ Hid (al = ds ++ List.replicate (k - m) 0 ∧ Below w.heap.size w wr)) (fun v _ => N + 2 - (match v with | .slice _ k _ => k | _ => 0))
  case atStart => exact ⟨m, c1, A1, _, by simp, by omega, by omega, hs0, rfl, hb1⟩
  case round =>
    clear hs0 hb1
    obtain ⟨k, c1, A1, al, rfl, hk1, hk2, hown, hH⟩ := hrel
    by_cases hlt : k < N + 2
    · go_wp2_with (at_builtin; refine wpList_append_rd _ rfl (.tmp 16) (.tmp 17) 35 rfl w.heap.size 22 i0 (.int .u64 0) Tryd.underlying35 hi hz0 hz1 hz2 rfl (.slice A1 k c1) k _ rfl (hown.alloc _) _ (some ⟨wr.heap.size, 0, none⟩) 1 1 [.int .u64 0] rfl rfl (Rd.one _ _ _) (by simp [Value.oneCell']) (by omega) (by have := hH.out.2.size; simp; omega) ?_)
      intro v' w2 hown2 hgrow hblk
      obtain ⟨A2, c2, rfl, _, _, _, _⟩ := own_form hown2
      have HN2 : Hid (al ++ [0] = ds ++ List.replicate (k + 1 - m) 0 ∧ Below w.heap.size w w2) := by
        obtain ⟨g1, g2⟩ := hH.out
        refine ⟨?_, below_app0 g2 hown hgrow⟩
        rw [g1, show k + 1 - m = (k - m) + 1 by omega, List.replicate_succ', List.append_assoc]
      have hown3 : w2.ownsRow w.heap.size 22 1 (.slice A2 (k + 1) c2) (k + 1) (uvs (al ++ [0])) := by
        rw [uvs_append]
        exact hown2
      clear hown hH hown2 hgrow hblk
      go_wp2
      go_roundw
      case rel => exact ⟨k + 1, c2, A2, al ++ [0], rfl, by omega, by omega, hown3, HN2⟩
      case measure => simp; omega
    · have hk3 : k = max m (N + 2) := by omega
      have Hk := Lib.hid hk3
      clear hk3
      obtain ⟨_, _, hv, hkc, _, hll, hrd⟩ := own_form hown
      injection hv with hv1 hv2 hv3
      subst hv1
      subst hv3
      rw [uvs_length] at hll
      have hal : al = pad ds (N + 2) := by
        rw [hH.out.1, pad, Hx.out.1.1, Hk.out]
        congr 2
        omega
      have hdg : Dg al := by rw [hal]; exact Dg_pad Hx.out.2.1 _
      have l1 : N < al.length := by omega
      have l2 : N + 1 < al.length := by omega
      have g1 := List.getElem?_eq_getElem l1
      have g2 := List.getElem?_eq_getElem l2
      have a1 : al[N] < H32 := hdg _ (List.getElem_mem l1)
      have a2 : al[N + 1] < H32 := hdg _ (List.getElem_mem l2)
      generalize al[N] = a at *
      generalize al[N + 1] = b at *
      obtain ⟨mm, z, hz, hzB, e1, e2, e3, e4, e5, e6⟩ := joined a b a1 a2
      obtain ⟨bk, o, rfl, hb, hcx⟩ := hrd.at (uvs_get g1)
      obtain ⟨bk', o', he, _, hcy⟩ := hrd.at (uvs_get g2)
      injection he with he
      injection he with he1 he2
      subst he1
      subst he2
      have hSl : Sl wr (some ⟨bk, o, none⟩) N c1 (al.take N) := ⟨by simp; omega, by omega, by unfold maxLen at *; omega, Ws_take hdg.ws N, by rw [uvs_take]; exact hrd.take N⟩
      have Hf := Lib.hid (And.intro hSl (And.intro (Dg_take hdg N) (And.intro g1 (And.intro g2 (And.intro hz (And.intro hzB (And.intro hal hb)))))))
      have hi1 : (N : Int) + 1 < (k : Int) := by omega
      have hi2 : (N : Int) < (k : Int) := by omega
      have hi3 : IntKind.i64.wrap ((N : Int) + 1) = (N : Int) + 1 := IntWalk.i64_in _ (by omega)
      have hi4 : (0 : Int) ≤ (N : Int) + 1 := by omega
      have hi5 : ((N : Int) + 1).toNat = N + 1 := by omega
      have hi6 : IntKind.i64.wrap (N : Int) = (N : Int) := IntWalk.i64_in _ (by omega)
      have hi7 : (N : Int) ≤ (c1 : Int) := by omega
      have Hb := Lib.hid hH.out.2
      clear hSl hal hdg g1 g2 hz hzB a1 a2 l1 l2 hll hrd hown hH hb hc1
      go_wp2
      go_region_held3 (fun w' => w'.cell? ⟨bk, o + N, none⟩ = some (.int .u64 (a : Int)) ∧ w'.cell? ⟨bk, o + (N + 1), none⟩ = some (.int .u64 (b : Int)))
        (first | go_keep | exact ⟨hcx, hcy⟩ | exact ⟨(hbw.cell (p := ⟨bk, o + N, none⟩) Hf.out.2.2.2.2.2.2.2).trans hcx, (hbw.cell (p := ⟨bk, o + (N + 1), none⟩) Hf.out.2.2.2.2.2.2.2).trans hcy⟩)
        ((go_at_call 124; refine (Row_any (some ⟨bk, o, none⟩) N n c1 (al.take N) wr.drew HN.out (by omega) Hf.out.1 Hf.out.2.1).mono ?_; rintro e w' ⟨v, zs, rfl, hnw, hv, hbw⟩))
      have HP : Hid (Nw w w' v n zs ∧ z < B64 ∧ V zs + z * B64 ^ n = VD ((pad ds (2 * n + 2)).take (2 * n + 2)) ∧ Below w.heap.size w w') := by
        obtain ⟨f1, f2, f3, f4, f5, f6, f7, f8⟩ := Hf.out
        have hsz : w.heap.size ≤ wr.drew.heap.size := Hb.out.size
        have hn2 := HN.out
        refine ⟨⟨hnw.1, hnw.2.1, own_base hnw.2.2 hsz⟩, f6, ?_, Hb.out.drew.trans (hbw.mono hsz)⟩
        rw [hn2] at f3 f4 f7 hv
        rw [← f7]
        exact cut_val f3 f4 hv f5
      clear hnw hv hbw Hf Hb hcx hcy e1 e2 e3 e4 e5 e6 hi3 hi4 hi5 hi6
      go_wp2
      go_ret2
      obtain ⟨h1, h2, h3, h4⟩ := HP.out
      exact ⟨v, zs, z, rfl, h1, h2, h3, h4⟩
theorem CutJ_ok (A : Option Addr) (m c n : Nat) (ds : List Nat) (w : World) (hm : m ≤ 100000) (hn : n ≤ 13000) (hx : Sl w A m c ds) (hd : Dg ds) (hs : VD ds < B64 ^ (n + 1)) :
    Calls Tryd.prog 112 #[.slice A m c, .int .i64 n] w fun e w' => ∃ v zs, ∃ hi : Nat, e = .returned (.tuple #[v, .int .u64 hi]) ∧ Nw w w' v n zs ∧ hi < B64 ∧ V zs + hi * B64 ^ n = VD ds ∧ Below w.heap.size w w' := by
  refine (CutJ_any A m c n ds w hm hn hx hd).mono ?_
  rintro e w' ⟨v, zs, hi, h1, h2, h3, h4, h5⟩
  exact ⟨v, zs, hi, h1, h2, h3, by rw [h4, cut_small hs], h5⟩
set_option maxHeartbeats 400000 in
theorem natJ_ok (A : Option Addr) (m c : Nat) (ds : List Nat) (w : World) (hm : m ≤ 26000) (hx : Sl w A m c ds) (hd : Dg ds) :
    Calls Tryd.prog 88 #[.slice A m c] w fun e w' => Rv w w' e (VD ds) := by
  have Hx := Lib.hid (And.intro hx hd)
  clear hx hd
  go_enter Tryd.func88, Tryd.ntmps88
  go_wp2_with (fail)
  refine (Short_ok A m c ds w (by omega) Hx.out.1 Hx.out.2).mono ?_
  rintro e w1 ⟨k, rfl, hH, rfl⟩
  have hk := hH.out.1
  obtain ⟨N, hN, hq1, hq2⟩ : ∃ N : Nat, N = (k + 1) / 2 ∧ ((k : Int) + 1).tdiv 2 = (N : Int) ∧ ((k : Int) + 1) / 2 = (N : Int) := ⟨_, rfl, by rw [Int.tdiv_eq_ediv_of_nonneg (by omega)]; omega, by omega⟩
  have HN := Lib.hid hN
  have hN2 : N ≤ 13000 := by omega
  have hN3 : IntKind.i64.wrap (N : Int) = (N : Int) := IntWalk.i64_in _ (by omega)
  clear hN
  go_wp2_with (fail)
  refine (CutJ_ok A k c N (ds.take k) w (by omega) hN2 (Hx.out.1.tk hk) (Dg_take Hx.out.2 k) (Nat.lt_of_lt_of_le (nat_room Hx.out.2 HN.out) (Nat.pow_le_pow_right B64_pos (Nat.le_succ _)))).mono ?_
  rintro e w2 ⟨v, zs, hi, rfl, hn, hhi, hv, hb⟩
  have H := Lib.hid (And.intro hn (And.intro hv hb))
  clear hn hv hb hhi
  go_wp2_with (fail)
  go_ret
  obtain ⟨h1, h2, h3⟩ := H.out
  have h4 := no_high h2 (nat_room Hx.out.2 HN.out)
  exact ⟨v, rfl, ⟨N, zs, h1, nat_canon HN.out hH.out.2.2 h1.2.1 h1.1 h4, by rw [h4, hH.out.2.1]⟩, h3⟩
set_option maxHeartbeats 400000 in
theorem DigitsJ_ok (A : Option Addr) (n c : Nat) (xs : List Nat) (w : World) (hn : n ≤ 13000) (hx : Sl w A n c xs) :
    Calls Tryd.prog 90 #[.slice A n c] w fun e w' => ∃ v ds, e = .returned v ∧ Nw w w' v (2 * n) ds ∧ Dg ds ∧ VD ds = V xs ∧ Below w.heap.size w w' := by
  obtain ⟨i0, hi, hz0, hz1, hz2⟩ := info_parts Tryd.info22
  have Hx := Lib.hid hx
  clear hx
  go_enter Tryd.func90, Tryd.ntmps90
  go_wp2
  go_loopw [3, 4] (fun v i wr => ∃ (k : Nat) (ds : List Nat), k ≤ n ∧ i = .int .i64 k ∧ wr.ownsRow w.heap.size 22 1 v (2 * k) (uvs ds) ∧ Hid (Dg ds ∧ ds.length = 2 * k ∧ VD ds = V (xs.take k) ∧ Below w.heap.size w wr)) (fun _ i _ => n - (intOf i).toNat)
  case atStart => exact ⟨0, [], by omega, rfl, World.ownsRow_nil _ _ _ _, Dg_nil, rfl, by simp [VD, V], Below.refl _ _⟩
  case round =>
    obtain ⟨k, ds, hk, rfl, hown, hH⟩ := hrel
    by_cases hlt : k < n
    · obtain ⟨b, o, rfl, hb, hcx⟩ := (Hx.out.2.2.2.2.below hH.out.2.2.2).at (uvs_get (List.getElem?_eq_getElem (show k < xs.length by rw [Hx.out.1]; exact hlt)))
      have Hxk := Lib.hid (List.getElem?_eq_getElem (show k < xs.length by rw [Hx.out.1]; exact hlt))
      generalize xs[k]'(by rw [Hx.out.1]; exact hlt) = x at *
      have hki : (k : Int) < n := by omega
      obtain ⟨r, q, hrq, hrH, hqH, e1, e2, e3, e4, e5⟩ := halves x (Hx.out.2.2.2.1 x (List.mem_of_getElem? Hxk.out))
      have HR := Lib.hid (And.intro hrq (And.intro hrH hqH))
      clear hrq hrH hqH
      have Hb := Lib.hid (And.intro hb hH.out.2.2.2)
      go_wp2
      go_region_held3 (fun w' => w'.cell? ⟨b, o + k, none⟩ = some (.int .u64 (x : Int)))
        (first | go_keep | exact cell_app Hb.out.2 hown hgrow Hb.out.1 hcx)
        ((refine step_append_lies _ (by rfl) _ _ 35 (by rfl) w.heap.size 22 i0 _ 1 8 Tryd.underlying35 hi hz0 hz1 hz2 rfl (by omega) u3 (2 * k) (uvs ds) (by rfl) ((hown.alloc _).drew) ⟨wr.heap.size, 0, none⟩ 2 2 [.int .u64 (r : Int), .int .u64 (q : Int)] (by rfl) (by rfl) (World.news_of_block (cs := #[.int .u64 (r : Int), .int .u64 (q : Int)]) (t := 22) (fr := (0, 0)) (heap_alloc_new wr _)) (by simp [Value.oneCell']) (by omega) (by unfold maxLen; omega) (by omega) (by have := Hb.out.2.size; simp; omega) (wr.heap.size + 1) (by simp) ?_; intro gg cap w1 hown1 hgrow hat hlt1))
      have hst := digits_step hH.out.2.1 Hxk.out (by rw [Hx.out.1]; exact hlt) hH.out.2.2.1
      rw [← HR.out.1.1, ← HR.out.1.2] at hst
      have HN : Hid (Dg (ds ++ [r, q]) ∧ (ds ++ [r, q]).length = 2 * (k + 1) ∧ VD (ds ++ [r, q]) = V (xs.take (k + 1)) ∧ Below w.heap.size w w1) :=
        ⟨Dg_append hH.out.1 (fun z hz => by simp at hz; rcases hz with rfl | rfl; exact HR.out.2.1; exact HR.out.2.2), by simp [hH.out.2.1]; omega, hst, below_app Hb.out.2 hown hgrow⟩
      have hown2 : w1.ownsRow w.heap.size 22 1 (.slice (some ⟨gg, 0, none⟩) (2 * k + 2) cap) (2 * (k + 1)) (uvs (ds ++ [r, q])) := by
        rw [uvs_append]
        exact hown1
      clear hst hH hown hown1 hgrow hat hlt1 e1 e2 e3 e4 e5
      go_wp2
      go_roundw
      case rel => exact ⟨k + 1, ds ++ [r, q], by omega, by go_num, hown2, HN⟩
      case measure => simp [intOf]; omega
    · go_wp2
      go_ret
      have hkn : k = n := by omega
      subst hkn
      obtain ⟨h1, h2, h3, h4⟩ := hH.out
      rw [Hx.out.take_all] at h3
      exact ⟨_, ds, rfl, ⟨h2, h1.ws, hown⟩, h1, h3, h4⟩
set_option maxHeartbeats 400000 in
theorem RTrimJ_ok (A : Option Addr) (n c : Nat) (xs : List Nat) (w : World) (hn : n ≤ 13000) (hx : Sl w A n c xs) :
    Calls Tryd.prog 80 #[.slice A n c] w fun e w' => Rv w w' e (V xs) := by
  have Hx := Lib.hid hx
  clear hx
  go_enter Tryd.func80, Tryd.ntmps80
  go_wp2_with (fail)
  refine (DigitsJ_ok A n c xs w hn Hx.out).mono ?_
  rintro e w1 ⟨v, ds, rfl, hnw, hd, hv, hb⟩
  obtain ⟨A1, c1, rfl, hs⟩ := hnw.sl
  have H := Lib.hid (And.intro hs (And.intro hd (And.intro hv hb)))
  clear hs hd hv hb hnw
  go_wp2_with (fail)
  refine (natJ_ok A1 (2 * n) c1 ds w1 (by omega) H.out.1 H.out.2.1).mono ?_
  rintro e w2 hR
  obtain ⟨v2, rfl, h2, hb2⟩ := hR.from H.out.2.2.2
  rw [H.out.2.2.1] at h2
  have H2 := Lib.hid (And.intro h2 hb2)
  clear h2 hb2 hR
  go_wp2_with (fail)
  go_ret
  exact ⟨v2, rfl, H2.out.1, H2.out.2⟩
set_option maxHeartbeats 400000 in
theorem RNAddJ_ok (A A' : Option Addr) (n n' c c' : Nat) (xs ys : List Nat) (w : World) (hn : n ≤ 12000) (hn' : n' ≤ 12000) (hx : Sl w A n c xs) (hy : Sl w A' n' c' ys) :
    Calls Tryd.prog 52 #[.slice A n c, .slice A' n' c'] w fun e w' => Rv w w' e (V xs + V ys) := by
  have Hx := Lib.hid (And.intro hx hy)
  clear hx hy
  go_enter Tryd.func52, Tryd.ntmps52
  go_wp2_with (fail)
  refine (DigitsJ_ok A n c xs w (by omega) Hx.out.1).mono ?_
  rintro e w1 ⟨v1, ds1, rfl, hn1, hd1, hv1, hb1⟩
  obtain ⟨A1, c1, rfl, hs1⟩ := hn1.sl
  have H1 := Lib.hid (And.intro hs1 (And.intro hd1 (And.intro hv1 hb1)))
  clear hs1 hd1 hv1 hb1 hn1
  go_wp2_with (fail)
  refine (DigitsJ_ok A' n' c' ys w1 (by omega) (Hx.out.2.below H1.out.2.2.2)).mono ?_
  rintro e w2 ⟨v2, ds2, rfl, hn2, hd2, hv2, hb2⟩
  obtain ⟨A2, c2, rfl, hs2⟩ := hn2.sl
  have H2 := Lib.hid (And.intro (H1.out.1.below hb2) (And.intro hs2 (And.intro hd2 (And.intro hv2 (H1.out.2.2.2.trans (hb2.mono H1.out.2.2.2.size))))))
  clear hs2 hd2 hv2 hb2 hn2
  go_wp2_with (fail)
  refine (Plus_ok A1 A2 (2 * n) (2 * n') c1 c2 ds1 ds2 w2 (by omega) (by omega) H2.out.1 H2.out.2.1 H1.out.2.1 H2.out.2.2.1).mono ?_
  rintro e w3 ⟨v3, ds3, rfl, hn3, hd3, hv3, hb3⟩
  obtain ⟨N3, hN3, hN3b⟩ : ∃ N3, max (2 * n) (2 * n') + 1 = N3 ∧ N3 ≤ 26000 := ⟨_, rfl, by omega⟩
  rw [hN3] at hn3
  clear hN3
  obtain ⟨A3, c3, rfl, hs3⟩ := hn3.sl
  have H3 := Lib.hid (And.intro hs3 (And.intro hd3 (And.intro (show VD ds3 = V xs + V ys by rw [hv3, H1.out.2.2.1, H2.out.2.2.2.1]) (H2.out.2.2.2.2.trans (hb3.mono H2.out.2.2.2.2.size)))))
  clear hs3 hd3 hv3 hb3 hn3
  go_wp2_with (fail)
  refine (natJ_ok A3 N3 c3 ds3 w3 hN3b H3.out.1 H3.out.2.1).mono ?_
  rintro e w4 hR
  obtain ⟨v4, rfl, h4, hb4⟩ := hR.from H3.out.2.2.2
  rw [H3.out.2.2.1] at h4
  have H4 := Lib.hid (And.intro h4 hb4)
  clear h4 hb4 hR
  go_wp2_with (fail)
  go_ret
  exact ⟨v4, rfl, H4.out.1, H4.out.2⟩
set_option maxHeartbeats 1000000 in
theorem R2LeftJ_ok (A : Option Addr) (n c : Nat) (xs : List Nat) (s : Nat) (w : World) (hn : n ≤ 900) (hs : s ≤ 704000) (hx : Sl w A n c xs) :
    Calls Tryd.prog 53 #[.slice A n c, .int .i64 s] w fun e w' => Rv w w' e (V xs * 2 ^ s) := by
  obtain ⟨i0, hi, hz0, hz1, hz2⟩ := info_parts Tryd.info22
  have Hx := Lib.hid hx
  obtain ⟨q, r, hqr, hr, hq1, hq2, hr1, hr2⟩ : ∃ q r : Nat, s = 64 * q + r ∧ r ≤ 63 ∧ (s : Int).tdiv 64 = (q : Int) ∧ (s : Int) / 64 = (q : Int) ∧ (s : Int).tmod 64 = (r : Int) ∧ (s : Int) % 64 = (r : Int) :=
    ⟨s / 64, s % 64, by omega, by omega, by rw [Int.tdiv_eq_ediv_of_nonneg (by omega)]; omega, by omega, by rw [Int.tmod_eq_emod_of_nonneg (by omega)]; omega, by omega⟩
  have hqw : IntKind.i64.wrap (q : Int) = (q : Int) := IntWalk.i64_in _ (by omega)
  have hq : q ≤ 11000 := by omega
  have HS := Lib.hid (And.intro hs hqr)
  clear hx hs hqr
  go_enter Tryd.func53, Tryd.ntmps53
  go_wp2_with (fail)
  refine (RLeft_ok A n c xs r w (by omega) Hx.out hr).mono ?_
  rintro e w2 ⟨v2, zs, d, rfl, hnw, hv, hb2⟩
  obtain ⟨A2, c2, rfl, hs2⟩ := hnw.sl
  have hdB : d < B64 := shl_top hv (V_lt _ Hx.out.2.2.2.1) Hx.out.1 (pow_lt r hr)
  have H2 := Lib.hid (And.intro hs2 (And.intro (shl_value (q := q) hv) (And.intro hdB hb2)))
  clear hs2 hv hdB hnw hb2
  go_wp2_with (at_make; refine wpList_make_full _ rfl _ _ 35 rfl w2.heap.size 22 i0 (.int .u64 0) 1 Tryd.underlying35 hi hz0 hz1 .i64 .i64 _ _ q rfl rfl rfl rfl (by rw [hz2]; omega) (by unfold maxLen; omega) (Nat.le_refl _) ?_)
  intro w3 hown hgrow
  have hb3 := below_of_grown hgrow (Nat.le_refl _)
  rw [zeros_cells] at hown
  have Hl := Lib.hid (And.intro (show (uvs zs).length = n by rw [uvs_length]; exact H2.out.1.1) (H2.out.1.2.2.2.2.below hb3))
  have hsz := hb3.size
  clear hgrow
  go_wp2_with (at_builtin; refine wpList_append_rd _ rfl (.tmp 18) (.tmp 19) 35 rfl w2.heap.size 22 i0 (.int .u64 0) Tryd.underlying35 hi hz0 hz1 hz2 rfl (.slice (some ⟨w2.heap.size, 0, none⟩) q q) q (uvs (List.replicate q 0)) rfl hown w2.heap.size A2 n c2 (uvs zs) rfl Hl.out.1 Hl.out.2 (uvs_one _) (by omega) (by omega) ?_)
  intro v4 w4 hown4 hgrow4 hblk
  have hb4 : Below w2.heap.size w2 w4 := hb3.grown hgrow4 hsz (fun j hj => (hown.lt j hj).1)
  have hsz4 := hb4.size
  clear hown hgrow4 hblk Hl hsz hb3
  go_wp2_with (at_builtin; refine wpList_append_rd _ rfl (.tmp 21) (.tmp 23) 35 rfl w2.heap.size 22 i0 (.int .u64 0) Tryd.underlying35 hi hz0 hz1 hz2 rfl v4 (q + n) _ rfl (hown4.alloc _) _ (some ⟨w4.heap.size, 0, none⟩) 1 1 [.int .u64 (d : Int)] rfl rfl (Rd.one _ _ _) (by simp [Value.oneCell']) (by omega) (by simp; omega) ?_)
  intro v5 w5 hown5 hgrow hblk
  have hb5 : Below w2.heap.size w2 w5 := (hb4.alloc hb4.size _).grown hgrow (by simp; omega) (fun j hj => (hown4.lt j hj).1)
  obtain ⟨us, hus⟩ : ∃ us, List.replicate q 0 ++ zs ++ [d] = us := ⟨_, rfl⟩
  have hul : us.length = q + n + 1 := by rw [← hus]; simp [H2.out.1.1]; omega
  have huv : V us = V xs * 2 ^ s := by
    rw [← hus, V_append, V_append, V_zeros', Nat.zero_add, HS.out.2, ← H2.out.2.1]
    simp only [List.length_append, List.length_replicate, H2.out.1.1, V, Nat.mul_zero, Nat.add_zero]
    rw [Nat.pow_add, Nat.add_mul]
    generalize B64 ^ q = p
    generalize B64 ^ n = p'
    grind
  have hnw : Nw w2 w5 v5 (q + n + 1) us := ⟨hul, by rw [← hus]; exact Ws_snoc (Ws_up q H2.out.1.2.2.2.1) H2.out.2.2.1, by rw [← hus, uvs_append, uvs_append, List.append_assoc]; exact hown5⟩
  obtain ⟨A5, c5, rfl, hs5⟩ := hnw.sl
  have H5 := Lib.hid (And.intro hs5 (And.intro huv (H2.out.2.2.2.trans (hb5.mono H2.out.2.2.2.size))))
  clear hown4 hown5 hgrow hblk hb5 hnw huv hul hus hb4 hsz4 hs5
  go_wp2_with (fail)
  refine (RTrimJ_ok A5 (q + n + 1) c5 us w5 (by omega) H5.out.1).mono ?_
  rintro e w6 hR
  obtain ⟨v, rfl, h7, hb7⟩ := hR.from H5.out.2.2
  rw [H5.out.2.1] at h7
  have H7 := Lib.hid (And.intro h7 hb7)
  clear h7 hb7 hR
  go_wp2_with (fail)
  go_ret
  exact ⟨v, rfl, H7.out.1, H7.out.2⟩
end Go.Proofs.YtcnambjckmpipaaDoor
