/- The contracts of reckonerref04.Root, Transform and Back. -/
import Derived.Test.YthpgdpkemnhneaaDoorZYLaw
import Derived.Test.YthpgdpkemnhneaaDoorP12
import Derived.Deep.RegionHeld3
namespace Go.Proofs.YthpgdpkemnhneaaDoor
open Go.RowKit Go.Shelf
set_option linter.unusedVariables false
set_option linter.unusedSimpArgs false
set_option maxRecDepth 10000

set_option maxHeartbeats 400000 in
theorem R4Root_ok (k N : Nat) (w : World) (hk : k ≤ 16) (hN : N = 2 ^ k) :
    Calls Tryd.prog 41 #[.int .i64 N] w fun e w' => e = .returned (.int .u64 ((rt k : Nat) : Int)) ∧ Below w.heap.size w w' := by
  have hN16 : N ≤ 65536 := by rw [hN]; exact Nat.pow_le_pow_right (n := 2) (by decide) hk
  have hN0 : 0 < N := by rw [hN]; exact Nat.pow_pos (by decide)
  obtain ⟨q, hq⟩ : ∃ q, q = 18446744069414584320 / N := ⟨_, rfl⟩
  have hqB : q ≤ 18446744069414584320 := by rw [hq]; exact Nat.div_le_self _ _
  have h1 : IntKind.u64.wrap (N : Int) = (N : Int) := wrap_nat N (by have : B64 = 18446744073709551616 := rfl; omega)
  have h2 : ¬ N = 0 := by omega
  have h3 : ¬ (N : Int) = 0 := by omega
  have h4 : (18446744069414584320 : Int).tdiv (N : Int) = (q : Int) := by rw [Int.tdiv_eq_ediv_of_nonneg (by omega), hq]; simp
  have h5 : (18446744069414584320 : Int) / (N : Int) = (q : Int) := by rw [hq]; simp
  have h6 : IntKind.u64.wrap (q : Int) = (q : Int) := wrap_nat q (by have : B64 = 18446744073709551616 := rfl; omega)
  have hr : rt k = 7 ^ q % PP := by
    rw [rt_def, hq, hN]
    rfl
  have hc := R4Pow_ok 7 q w (by decide) (by have : B64 = 18446744073709551616 := rfl; omega)
  rw [← hr] at hc
  have HC := Lib.hid hc
  clear hc hr hq hN hqB
  go_enter Tryd.func41, Tryd.ntmps41
  go_wp2_with (fail)
  refine HC.out.mono ?_
  rintro e w1 ⟨rfl, hb⟩
  have H1 := Lib.hid hb
  clear hb
  go_wp2_with (fail)
  go_ret
  exact ⟨rfl, H1.out⟩
theorem own_one {w : World} (t : TypeId) (a : Nat) : (w.alloc (.cells #[.int .u64 a] t)).ownsRow w.heap.size t 1 (.slice (some ⟨w.heap.size, 0, none⟩) 1 1) 1 (uvs [a]) :=
  ⟨rfl, .inr ⟨w.heap.size, 1, #[.int .u64 a], rfl, Nat.le_refl _, heap_alloc_new w _, by omega, by unfold maxLen; omega, rfl, rfl⟩⟩
theorem pow_round {r n e : Nat} (hr : Eqm (r ^ n) 1) : Eqm (r ^ (e % n)) (r ^ e) := by
  conv => rhs; rw [show e = n * (e / n) + e % n from (Nat.div_add_mod _ _).symm]
  rw [Nat.pow_add, Nat.pow_mul]
  refine Eqm.symm ((Eqm.mul (hr.pow _) (.refl _)).trans (.of_eq ?_))
  rw [Nat.one_pow, Nat.one_mul]
/-- the sum so far -/
def trs (r : Nat) (a : Nat → Nat) (k j : Nat) : Nat := Sm j (fun t => a t * r ^ (t * k)) % PP
theorem trs_next {r n k j : Nat} {a : Nat → Nat} (hr : Eqm (r ^ n) 1) : (trs r a k j + a j * (r ^ (j * k % n) % PP) % PP) % PP = trs r a k (j + 1) := by
  unfold trs
  show Eqm _ _
  refine (Eqm.mod _).add ((Eqm.mod _).trans (Eqm.mul (.refl _) ((Eqm.mod _).trans (pow_round hr))))
theorem trs_lt (r : Nat) (a : Nat → Nat) (k j : Nat) : trs r a k j < PP := Nat.mod_lt _ PP_pos
theorem PP_B {x : Nat} (h : x < PP) : x < B64 := Nat.lt_trans h PP_lt
/-- a list of f i, i below n -/
def Ls (w w' : World) (e : Ending) (n : Nat) (f : Nat → Nat) : Prop := ∃ B d, e = .returned (.slice B n d) ∧ Sl w' B n d (tb n f) ∧ Below w.heap.size w w'
theorem own_sl {w : World} {B : Option Addr} {base n d : Nat} {f : Nat → Nat} (h : w.ownsRow base 43 1 (.slice B n d) n (uvs (tb n f))) (hf : ∀ i, i < n → f i < B64) : Sl w B n d (tb n f) := by
  obtain ⟨A, c, e, h1, h2, h3, h4⟩ := own_form h
  injection e with e1 e2 e3
  subst e1 e3
  exact ⟨tb_length _ _, h1, by unfold maxLen at h2; omega, tb_ws hf, h4⟩
set_option maxHeartbeats 2000000 in
theorem R4Transform_ok (A : Option Addr) (n c s : Nat) (xs : List Nat) (w : World) (hs : s ≤ 9) (hn : n = 2 ^ s) (hx : Sl w A n c xs) :
    Calls Tryd.prog 15 #[.slice A n c] w fun e w' => Ls w w' e n (Tr n (rt s) (yx xs)) := by
  obtain ⟨i0, hi, hz0, hz1, hz2⟩ := info_parts Tryd.info43
  have hn5 : n ≤ 512 := by rw [hn]; exact Nat.pow_le_pow_right (n := 2) (by decide) hs
  have hn0 : 0 < n := by rw [hn]; exact Nat.pow_pos (by decide)
  have hr : Eqm (rt s ^ n) 1 := by rw [hn]; exact rt_full s (by omega)
  have hrt := R4Root_ok s n w (by omega) hn
  obtain ⟨r, hrr⟩ : ∃ r, rt s = r := ⟨_, rfl⟩
  have hrP : r < PP := by rw [← hrr]; exact rt_lt s
  rw [hrr] at hr hrt ⊢
  obtain ⟨F, hF⟩ : ∃ F : Nat → Nat, ∀ i, F i = r ^ i % PP := ⟨_, fun _ => rfl⟩
  have hFB : ∀ i, F i < B64 := fun i => by rw [hF]; exact PP_B (Nat.mod_lt _ PP_pos)
  have HH := Lib.hid (And.intro hx (And.intro hr (And.intro hrP (And.intro hF (And.intro hFB hrt)))))
  have H0 : Hid (F 0 = 1) := Lib.hid (by rw [hF, Nat.pow_zero]; rfl)
  have hnn : ¬ (n : Int) = 0 := by omega
  have hnn2 : ¬ n = 0 := by omega
  clear hx hr hrP hF hFB hrr hrt hn
  go_enter Tryd.func15, Tryd.ntmps15
  go_wp2_with (fail)
  refine HH.out.2.2.2.2.2.mono ?_
  rintro e w1 ⟨rfl, hb1⟩
  have HB1 := Lib.hid hb1
  have H1 : Hid ((w1.alloc (.cells #[.int .u64 1] 43)).ownsRow w.heap.size 43 1 (.slice (some ⟨w1.heap.size, 0, none⟩) 1 1) 1 (uvs (tb 1 F)) ∧ Below w.heap.size w (w1.alloc (.cells #[.int .u64 1] 43))) := by
    refine ⟨?_, hb1.alloc hb1.size _⟩
    rw [show tb 1 F = [1] by simp [tb, H0.out]]
    have h := own_one (w := w1) 43 1
    refine ⟨h.1, ?_⟩
    rcases h.2 with ⟨e, _⟩ | ⟨g, cap, cur, e, h1, h2⟩
    · cases e
    · exact .inr ⟨g, cap, cur, e, Nat.le_trans hb1.size h1, h2⟩
  clear hb1
  go_wp2_with (fail)
  go_loopw [5, 6] (fun pv iv wr => ∃ (i d : Nat) (B : Option Addr), 1 ≤ i ∧ i ≤ n ∧ iv = .int .i64 i ∧ pv = .slice B i d ∧ Hid (wr.ownsRow w.heap.size 43 1 (.slice B i d) i (uvs (tb i F)) ∧ Below w.heap.size w wr)) (fun _ iv _ => n - (intOf iv).toNat)
  case atStart => exact ⟨1, 1, _, by omega, by omega, rfl, rfl, H1⟩
  case round =>
    clear H1 HB1
    obtain ⟨i, d, B, h1i, hin, rfl, rfl, hH⟩ := hrel
    by_cases hlt : i < n
    · have hki : (i : Int) < n := by omega
      obtain ⟨j, hj⟩ : ∃ j, i = j + 1 := ⟨i - 1, by omega⟩
      have hj1 : (i : Int) - 1 = (j : Int) := by omega
      have hjw : IntKind.i64.wrap (j : Int) = (j : Int) := IntWalk.i64_in _ (by omega)
      have hji : (j : Int) < (i : Int) := by omega
      have hj0 : (0 : Int) ≤ (j : Int) := by omega
      obtain ⟨b, o, rfl, -, hcx⟩ := (own_sl hH.out.1 (fun i _ => HH.out.2.2.2.2.1 i)).rd (i := j) (by omega)
      rw [yx_tb _ (by omega)] at hcx
      obtain ⟨x, hxv⟩ : ∃ x, F j = x := ⟨_, rfl⟩
      have hxB := HH.out.2.2.2.2.1 j
      rw [hxv] at hcx hxB
      have HX := Lib.hid (And.intro hxB (show x * r % PP = F i by
        rw [← hxv, HH.out.2.2.2.1, HH.out.2.2.2.1, hj, Nat.pow_succ]
        exact mulmod_congr (Nat.mod_mod _ _) rfl))
      clear hxB hxv hj
      go_wp2_with (fail)
      refine (R4Times_ok x r _ HX.out.1 (PP_B HH.out.2.2.1)).mono ?_
      rintro e w2 ⟨rfl, hb2⟩
      rw [HX.out.2]
      have hown := own_below hH.out.1 hb2 (Nat.le_refl _)
      have hs2 := hH.out.2.size
      have HB := Lib.hid (hH.out.2.trans (hb2.mono hs2))
      have hs3 := HB.out.size
      obtain ⟨z, hz⟩ : ∃ z, F i = z := ⟨_, rfl⟩
      rw [hz]
      have HZ := Lib.hid hz
      clear hH hb2 hcx hz
      go_wp2_with (at_builtin; refine wpList_append_rd _ rfl (.tmp 21) (.tmp 29) 22 rfl w.heap.size 43 i0 (.int .u64 0) Tryd.underlying22 hi hz0 hz1 hz2 rfl _ i (uvs (tb i F)) rfl (hown.alloc _) (w2.heap.size + 1) (some ⟨w2.heap.size, 0, none⟩) 1 1 [.int .u64 (z : Int)] rfl rfl (fun _ => ⟨w2.heap.size, 0, rfl, by omega, fun j u hj => by simpa [Addr.add] using hj⟩) (by simp [Value.oneCell']) (by omega) (by simp; omega) ?_)
      intro v3 w3 hown3 hgrow hblk
      obtain ⟨B3, d3, rfl, -⟩ := own_form hown3
      have HN : Hid (w3.ownsRow w.heap.size 43 1 (.slice B3 (i + 1) d3) (i + 1) (uvs (tb (i + 1) F)) ∧ Below w.heap.size w w3) := by
        refine ⟨?_, (HB.out.alloc hs3 _).grown hgrow (by simp; omega) (fun j hj => (hown.lt j hj).1)⟩
        rw [tb_succ, uvs_append, HZ.out]
        exact hown3
      clear hown3 hgrow hblk hown
      go_wp2_with (fail)
      go_roundw
      case rel => exact ⟨i + 1, d3, B3, by omega, by omega, by go_num, rfl, HN⟩
      case measure => simp [intOf]; omega
    · have hki : ¬ (i : Int) < n := by omega
      obtain rfl : i = n := by omega
      have HP := Lib.hid (And.intro (own_sl hH.out.1 (fun i _ => HH.out.2.2.2.2.1 i)) (And.intro (HH.out.1.below hH.out.2) hH.out.2))
      obtain ⟨wp, hwp⟩ : ∃ wp, wp = wr := ⟨_, rfl⟩
      rw [← hwp] at HP
      have H2 : Hid (wr.ownsRow wp.heap.size 43 1 (.slice none 0 0) 0 (uvs (tb 0 (Tr i r (yx xs)))) ∧ Below wp.heap.size wp wr) := Lib.hid ⟨World.ownsRow_nil _ _ _ _, by rw [hwp]; exact Below.refl _ _⟩
      clear hH hwp hlt hki
      go_wp2_with (fail)
      go_loopw [7, 8, 9, 10] (fun ov kv _ _ wr => ∃ (k d2 : Nat) (B2 : Option Addr), k ≤ i ∧ kv = .int .i64 k ∧ ov = .slice B2 k d2 ∧ Hid (wr.ownsRow wp.heap.size 43 1 (.slice B2 k d2) k (uvs (tb k (Tr i r (yx xs)))) ∧ Below wp.heap.size wp wr)) (fun _ kv _ _ _ => i - (intOf kv).toNat)
      case atStart => exact ⟨0, 0, none, by omega, rfl, rfl, H2⟩
      case round =>
        clear H2
        obtain ⟨k, d2, B2, hk, rfl, rfl, hK⟩ := hrel
        by_cases hlt : k < i
        · have hki : (k : Int) < i := by omega
          obtain ⟨wk, hwk⟩ : ∃ wk, wk = wr := ⟨_, rfl⟩
          have H3 : Hid (Below wk.heap.size wk wr) := Lib.hid (by rw [hwk]; exact Below.refl _ _)
          rw [← hwk] at hK
          clear hwk
          go_wp2_with (fail)
          go_loopw [9, 10] (fun sv jv wr => ∃ (j : Nat), j ≤ i ∧ jv = .int .i64 j ∧ sv = .int .u64 ((trs r (yx xs) k j : Nat) : Int) ∧ Hid (Below wk.heap.size wk wr)) (fun _ jv _ => i - (intOf jv).toNat)
          case atStart => exact ⟨0, by omega, rfl, rfl, H3⟩
          case round =>
            clear H3
            obtain ⟨j, hj, rfl, rfl, hJ⟩ := hrel
            by_cases hlj : j < i
            · have hji : (j : Int) < i := by omega
              obtain ⟨p, hp⟩ : ∃ p, j * k = p := ⟨_, rfl⟩
              have hp5 : p ≤ 262144 := by rw [← hp]; exact Nat.mul_le_mul (show j ≤ 512 by omega) (show k ≤ 512 by omega)
              have e0 : (j : Int) * (k : Int) = (p : Int) := by rw [← hp]; push_cast; rfl
              have e1 : IntKind.i64.wrap (p : Int) = (p : Int) := IntWalk.i64_in _ (by omega)
              obtain ⟨q, hq⟩ : ∃ q, p % i = q := ⟨_, rfl⟩
              have hqi : q < i := by rw [← hq]; exact Nat.mod_lt _ hn0
              have e2 : (p : Int).tmod (i : Int) = (q : Int) := by rw [← hq, Int.tmod_eq_emod_of_nonneg (by omega)]; simp
              have e3 : (p : Int) % (i : Int) = (q : Int) := by rw [← hq]; simp
              have e4 : IntKind.i64.wrap (q : Int) = (q : Int) := IntWalk.i64_in _ (by omega)
              have hqi2 : (q : Int) < i := by omega
              have hq0 : (0 : Int) ≤ (q : Int) := by omega
              have hall := hK.out.2.trans (hJ.out.mono hK.out.2.size)
              obtain ⟨b, o, hA, -, hcx⟩ := (HP.out.2.1.below hall).rd hlj
              obtain ⟨b2, o2, hB, -, hcy⟩ := (HP.out.1.below hall).rd hqi
              rw [yx_tb _ hqi] at hcy
              subst hA hB
              have hxB := yx_lt HH.out.1.2.2.2.1 j
              have hst := trs_next (n := i) (k := k) (j := j) (a := yx xs) HH.out.2.1
              rw [hp, hq, ← HH.out.2.2.2.1 q] at hst
              obtain ⟨x, hxv⟩ : ∃ x, yx xs j = x := ⟨_, rfl⟩
              obtain ⟨y, hyv⟩ : ∃ y, F q = y := ⟨_, rfl⟩
              have hyB := HH.out.2.2.2.2.1 q
              rw [hxv] at hcx hxB hst
              rw [hyv] at hcy hyB hst
              obtain ⟨z, hzv⟩ : ∃ z, trs r (yx xs) k j = z := ⟨_, rfl⟩
              have hzB := PP_B (trs_lt r (yx xs) k j)
              rw [hzv] at hzB hst ⊢
              have hT := fun W => R4Times_ok x y W hxB hyB
              obtain ⟨u, hu⟩ : ∃ u, x * y % PP = u := ⟨_, rfl⟩
              have huB : u < B64 := by rw [← hu]; exact PP_B (Nat.mod_lt _ PP_pos)
              have hA := fun W => R4Add_ok z u W hzB huB
              obtain ⟨v, hv⟩ : ∃ v, trs r (yx xs) k (j + 1) = v := ⟨_, rfl⟩
              rw [hu, hv] at hst
              rw [hu] at hT
              rw [hst] at hA
              have HX := Lib.hid (And.intro hT (And.intro hA hv))
              have HC := Lib.hid (And.intro (World.block_lt_of_cell? _ _ hcx) (World.block_lt_of_cell? _ _ hcy))
              clear hT hA hv hu huB hxB hyB hzB hst hxv hyv hzv hall hp hq hqi hp5
              go_wp2_with (fail)
              go_region_held3 (fun w' => w'.cell? ⟨b, o + j, none⟩ = some (.int .u64 (x : Int)) ∧ w'.cell? ⟨b2, o2 + q, none⟩ = some (.int .u64 (y : Int)))
                (first | exact ⟨hcx, hcy⟩ | exact S2.out | exact S1.out | go_keep)
                (first
                  | (go_at_call 42; refine (HX.out.1 _).mono ?_; rintro e w3 ⟨hEq, h3⟩; subst hEq; have HB3 := Lib.hid (show Below wr.heap.size wr w3 from belowA h3); have S1 := Lib.hid (And.intro ((HB3.out.cell HC.out.1).trans hcx) ((HB3.out.cell HC.out.2).trans hcy)); clear h3)
                  | (go_at_call 43; refine (HX.out.2.1 _).mono ?_; rintro e w4 ⟨hEq, h4⟩; subst hEq; have S2 := Lib.hid (And.intro (((HB3.out.trans (h4.mono HB3.out.size)).cell HC.out.1).trans hcx) (((HB3.out.trans (h4.mono HB3.out.size)).cell HC.out.2).trans hcy)); have HB4 := Lib.hid (hJ.out.trans ((HB3.out.trans (h4.mono HB3.out.size)).mono hJ.out.size)); clear h4))
              have HV : Hid (v = trs r (yx xs) k (j + 1)) := Lib.hid HX.out.2.2.symm
              clear HB3 S1 S2 HX HC hcx hcy hJ
              go_wp2_with (fail)
              go_roundw
              case rel => exact ⟨j + 1, by omega, by go_num, by rw [HV.out], HB4⟩
              case measure => simp [intOf]; omega
            · have hji : ¬ (j : Int) < i := by omega
              obtain rfl : j = i := by omega
              have hown := own_below hK.out.1 hJ.out (Nat.le_refl _)
              have HB := Lib.hid (hK.out.2.trans (hJ.out.mono hK.out.2.size))
              have hs3 := HB.out.size
              obtain ⟨z, hz⟩ : ∃ z, trs r (yx xs) k j = z := ⟨_, rfl⟩
              have HZ : Hid (Tr j r (yx xs) k = z) := Lib.hid hz
              rw [hz]
              clear hz hJ
              go_wp2_with (at_builtin; refine wpList_append_rd _ rfl (.tmp 56) (.tmp 58) 22 rfl wp.heap.size 43 i0 (.int .u64 0) Tryd.underlying22 hi hz0 hz1 hz2 rfl _ k (uvs (tb k (Tr j r (yx xs)))) rfl (hown.alloc _) (wr.heap.size + 1) (some ⟨wr.heap.size, 0, none⟩) 1 1 [.int .u64 (z : Int)] rfl rfl (fun _ => ⟨wr.heap.size, 0, rfl, by omega, fun j u hj => by simpa [Addr.add] using hj⟩) (by simp [Value.oneCell']) (by omega) (by simp; omega) ?_)
              intro v3 w3 hown3 hgrow hblk
              obtain ⟨B3, d3, rfl, -⟩ := own_form hown3
              have HN : Hid (w3.ownsRow wp.heap.size 43 1 (.slice B3 (k + 1) d3) (k + 1) (uvs (tb (k + 1) (Tr j r (yx xs)))) ∧ Below wp.heap.size wp w3) := by
                refine ⟨?_, (HB.out.alloc hs3 _).grown hgrow (by simp; omega) (fun j hj => (hown.lt j hj).1)⟩
                rw [tb_succ, uvs_append, HZ.out]
                exact hown3
              clear hown3 hgrow hblk hown
              go_wp2_with (fail)
              go_roundw
              case rel => exact ⟨k + 1, d3, B3, by omega, by go_num, rfl, HN⟩
              case measure => simp [intOf]; omega
        · have hki : ¬ (k : Int) < i := by omega
          obtain rfl : k = i := by omega
          go_wp2_with (fail)
          go_ret
          exact ⟨B2, d2, rfl, own_sl hK.out.1 (fun i _ => PP_B (Tr_lt _ _ _ _)), HP.out.2.2.trans (hK.out.2.mono HP.out.2.2.size)⟩
set_option maxHeartbeats 1000000 in
theorem R4Back_ok (A : Option Addr) (n c s : Nat) (xs : List Nat) (w : World) (hs : s ≤ 9) (hn : n = 2 ^ s) (hx : Sl w A n c xs) :
    Calls Tryd.prog 16 #[.slice A n c] w fun e w' => Ls w w' e n (fun k => Tr n (rt s) (yx xs) ((n - k) % n) * (n ^ (PP - 2) % PP) % PP) := by
  obtain ⟨i0, hi, hz0, hz1, hz2⟩ := info_parts Tryd.info43
  have hn5 : n ≤ 512 := by rw [hn]; exact Nat.pow_le_pow_right (n := 2) (by decide) hs
  have hn0 : 0 < n := by rw [hn]; exact Nat.pow_pos (by decide)
  have hnB : n < B64 := by have : B64 = 18446744073709551616 := rfl; omega
  have hT := R4Transform_ok A n c s xs w hs hn hx
  have hI := fun W => R4Inverse_ok n W hnB
  obtain ⟨v, hv⟩ : ∃ v, n ^ (PP - 2) % PP = v := ⟨_, rfl⟩
  have hvB : v < B64 := by rw [← hv]; exact PP_B (Nat.mod_lt _ PP_pos)
  rw [hv] at hI ⊢
  obtain ⟨G, hG⟩ : ∃ G : Nat → Nat, Tr n (rt s) (yx xs) = G := ⟨_, rfl⟩
  have hGB : ∀ i, G i < B64 := fun i => by rw [← hG]; exact PP_B (Tr_lt _ _ _ _)
  rw [hG] at hT ⊢
  obtain ⟨F, hF⟩ : ∃ F : Nat → Nat, F = fun k => G ((n - k) % n) * v % PP := ⟨_, rfl⟩
  rw [← hF]
  have hFe : ∀ k, G ((n - k) % n) * v % PP = F k := fun k => by rw [hF]
  have hFB : ∀ i, F i < B64 := fun i => by rw [hF]; exact PP_B (Nat.mod_lt _ PP_pos)
  have HH := Lib.hid (And.intro hT (And.intro hI (And.intro hvB (And.intro hGB (And.intro hFe hFB)))))
  have hnn : ¬ (n : Int) = 0 := by omega
  have hnn2 : ¬ n = 0 := by omega
  have hnw : IntKind.u64.wrap (n : Int) = (n : Int) := wrap_nat n hnB
  clear hT hI hv hvB hG hGB hF hFe hFB hx hn hnB
  go_enter Tryd.func16, Tryd.ntmps16
  go_wp2_with (fail)
  refine HH.out.1.mono ?_
  rintro e w1 ⟨BT, dT, rfl, hsT, hb1⟩
  have HT := Lib.hid (And.intro hsT hb1)
  clear hsT hb1
  go_wp2_with (fail)
  refine (HH.out.2.1 _).mono ?_
  rintro e w2 ⟨rfl, hb2⟩
  have HB := Lib.hid (And.intro (HT.out.1.below hb2) (HT.out.2.trans (hb2.mono HT.out.2.size)))
  obtain ⟨wp, hwp⟩ : ∃ wp, wp = w2 := ⟨_, rfl⟩
  rw [← hwp] at HB
  have H2 : Hid (w2.ownsRow wp.heap.size 43 1 (.slice none 0 0) 0 (uvs (tb 0 F)) ∧ Below wp.heap.size wp w2) := Lib.hid ⟨World.ownsRow_nil _ _ _ _, by rw [hwp]; exact Below.refl _ _⟩
  clear hb2 HT hwp
  go_wp2_with (fail)
  go_loopw [6, 7] (fun ov kv wr => ∃ (k d2 : Nat) (B2 : Option Addr), k ≤ n ∧ kv = .int .i64 k ∧ ov = .slice B2 k d2 ∧ Hid (wr.ownsRow wp.heap.size 43 1 (.slice B2 k d2) k (uvs (tb k F)) ∧ Below wp.heap.size wp wr)) (fun _ kv _ => n - (intOf kv).toNat)
  case atStart => exact ⟨0, 0, none, by omega, rfl, rfl, H2⟩
  case round =>
    clear H2
    obtain ⟨k, d2, B2, hk, rfl, rfl, hK⟩ := hrel
    by_cases hlt : k < n
    · have hki : (k : Int) < n := by omega
      obtain ⟨p, hp⟩ : ∃ p, n - k = p := ⟨_, rfl⟩
      have e0 : (n : Int) - (k : Int) = (p : Int) := by omega
      have e1 : IntKind.i64.wrap (p : Int) = (p : Int) := IntWalk.i64_in _ (by omega)
      obtain ⟨q, hq⟩ : ∃ q, p % n = q := ⟨_, rfl⟩
      have hqi : q < n := by rw [← hq]; exact Nat.mod_lt _ hn0
      have e2 : (p : Int).tmod (n : Int) = (q : Int) := by rw [← hq, Int.tmod_eq_emod_of_nonneg (by omega)]; simp
      have e3 : (p : Int) % (n : Int) = (q : Int) := by rw [← hq]; simp
      have e4 : IntKind.i64.wrap (q : Int) = (q : Int) := IntWalk.i64_in _ (by omega)
      have hqi2 : (q : Int) < n := by omega
      have hq0 : (0 : Int) ≤ (q : Int) := by omega
      obtain ⟨b, o, hA, -, hcx⟩ := (HB.out.1.below hK.out.2).rd hqi
      rw [yx_tb _ hqi] at hcx
      subst hA
      have hst := HH.out.2.2.2.2.1 k
      rw [hp, hq] at hst
      have hT := fun W => R4Times_ok (G q) v W (HH.out.2.2.2.1 q) HH.out.2.2.1
      rw [hst] at hT
      obtain ⟨x, hxv⟩ : ∃ x, G q = x := ⟨_, rfl⟩
      obtain ⟨z, hzv⟩ : ∃ z, F k = z := ⟨_, rfl⟩
      rw [hxv] at hcx hT
      rw [hzv] at hT
      have HX := Lib.hid (And.intro hT hzv)
      clear hT hst hxv hzv hp hq hqi
      go_wp2_with (fail)
      refine (HX.out.1 _).mono ?_
      rintro e w3 ⟨rfl, hb3⟩
      have hown := own_below hK.out.1 hb3 (Nat.le_refl _)
      have HB3 := Lib.hid (hK.out.2.trans (hb3.mono hK.out.2.size))
      have hs3 := HB3.out.size
      clear hK hb3 hcx
      go_wp2_with (at_builtin; refine wpList_append_rd _ rfl (.tmp 20) (.tmp 31) 22 rfl wp.heap.size 43 i0 (.int .u64 0) Tryd.underlying22 hi hz0 hz1 hz2 rfl _ k (uvs (tb k F)) rfl (hown.alloc _) (w3.heap.size + 1) (some ⟨w3.heap.size, 0, none⟩) 1 1 [.int .u64 (z : Int)] rfl rfl (fun _ => ⟨w3.heap.size, 0, rfl, by omega, fun j u hj => by simpa [Addr.add] using hj⟩) (by simp [Value.oneCell']) (by omega) (by simp; omega) ?_)
      intro v4 w4 hown3 hgrow hblk
      obtain ⟨B3, d3, rfl, -⟩ := own_form hown3
      have HN : Hid (w4.ownsRow wp.heap.size 43 1 (.slice B3 (k + 1) d3) (k + 1) (uvs (tb (k + 1) F)) ∧ Below wp.heap.size wp w4) := by
        refine ⟨?_, (HB3.out.alloc hs3 _).grown hgrow (by simp; omega) (fun j hj => (hown.lt j hj).1)⟩
        rw [tb_succ, uvs_append, HX.out.2]
        exact hown3
      clear hown3 hgrow hblk hown HX
      go_wp2_with (fail)
      go_roundw
      case rel => exact ⟨k + 1, d3, B3, by omega, by go_num, rfl, HN⟩
      case measure => simp [intOf]; omega
    · have hki : ¬ (k : Int) < n := by omega
      obtain rfl : k = n := by omega
      go_wp2_with (fail)
      go_ret
      exact ⟨B2, d2, rfl, own_sl hK.out.1 (fun i _ => HH.out.2.2.2.2.2 i), HB.out.2.trans (hK.out.2.mono HB.out.2.size)⟩
end Go.Proofs.YthpgdpkemnhneaaDoor
