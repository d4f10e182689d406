/- The walk of the law FastJoined. -/
import Derived.Test.YtelenmfajhamlaaDoorZFAwake
import Derived.Test.YtelenmfajhamlaaDoorZFJdL
import Derived.Test.YtelenmfajhamlaaDoorZFSq
import Derived.Test.YtelenmfajhamlaaDoorZLawF
import Derived.Test.YtelenmfajhamlaaDoorP1
import Derived.OpenShut
namespace Go.Proofs.YtelenmfajhamlaaDoor
open Go.RowKit Go.Shelf
set_option linter.unusedVariables false
set_option linter.unusedSimpArgs false
set_option maxRecDepth 10000

theorem jsum_pieces {xs : List Nat} (hw : Ws xs) (n : Nat) : ∀ k, jsum (fun i => V (pw xs n i)) n k = V xs % B64 ^ (n * k)
  | 0 => by rw [jsum, Nat.mul_zero, Nat.pow_zero, Nat.mod_one]
  | k + 1 => by
    rw [jsum, jsum_pieces hw n k, Nat.mul_add, Nat.mul_one, Nat.pow_add, Nat.mod_mul]
    simp only [pw_val hw]
    rw [Nat.mul_comm n k, Nat.mul_comm (B64 ^ (k * n))]
theorem jsum_all {xs : List Nat} (hw : Ws xs) {n N : Nat} (hn : 1 ≤ n) (hN : (xs.length + n - 1) / n = N) : jsum (fun i => V (pw xs n i)) n N = V xs := by
  rw [jsum_pieces hw, Nat.mod_eq_of_lt]
  refine Nat.lt_of_lt_of_le (V_lt _ hw) (Nat.pow_le_pow_right B64_pos ?_)
  have h1 := Nat.div_add_mod (xs.length + n - 1) n
  have h2 := Nat.mod_lt (xs.length + n - 1) (show 0 < n by omega)
  rw [hN] at h1
  omega
theorem pieces_JL {w W : World} {ls : List (Option Addr × Nat × Nat)} {xs : List Nat} {n : Nat} (hw : Ws xs) (hn : n ≤ 5) (h : NsL w W ls (fun i => V (pw xs n i))) : ∀ (i : Nat) (s : Option Addr × Nat × Nat), ls[i]? = some s → ∃ zs, Sl W s.1 s.2.1 s.2.2 zs ∧ s.2.1 ≤ 5 ∧ V zs = V (pw xs n i) := fun i s hi => by
  obtain ⟨zs, h1, h2, h3⟩ := h i s hi
  replace h3 : V zs = V (pw xs n i) := h3
  have hs := (h1.sc h2).1
  have hl := (Cn_len hs.2.2.2.1 h2 n).2 (by rw [h3, pw_val hw]; exact Nat.mod_lt _ (Nat.pow_pos B64_pos))
  rw [hs.1] at hl
  exact ⟨zs, hs, by omega, h3⟩
theorem cmp_same {x y : Nat} (h : x = y) : cmpI x y = 0 := by simp [cmpI, h]
/-- a list of short numbers that have these values -/
def JS (W : World) (ls : List (Option Addr × Nat × Nat)) (f : Nat → Nat) : Prop := ∀ (i : Nat) (s : Option Addr × Nat × Nat), ls[i]? = some s → ∃ zs, Sl W s.1 s.2.1 s.2.2 zs ∧ s.2.1 ≤ 5 ∧ V zs = f i
theorem JS.below {w W : World} {ls : List (Option Addr × Nat × Nat)} {f : Nat → Nat} (h : JS w ls f) (hb : Below w.heap.size w W) : JS W ls f := fun i s hi => by
  obtain ⟨xs, h1, h2, h3⟩ := h i s hi
  exact ⟨xs, h1.below hb, h2, h3⟩
theorem JS.jl {w : World} {ls : List (Option Addr × Nat × Nat)} {f : Nat → Nat} (h : JS w ls f) : JL w ls f := fun i s hi => by
  obtain ⟨xs, h1, h2, h3⟩ := h i s hi
  exact ⟨xs, h1, by omega, h3⟩
theorem split_row (A : Option Addr) (L c m : Nat) (xs : List Nat) (w : World) (hL : L ≤ 20) (hm1 : 1 ≤ m) (hm5 : m ≤ 5) (hx : Sl w A L c xs) :
    Calls Tryd.prog 12 #[.slice A L c, .int .i64 (m : Int)] w fun e w' => ∃ P cp ls lp f, e = .returned (.tuple #[.slice P lp cp, .int .i64 0]) ∧ ls.length = lp ∧ lp ≤ 20 ∧ jsum f m lp = V xs ∧ Rd w' w'.heap.size P (svs ls) ∧ JS w' ls f ∧ Below w.heap.size w w' := by
  refine (Split_ok A L c m xs w (by omega) hm1 (by omega) hx).mono ?_
  rintro e w' ⟨q, hq, hqv, hqc, P, cp, ls, hl, rfl, ho, hns, hb⟩
  have hwt : Ws (xs.take q) := Ws_take hx.2.2.2.1 q
  have htl : (xs.take q).length = q := by rw [List.length_take, hx.1]; omega
  refine ⟨P, cp, ls, ls.length, fun i => V (pw (xs.take q) m i), rfl, rfl, ?_, ?_, Rd.of_own ho, pieces_JL hwt hm5 hns, hb⟩
  · rw [hl]
    exact Nat.le_trans (Nat.div_le_div_right (c := m) (show q + m - 1 ≤ 20 + m - 1 by omega)) (by rcases (show m = 1 ∨ m = 2 ∨ m = 3 ∨ m = 4 ∨ m = 5 by omega) with rfl | rfl | rfl | rfl | rfl <;> decide)
  · rw [jsum_all hwt hm1 (by rw [htl, hl]), hqv]
theorem sum_lt11 {x d t : Nat} (hx : x ≤ t * B64 ^ 10) (hd : d ≤ B64 ^ 10) (ht : t ≤ 400) : x + d < B64 ^ 11 := by
  have h1 : t * B64 ^ 10 ≤ 400 * B64 ^ 10 := Nat.mul_le_mul_right _ ht
  have h2 : (401 : Nat) * B64 ^ 10 < B64 ^ 11 := by decide
  omega
theorem sum_big {x d t : Nat} (hx : x ≤ t * B64 ^ 10) (hd : d ≤ B64 ^ 10) (ht : t ≤ 400) : x + d < Big := Big_of (sum_lt11 hx hd ht) (by omega)
theorem nsl_len {w W w0 : World} {sl : List (Option Addr × Nat × Nat)} {f : Nat → Nat} {A : Option Addr} {n c t : Nat} {zs : List Nat} (_ : NsL w0 W sl f) (h1 : Nw w W (.slice A n c) n zs) (h2 : Cn zs) (h3 : V zs ≤ t * B64 ^ 10) (ht : t ≤ 400) : n ≤ 11 := by
  have hs := (h1.sc h2).1
  have h4 := (Cn_len hs.2.2.2.1 h2 11).2 (by have := sum_lt11 h3 (Nat.zero_le _) ht; omega)
  rw [hs.1] at h4
  exact h4
theorem smi_jl {w W : World} {g : Nat} {sl : List (Option Addr × Nat × Nat)} {f : Nat → Nat} {M t : Nat} (h : SmI w W g sl f M t) (ht : t ≤ 400) : JL W sl f := fun i s hi => by
  obtain ⟨zs, h1, h2, h3⟩ := h.2.2.1 i s hi
  have hl := (List.getElem?_eq_some_iff.1 hi).1
  rw [h.2.1] at hl
  have h4 := nsl_len h.2.2.1 h1 h2 (by rw [h3]; exact h.2.2.2.1 i hl) ht
  exact ⟨zs, (h1.sc h2).1, by omega, h3⟩
theorem jsum_zero (n : Nat) : ∀ M, jsum (fun _ => 0) n M = 0
  | 0 => rfl
  | M + 1 => by rw [jsum, jsum_zero n M, Nat.zero_mul]
/-- what the law holds before it gathers -/
def Jb (w W : World) (A1 A2 P Q : Option Addr) (k1 k2 d1 d2 : Nat) (us vs : List Nat) (ls ls' : List (Option Addr × Nat × Nat)) (fp fq : Nat → Nat) : Prop :=
  Row2 w W A1 A2 k1 k2 d1 d2 us vs ∧ Rd W W.heap.size P (svs ls) ∧ Rd W W.heap.size Q (svs ls') ∧ JS W ls fp ∧ JS W ls' fq
theorem Jb.keep {w W W' : World} {A1 A2 P Q : Option Addr} {k1 k2 d1 d2 : Nat} {us vs : List Nat} {ls ls' : List (Option Addr × Nat × Nat)} {fp fq : Nat → Nat} (h : Jb w W A1 A2 P Q k1 k2 d1 d2 us vs ls ls' fp fq) (hb : Below W.heap.size W W') : Jb w W' A1 A2 P Q k1 k2 d1 d2 us vs ls ls' fp fq :=
  ⟨h.1.keep hb, (h.2.1.below hb).more hb.size, (h.2.2.1.below hb).more hb.size, h.2.2.2.1.below hb, h.2.2.2.2.below hb⟩
end Go.Proofs.YtelenmfajhamlaaDoor
namespace Go.Proofs.YtelenmfajhamlaaDoor.fastJoined
open Go.ChangeShapes Go.RowKit
set_option linter.unusedVariables false

set_option maxRecDepth 100000 in
set_option maxHeartbeats 8000000 in
theorem walk (w : World) (a0 : Option Addr) (n0 c0 : Nat) (xs : List Nat) (hx : Sl w a0 n0 c0 xs) (a1 : Option Addr) (n1 c1 : Nat) (ys : List Nat) (hy : Sl w a1 n1 c1 ys) (a2 : Int) (w2 : (Lit.int .i64 a2).wf = true) (hT : TabF w) :
    Calls Tryd.prog 9 #[.slice a0 n0 c0, .slice a1 n1 c1, .int .i64 a2] w fun e w' => e = .returned (.bool true) ∧ Below w.heap.size w w' := by
  obtain ⟨i0, hi, hz0, hz1, hz2⟩ := info_parts Tryd.info23
  have Hx := Lib.hid (And.intro hx (And.intro hy hT))
  clear hx hy w2 hT
  obtain ⟨m, hm⟩ : ∃ m, 1 + (IntKind.u64.wrap a2 % 5).toNat = m := ⟨_, rfl⟩
  have hw := IntKind.wrap_u64 a2
  have hm1 : 1 ≤ m := by omega
  have hm5 : m ≤ 5 := by omega
  obtain ⟨s, hs⟩ : ∃ s, IntKind.u64.wrap a2 % 5 = s := ⟨_, rfl⟩
  have hs2 : (IntKind.u64.wrap a2).tmod 5 = s := by rw [Int.tmod_eq_emod_of_nonneg (by rw [hw]; omega)]; exact hs
  have hsb : 0 ≤ s ∧ s ≤ 4 := by omega
  have hms : 1 + s = (m : Int) := by omega
  have hsw : IntKind.i64.wrap s = s := IntWalk.i64_in _ (by omega)
  have hmw : IntKind.i64.wrap (m : Int) = (m : Int) := IntWalk.i64_in _ (by omega)
  clear hm hw
  go_enter Tryd.func9, Tryd.ntmps9
  go_wp2_with (fail)
  refine (few3_row _ _ _ 20 xs _ Hx.out.1 (by omega)).mono ?_
  rintro e w3 ⟨A1, k1, d1, us, rfl, hk1, hs1, -, -, hb1⟩
  have H1 := Lib.hid (And.intro hs1 (And.intro (Hx.out.2.1.below hb1) (And.intro (Hx.out.2.2.below hb1) hb1)))
  clear hs1 hb1
  go_wp2_with (fail)
  refine (few3_row _ _ _ 20 ys _ H1.out.2.1 (by omega)).mono ?_
  rintro e w4 ⟨A2, k2, d2, vs, rfl, hk2, hs2', -, -, hb2⟩
  have H2 : Hid (Row2 w w4 A1 A2 k1 k2 d1 d2 us vs) := ⟨H1.out.1.below hb2, hs2', H1.out.2.2.1.below hb2, H1.out.2.2.2.trans (hb2.mono H1.out.2.2.2.size)⟩
  clear hs2' hb2 H1
  have HL := Lib.hid (And.intro (mul_lt3 H2.out.1 H2.out.2.1 (by omega)) (row_lt3 H2.out.1 (by omega)))
  go_wp2_with (fail)
  refine (split_row A1 k1 d1 m us _ (by omega) hm1 hm5 H2.out.1).mono ?_
  rintro e w5 ⟨P, cp, ls, lp, fp, rfl, hlp, hlp2, hjp, hrp, hfp, hb5⟩
  have H5 := Lib.hid (And.intro (H2.out.keep hb5) (And.intro hrp hfp))
  have HJp := Lib.hid (And.intro hlp hjp)
  clear hrp hfp hb5 H2 hlp hjp
  go_wp2_with (fail)
  refine (split_row A2 k2 d2 m vs _ (by omega) hm1 hm5 H5.out.1.2.1).mono ?_
  rintro e w6 ⟨Q, cq, ls', lq, fq, rfl, hlq, hlq2, hjq, hrq, hfq, hb6⟩
  have H6 : Hid (Jb w w6 A1 A2 P Q k1 k2 d1 d2 us vs ls ls' fp fq) := ⟨H5.out.1.keep hb6, (H5.out.2.1.below hb6).more hb6.size, hrq, H5.out.2.2.below hb6, hfq⟩
  have HJq := Lib.hid (And.intro hlq hjq)
  clear hrq hfq hb6 H5 hlq hjq
  go_wp2_with (fail)
  refine (Join_ok ls fp P lp cp m _ HJp.out.1 (by omega) hm1 (by omega) H6.out.2.1 H6.out.2.2.2.1.jl).mono ?_
  rintro e w7 hR
  rw [HJp.out.2] at hR
  obtain ⟨A3, n3, c3, z3, rfl, h3⟩ := hR.open HL.out.2
  have H7 := Lib.hid (And.intro (H6.out.keep h3.bel) h3)
  clear hR h3 H6
  go_wp2_with (fail)
  refine (RCmp_ok A3 A1 n3 k1 c3 d1 z3 us _ H7.out.2.2.2.2.1 (by omega) H7.out.2.1 H7.out.1.1.1).mono ?_
  rintro e w8 ⟨rfl, hb8⟩
  rw [cmp_same H7.out.2.2.2.1]
  have H8 := Lib.hid (H7.out.1.keep hb8)
  clear hb8 H7
  have hpi : ¬ (20 : Int) < (lp : Int) := by omega
  have hqi : ¬ (20 : Int) < (lq : Int) := by omega
  obtain ⟨M, hM⟩ : ∃ M, lp + lq = M := ⟨_, rfl⟩
  have hMi : (lp : Int) + (lq : Int) = (M : Int) := by omega
  have hMw : IntKind.i64.wrap (M : Int) = (M : Int) := IntWalk.i64_in _ (by omega)
  have hM40 : M ≤ 40 := by omega
  go_wp2_with (at_make; refine wpList_make_full _ rfl _ _ 25 rfl w8.heap.size 23 i0 (.slice none 0 0) 1 Tryd.underlying25 hi hz0 hz1 .i64 .i64 _ _ M rfl rfl rfl rfl (by rw [hz2]; omega) (by unfold maxLen; omega) (Nat.le_refl _) ?_)
  intro w9 hown hgrow
  obtain ⟨g, hg⟩ : ∃ g, g = w8.heap.size := ⟨_, rfl⟩
  have HS0 : Hid (∃ sl f, SmI w8 w9 g sl f M 0 ∧ jsum f m M = 0) := by
    refine ⟨List.replicate M (none, 0, 0), fun _ => 0, ⟨by rw [hg]; exact lrow_zeros hown, List.length_replicate, fun j s hj => ?_, fun _ _ => Nat.zero_le _, below_of_grown hgrow (Nat.le_refl _), by omega⟩, jsum_zero m M⟩
    have := List.eq_of_mem_replicate (List.mem_of_getElem? hj)
    subst this
    exact ⟨[], ⟨rfl, (fun x hx => absurd hx (by simp) : Ws []), World.ownsRow_nil _ _ _ _⟩, Cn_nil, rfl⟩
  rw [← hg]
  clear hown hgrow hpi hqi hg
  go_wp2_with (fail)
  go_loopw [16, 17, 18, 19] (fun iv _ _ _ wr => ∃ i : Nat, i ≤ lp ∧ iv = .int .i64 i ∧ Hid (∃ sl f, SmI w8 wr g sl f M (i * lq) ∧ jsum f m M = jsum fp m i * V vs)) (fun iv _ _ _ _ => lp - (intOf iv).toNat)
  case atStart =>
    obtain ⟨sl, f, h1, h2⟩ := HS0.out
    exact ⟨0, Nat.zero_le _, rfl, sl, f, by rw [Nat.zero_mul]; exact h1, by rw [h2, jsum, Nat.zero_mul]⟩
  case round =>
    clear HS0
    obtain ⟨i, hil, rfl, HI⟩ := hrel
    by_cases hlt : i < lp
    · have hii : (i : Int) < (lp : Int) := by omega
      go_wp2_with (fail)
      go_loopw [17, 18, 19] (fun kv _ _ wr => ∃ k : Nat, k ≤ lq ∧ kv = .int .i64 k ∧ Hid (∃ sl f, SmI w8 wr g sl f M (i * lq + k) ∧ jsum f m M = jsum fp m i * V vs + fp i * B64 ^ (m * i) * jsum fq m k)) (fun kv _ _ _ => lq - (intOf kv).toNat)
      case atStart =>
        obtain ⟨sl, f, h1, h2⟩ := HI.out
        exact ⟨0, Nat.zero_le _, rfl, sl, f, h1, by rw [h2, jsum]; omega⟩
      case round =>
        clear HI
        obtain ⟨k, hkl, rfl, HK⟩ := hrel
        by_cases hlt2 : k < lq
        · have hki : (k : Int) < (lq : Int) := by omega
          obtain ⟨sl, f, hS, hJ⟩ := HK.out
          have HJ := Lib.hid hJ
          have HS := Lib.hid hS
          have hB := H8.out.keep hS.2.2.2.2.1
          have hil : i < ls.length := by rw [HJp.out.1]; exact hlt
          have hkl2 : k < ls'.length := by rw [HJq.out.1]; exact hlt2
          obtain ⟨b, o, hPe, hb1, hc1⟩ := hB.2.1.at (svs_get (List.getElem?_eq_getElem hil))
          obtain ⟨b', o', hQe, hb2, hc2⟩ := hB.2.2.1.at (svs_get (List.getElem?_eq_getElem hkl2))
          obtain ⟨zx, e1, e2, e3⟩ := hB.2.2.2.1 i _ (List.getElem?_eq_getElem hil)
          obtain ⟨zy, e4, e5, e6⟩ := hB.2.2.2.2 k _ (List.getElem?_eq_getElem hkl2)
          generalize ls[i] = z at *
          generalize ls'[k] = z' at *
          obtain ⟨za, zn, zc⟩ := z
          obtain ⟨za', zn', zc'⟩ := z'
          simp only at hc1 hc2 e2 e5
          obtain ⟨d, hd⟩ : ∃ d, V zx * V zy = d := ⟨_, rfl⟩
          have hd10 : d ≤ B64 ^ 10 := by
            rw [← hd, show (10 : Nat) = 5 + 5 from rfl, Nat.pow_add]
            exact Nat.mul_le_mul (Nat.le_of_lt (Nat.lt_of_lt_of_le e1.lt (Nat.pow_le_pow_right B64_pos e2))) (Nat.le_of_lt (Nat.lt_of_lt_of_le e4.lt (Nat.pow_le_pow_right B64_pos e5)))
          have HD := Lib.hid (And.intro hd10 (And.intro hd (And.intro e3 e6)))
          have HZ := Lib.hid (And.intro (show Sl wr za zn zc zx from e1) (show Sl wr za' zn' zc' zy from e4))
          have HDl := Lib.hid (show V zx * V zy < Big from mul_lt3 HZ.out.1 HZ.out.2 (by omega))
          obtain ⟨j, hj⟩ : ∃ j, i + k = j := ⟨_, rfl⟩
          have hjM : j < M := by omega
          have hji : (i : Int) + (k : Int) = (j : Int) := by omega
          have hjw : IntKind.i64.wrap (j : Int) = (j : Int) := IntWalk.i64_in _ (by omega)
          have hjl : j < sl.length := by rw [hS.2.1]; exact hjM
          have hgj := List.getElem?_eq_getElem hjl
          obtain ⟨zs, f1, f2, f3⟩ := hS.2.2.1 j _ hgj
          have hcj := hS.1.cell hgj
          generalize sl[j] = y at *
          obtain ⟨ya, yn, yc⟩ := y
          simp only at hcj f1
          have hfj := hS.2.2.2.1 j hjM
          have HY := Lib.hid (And.intro f1 (And.intro f2 (And.intro f3 hfj)))
          have hjN : (j : Int) < (M : Int) := by omega
          have ht400 : i * lq + k ≤ 400 := Nat.le_trans (Nat.add_le_add (Nat.mul_le_mul (show i ≤ 19 by omega) hlq2) (show k ≤ 20 by omega)) (by decide)
          subst hPe hQe
          clear hB hil hkl2 hd hd10 e1 e3 e4 e6 hS hJ f1 f2 f3 hfj hjl HK
          go_wp2_with (fail)
          go_region_held3 (fun w' => w'.cell? ⟨b, o + i, none⟩ = some (.slice za zn zc) ∧ w'.cell? ⟨b', o' + k, none⟩ = some (.slice za' zn' zc')) (first | exact ⟨hc1, hc2⟩ | exact S1.out | go_keep)
            (first | (go_at_call 27; refine (FMul_ok za za' zn zn' zc zc' zx zy wr.drew (by omega) (by omega) (by omega) (show Sl wr za zn zc zx from HZ.out.1) (show Sl wr za' zn' zc' zy from HZ.out.2)).mono ?_; rintro e w10 hR; obtain ⟨A5, n5, c5, z5, hEq, h5⟩ := hR.open HDl.out; subst hEq; have HB3 := Lib.hid (show Below wr.heap.size wr w10 from belowA h5.bel); have H5 := Lib.hid h5; have S1 := Lib.hid (show w10.cell? ⟨b, o + i, none⟩ = some (.slice za zn zc) ∧ w10.cell? ⟨b', o' + k, none⟩ = some (.slice za' zn' zc') from ⟨(HB3.out.cell (World.block_lt_of_cell? _ _ hc1)).trans hc1, (HB3.out.cell (World.block_lt_of_cell? _ _ hc2)).trans hc2⟩); clear hR h5))
          all_goals
            have hcj2 := (HB3.out.cell (p := ⟨g, j, none⟩) (World.block_lt_of_cell? _ _ hcj)).trans hcj
            clear S1 hc1 hc2 hcj
            go_wp2_with (fail)
            have hyl := nsl_len (HS.out.2.2.1) HY.out.1 HY.out.2.1 (HY.out.2.2.1.symm ▸ HY.out.2.2.2) ht400
            refine (RNAdd_ok ya A5 yn n5 yc c5 zs z5 _ (by omega) H5.out.2.2.2.1 ((HY.out.1.sc HY.out.2.1).1.below HB3.out) H5.out.1).mono ?_
            rintro e w11 hR
            rw [H5.out.2.2.1, HD.out.2.1] at hR
            obtain ⟨A6, n6, c6, z6, rfl, h6⟩ := hR.open (sum_big (HY.out.2.2.1.symm ▸ HY.out.2.2.2) HD.out.1 ht400)
            have hb11 : Below wr.heap.size wr w11 := HB3.out.trans (h6.bel.mono HB3.out.size)
            have hcj3 := (h6.bel.cell (p := ⟨g, j, none⟩) (World.block_lt_of_cell? _ _ hcj2)).trans hcj2
            have hSk := HS.out.keep hb11
            have hfr : w11.frozen? ⟨g, j, none⟩ = false := hSk.1.frozen j
            have HN : Hid (∃ sl f, SmI w8 (w11.setCell ⟨g, j, none⟩ (.slice A6 n6 c6)) g sl f M (i * lq + (k + 1)) ∧ jsum f m M = jsum fp m i * V vs + fp i * B64 ^ (m * i) * jsum fq m (k + 1)) := by
              refine ⟨sl.set j (A6, n6, c6), upd f j (f j + d), ?_, ?_⟩
              · rw [← Nat.add_assoc]
                exact hSk.set hjM (h6.nw.later (Nat.le_trans HS.out.2.2.2.2.1.size HB3.out.size) (Below.refl _ _)) h6.2.1 (by rw [h6.2.2.1, HY.out.2.2.1]) HD.out.1
              · rw [jsum_upd f m j d M hjM, HJ.out, jsum, Nat.mul_add, ← Nat.add_assoc, ← hj, Nat.mul_add m i k, Nat.pow_add, ← HD.out.2.1, HD.out.2.2.1, HD.out.2.2.2]
                congr 1
                generalize B64 ^ (m * i) = p1
                generalize B64 ^ (m * k) = p2
                grind
            clear hR h6 hb11 hSk HB3 H5 HS HJ HD HZ HY hcj2
            go_wp2_with (fail)
            refine ⟨⟨k + 1, by omega, by go_num, HN⟩, ?_⟩
            simp [intOf]; omega
        · obtain rfl : k = lq := by omega
          have hki : ¬ (k : Int) < (k : Int) := by omega
          have HN : Hid (∃ sl f, SmI w8 wr g sl f M ((i + 1) * k) ∧ jsum f m M = jsum fp m (i + 1) * V vs) := by
            obtain ⟨sl, f, h1, h2⟩ := HK.out
            refine ⟨sl, f, by rw [Nat.add_mul, Nat.one_mul]; exact h1, ?_⟩
            rw [h2, HJq.out.2, jsum, Nat.add_mul]
          clear HK
          go_wp2_with (fail)
          refine ⟨⟨i + 1, by omega, by go_num, HN⟩, ?_⟩
          simp [intOf]; omega
    · obtain rfl : i = lp := by omega
      have hii : ¬ (i : Int) < (i : Int) := by omega
      obtain ⟨sl, f, h1, h2⟩ := HI.out
      have HF := Lib.hid (And.intro h1 (h2.trans (by rw [HJp.out.2])))
      clear h1 h2 HI
      have HB := Lib.hid (H8.out.keep HF.out.1.2.2.2.2.1)
      go_wp2_with (fail)
      refine (Join_ok sl f (some ⟨g, 0, none⟩) M M m _ HF.out.1.2.1 (by omega) hm1 (by omega) HF.out.1.1.rd (smi_jl HF.out.1 (Nat.le_trans (Nat.mul_le_mul hlp2 hlq2) (by decide)))).mono ?_
      rintro e w10 hR
      rw [HF.out.2] at hR
      obtain ⟨A5, n5, c5, z5, rfl, h5⟩ := hR.open HL.out.1
      have H9 := Lib.hid (And.intro (HB.out.1.keep h5.bel) h5)
      clear hR h5 HB HF
      go_wp2_with (fail)
      refine (FMul_ok A1 A2 k1 k2 d1 d2 us vs _ (by omega) (by omega) (by omega) H9.out.1.1 H9.out.1.2.1).mono ?_
      rintro e w11 hR
      obtain ⟨A6, n6, c6, z6, rfl, h6⟩ := hR.open HL.out.1
      have H10 := Lib.hid (And.intro (H9.out.1.keep h6.bel) (And.intro (H9.out.2.keep h6.bel) h6))
      clear hR h6 H9
      go_wp2_with (fail)
      refine (RCmp_ok A5 A6 n5 n6 c5 c6 z5 z6 _ H10.out.2.1.2.2.2.1 H10.out.2.2.2.2.2.1 H10.out.2.1.1 H10.out.2.2.1).mono ?_
      rintro e w12 ⟨rfl, hb12⟩
      rw [cmp_same (H10.out.2.1.2.2.1.trans H10.out.2.2.2.2.1.symm)]
      have H12 := Lib.hid (H10.out.1.keep hb12)
      clear hb12 H10
      go_wp2_with (fail)
      refine (fawake_any _ H12.out.2.2.1).mono ?_
      rintro e w13 ⟨rfl, hb13⟩
      have H13 := Lib.hid (H12.out.keep hb13)
      clear hb13 H12
      go_wp2_with (fail)
      go_ret
      exact ⟨rfl, H13.out.2.2.2⟩
end Go.Proofs.YtelenmfajhamlaaDoor.fastJoined
