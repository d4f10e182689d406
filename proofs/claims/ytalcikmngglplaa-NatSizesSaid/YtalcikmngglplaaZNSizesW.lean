/- The walk of the law NatSizes. -/
import Derived.Test.YtalcikmngglplaaZLawR
import Derived.Test.YtalcikmngglplaaP7
import Derived.Test.YtalcikmngglplaaP6
import Derived.Test.YtalcikmngglplaaP4
import Derived.Test.YtalcikmngglplaaP5
import Derived.Test.YtalcikmngglplaaZNCmp
import Derived.Test.YtalcikmngglplaaP2
import Derived.Test.YtalcikmngglplaaZDWErr
import Derived.OpenShut
namespace Go.Proofs.Ytalcikmngglplaa
open Go.RowKit
set_option linter.unusedVariables false
set_option linter.unusedSimpArgs false

theorem pair_err {A A' : Option Addr} {n n' c c' : Nat} {t : TypeId} (w : World) (hn : 4096 < n ∨ 4096 < n') :
    Calls Try.prog 87 #[.slice (some ⟨w.heap.size, 0, none⟩) 2 2] (w.alloc (.cells #[.slice A n c, .slice A' n' c'] t)) fun e w' => e = .returned (.int .i64 2) ∧ (w.alloc (.cells #[.slice A n c, .slice A' n' c'] t)) = w' := by
  have h := checkList_ok [(A, n, c), (A', n', c')] (some ⟨w.heap.size, 0, none⟩) 2 2 (w.alloc (.cells #[.slice A n c, .slice A' n' c'] t)) rfl (by omega) (fun _ => ⟨w.heap.size, 0, rfl, by simp, fun j u hj => by
    match j, hj with
    | 0, hj => simp [svs] at hj; subst hj; simp
    | 1, hj => simp [svs] at hj; subst hj; simp⟩)
  rw [chkS_two_big hn] at h
  exact h
theorem Sum_pair {A A' : Option Addr} {n n' c c' : Nat} {t : TypeId} (w : World) (hn : 4096 < n ∨ 4096 < n') :
    Calls Try.prog 47 #[.slice (some ⟨w.heap.size, 0, none⟩) 2 2] (w.alloc (.cells #[.slice A n c, .slice A' n' c'] t)) fun e w' => e = .returned (.tuple #[.slice none 0 0, .int .i64 2]) ∧ Below w.heap.size w w' :=
  (Sum_err (E := 2) rfl (pair_err w hn)).mono (by rintro e w' ⟨rfl, rfl⟩; exact ⟨rfl, (Below.refl _ _).alloc (Nat.le_refl _) _⟩)
theorem Product_pair {A A' : Option Addr} {n n' c c' : Nat} {t : TypeId} (w : World) (hn : 4096 < n ∨ 4096 < n') :
    Calls Try.prog 48 #[.slice (some ⟨w.heap.size, 0, none⟩) 2 2] (w.alloc (.cells #[.slice A n c, .slice A' n' c'] t)) fun e w' => e = .returned (.tuple #[.slice none 0 0, .int .i64 2]) ∧ Below w.heap.size w w' :=
  (Product_err (E := 2) rfl (pair_err w hn)).mono (by rintro e w' ⟨rfl, rfl⟩; exact ⟨rfl, (Below.refl _ _).alloc (Nat.le_refl _) _⟩)
/-- rows of the greatest words -/
def ones : Nat → List Nat := fun k => List.replicate k (B64 - 1)
def oz (N k : Nat) : List Nat := ones k ++ List.replicate (N - k) 0
theorem oz_zero (N : Nat) : oz N 0 = List.replicate N 0 := by simp [oz, ones]
theorem oz_full (N : Nat) : oz N N = ones N := by simp [oz]
theorem oz_get {N k : Nat} (h : k < N) : (oz N k)[k]? = some 0 := by
  rw [oz, List.getElem?_append_right (by simp [ones]), ones, List.length_replicate, Nat.sub_self, List.getElem?_replicate, if_pos (by omega)]
theorem oz_step {N k : Nat} (h : k < N) : (oz N k).set k (B64 - 1) = oz N (k + 1) := by
  obtain ⟨m, rfl⟩ : ∃ m, N = k + 1 + m := ⟨N - (k + 1), by omega⟩
  rw [oz, oz, ones, ones, List.set_append_right _ _ (by simp), List.length_replicate, Nat.sub_self, show k + 1 + m - k = m + 1 by omega, show k + 1 + m - (k + 1) = m by omega, List.replicate_succ, List.set_cons_zero, List.replicate_succ', List.append_assoc]
  rfl
theorem V_ones (k : Nat) : V (ones k) + 1 = B64 ^ k := by
  induction k with
  | zero => rfl
  | succ k ih =>
    rw [ones, List.replicate_succ, V, Nat.pow_succ]
    rw [ones] at ih
    have h1 : B64 * (V (List.replicate k (B64 - 1)) + 1) = B64 * B64 ^ k := by rw [ih]
    rw [Nat.mul_add, Nat.mul_one] at h1
    rw [Nat.mul_comm (B64 ^ k)]
    have := B64_pos
    omega
end Go.Proofs.Ytalcikmngglplaa
namespace Go.Proofs.Ytalcikmngglplaa.natSizes
open Go.ChangeShapes Go.RowKit
set_option linter.unusedVariables false

set_option maxRecDepth 100000 in
set_option maxHeartbeats 8000000 in
theorem walk (w : World) (a0 : Int) (w0 : (Lit.int .i64 a0).wf = true) (a1 : Option Addr) (n1 c1 : Nat) (ys : List Nat) (hy : Sl w a1 n1 c1 ys) :
    Calls Try.prog 10 #[.int .i64 a0, .slice a1 n1 c1] w fun e w' => e = .returned (.bool true) ∧ Below w.heap.size w w' := by
  have hb := bounds_i64 w0
  have Hy := Lib.hid hy
  obtain ⟨i0, hi, hz0, hz1, hz2⟩ := info_parts Try.info37
  obtain ⟨u, hu⟩ : ∃ u : Nat, IntKind.u64.wrap a0 = (u : Int) := ⟨(a0 % 18446744073709551616).toNat, by rw [IntKind.wrap_u64]; omega⟩
  obtain ⟨q, hq, hq1, hq2⟩ : ∃ q : Nat, q < 3 ∧ (u : Int).tmod 3 = (q : Int) ∧ (u : Int) % 3 = (q : Int) := ⟨u % 3, Nat.mod_lt _ (by decide), by rw [Int.tmod_eq_emod_of_nonneg (by omega)]; omega, by omega⟩
  have hqw : IntKind.i64.wrap (q : Int) = (q : Int) := IntWalk.i64_in _ (by omega)
  obtain ⟨M, hM, hM1, hM2⟩ : ∃ M : Nat, (4097 : Int) + (q : Int) = (M : Int) ∧ 4096 < M ∧ M ≤ 4099 := ⟨4097 + q, by omega, by omega, by omega⟩
  have hMw : IntKind.i64.wrap (M : Int) = (M : Int) := IntWalk.i64_in _ (by omega)
  clear hy w0 hb
  go_enter Try.func10, Try.ntmps10
  go_wp2_with (at_make; refine wpList_make_full _ rfl _ _ 23 rfl w.heap.size 37 i0 (.int .u64 0) 1 Try.underlying23 hi hz0 hz1 .i64 .i64 _ _ M rfl rfl rfl rfl (by rw [hz2]; omega) (by unfold maxLen; omega) (Nat.le_refl _) ?_)
  intro w2 hown hgrow
  have hb2 := below_of_grown hgrow (Nat.le_refl _)
  have hrow := RowAt_zeros (by simpa using hown)
  have hsl : Sl w2 (some ⟨w.heap.size, 0, none⟩) M M (List.replicate M 0) :=
    ⟨by simp, Nat.le_refl _, by omega, fun x hx => by rw [List.eq_of_mem_replicate hx]; decide, fun _ => ⟨w.heap.size, 0, rfl, hrow.lt, fun j u hj => by
      rw [Nat.zero_add]
      rw [uvs, List.getElem?_map] at hj
      obtain ⟨x, hx, rfl⟩ := Option.map_eq_some_iff.1 hj
      exact hrow.cell hx⟩⟩
  obtain ⟨zs, hzs⟩ : ∃ zs, List.replicate M 0 = zs := ⟨_, rfl⟩
  have hvz : V zs = 0 := by rw [← hzs]; have := V_pad [] M; simpa [pad, V] using this
  rw [hzs] at hsl
  generalize (some (⟨w.heap.size, 0, none⟩ : Addr)) = AL at *
  have H2 := Lib.hid (And.intro hsl (And.intro hvz (And.intro (Hy.out.below hb2) hb2)))
  clear hown hgrow hb2 hrow hsl hzs hvz hM hq1 hq2 hqw hq hu hMw
  go_wp2_with (fail)
  refine (few_row _ _ _ 5 ys _ H2.out.2.2.1 (by omega)).mono ?_
  rintro e w3 ⟨A1, k1, d1, us, rfl, hk1, hs1, -, -, hb3⟩
  have hK0 : k1 ≤ 5 := hk1
  have H3 : Hid (Sl w3 AL M M zs ∧ V zs = 0 ∧ Below w.heap.size w w3) := ⟨H2.out.1.below hb3, H2.out.2.1, H2.out.2.2.2.trans (hb3.mono H2.out.2.2.2.size)⟩
  clear hs1 hb3 H2
  go_wp2_with (fail)
  refine (NAdd_big _ _ _ _ _ _ w3 (.inl hM1)).mono ?_
  rintro e w4 ⟨rfl, b4⟩
  have H4 : Hid (Sl w4 AL M M zs ∧ V zs = 0 ∧ Below w.heap.size w w4) := ⟨H3.out.1.below b4, H3.out.2.1, H3.out.2.2.trans (b4.mono H3.out.2.2.size)⟩
  clear b4 H3
  go_wp2_with (fail)
  refine (NSub_big _ _ _ _ _ _ w4 (.inr hM1)).mono ?_
  rintro e w5 ⟨rfl, b5⟩
  have H5 : Hid (Sl w5 AL M M zs ∧ V zs = 0 ∧ Below w.heap.size w w5) := ⟨H4.out.1.below b5, H4.out.2.1, H4.out.2.2.trans (b5.mono H4.out.2.2.size)⟩
  clear b5 H4
  go_wp2_with (fail)
  refine (NMul_big _ _ _ _ _ _ w5 (.inr hM1)).mono ?_
  rintro e w6 ⟨rfl, b6⟩
  have H6 : Hid (Sl w6 AL M M zs ∧ V zs = 0 ∧ Below w.heap.size w w6) := ⟨H5.out.1.below b6, H5.out.2.1, H5.out.2.2.trans (b6.mono H5.out.2.2.size)⟩
  clear b6 H5
  go_wp2_with (fail)
  refine (NSquare_big _ _ _ w6 hM1).mono ?_
  rintro e w7 ⟨rfl, b7⟩
  have H7 : Hid (Sl w7 AL M M zs ∧ V zs = 0 ∧ Below w.heap.size w w7) := ⟨H6.out.1.below b7, H6.out.2.1, H6.out.2.2.trans (b7.mono H6.out.2.2.size)⟩
  clear b7 H6
  go_wp2_with (fail)
  refine (NDivMod_big _ _ _ _ _ _ w7 (.inr hM1)).mono ?_
  rintro e w8 ⟨rfl, b8⟩
  have H8 : Hid (Sl w8 AL M M zs ∧ V zs = 0 ∧ Below w.heap.size w w8) := ⟨H7.out.1.below b8, H7.out.2.1, H7.out.2.2.trans (b8.mono H7.out.2.2.size)⟩
  clear b8 H7
  go_wp2_with (fail)
  refine (NDivWord_big _ _ _ 0 w8 hM1).mono ?_
  rintro e w9 ⟨rfl, b9⟩
  have H9 : Hid (Sl w9 AL M M zs ∧ V zs = 0 ∧ Below w.heap.size w w9) := ⟨H8.out.1.below b9, H8.out.2.1, H8.out.2.2.trans (b9.mono H8.out.2.2.size)⟩
  clear b9 H8
  go_wp2_with (fail)
  refine (NPow_big _ _ _ _ w9 hM1).mono ?_
  rintro e w10 ⟨rfl, b10⟩
  have H10 : Hid (Sl w10 AL M M zs ∧ V zs = 0 ∧ Below w.heap.size w w10) := ⟨H9.out.1.below b10, H9.out.2.1, H9.out.2.2.trans (b10.mono H9.out.2.2.size)⟩
  clear b10 H9
  go_wp2_with (fail)
  refine (NLeft_err (E := 2) rfl (checkShift_big _ _ _ _ w10 hM1)).mono ?_
  rintro e w11 ⟨rfl, b11⟩
  have H11 : Hid (Sl w11 AL M M zs ∧ V zs = 0 ∧ Below w.heap.size w w11) := ⟨H10.out.1.below b11, H10.out.2.1, H10.out.2.2.trans (b11.mono H10.out.2.2.size)⟩
  clear b11 H10
  go_wp2_with (fail)
  refine (NRight_err (E := 2) rfl (checkShift_big _ _ _ _ w11 hM1)).mono ?_
  rintro e w12 ⟨rfl, b12⟩
  have H12 : Hid (Sl w12 AL M M zs ∧ V zs = 0 ∧ Below w.heap.size w w12) := ⟨H11.out.1.below b12, H11.out.2.1, H11.out.2.2.trans (b12.mono H11.out.2.2.size)⟩
  clear b12 H11
  go_wp2_with (fail)
  refine (NLow_err (E := 2) rfl (checkShift_big _ _ _ _ w12 hM1)).mono ?_
  rintro e w13 ⟨rfl, b13⟩
  have H13 : Hid (Sl w13 AL M M zs ∧ V zs = 0 ∧ Below w.heap.size w w13) := ⟨H12.out.1.below b13, H12.out.2.1, H12.out.2.2.trans (b13.mono H12.out.2.2.size)⟩
  clear b13 H12
  go_wp2_with (fail)
  refine (NSetBit_big _ _ _ _ _ w13 hM1).mono ?_
  rintro e w14 ⟨rfl, b14⟩
  have H14 : Hid (Sl w14 AL M M zs ∧ V zs = 0 ∧ Below w.heap.size w w14) := ⟨H13.out.1.below b14, H13.out.2.1, H13.out.2.2.trans (b14.mono H13.out.2.2.size)⟩
  clear b14 H13
  go_wp2_with (fail)
  refine (NAnd_big _ _ _ _ _ _ w14 (.inl hM1)).mono ?_
  rintro e w15 ⟨rfl, b15⟩
  have H15 : Hid (Sl w15 AL M M zs ∧ V zs = 0 ∧ Below w.heap.size w w15) := ⟨H14.out.1.below b15, H14.out.2.1, H14.out.2.2.trans (b15.mono H14.out.2.2.size)⟩
  clear b15 H14
  go_wp2_with (fail)
  refine (NOr_big _ _ _ _ _ _ w15 (.inr hM1)).mono ?_
  rintro e w16 ⟨rfl, b16⟩
  have H16 : Hid (Sl w16 AL M M zs ∧ V zs = 0 ∧ Below w.heap.size w w16) := ⟨H15.out.1.below b16, H15.out.2.1, H15.out.2.2.trans (b16.mono H15.out.2.2.size)⟩
  clear b16 H15
  go_wp2_with (fail)
  refine (NXor_big _ _ _ _ _ _ w16 (.inl hM1)).mono ?_
  rintro e w17 ⟨rfl, b17⟩
  have H17 : Hid (Sl w17 AL M M zs ∧ V zs = 0 ∧ Below w.heap.size w w17) := ⟨H16.out.1.below b17, H16.out.2.1, H16.out.2.2.trans (b17.mono H16.out.2.2.size)⟩
  clear b17 H16
  go_wp2_with (fail)
  refine (Sum_pair w17 (.inr hM1)).mono ?_
  rintro e w18 ⟨rfl, b18⟩
  have H18 : Hid (Sl w18 AL M M zs ∧ V zs = 0 ∧ Below w.heap.size w w18) := ⟨H17.out.1.below b18, H17.out.2.1, H17.out.2.2.trans (b18.mono H17.out.2.2.size)⟩
  clear b18 H17
  go_wp2_with (fail)
  refine (Product_pair w18 (.inl hM1)).mono ?_
  rintro e w19 ⟨rfl, b19⟩
  have H19 : Hid (Sl w19 AL M M zs ∧ V zs = 0 ∧ Below w.heap.size w w19) := ⟨H18.out.1.below b19, H18.out.2.1, H18.out.2.2.trans (b19.mono H18.out.2.2.size)⟩
  clear b19 H18
  go_wp2_with (fail)
  refine (NTrim_ok _ _ _ _ w19 (by omega) H19.out.1).mono ?_
  rintro e w50 hR50
  rw [H19.out.2.1] at hR50
  obtain ⟨A50, n50, c50, zs50, rfl, h50⟩ := hR50.open (Nat.pow_pos B64_pos)
  have H50 := Lib.hid (And.intro (H19.out.1.below h50.bel) (And.intro H19.out.2.1 (And.intro (h50.from H19.out.2.2) (H19.out.2.2.trans (h50.bel.mono H19.out.2.2.size)))))
  clear hR50 h50 H19
  go_wp2_with (fail)
  refine (Is_row H50.out.2.2.1 (A' := none) (n' := 0) (c' := 0) (zs' := []) ⟨rfl, by omega, by omega, Ws_nil, Rd.nil⟩ (by omega) rfl).mono ?_
  rintro e w51 ⟨rfl, b51⟩
  have H51 := Lib.hid (And.intro (H50.out.1.below b51) (And.intro H50.out.2.1 (H50.out.2.2.2.trans (b51.mono H50.out.2.2.2.size))))
  clear b51 H50
  go_wp2_with (fail)
  refine (NLen_ok _ _ _ _ w51 (by omega) H51.out.1).mono ?_
  rintro e w52 ⟨l, rfl, -, hBL, rfl⟩
  rw [H51.out.2.1] at hBL
  obtain rfl : l = 0 := hBL.2.2 rfl
  clear hBL
  go_wp2_with (fail)
  refine (NCmp_ok _ none _ 0 _ 0 _ [] w51 (by omega) (by omega) H51.out.1 ⟨rfl, by omega, by omega, Ws_nil, Rd.nil⟩).mono ?_
  rintro e w53 ⟨rfl, b53⟩
  rw [H51.out.2.1]
  have H53 := Lib.hid (H51.out.2.2.trans (b53.mono H51.out.2.2.size))
  have hc0 : cmpI 0 (V []) = 0 := rfl
  rw [hc0]
  clear b53 H51 hc0
  go_wp2_with (at_make; refine wpList_make_full _ rfl _ _ 23 rfl w53.heap.size 37 i0 (.int .u64 0) 1 Try.underlying23 hi hz0 hz1 .i64 .i64 _ _ 4096 rfl rfl rfl rfl (by rw [hz2]; omega) (by unfold maxLen; omega) (Nat.le_refl _) ?_)
  intro w54 hown hgrow
  have hb54 := below_of_grown hgrow (Nat.le_refl _)
  have hrow := RowAt_zeros hown
  obtain ⟨N, hN⟩ : ∃ N : Nat, N = 4096 := ⟨_, rfl⟩
  rw [← hN] at hrow
  have H54 : Hid (RowAt w54 w53.heap.size (oz N 0) ∧ Below w.heap.size w w54) := ⟨by rw [oz_zero]; exact hrow, H53.out.trans (hb54.mono H53.out.size)⟩
  have hg0 := H53.out.size
  have HN := Lib.hid hN
  clear hown hgrow hb54 hrow H53 hN
  generalize w53.heap.size = g at *
  go_wp2_with (fail)
  go_loopw [43] (fun iv wr => ∃ k : Nat, k ≤ 4096 ∧ iv = .int .i64 k ∧ Hid (RowAt wr g (oz N k) ∧ Below w.heap.size w wr)) (fun iv _ => 4096 - (intOf iv).toNat)
  case atStart => exact ⟨0, by omega, rfl, H54.out⟩
  case round =>
    clear H54
    obtain ⟨k, hk, rfl, hH⟩ := hrel
    by_cases hlt : k < 4096
    · have hki : (k : Int) < 4096 := by omega
      have hkN : k < N := by rw [HN.out]; exact hlt
      have hcz := hH.out.1.cell (oz_get hkN)
      have hfz := hH.out.1.frozen k
      have hst := hH.out.1.set k (B64 - 1)
      rw [oz_step hkN, show ((B64 - 1 : Nat) : Int) = 18446744073709551615 from rfl] at hst
      have HR : Hid (RowAt (wr.setCell ⟨g, k, none⟩ (.int .u64 18446744073709551615)) g (oz N (k + 1)) ∧ Below w.heap.size w (wr.setCell ⟨g, k, none⟩ (.int .u64 18446744073709551615))) := ⟨hst, hH.out.2.setCell (p := ⟨g, k, none⟩) hg0 _⟩
      clear hst hH hkN
      go_wp2_with (fail)
      go_roundw
      case rel => exact ⟨k + 1, by omega, by go_num, HR⟩
      case measure => simp [intOf]; omega
    · have hki : ¬ (k : Int) < 4096 := by omega
      have hkN : k = N := by rw [HN.out]; omega
      have hR := hH.out.1
      rw [hkN, oz_full] at hR
      have hsl : Sl wr (some ⟨g, 0, none⟩) 4096 4096 (ones N) := ⟨by rw [ones, List.length_replicate]; exact HN.out, Nat.le_refl _, by omega, fun x hx => by rw [List.eq_of_mem_replicate hx]; decide, fun _ => ⟨g, 0, rfl, hR.lt, fun j u hj => by
        rw [Nat.zero_add]
        rw [uvs, List.getElem?_map] at hj
        obtain ⟨x, hx, rfl⟩ := Option.map_eq_some_iff.1 hj
        exact hR.cell hx⟩⟩
      have hv : V (ones N) + 1 = Big := by rw [V_ones, show N = Most from HN.out]; rfl
      have H60 := Lib.hid (And.intro hsl hH.out.2)
      have HV := Lib.hid hv
      clear hsl hv hR hH hkN
      go_wp2_with (fail)
      refine (NAdd_ok _ _ 4096 1 4096 1 (ones N) [1] _ (by omega) (by omega) (H60.out.1.below (W1_below wr 1)) (Sl_one wr 1 (by decide))).mono ?_
      rintro e w61 hR61
      obtain ⟨⟨_, _, _, hbad⟩ | ⟨rfl, _⟩, b61⟩ := hR61
      · exact absurd hbad (by have := HV.out; simp only [V]; omega)
      have H61 := Lib.hid (And.intro ((H60.out.1.below (W1_below wr 1)).below b61) ((H60.out.2.trans ((W1_below wr 1).mono H60.out.2.size)).trans (b61.mono ((H60.out.2.trans ((W1_below wr 1).mono H60.out.2.size)).size))))
      clear b61 H60
      go_wp2_with (fail)
      refine (NMul_ok _ _ 4096 1 4096 1 (ones N) [2] _ (by omega) (by omega) (H61.out.1.below (W1_below w61 2)) (Sl_one w61 2 (by decide))).mono ?_
      rintro e w62 hR62
      obtain ⟨⟨_, _, _, hbad⟩ | ⟨rfl, _⟩, b62⟩ := hR62
      · exact absurd hbad (by have := HV.out; have := B64_pos; have h2 : 2 ≤ Big := Nat.le_trans (by decide) (Nat.pow_le_pow_right B64_pos (show 1 ≤ Most by decide)); simp only [V]; omega)
      have H62 := Lib.hid (And.intro ((H61.out.1.below (W1_below w61 2)).below b62) ((H61.out.2.trans ((W1_below w61 2).mono H61.out.2.size)).trans (b62.mono ((H61.out.2.trans ((W1_below w61 2).mono H61.out.2.size)).size))))
      clear b62 H61
      go_wp2_with (fail)
      refine (NAdd_ok _ none 4096 0 4096 0 (ones N) [] w62 (by omega) (by omega) H62.out.1 ⟨rfl, by omega, by omega, Ws_nil, Rd.nil⟩).mono ?_
      rintro e w63 hR63
      obtain ⟨A63, n63, c63, zs63, rfl, h63⟩ := hR63.open (by have := HV.out; simp only [V]; omega)
      have H63 := Lib.hid (And.intro (H62.out.1.below h63.bel) (h63.from H62.out.2))
      clear hR63 h63 H62
      go_wp2_with (fail)
      refine (Is_row H63.out.2 H63.out.1 (by omega) (by simp [V])).mono ?_
      rintro e w64 ⟨rfl, b64⟩
      have H64 := Lib.hid (H63.out.2.keep b64).bel
      clear b64 H63
      go_wp2_with (fail)
      refine (nawake_any _).mono ?_
      rintro e w65 ⟨rfl, b65⟩
      go_wp2_with (fail)
      go_ret
      exact ⟨rfl, H64.out.trans (b65.mono H64.out.size)⟩
end Go.Proofs.Ytalcikmngglplaa.natSizes
