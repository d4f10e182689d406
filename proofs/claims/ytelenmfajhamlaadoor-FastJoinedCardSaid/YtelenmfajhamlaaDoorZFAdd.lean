/- The contracts of rows.Add, rows.Take, fast.negate. -/
import Derived.Test.YtelenmfajhamlaaDoorZFAr
import Derived.Test.YtelenmfajhamlaaDoorZGrow
import Derived.Test.YtelenmfajhamlaaDoorP1
namespace Go.Proofs.YtelenmfajhamlaaDoor
open Go.RowKit Go.Shelf
set_option linter.unusedVariables false
set_option linter.unusedSimpArgs false
set_option maxRecDepth 10000

/-- between two rounds: the row, and what is carried -/
def FA (w W : World) (g : Nat) (N : Nat) (zs : List Nat) : Prop := RowAt W g zs ∧ Ws zs ∧ zs.length = N ∧ w.grownBy W (some g)
/-- the row is X, Y less than X, but for a multiple of what it holds -/
def AddR (w W : World) (g N X : Nat) : Prop := ∃ zs' q, FA w W g N zs' ∧ V zs' + q * B64 ^ N = X
def NegR (w W : World) (g N X : Nat) : Prop := ∃ zs' q, FA w W g N zs' ∧ q ≤ 1 ∧ V zs' + X = q * B64 ^ N
def SubR (w W : World) (g N X Y : Nat) : Prop := ∃ zs' q, FA w W g N zs' ∧ V zs' + Y = X + q * B64 ^ N
/-- the same with what is carried out of it -/
def AddC (w W : World) (g N X q : Nat) : Prop := ∃ zs', FA w W g N zs' ∧ V zs' + q * B64 ^ N = X
def SubC (w W : World) (g N X Y q : Nat) : Prop := ∃ zs', FA w W g N zs' ∧ V zs' + Y = X + q * B64 ^ N
theorem AddC.r {w W : World} {g N X q : Nat} (h : AddC w W g N X q) : AddR w W g N X := by obtain ⟨zs, h1, h2⟩ := h; exact ⟨zs, q, h1, h2⟩
theorem SubC.r {w W : World} {g N X Y q : Nat} (h : SubC w W g N X Y q) : SubR w W g N X Y := by obtain ⟨zs, h1, h2⟩ := h; exact ⟨zs, q, h1, h2⟩

set_option maxHeartbeats 1000000 in
theorem fadd_ok (g at_ m cz : Nat) (zs : List Nat) (A : Option Addr) (n c : Nat) (xs : List Nat) (wt : Nat) (N : Nat) (w : World) (hz : RowAt w g zs) (wz : Ws zs) (hN : zs.length = N) (hm : at_ + m = N) (hN5 : N ≤ 100000) (hmc : m ≤ cz) (hcz : cz ≤ 9223372036854775807)
    (hn : n ≤ m) (hx : Sl w A n c xs) (hxg : n ≠ 0 → ∀ a, A = some a → some a.block ≠ some g) (hw : wt < B64) :
    Calls Tryd.prog 92 #[.slice (some ⟨g, at_, none⟩) m cz, .slice A n c, .int .u64 wt] w fun e w' => ∃ cy : Nat, e = .returned (.int .u64 (cy : Int)) ∧ cy < B64 ∧ AddC w w' g N (V zs + wt * V xs * B64 ^ at_) cy := by
  have Hx := Lib.hid (And.intro hx (And.intro hxg (And.intro wz (And.intro hz (And.intro hN hw)))))
  clear hx hxg wz hz hN hw
  go_enter Tryd.func92, Tryd.ntmps92
  go_wp2
  go_loopw [7, 8, 9, 10, 11, 12, 16] (fun cv _ _ _ _ _ iv wr => ∃ (k cy : Nat) (us : List Nat), k ≤ n ∧ iv = .int .i64 k ∧ cv = .int .u64 cy ∧ Hid (cy < B64 ∧ FA w wr g N us ∧ V us + cy * B64 ^ (at_ + k) = V zs + wt * V (xs.take k) * B64 ^ at_)) (fun _ _ _ _ _ _ iv _ => n - (intOf iv).toNat)
  case atStart => exact ⟨0, 0, zs, by omega, rfl, rfl, by decide, ⟨Hx.out.2.2.2.1, Hx.out.2.2.1, Hx.out.2.2.2.2.1, World.grownBy.refl w _⟩, by simp [V]⟩
  case round =>
    obtain ⟨k, cy, us, hk, rfl, rfl, hH⟩ := hrel
    by_cases hlt : k < n
    · have hxl : k < xs.length := by rw [Hx.out.1.1]; exact hlt
      have hul : at_ + k < us.length := by rw [hH.out.2.1.2.2.1]; omega
      have gx := List.getElem?_eq_getElem hxl
      have gz := List.getElem?_eq_getElem hul
      have hvB : xs[k] < B64 := Hx.out.1.2.2.2.1 _ (List.getElem_mem hxl)
      have hzB : us[at_ + k] < B64 := hH.out.2.1.2.1 _ (List.getElem_mem hul)
      have htk := V_take_succ xs k hxl
      obtain ⟨b, o, rfl, _, hcx⟩ := (Hx.out.1.grown' hH.out.2.1.2.2.2 (Hx.out.2.1 (by omega))).2.2.2.2.at (uvs_get gx)
      generalize xs[k] = v at *
      generalize us[at_ + k] = z at *
      obtain ⟨h, l, hm1, hcall⟩ := mul64_any v wt hvB Hx.out.2.2.2.2.2
      have hc := hH.out.1
      obtain ⟨s1, d1, hf1, hc1⟩ := add64_zero l cy hm1.2.1 hc
      obtain ⟨s2, d2, hf2, hc2⟩ := add64_zero z s1 hzB hf1.2.1
      have he := addw hm1.1 hf1.1 hf2.1
      have hlt2 := carry_lt hvB Hx.out.2.2.2.2.2 hc hzB he
      have hrow := add_round gz he rfl hH.out.2.2
      rw [← htk, Nat.add_assoc at_] at hrow
      obtain ⟨k1, hk1⟩ : ∃ k1, k1 = h + d1 := ⟨_, rfl⟩
      obtain ⟨k2, hk2⟩ : ∃ k2, k2 = h + d1 + d2 := ⟨_, rfl⟩
      have e1 : (h : Int) + (d1 : Int) = (k1 : Int) := by omega
      have e2 : (k1 : Int) + (d2 : Int) = (k2 : Int) := by omega
      rw [← hk2] at he hlt2 hrow
      have hw1 : IntKind.u64.wrap (k1 : Int) = (k1 : Int) := by rw [IntKind.wrap_u64]; have : B64 = 18446744073709551616 := rfl; omega
      have hw2 : IntKind.u64.wrap (k2 : Int) = (k2 : Int) := by rw [IntKind.wrap_u64]; have : B64 = 18446744073709551616 := rfl; omega
      have c4 := hH.out.2.1.1.cell gz
      have f4 := hH.out.2.1.1.frozen (at_ + k)
      have hkm : (k : Int) < (m : Int) := by omega
      have HN : Hid (k2 < B64 ∧ FA w (wr.setCell ⟨g, at_ + k, none⟩ (.int .u64 (s2 : Int))) g N (us.set (at_ + k) s2) ∧ V (us.set (at_ + k) s2) + k2 * B64 ^ (at_ + (k + 1)) = V zs + wt * V (xs.take (k + 1)) * B64 ^ at_) :=
        ⟨hlt2, ⟨hH.out.2.1.1.set _ _, Ws_set hH.out.2.1.2.1 _ _ hf2.2.1, by rw [List.length_set]; exact hH.out.2.1.2.2.1, grown_trans hH.out.2.1.2.2.2 (grown_set _ _ _ _)⟩, hrow⟩
      have Hcall := Lib.hid hcall
      clear hcall hxl hul gx gz hvB hzB htk hm1 hc he hlt2 hrow hk1 hk2 hf1 hf2 hH
      go_wp2_with (fail)
      refine (Hcall.out _).mono ?_
      rintro e w1 ⟨rfl, rfl⟩
      go_wp2_with (fail)
      go_roundw
      case rel => exact ⟨k + 1, k2, _, by omega, by go_num, rfl, HN⟩
      case measure => simp [intOf]; omega
    · have hkn : k = n := by omega
      have hni : ¬ (k : Int) < (n : Int) := by omega
      have hI := hH.out.2.2
      rw [hkn, Hx.out.1.take_all] at hI
      have H0 := Lib.hid (And.intro hH.out.1 (And.intro hH.out.2.1 hI))
      clear hH hI
      go_wp2
      go_loopw [7, 13] (fun cv iv wr => ∃ (i j cy : Nat) (us : List Nat), i ≤ m ∧ iv = .int .i64 i ∧ cv = .int .u64 cy ∧ Hid (cy < B64 ∧ j = at_ + i ∧ FA w wr g N us ∧ V us + cy * B64 ^ j = V zs + wt * V xs * B64 ^ at_)) (fun _ iv _ => m - (intOf iv).toNat)
      case atStart => exact ⟨n, at_ + n, cy, us, by omega, rfl, rfl, H0.out.1, rfl, H0.out.2.1, H0.out.2.2⟩
      case round =>
        clear H0
        obtain ⟨i, j, cy, us, hi, rfl, rfl, hH⟩ := hrel
        have hj := hH.out.2.1
        by_cases hlt2 : i < m ∧ 0 < cy
        · obtain ⟨h2, h3⟩ := hlt2
          have hul : j < us.length := by rw [hH.out.2.2.1.2.2.1]; omega
          have gz := List.getElem?_eq_getElem hul
          have hzB : us[j] < B64 := hH.out.2.2.1.2.1 _ (List.getElem_mem hul)
          generalize us[j] = z at *
          obtain ⟨s2, d2, hf2, hc2⟩ := add64_zero z cy hzB hH.out.1
          have c4 := hH.out.2.2.1.1.cell gz
          have f4 := hH.out.2.2.1.1.frozen j
          rw [hj] at c4 f4
          have him : (i : Int) < (m : Int) := by omega
          have hcy : (0 : Int) < (cy : Int) := by omega
          have HN : Hid (d2 < B64 ∧ at_ + i + 1 = at_ + (i + 1) ∧ FA w (wr.setCell ⟨g, at_ + i, none⟩ (.int .u64 (s2 : Int))) g N (us.set j s2) ∧ V (us.set j s2) + d2 * B64 ^ (at_ + i + 1) = V zs + wt * V xs * B64 ^ at_) :=
            ⟨Nat.lt_of_le_of_lt hf2.2.2 B64_one, by omega, ⟨by rw [← hj]; exact hH.out.2.2.1.1.set _ _, Ws_set hH.out.2.2.1.2.1 _ _ hf2.2.1, by rw [List.length_set]; exact hH.out.2.2.1.2.2.1, grown_trans hH.out.2.2.1.2.2.2 (grown_set _ _ _ _)⟩, by rw [← hj]; exact add_rest gz hf2.1 hH.out.2.2.2⟩
          clear hul gz hzB hf2 hH hj
          go_wp2_with (fail)
          go_roundw
          case rel => exact ⟨i + 1, at_ + i + 1, d2, _, by omega, by go_num, rfl, HN⟩
          case measure => simp [intOf]; omega
        · have HcB := Lib.hid hH.out.1
          have HE : Hid (AddC w wr g N (V zs + wt * V xs * B64 ^ at_) cy) := by
            rcases Nat.eq_zero_or_pos cy with h0 | h0
            · refine ⟨us, hH.out.2.2.1, ?_⟩
              have h4 := hH.out.2.2.2
              rw [h0, Nat.zero_mul] at h4
              rw [h0, Nat.zero_mul]
              exact h4
            · refine ⟨us, hH.out.2.2.1, ?_⟩
              have h4 := hH.out.2.2.2
              rw [show j = N by omega] at h4
              exact h4
          rcases (show m ≤ i ∨ (i < m ∧ cy = 0) by omega) with h2 | ⟨h2, h3⟩
          · have him : ¬ (i : Int) < (m : Int) := by omega
            clear hH hlt2 hj
            go_wp2
            go_ret
            exact ⟨cy, rfl, HcB.out, HE.out⟩
          · have him : (i : Int) < (m : Int) := by omega
            subst h3
            clear hH hlt2 hj
            go_wp2
            go_ret
            exact ⟨0, rfl, HcB.out, HE.out⟩

set_option maxHeartbeats 1000000 in
theorem ftake_ok (g at_ m cz : Nat) (zs : List Nat) (A : Option Addr) (n c : Nat) (xs : List Nat) (wt : Nat) (N : Nat) (w : World) (hz : RowAt w g zs) (wz : Ws zs) (hN : zs.length = N) (hm : at_ + m = N) (hN5 : N ≤ 100000) (hmc : m ≤ cz) (hcz : cz ≤ 9223372036854775807)
    (hn : n ≤ m) (hx : Sl w A n c xs) (hxg : n ≠ 0 → ∀ a, A = some a → some a.block ≠ some g) (hw : wt < B64) :
    Calls Tryd.prog 93 #[.slice (some ⟨g, at_, none⟩) m cz, .slice A n c, .int .u64 wt] w fun e w' => ∃ cy : Nat, e = .returned (.int .u64 (cy : Int)) ∧ cy < B64 ∧ SubC w w' g N (V zs) (wt * V xs * B64 ^ at_) cy := by
  have Hx := Lib.hid (And.intro hx (And.intro hxg (And.intro wz (And.intro hz (And.intro hN hw)))))
  clear hx hxg wz hz hN hw
  go_enter Tryd.func93, Tryd.ntmps93
  go_wp2
  go_loopw [7, 8, 9, 10, 11, 12, 16] (fun cv _ _ _ _ _ iv wr => ∃ (k cy : Nat) (us : List Nat), k ≤ n ∧ iv = .int .i64 k ∧ cv = .int .u64 cy ∧ Hid (cy < B64 ∧ FA w wr g N us ∧ V us + wt * V (xs.take k) * B64 ^ at_ = V zs + cy * B64 ^ (at_ + k))) (fun _ _ _ _ _ _ iv _ => n - (intOf iv).toNat)
  case atStart => exact ⟨0, 0, zs, by omega, rfl, rfl, by decide, ⟨Hx.out.2.2.2.1, Hx.out.2.2.1, Hx.out.2.2.2.2.1, World.grownBy.refl w _⟩, by simp [V]⟩
  case round =>
    obtain ⟨k, cy, us, hk, rfl, rfl, hH⟩ := hrel
    by_cases hlt : k < n
    · have hxl : k < xs.length := by rw [Hx.out.1.1]; exact hlt
      have hul : at_ + k < us.length := by rw [hH.out.2.1.2.2.1]; omega
      have gx := List.getElem?_eq_getElem hxl
      have gz := List.getElem?_eq_getElem hul
      have hvB : xs[k] < B64 := Hx.out.1.2.2.2.1 _ (List.getElem_mem hxl)
      have hzB : us[at_ + k] < B64 := hH.out.2.1.2.1 _ (List.getElem_mem hul)
      have htk := V_take_succ xs k hxl
      obtain ⟨b, o, rfl, _, hcx⟩ := (Hx.out.1.grown' hH.out.2.1.2.2.2 (Hx.out.2.1 (by omega))).2.2.2.2.at (uvs_get gx)
      generalize xs[k] = v at *
      generalize us[at_ + k] = z at *
      obtain ⟨h, l, hm1, hcall⟩ := mul64_any v wt hvB Hx.out.2.2.2.2.2
      have hc := hH.out.1
      obtain ⟨s1, d1, hf1, hc1⟩ := add64_zero l cy hm1.2.1 hc
      obtain ⟨s2, d2, hf2, hc2⟩ := sub64_zero z s1 hzB hf1.2.1
      have he := takew hm1.1 hf1.1 hf2.1
      have hlt2 := borrow_lt hvB Hx.out.2.2.2.2.2 hc hf2.2.1 he
      have hrow := take_round gz he rfl hH.out.2.2
      rw [← htk, Nat.add_assoc at_] at hrow
      obtain ⟨k1, hk1⟩ : ∃ k1, k1 = h + d1 := ⟨_, rfl⟩
      obtain ⟨k2, hk2⟩ : ∃ k2, k2 = h + d1 + d2 := ⟨_, rfl⟩
      have e1 : (h : Int) + (d1 : Int) = (k1 : Int) := by omega
      have e2 : (k1 : Int) + (d2 : Int) = (k2 : Int) := by omega
      rw [← hk2] at he hlt2 hrow
      have hw1 : IntKind.u64.wrap (k1 : Int) = (k1 : Int) := by rw [IntKind.wrap_u64]; have : B64 = 18446744073709551616 := rfl; omega
      have hw2 : IntKind.u64.wrap (k2 : Int) = (k2 : Int) := by rw [IntKind.wrap_u64]; have : B64 = 18446744073709551616 := rfl; omega
      have c4 := hH.out.2.1.1.cell gz
      have f4 := hH.out.2.1.1.frozen (at_ + k)
      have hkm : (k : Int) < (m : Int) := by omega
      have HN : Hid (k2 < B64 ∧ FA w (wr.setCell ⟨g, at_ + k, none⟩ (.int .u64 (s2 : Int))) g N (us.set (at_ + k) s2) ∧ V (us.set (at_ + k) s2) + wt * V (xs.take (k + 1)) * B64 ^ at_ = V zs + k2 * B64 ^ (at_ + (k + 1))) :=
        ⟨hlt2, ⟨hH.out.2.1.1.set _ _, Ws_set hH.out.2.1.2.1 _ _ hf2.2.1, by rw [List.length_set]; exact hH.out.2.1.2.2.1, grown_trans hH.out.2.1.2.2.2 (grown_set _ _ _ _)⟩, hrow⟩
      have Hcall := Lib.hid hcall
      clear hcall hxl hul gx gz hvB hzB htk hm1 hc he hlt2 hrow hk1 hk2 hf1 hf2 hH
      go_wp2_with (fail)
      refine (Hcall.out _).mono ?_
      rintro e w1 ⟨rfl, rfl⟩
      go_wp2_with (fail)
      go_roundw
      case rel => exact ⟨k + 1, k2, _, by omega, by go_num, rfl, HN⟩
      case measure => simp [intOf]; omega
    · have hkn : k = n := by omega
      have hni : ¬ (k : Int) < (n : Int) := by omega
      have hI := hH.out.2.2
      rw [hkn, Hx.out.1.take_all] at hI
      have H0 := Lib.hid (And.intro hH.out.1 (And.intro hH.out.2.1 hI))
      clear hH hI
      go_wp2
      go_loopw [7, 13] (fun cv iv wr => ∃ (i j cy : Nat) (us : List Nat), i ≤ m ∧ iv = .int .i64 i ∧ cv = .int .u64 cy ∧ Hid (cy < B64 ∧ j = at_ + i ∧ FA w wr g N us ∧ V us + wt * V xs * B64 ^ at_ = V zs + cy * B64 ^ j)) (fun _ iv _ => m - (intOf iv).toNat)
      case atStart => exact ⟨n, at_ + n, cy, us, by omega, rfl, rfl, H0.out.1, rfl, H0.out.2.1, H0.out.2.2⟩
      case round =>
        clear H0
        obtain ⟨i, j, cy, us, hi, rfl, rfl, hH⟩ := hrel
        have hj := hH.out.2.1
        by_cases hlt2 : i < m ∧ 0 < cy
        · obtain ⟨h2, h3⟩ := hlt2
          have hul : j < us.length := by rw [hH.out.2.2.1.2.2.1]; omega
          have gz := List.getElem?_eq_getElem hul
          have hzB : us[j] < B64 := hH.out.2.2.1.2.1 _ (List.getElem_mem hul)
          generalize us[j] = z at *
          obtain ⟨s2, d2, hf2, hc2⟩ := sub64_zero z cy hzB hH.out.1
          have c4 := hH.out.2.2.1.1.cell gz
          have f4 := hH.out.2.2.1.1.frozen j
          rw [hj] at c4 f4
          have him : (i : Int) < (m : Int) := by omega
          have hcy : (0 : Int) < (cy : Int) := by omega
          have HN : Hid (d2 < B64 ∧ at_ + i + 1 = at_ + (i + 1) ∧ FA w (wr.setCell ⟨g, at_ + i, none⟩ (.int .u64 (s2 : Int))) g N (us.set j s2) ∧ V (us.set j s2) + wt * V xs * B64 ^ at_ = V zs + d2 * B64 ^ (at_ + i + 1)) :=
            ⟨Nat.lt_of_le_of_lt hf2.2.2 B64_one, by omega, ⟨by rw [← hj]; exact hH.out.2.2.1.1.set _ _, Ws_set hH.out.2.2.1.2.1 _ _ hf2.2.1, by rw [List.length_set]; exact hH.out.2.2.1.2.2.1, grown_trans hH.out.2.2.1.2.2.2 (grown_set _ _ _ _)⟩, by rw [← hj]; exact take_rest gz hf2.1 hH.out.2.2.2⟩
          clear hul gz hzB hf2 hH hj
          go_wp2_with (fail)
          go_roundw
          case rel => exact ⟨i + 1, at_ + i + 1, d2, _, by omega, by go_num, rfl, HN⟩
          case measure => simp [intOf]; omega
        · have HcB := Lib.hid hH.out.1
          have HE : Hid (SubC w wr g N (V zs) (wt * V xs * B64 ^ at_) cy) := by
            rcases Nat.eq_zero_or_pos cy with h0 | h0
            · refine ⟨us, hH.out.2.2.1, ?_⟩
              have h4 := hH.out.2.2.2
              rw [h0, Nat.zero_mul] at h4
              rw [h0, Nat.zero_mul]
              exact h4
            · refine ⟨us, hH.out.2.2.1, ?_⟩
              have h4 := hH.out.2.2.2
              rw [show j = N by omega] at h4
              exact h4
          rcases (show m ≤ i ∨ (i < m ∧ cy = 0) by omega) with h2 | ⟨h2, h3⟩
          · have him : ¬ (i : Int) < (m : Int) := by omega
            clear hH hlt2 hj
            go_wp2
            go_ret
            exact ⟨cy, rfl, HcB.out, HE.out⟩
          · have him : (i : Int) < (m : Int) := by omega
            subst h3
            clear hH hlt2 hj
            go_wp2
            go_ret
            exact ⟨0, rfl, HcB.out, HE.out⟩

set_option maxHeartbeats 1000000 in
theorem fneg_ok (g c : Nat) (zs : List Nat) (N : Nat) (w : World) (hz : RowAt w g zs) (wz : Ws zs) (hN : zs.length = N) (hN5 : N ≤ 100000) (hNc : N ≤ c) :
    Calls Tryd.prog 94 #[.slice (some ⟨g, 0, none⟩) N c] w fun e w' => e = .returned (.tuple #[]) ∧ NegR w w' g N (V zs) := by
  have Hx := Lib.hid (And.intro hz (And.intro wz hN))
  clear hz wz hN
  go_enter Tryd.func94, Tryd.ntmps94
  go_wp2
  go_loopw [2, 3, 4, 7] (fun cv _ _ iv wr => ∃ (k cy : Nat) (us : List Nat), k ≤ N ∧ iv = .int .i64 k ∧ cv = .int .u64 cy ∧ Hid (cy ≤ 1 ∧ FA w wr g N us ∧ (∀ j, k ≤ j → us[j]? = zs[j]?) ∧ V (us.take k) + V (zs.take k) = cy * B64 ^ k)) (fun _ _ _ iv _ => N - (intOf iv).toNat)
  case atStart => exact ⟨0, 0, zs, by omega, rfl, rfl, by decide, ⟨Hx.out.1, Hx.out.2.1, Hx.out.2.2, World.grownBy.refl w _⟩, fun _ _ => rfl, by simp [V]⟩
  case round =>
    obtain ⟨k, cy, us, hk, rfl, rfl, hH⟩ := hrel
    by_cases hlt : k < N
    · have hul : k < us.length := by rw [hH.out.2.1.2.2.1]; exact hlt
      have hzl : k < zs.length := by rw [Hx.out.2.2]; exact hlt
      have gz := List.getElem?_eq_getElem hul
      have g0 := hH.out.2.2.1 k (Nat.le_refl _)
      have hzB : us[k] < B64 := hH.out.2.1.2.1 _ (List.getElem_mem hul)
      have ht0 := V_take_succ zs k hzl
      have hzk : zs[k] = us[k] := by rw [gz, List.getElem?_eq_getElem hzl] at g0; injection g0 with g0; exact g0.symm
      rw [hzk] at ht0
      generalize us[k] = z at *
      obtain ⟨s2, d2, hf2, hc2'⟩ := sub64_any 0 z cy (by decide) hzB hH.out.1
      have hc2 : ∀ w, (callFunc 119 #[.int .u64 0, .int .u64 z, .int .u64 cy]).run Tryd.prog w = .ok (.value (.tuple #[.int .u64 (s2 : Int), .int .u64 (d2 : Int)])) w := hc2'
      clear hc2'
      have c4 := hH.out.2.1.1.cell gz
      have f4 := hH.out.2.1.1.frozen k
      have him : (k : Int) < (N : Int) := by omega
      have hst : V ((us.set k s2).take (k + 1)) + V (zs.take (k + 1)) = d2 * B64 ^ (k + 1) := by
        have hl2 : k < (us.set k s2).length := by rw [List.length_set]; exact hul
        have h1 := V_take_succ (us.set k s2) k hl2
        rw [List.getElem_set_self, List.take_set_of_le (Nat.le_refl _)] at h1
        rw [h1, ht0, Nat.pow_succ]
        have h2 := hH.out.2.2.2
        have h3 := hf2.1
        generalize B64 = b at *
        generalize b ^ k = p at *
        grind
      have HN : Hid (d2 ≤ 1 ∧ FA w (wr.setCell ⟨g, k, none⟩ (.int .u64 (s2 : Int))) g N (us.set k s2) ∧ (∀ j, k + 1 ≤ j → (us.set k s2)[j]? = zs[j]?) ∧ V ((us.set k s2).take (k + 1)) + V (zs.take (k + 1)) = d2 * B64 ^ (k + 1)) :=
        ⟨hf2.2.2, ⟨hH.out.2.1.1.set _ _, Ws_set hH.out.2.1.2.1 _ _ hf2.2.1, by rw [List.length_set]; exact hH.out.2.1.2.2.1, grown_trans hH.out.2.1.2.2.2 (grown_set _ _ _ _)⟩, fun j hj => by rw [List.getElem?_set_ne (by omega)]; exact hH.out.2.2.1 j (by omega), hst⟩
      clear hul hzl gz g0 hzB ht0 hzk hf2 hst hH
      go_wp2_with (fail)
      go_roundw
      case rel => exact ⟨k + 1, d2, _, by omega, by go_num, rfl, HN⟩
      case measure => simp [intOf]; omega
    · have hkN : k = N := by omega
      have him : ¬ (k : Int) < (N : Int) := by omega
      have HE : Hid (NegR w wr g N (V zs)) := by
        have h4 := hH.out.2.2.2
        rw [hkN, List.take_of_length_le (by rw [hH.out.2.1.2.2.1]; exact Nat.le_refl _), List.take_of_length_le (by rw [Hx.out.2.2]; exact Nat.le_refl _)] at h4
        exact ⟨us, cy, hH.out.2.1, hH.out.1, h4⟩
      clear hH
      go_wp2
      refine bodyPost_end (v := .tuple #[]) (by simp [results, Tryd.results94, go_sem]) rfl ?_
      exact ⟨rfl, HE.out⟩
end Go.Proofs.YtelenmfajhamlaaDoor
