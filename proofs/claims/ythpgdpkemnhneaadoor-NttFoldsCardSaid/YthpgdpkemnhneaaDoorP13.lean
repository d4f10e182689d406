/- Pieces of the proofs, together: YProd, YLen, YRoots, YTz, YTurn, YWork, YTrans, YBack, YPrd. -/
import Derived.Laws.CopyOwn
import Derived.Shelf.Spec.TrailingZeros
import Derived.Maps.OwnOps
import Derived.Maps.OwnSet
import Derived.Maps.Views
import Derived.Deep.RegionHeld3
import Derived.RangeFuncBox
import Derived.Test.YthpgdpkemnhneaaDoorP12
import Derived.Test.YthpgdpkemnhneaaDoorP1
import Derived.Test.YthpgdpkemnhneaaDoorP8
import Derived.Test.YthpgdpkemnhneaaDoorP2

namespace Go.Proofs.YthpgdpkemnhneaaDoor
open Go.RowKit Go.Shelf
set_option linter.unusedVariables false
set_option linter.unusedSimpArgs false
set_option maxRecDepth 10000

theorem RwR.later {t : TypeId} {w w0 w' : World} {e : Ending} {n : Nat} {f : Nat → Nat} (h : RwR t w w' e n f) (hb : Below w0.heap.size w0 w) : RwR t w0 w' e n f := by
  obtain ⟨g, c, h1, h5, h6, h2, h3, h4⟩ := h
  exact ⟨g, c, h1, h5, h6, h2, Nat.le_trans hb.size h3, hb.trans (h4.mono hb.size)⟩

set_option maxHeartbeats 400000 in
theorem words_ok (A : Option Addr) (n c : Nat) (xs : List Nat) (w : World) (hn : n ≤ 100000) (hx : Sl w A n c xs) :
    Calls Tryd.prog 38 #[.slice A n c] w fun e w' => RwR 43 w w' e n (yx xs) := by
  obtain ⟨i0, hi, hz0, hz1, hz2⟩ := info_parts Tryd.info43
  have Hx := Lib.hid hx
  clear hx
  go_enter Tryd.func38, Tryd.ntmps38
  go_wp2_with (at_make; refine wpList_make_full _ rfl _ _ 22 rfl w.heap.size 43 i0 (.int .u64 0) 1 Tryd.underlying22 hi hz0 hz1 .i64 .i64 _ _ n rfl rfl rfl rfl (by rw [hz2]; omega) (by unfold maxLen; omega) (Nat.le_refl _) ?_)
  intro w1 hown hgrow
  have hb1 := below_of_grown hgrow (Nat.le_refl _)
  have hr := Rw.made hown
  obtain ⟨g, hg⟩ : ∃ g, g = w.heap.size := ⟨_, rfl⟩
  rw [← hg] at hr ⊢
  have H0 : Hid (Below w.heap.size w w1 ∧ Rw 43 w1 g n (fun i => if i < 0 then yx xs i else 0) ∧ w.heap.size ≤ g) := ⟨hb1, hr.congr (fun i _ => by simp), by omega⟩
  clear hown hgrow hb1 hr hg
  go_wp2_with (fail)
  go_loopw [4, 5, 11] (fun _ _ iv wr => ∃ (k : Nat), k ≤ n ∧ iv = .int .i64 k ∧ Hid (Below w.heap.size w wr ∧ Rw 43 wr g n (fun i => if i < k then yx xs i else 0) ∧ w.heap.size ≤ g)) (fun _ _ iv _ => n - (intOf iv).toNat)
  case atStart => exact ⟨0, Nat.zero_le _, rfl, H0⟩
  case round =>
    clear H0
    obtain ⟨k, hk, rfl, hH⟩ := hrel
    by_cases hlt : k < n
    · have hki : (k : Int) < n := by omega
      have hc := hH.out.2.1.cell hlt
      have hf := hH.out.2.1.frozen k
      obtain ⟨b, o, rfl, -, hcx⟩ := (Hx.out.below hH.out.1).rd hlt
      obtain ⟨x, hxv⟩ : ∃ x, yx xs k = x := ⟨_, rfl⟩
      rw [hxv] at hcx
      have HN : Hid (Below w.heap.size w (wr.setCell ⟨g, k, none⟩ (.int .u64 x)) ∧ Rw 43 (wr.setCell ⟨g, k, none⟩ (.int .u64 x)) g n (fun i => if i < k + 1 then yx xs i else 0) ∧ w.heap.size ≤ g) := by
        obtain ⟨h1, h2, h3⟩ := hH.out
        refine ⟨h1.setCell h3 _, (h2.set k (by rw [← hxv]; exact yx_lt Hx.out.2.2.2.1 k)).congr fun i hi => ?_, h3⟩
        by_cases h5 : i = k
        · subst h5; simp [hxv]
        · by_cases h6 : i < k
          · simp [h5, h6, show i < k + 1 by omega]
          · simp [h5, h6, show ¬ i < k + 1 by omega]
      clear hH hxv
      go_wp2_with (fail)
      go_roundw
      case rel => exact ⟨k + 1, by omega, by go_num, HN⟩
      case measure => simp [intOf]; omega
    · have hki : ¬ (k : Int) < n := by omega
      obtain rfl : k = n := by omega
      go_wp2_with (fail)
      go_ret
      exact ⟨g, _, rfl, Nat.le_refl _, by omega, (hH.out.2.1.congr (fun i hi => by simp [hi])).pre, hH.out.2.2, hH.out.1⟩

set_option maxHeartbeats 400000 in
theorem productsR_ok (A A' : Option Addr) (n n' c c' : Nat) (xs ys : List Nat) (w : World) (hn : n ≤ 100000) (hn' : n ≤ n') (hn2 : n' ≤ 100000) (hx : Sl w A n c xs) (hy : Sl w A' n' c' ys) (hxP : ∀ i, i < n → yx xs i < PP) (hyP : ∀ i, i < n → yx ys i < PP) :
    Calls Tryd.prog 81 #[.slice A n c, .slice A' n' c'] w fun e w' => RwR 68 w w' e n (fun i => yx xs i * yx ys i % PP) := by
  obtain ⟨i0, hi, hz0, hz1, hz2⟩ := info_parts Tryd.info68
  have Hx := Lib.hid (And.intro hx (And.intro hy (And.intro hxP hyP)))
  clear hx hy hxP hyP
  go_enter Tryd.func81, Tryd.ntmps81
  go_wp2_with (at_make; refine wpList_make_full _ rfl _ _ 51 rfl w.heap.size 68 i0 (.int .u64 0) 1 Tryd.underlying51 hi hz0 hz1 .i64 .i64 _ _ n rfl rfl rfl rfl (by rw [hz2]; omega) (by unfold maxLen; omega) (Nat.le_refl _) ?_)
  intro w1 hown hgrow
  have hb1 := below_of_grown hgrow (Nat.le_refl _)
  have hr := Rw.made hown
  obtain ⟨g, hg⟩ : ∃ g, g = w.heap.size := ⟨_, rfl⟩
  rw [← hg] at hr ⊢
  have H0 : Hid (Below w.heap.size w w1 ∧ Rw 68 w1 g n (fun i => if i < 0 then yx xs i * yx ys i % PP else 0) ∧ w.heap.size ≤ g) := ⟨hb1, hr.congr (fun i _ => by simp), by omega⟩
  clear hown hgrow hb1 hr hg
  go_wp2_with (fail)
  go_loopw [6, 7, 13] (fun _ _ iv wr => ∃ (k : Nat), k ≤ n ∧ iv = .int .i64 k ∧ Hid (Below w.heap.size w wr ∧ Rw 68 wr g n (fun i => if i < k then yx xs i * yx ys i % PP else 0) ∧ w.heap.size ≤ g)) (fun _ _ iv _ => n - (intOf iv).toNat)
  case atStart => exact ⟨0, Nat.zero_le _, rfl, H0⟩
  case round =>
    clear H0
    obtain ⟨k, hk, rfl, hH⟩ := hrel
    by_cases hlt : k < n
    · have hki : (k : Int) < n := by omega
      have hki2 : (k : Int) < n' := by omega
      have hc := hH.out.2.1.cell hlt
      have hf := hH.out.2.1.frozen k
      obtain ⟨b, o, rfl, -, hcx⟩ := (Hx.out.1.below hH.out.1).rd hlt
      obtain ⟨b2, o2, rfl, -, hcy⟩ := (Hx.out.2.1.below hH.out.1).rd (show k < n' by omega)
      obtain ⟨x, hxv⟩ : ∃ x, yx xs k = x := ⟨_, rfl⟩
      obtain ⟨y, hyv⟩ : ∃ y, yx ys k = y := ⟨_, rfl⟩
      rw [hxv] at hcx
      rw [hyv] at hcy
      obtain ⟨r, hr⟩ : ∃ r, x * y % PP = r := ⟨_, rfl⟩
      have HP := Lib.hid (show x < PP ∧ y < PP ∧ x * y % PP = r by
        refine ⟨?_, ?_, hr⟩
        · rw [← hxv]; exact Hx.out.2.2.1 k hlt
        · rw [← hyv]; exact Hx.out.2.2.2 k hlt)
      have HN : Hid (Below w.heap.size w (wr.setCell ⟨g, k, none⟩ (.int .u64 r)) ∧ Rw 68 (wr.setCell ⟨g, k, none⟩ (.int .u64 r)) g n (fun i => if i < k + 1 then yx xs i * yx ys i % PP else 0) ∧ w.heap.size ≤ g) := by
        obtain ⟨h1, h2, h3⟩ := hH.out
        refine ⟨h1.setCell h3 _, (h2.set k (by rw [← hr]; exact Nat.lt_trans (Nat.mod_lt _ PP_pos) PP_lt)).congr fun i hi => ?_, h3⟩
        by_cases h5 : i = k
        · subst h5; simp [hxv, hyv, hr]
        · by_cases h6 : i < k
          · simp [h5, h6, show i < k + 1 by omega]
          · simp [h5, h6, show ¬ i < k + 1 by omega]
      clear hH hxv hyv hr
      go_wp2_with (fail)
      refine (times_ok x y _ HP.out.1 HP.out.2.1).mono ?_
      rintro e w2 ⟨rfl, rfl⟩
      rw [HP.out.2.2]
      go_wp2_with (fail)
      go_roundw
      case rel => exact ⟨k + 1, by omega, by go_num, HN⟩
      case measure => simp [intOf]; omega
    · have hki : ¬ (k : Int) < n := by omega
      obtain rfl : k = n := by omega
      go_wp2_with (fail)
      go_ret
      exact ⟨g, _, rfl, Nat.le_refl _, by omega, (hH.out.2.1.congr (fun i hi => by simp [hi])).pre, hH.out.2.2, hH.out.1⟩

set_option maxHeartbeats 400000 in
theorem productsU_ok (A A' : Option Addr) (n n' c c' : Nat) (xs ys : List Nat) (w : World) (hn : n ≤ 100000) (hn' : n ≤ n') (hn2 : n' ≤ 100000) (hx : Sl w A n c xs) (hy : Sl w A' n' c' ys) (hxP : ∀ i, i < n → yx xs i < PP) (hyP : ∀ i, i < n → yx ys i < PP) :
    Calls Tryd.prog 83 #[.slice A n c, .slice A' n' c'] w fun e w' => RwR 68 w w' e n (fun i => yx xs i * yx ys i % PP) := by
  obtain ⟨i0, hi, hz0, hz1, hz2⟩ := info_parts Tryd.info68
  have Hx := Lib.hid (And.intro hx (And.intro hy (And.intro hxP hyP)))
  clear hx hy hxP hyP
  go_enter Tryd.func83, Tryd.ntmps83
  go_wp2_with (at_make; refine wpList_make_full _ rfl _ _ 51 rfl w.heap.size 68 i0 (.int .u64 0) 1 Tryd.underlying51 hi hz0 hz1 .i64 .i64 _ _ n rfl rfl rfl rfl (by rw [hz2]; omega) (by unfold maxLen; omega) (Nat.le_refl _) ?_)
  intro w1 hown hgrow
  have hb1 := below_of_grown hgrow (Nat.le_refl _)
  have hr := Rw.made hown
  obtain ⟨g, hg⟩ : ∃ g, g = w.heap.size := ⟨_, rfl⟩
  rw [← hg] at hr ⊢
  have H0 : Hid (Below w.heap.size w w1 ∧ Rw 68 w1 g n (fun i => if i < 0 then yx xs i * yx ys i % PP else 0) ∧ w.heap.size ≤ g) := ⟨hb1, hr.congr (fun i _ => by simp), by omega⟩
  clear hown hgrow hb1 hr hg
  go_wp2_with (fail)
  go_loopw [6, 7, 13] (fun _ _ iv wr => ∃ (k : Nat), k ≤ n ∧ iv = .int .i64 k ∧ Hid (Below w.heap.size w wr ∧ Rw 68 wr g n (fun i => if i < k then yx xs i * yx ys i % PP else 0) ∧ w.heap.size ≤ g)) (fun _ _ iv _ => n - (intOf iv).toNat)
  case atStart => exact ⟨0, Nat.zero_le _, rfl, H0⟩
  case round =>
    clear H0
    obtain ⟨k, hk, rfl, hH⟩ := hrel
    by_cases hlt : k < n
    · have hki : (k : Int) < n := by omega
      have hki2 : (k : Int) < n' := by omega
      have hc := hH.out.2.1.cell hlt
      have hf := hH.out.2.1.frozen k
      obtain ⟨b, o, rfl, -, hcx⟩ := (Hx.out.1.below hH.out.1).rd hlt
      obtain ⟨b2, o2, rfl, -, hcy⟩ := (Hx.out.2.1.below hH.out.1).rd (show k < n' by omega)
      obtain ⟨x, hxv⟩ : ∃ x, yx xs k = x := ⟨_, rfl⟩
      obtain ⟨y, hyv⟩ : ∃ y, yx ys k = y := ⟨_, rfl⟩
      rw [hxv] at hcx
      rw [hyv] at hcy
      obtain ⟨r, hr⟩ : ∃ r, x * y % PP = r := ⟨_, rfl⟩
      have HP := Lib.hid (show x < PP ∧ y < PP ∧ x * y % PP = r by
        refine ⟨?_, ?_, hr⟩
        · rw [← hxv]; exact Hx.out.2.2.1 k hlt
        · rw [← hyv]; exact Hx.out.2.2.2 k hlt)
      have HN : Hid (Below w.heap.size w (wr.setCell ⟨g, k, none⟩ (.int .u64 r)) ∧ Rw 68 (wr.setCell ⟨g, k, none⟩ (.int .u64 r)) g n (fun i => if i < k + 1 then yx xs i * yx ys i % PP else 0) ∧ w.heap.size ≤ g) := by
        obtain ⟨h1, h2, h3⟩ := hH.out
        refine ⟨h1.setCell h3 _, (h2.set k (by rw [← hr]; exact Nat.lt_trans (Nat.mod_lt _ PP_pos) PP_lt)).congr fun i hi => ?_, h3⟩
        by_cases h5 : i = k
        · subst h5; simp [hxv, hyv, hr]
        · by_cases h6 : i < k
          · simp [h5, h6, show i < k + 1 by omega]
          · simp [h5, h6, show ¬ i < k + 1 by omega]
      clear hH hxv hyv hr
      go_wp2_with (fail)
      refine (times_ok x y _ HP.out.1 HP.out.2.1).mono ?_
      rintro e w2 ⟨rfl, rfl⟩
      rw [HP.out.2.2]
      go_wp2_with (fail)
      go_roundw
      case rel => exact ⟨k + 1, by omega, by go_num, HN⟩
      case measure => simp [intOf]; omega
    · have hki : ¬ (k : Int) < n := by omega
      obtain rfl : k = n := by omega
      go_wp2_with (fail)
      go_ret
      exact ⟨g, _, rfl, Nat.le_refl _, by omega, (hH.out.2.1.congr (fun i hi => by simp [hi])).pre, hH.out.2.2, hH.out.1⟩

theorem splice_pad {n m : Nat} {xs : List Nat} (hm : m ≤ n) (hl : xs.length = m) : splice (uvs (tb n (fun _ => 0))) 0 (uvs xs) = uvs (tb n (yx xs)) := by
  have h1 : tb n (yx xs) = xs ++ (tb n (fun _ => 0)).drop m := by
    apply List.ext_getElem?
    intro i
    rcases Nat.lt_or_ge i n with h | h
    · rw [tb_get _ h]
      rcases Nat.lt_or_ge i m with h2 | h2
      · rw [List.getElem?_append_left (by omega)]; simp [yx, List.getD_eq_getElem?_getD, List.getElem?_eq_getElem (show i < xs.length by omega)]
      · rw [List.getElem?_append_right (by omega), yx_far (by omega), List.getElem?_drop, tb_get _ (by omega)]
    · rw [List.getElem?_eq_none (by simp [tb_length]; omega), List.getElem?_eq_none (by simp [tb_length]; omega)]
  rw [h1]
  simp [splice, uvs, hl, List.map_drop]

theorem size1R : (Tryd.prog.info? 68).map (·.size) = some 1 := by kernel_rfl
set_option maxHeartbeats 400000 in
theorem paddedR_ok (A : Option Addr) (m n c : Nat) (xs : List Nat) (w : World) (hm : m ≤ n) (hn : n ≤ 100000) (hx : Sl w A m c xs) :
    Calls Tryd.prog 102 #[.slice A m c, .int .i64 n] w fun e w' => RwR 68 w w' e n (yx xs) := by
  obtain ⟨i0, hi, hz0, hz1, hz2⟩ := info_parts Tryd.info68
  have Hx := Lib.hid hx
  clear hx
  go_enter Tryd.func102, Tryd.ntmps102
  go_wp2_with (at_make; refine wpList_make_full _ rfl _ _ 51 rfl w.heap.size 68 i0 (.int .u64 0) 1 Tryd.underlying51 hi hz0 hz1 .i64 .i64 _ _ n rfl rfl rfl rfl (by rw [hz2]; omega) (by unfold maxLen; omega) (Nat.le_refl _) ?_)
  intro w1 hown hgrow
  have hb1 := below_of_grown hgrow (Nat.le_refl _)
  have hr := Rw.made hown
  obtain ⟨g, hg⟩ : ∃ g, g = w.heap.size := ⟨_, rfl⟩
  rw [← hg] at hr ⊢
  have hcs : (uvs xs).length = Nat.min m n := by rw [uvs_length, Hx.out.1]; exact (Nat.min_eq_left hm).symm
  have hpos : 0 < (uvs xs).length → (some (⟨g, 0, none⟩ : Addr)) = some ⟨g, 0, none⟩ ∧ ∃ ad, A = some ad ∧ ∀ j v, (uvs xs)[j]? = some v → w1.cell? (ad.add j) = some v := by
    intro h0
    obtain ⟨b, o, rfl, _, hc⟩ := (Hx.out.2.2.2.2.below hb1) (by intro e; rw [e] at h0; simp at h0)
    exact ⟨rfl, ⟨b, o, none⟩, rfl, fun j v hj => by rw [Addr.add_lit]; exact hc j v hj⟩
  have hfit : 0 + (uvs xs).length ≤ (uvs (tb n (fun _ => 0))).length := by rw [uvs_length, uvs_length, tb_length, Hx.out.1]; omega
  have H := Lib.hid (And.intro hr.1 (And.intro hcs (And.intro hpos (And.intro hfit (And.intro hb1 (show w.heap.size ≤ g by omega))))))
  clear hown hgrow hb1 hr hg hcs hpos hfit
  go_wp2_with (with_reducible refine wpList_copy_splice rfl (.tmp 8) (.tmp 9) 51 51 rfl 68 Tryd.underlying51 size1R _ _ _ _ _ _ rfl rfl g 0 (uvs (tb n (fun _ => 0))) 68 H.out.1 (uvs xs) H.out.2.1 H.out.2.2.1 H.out.2.2.2.1 (uvs_one xs) w.heap.size w H.out.2.2.2.2.1 H.out.2.2.2.2.2 ?_)
  intro w2 hrow hb2
  have hr2 := hrow.out
  rw [splice_pad hm Hx.out.1] at hr2
  have HR : Hid (Rw 68 w2 g n (yx xs) ∧ w.heap.size ≤ g ∧ Below w.heap.size w w2) := ⟨⟨hr2, fun i _ => yx_lt Hx.out.2.2.2.1 i⟩, H.out.2.2.2.2.2, hb2⟩
  clear hrow hb2 hr2 H
  go_wp2_with (fail)
  go_ret
  exact ⟨g, _, rfl, Nat.le_refl _, by omega, HR.out.1.pre, HR.out.2.1, HR.out.2.2⟩

theorem size1U : (Tryd.prog.info? 43).map (·.size) = some 1 := by kernel_rfl
set_option maxHeartbeats 400000 in
theorem paddedU_ok (A : Option Addr) (m n c : Nat) (xs : List Nat) (w : World) (hm : m ≤ n) (hn : n ≤ 100000) (hx : Sl w A m c xs) :
    Calls Tryd.prog 85 #[.slice A m c, .int .i64 n] w fun e w' => RwR 43 w w' e n (yx xs) := by
  obtain ⟨i0, hi, hz0, hz1, hz2⟩ := info_parts Tryd.info43
  have Hx := Lib.hid hx
  clear hx
  go_enter Tryd.func85, Tryd.ntmps85
  go_wp2_with (at_make; refine wpList_make_full _ rfl _ _ 22 rfl w.heap.size 43 i0 (.int .u64 0) 1 Tryd.underlying22 hi hz0 hz1 .i64 .i64 _ _ n rfl rfl rfl rfl (by rw [hz2]; omega) (by unfold maxLen; omega) (Nat.le_refl _) ?_)
  intro w1 hown hgrow
  have hb1 := below_of_grown hgrow (Nat.le_refl _)
  have hr := Rw.made hown
  obtain ⟨g, hg⟩ : ∃ g, g = w.heap.size := ⟨_, rfl⟩
  rw [← hg] at hr ⊢
  have hcs : (uvs xs).length = Nat.min m n := by rw [uvs_length, Hx.out.1]; exact (Nat.min_eq_left hm).symm
  have hpos : 0 < (uvs xs).length → (some (⟨g, 0, none⟩ : Addr)) = some ⟨g, 0, none⟩ ∧ ∃ ad, A = some ad ∧ ∀ j v, (uvs xs)[j]? = some v → w1.cell? (ad.add j) = some v := by
    intro h0
    obtain ⟨b, o, rfl, _, hc⟩ := (Hx.out.2.2.2.2.below hb1) (by intro e; rw [e] at h0; simp at h0)
    exact ⟨rfl, ⟨b, o, none⟩, rfl, fun j v hj => by rw [Addr.add_lit]; exact hc j v hj⟩
  have hfit : 0 + (uvs xs).length ≤ (uvs (tb n (fun _ => 0))).length := by rw [uvs_length, uvs_length, tb_length, Hx.out.1]; omega
  have H := Lib.hid (And.intro hr.1 (And.intro hcs (And.intro hpos (And.intro hfit (And.intro hb1 (show w.heap.size ≤ g by omega))))))
  clear hown hgrow hb1 hr hg hcs hpos hfit
  go_wp2_with (with_reducible refine wpList_copy_splice rfl (.tmp 8) (.tmp 9) 22 22 rfl 43 Tryd.underlying22 size1U _ _ _ _ _ _ rfl rfl g 0 (uvs (tb n (fun _ => 0))) 43 H.out.1 (uvs xs) H.out.2.1 H.out.2.2.1 H.out.2.2.2.1 (uvs_one xs) w.heap.size w H.out.2.2.2.2.1 H.out.2.2.2.2.2 ?_)
  intro w2 hrow hb2
  have hr2 := hrow.out
  rw [splice_pad hm Hx.out.1] at hr2
  have HR : Hid (Rw 43 w2 g n (yx xs) ∧ w.heap.size ≤ g ∧ Below w.heap.size w w2) := ⟨⟨hr2, fun i _ => yx_lt Hx.out.2.2.2.1 i⟩, H.out.2.2.2.2.2, hb2⟩
  clear hrow hb2 hr2 H
  go_wp2_with (fail)
  go_ret
  exact ⟨g, _, rfl, Nat.le_refl _, by omega, HR.out.1.pre, HR.out.2.1, HR.out.2.2⟩

end Go.Proofs.YthpgdpkemnhneaaDoor

namespace Go.Proofs.YthpgdpkemnhneaaDoor
open Go.RowKit Go.Shelf
set_option linter.unusedVariables false
set_option linter.unusedSimpArgs false
set_option maxRecDepth 10000

theorem bits_and_i64_nat (a b : Nat) (ha : a < 9223372036854775808) (hb : b < 9223372036854775808) :
    bits .and .i64 (a : Int) (b : Int) = ((a &&& b : Nat) : Int) := by
  have hx : a &&& b < 2 ^ 63 := Nat.and_lt_two_pow _ (by omega)
  have h1 : (BitVec.ofInt 64 (a : Int)).toNat = a := by
    rw [BitVec.ofInt_natCast, BitVec.toNat_ofNat]; exact Nat.mod_eq_of_lt (by omega)
  have h2 : (BitVec.ofInt 64 (b : Int)).toNat = b := by
    rw [BitVec.ofInt_natCast, BitVec.toNat_ofNat]; exact Nat.mod_eq_of_lt (by omega)
  show IntKind.i64.wrap ((BitVec.ofInt 64 (a : Int) &&& BitVec.ofInt 64 (b : Int)).toNat : Int) = _
  rw [BitVec.toNat_and, h1, h2]
  exact IntWalk.i64_in _ (by omega)
/-- a power of 2 up to 2^16 -/
def IsLen (n : Int) : Prop := ∃ k : Nat, k ≤ 16 ∧ n = ((2 ^ k : Nat) : Int)
theorem and_pow (k : Nat) : 2 ^ k &&& (2 ^ k - 1) = 0 := by
  rw [Nat.and_two_pow_sub_one_eq_mod, Nat.mod_self]
theorem pow_of_and {m : Nat} (h1 : 1 ≤ m) (h : m &&& (m - 1) = 0) : ∃ k, m = 2 ^ k := by
  refine ⟨m.log2, ?_⟩
  have h2 := Nat.log2_self_le (n := m) (by omega)
  have h3 := Nat.lt_log2_self (n := m)
  rcases Nat.lt_or_ge (2 ^ m.log2) m with h4 | h4
  · exfalso
    have b1 : m.testBit m.log2 = true := by
      rw [Nat.testBit_eq_decide_div_mod_eq]
      have hp : 0 < 2 ^ m.log2 := Nat.pow_pos (by decide)
      rw [Nat.pow_succ] at h3
      have := (Nat.div_lt_iff_lt_mul hp).2 (show m < 2 * 2 ^ m.log2 by omega)
      have := (Nat.le_div_iff_mul_le hp).2 (show 1 * 2 ^ m.log2 ≤ m by omega)
      simp; omega
    have b2 : (m - 1).testBit m.log2 = true := by
      rw [Nat.testBit_eq_decide_div_mod_eq]
      have hp : 0 < 2 ^ m.log2 := Nat.pow_pos (by decide)
      rw [Nat.pow_succ] at h3
      have := (Nat.div_lt_iff_lt_mul hp).2 (show m - 1 < 2 * 2 ^ m.log2 by omega)
      have := (Nat.le_div_iff_mul_le hp).2 (show 1 * 2 ^ m.log2 ≤ m - 1 by omega)
      simp; omega
    have b3 := Nat.testBit_and m (m - 1) m.log2
    rw [h, b1, b2] at b3
    simp at b3
  · omega
theorem isLen_iff {m : Nat} (h1 : 1 ≤ m) (h2 : m ≤ 65536) : IsLen (m : Int) ↔ m &&& (m - 1) = 0 := by
  constructor
  · rintro ⟨k, hk, e⟩
    obtain rfl : m = 2 ^ k := by omega
    exact and_pow k
  · intro h
    obtain ⟨k, rfl⟩ := pow_of_and h1 h
    refine ⟨k, ?_, rfl⟩
    rcases Nat.lt_or_ge 16 k with h3 | h3
    · have := Nat.pow_lt_pow_right (a := 2) (by decide) h3
      omega
    · exact h3
/-- what both tests reckon -/
theorem len_plan (n : Int) (hn : n ≤ 9223372036854775807) (hn' : -9223372036854775808 ≤ n) : (¬ 1 ≤ n ∧ ¬ IsLen n) ∨ (1 ≤ n ∧ ¬ n ≤ 65536 ∧ ¬ IsLen n) ∨
    (1 ≤ n ∧ n ≤ 65536 ∧ ∃ z : Int, IntKind.i64.wrap (n - 1) = n - 1 ∧ bits .and .i64 n (n - 1) = z ∧ ((z = 0 ∧ IsLen n) ∨ ((z == 0) = false ∧ ¬ IsLen n))) := by
  by_cases h1 : 1 ≤ n
  · by_cases h2 : n ≤ 65536
    · right; right
      obtain ⟨m, rfl⟩ : ∃ m : Nat, n = m := ⟨n.toNat, by omega⟩
      refine ⟨h1, h2, _, IntWalk.i64_in _ (by omega), rfl, ?_⟩
      rw [show ((m : Int) - 1) = ((m - 1 : Nat) : Int) by omega, bits_and_i64_nat _ _ (by omega) (by omega)]
      have h3 := isLen_iff (m := m) (by omega) (by omega)
      by_cases h4 : m &&& (m - 1) = 0
      · left; exact ⟨by rw [h4]; rfl, h3.2 h4⟩
      · right; exact ⟨by simp; omega, fun h => h4 (h3.1 h)⟩
    · right; left
      refine ⟨h1, h2, ?_⟩
      rintro ⟨k, hk, e⟩
      have := Nat.pow_le_pow_right (n := 2) (by decide) hk
      omega
  · left
    refine ⟨h1, ?_⟩
    rintro ⟨k, hk, e⟩
    have := Nat.pow_pos (n := k) (show 0 < 2 by decide)
    omega
open Classical in
set_option maxHeartbeats 400000 in
theorem isLength_ok (n : Int) (w : World) (hn : n ≤ 9223372036854775807) (hn' : -9223372036854775808 ≤ n) :
    Calls Tryd.prog 65 #[.int .i64 n] w fun e w' => e = .returned (.bool (decide (IsLen n))) ∧ w = w' := by
  rcases len_plan n hn hn' with ⟨h1, h2⟩ | ⟨h1, h2, h3⟩ | ⟨h1, h2, z, h3, h4, ⟨h5, h6⟩ | ⟨h5, h6⟩⟩
  · rw [decide_eq_false h2]
    clear hn hn' h2
    go_enter Tryd.func65, Tryd.ntmps65
    go_wp2_with (fail)
    go_ret
    exact ⟨rfl, rfl⟩
  · rw [decide_eq_false h3]
    clear hn hn' h3
    go_enter Tryd.func65, Tryd.ntmps65
    go_wp2_with (fail)
    go_ret
    exact ⟨rfl, rfl⟩
  · subst h5
    rw [decide_eq_true h6]
    clear hn hn' h6
    go_enter Tryd.func65, Tryd.ntmps65
    go_wp2_with (fail)
    go_ret
    exact ⟨rfl, rfl⟩
  · rw [decide_eq_false h6]
    clear hn hn' h6
    go_enter Tryd.func65, Tryd.ntmps65
    go_wp2_with (fail)
    go_ret
    exact ⟨rfl, rfl⟩
open Classical in
set_option maxHeartbeats 400000 in
theorem R4Length_ok (n : Int) (w : World) (hn : n ≤ 9223372036854775807) (hn' : -9223372036854775808 ≤ n) :
    Calls Tryd.prog 12 #[.int .i64 n] w fun e w' => e = .returned (.bool (decide (IsLen n))) ∧ w = w' := by
  rcases len_plan n hn hn' with ⟨h1, h2⟩ | ⟨h1, h2, h3⟩ | ⟨h1, h2, z, h3, h4, ⟨h5, h6⟩ | ⟨h5, h6⟩⟩
  · rw [decide_eq_false h2]
    clear hn hn' h2
    go_enter Tryd.func12, Tryd.ntmps12
    go_wp2_with (fail)
    go_ret
    exact ⟨rfl, rfl⟩
  · rw [decide_eq_false h3]
    clear hn hn' h3
    go_enter Tryd.func12, Tryd.ntmps12
    go_wp2_with (fail)
    go_ret
    exact ⟨rfl, rfl⟩
  · subst h5
    rw [decide_eq_true h6]
    clear hn hn' h6
    go_enter Tryd.func12, Tryd.ntmps12
    go_wp2_with (fail)
    go_ret
    exact ⟨rfl, rfl⟩
  · rw [decide_eq_false h6]
    clear hn hn' h6
    go_enter Tryd.func12, Tryd.ntmps12
    go_wp2_with (fail)
    go_ret
    exact ⟨rfl, rfl⟩
/-- the least power of 2 that is not less than n -/
theorem lengthFor_ok (n : Nat) (w : World) (hn : n ≤ 65536) :
    Calls Tryd.prog 84 #[.int .i64 n] w fun e w' => (∃ k : Nat, k ≤ 16 ∧ n ≤ 2 ^ k ∧ e = .returned (.int .i64 ((2 ^ k : Nat) : Int))) ∧ w = w' := by
  have H0 := Lib.hid hn
  clear hn
  go_enter Tryd.func84, Tryd.ntmps84
  go_wp2_with (fail)
  go_loopw [3] (fun lv wr => ∃ (l : Nat), l ≤ 65536 ∧ lv = .int .i64 l ∧ wr = w ∧ Hid (∃ k : Nat, k ≤ 16 ∧ l = 2 ^ k ∧ 1 ≤ l)) (fun lv _ => 65536 - (intOf lv).toNat)
  case atStart => exact ⟨1, by omega, rfl, rfl, ⟨0, by omega, rfl, by omega⟩⟩
  case round =>
    obtain ⟨l, hl, rfl, rfl, hH⟩ := hrel
    by_cases hlt : l < n
    · have hli : (l : Int) < n := by omega
      have h2 : 2 * l ≤ 65536 ∧ 1 ≤ l ∧ ∃ k : Nat, k ≤ 16 ∧ l * 2 = 2 ^ k ∧ 1 ≤ l * 2 := by
        obtain ⟨k, hk, e, h1⟩ := hH.out
        have hn := H0.out
        have hk15 : k < 16 := by
          rcases Nat.lt_or_ge k 16 with h | h
          · exact h
          · obtain rfl : k = 16 := by omega
            omega
        have h3 := Nat.pow_le_pow_right (n := 2) (by decide) (show k + 1 ≤ 16 by omega)
        rw [Nat.pow_succ, ← e] at h3
        exact ⟨by omega, h1, k + 1, by omega, by rw [Nat.pow_succ, e], by omega⟩
      have HN := Lib.hid h2.2.2
      have h2l := h2.1
      have h1l := h2.2.1
      have hwr : IntKind.i64.wrap ((l : Int) * 2) = ((l * 2 : Nat) : Int) := by rw [show ((l : Int) * 2) = ((l * 2 : Nat) : Int) by omega]; exact IntWalk.i64_in _ (by omega)
      clear h2 hH
      go_wp2_with (fail)
      go_roundw
      case rel => exact ⟨l * 2, by omega, rfl, trivial, HN⟩
      case measure => simp [intOf]; omega
    · have hli : ¬ (l : Int) < n := by omega
      go_wp2_with (fail)
      go_ret
      obtain ⟨k, hk, e, h1⟩ := hH.out
      exact ⟨⟨k, hk, by omega, by subst e; rfl⟩, rfl⟩
end Go.Proofs.YthpgdpkemnhneaaDoor

namespace Go.Proofs.YthpgdpkemnhneaaDoor
open Go.RowKit Go.Shelf
set_option linter.unusedVariables false
set_option linter.unusedSimpArgs false
set_option maxRecDepth 10000

theorem rt_of {k e : Nat} (h : (PH + PH) / 2 ^ k = e) : rt k = 7 ^ e % PP := by rw [rt_def, h]
theorem power_seven (w : World) : Calls Tryd.prog 67 #[.int .u64 7, .int .u64 140737488322560] w fun e w' => e = .returned (.int .u64 ((rt 17 : Nat) : Int)) ∧ w = w' := by
  obtain ⟨e, he⟩ : ∃ e : Nat, e = 140737488322560 := ⟨_, rfl⟩
  have h := power_ok 7 e w (by decide) (by rw [he]; decide)
  rw [← rt_of (k := 17) (e := e) (by rw [he]; decide)] at h
  subst he
  exact h
/-- the map at b knows w(2^k) for the k from m on -/
def MapM (W : World) (b m : Nat) : Prop := ∃ (n : Nat) (D : DataW Unit), W.ownsMap Tryd.prog 3 (plainElem Tryd.prog 68) b n D ∧ n ≤ 18 ∧ (m + n = 18) ∧ ∀ k, m ≤ k → k ≤ 17 → D.atKey (.int .i64 ((2 ^ k : Nat) : Int)) (.lit (.int .u64 0)) = .lit (.int .u64 ((rt k : Nat) : Int))
def MapR (W : World) (b : Nat) : Prop := MapM W b 0
theorem wf_i64 {n : Nat} (h : n ≤ 9223372036854775807) : (Lit.int .i64 (n : Int)).wf = true := by
  simp only [Lit.wf, Bool.and_eq_true, decide_eq_true_eq]
  have h1 : IntKind.i64.min = -9223372036854775808 := by decide
  have h2 : IntKind.i64.max = 9223372036854775807 := by decide
  rw [h1, h2]
  omega
theorem wf_u64 {n : Nat} (h : n < B64) : (Lit.int .u64 (n : Int)).wf = true := by
  simp only [Lit.wf, Bool.and_eq_true, decide_eq_true_eq]
  have h1 : IntKind.u64.min = 0 := by decide
  have h2 : IntKind.u64.max = 18446744073709551615 := by decide
  have hB : B64 = 18446744073709551616 := rfl
  rw [h1, h2]
  omega
theorem pow_inj {k m : Nat} (h : (2 : Nat) ^ k = 2 ^ m) : k = m := by
  rcases Nat.lt_trichotomy k m with h1 | h1 | h1
  · have := Nat.pow_lt_pow_right (a := 2) (by decide) h1; omega
  · exact h1
  · have := Nat.pow_lt_pow_right (a := 2) (by decide) h1; omega
/-- one more -/
theorem MapM.put {W' : World} {b m n : Nat} {D : DataW Unit} (h : W'.ownsMap Tryd.prog 3 (plainElem Tryd.prog 68) b (n + 1) (D.put (.int .i64 ((2 ^ m : Nat) : Int)) (.lit (.int .u64 ((rt m : Nat) : Int)))))
    (hD : Maps.IsMap D) (hn : m + 1 + n = 18) (h0 : ∀ k, m + 1 ≤ k → k ≤ 17 → D.atKey (.int .i64 ((2 ^ k : Nat) : Int)) (.lit (.int .u64 0)) = .lit (.int .u64 ((rt k : Nat) : Int))) : MapM W' b m := by
  refine ⟨n + 1, _, h, by omega, by omega, fun k hk hk2 => ?_⟩
  rcases Nat.lt_or_ge m k with h1 | h1
  · rw [Maps.atKey_put_other (by
      intro e
      injection e with e1 e2
      have h3 : (2 : Nat) ^ k = 2 ^ m := by omega
      have := pow_inj h3
      omega)]
    exact h0 k (by omega) hk2
  · obtain rfl : k = m := by omega
    exact Maps.atKey_put_same hD (show WideAt.IsKeyLit (.int _ _) from trivial) _ _
theorem MapM.below {W W' : World} {b m : Nat} (h : MapM W b m) (hb : Below W.heap.size W W') : MapM W' b m := by
  obtain ⟨n, D, ⟨es, cl, e1, e2⟩, h2⟩ := h
  exact ⟨n, D, ⟨es, cl, (hb.block b (Array.getElem?_eq_some_iff.1 e1).1).trans e1, e2⟩, h2⟩
set_option maxHeartbeats 1000000 in
theorem roots_ok (w : World) : Calls Tryd.prog 66 #[] w fun e w' => ∃ b, e = .returned (.map (some b)) ∧ MapR w' b ∧ w.heap.size ≤ b ∧ Below w.heap.size w w' := by
  have hmm := @run_makeMap Tryd.prog
  have K : Maps.Keyed Tryd.prog 3 := Maps.int_keyed Tryd.underlying3
  go_enter Tryd.func66, Tryd.ntmps66
  go_wp2_with (fail)
  refine (power_seven _).mono ?_
  rintro e w1 ⟨rfl, rfl⟩
  have H0 : Hid (MapM (w.alloc (.map #[] 0)) w.heap.size 18 ∧ Below w.heap.size w (w.alloc (.map #[] 0)) ∧ (131072 = 2 ^ 17 / 2 ^ (18 - 18)) ∧ rt 17 < PP ∧ (1 ≤ 18 → rt 17 = rt (18 - 1))) := ⟨⟨0, .map [], World.ownsMap_made _ _ _ _, by omega, by omega, fun k h1 h2 => by omega⟩, (Below.refl _ _).alloc (Nat.le_refl _) _, by decide, rt_lt 17, fun _ => rfl⟩
  obtain ⟨b, hb⟩ : ∃ b, w.heap.size = b := ⟨_, rfl⟩
  rw [hb] at H0 ⊢
  have Hb := Lib.hid hb
  generalize w.alloc (.map #[] 0) = w1 at *
  clear hmm hb
  go_wp2_with (fail)
  go_loopw [2, 3] (fun zv nv wr => ∃ (m z n : Nat), m ≤ 18 ∧ nv = .int .i64 n ∧ zv = .int .u64 z ∧ Hid (MapM wr b m ∧ Below w.heap.size w wr ∧ n = 2 ^ 17 / 2 ^ (18 - m) ∧ z < PP ∧ (1 ≤ m → z = rt (m - 1)))) (fun _ nv _ => (intOf nv).toNat)
  case atStart => exact ⟨18, rt 17, 131072, by omega, rfl, rfl, Lib.hid ⟨H0.out.1, by rw [Hb.out]; exact H0.out.2.1, by decide, rt_lt 17, fun _ => rfl⟩⟩
  case round =>
    clear H0
    obtain ⟨m, z, n, hm, rfl, rfl, hH⟩ := hrel
    rcases Nat.eq_zero_or_pos m with rfl | hm0
    · have hn : n = 0 := hH.out.2.2.1.trans (by decide)
      subst hn
      go_wp2_with (fail)
      go_ret
      exact ⟨_, rfl, hH.out.1, Nat.le_of_eq Hb.out, hH.out.2.1⟩
    · obtain ⟨m1, rfl⟩ : ∃ m1, m = m1 + 1 := ⟨m - 1, by omega⟩
      obtain ⟨n1, D, hown, hn1, hs, hat⟩ := hH.out.1
      have hz := hH.out.2.2.2.2 (by omega)
      rw [Nat.add_sub_cancel] at hz
      subst hz
      have hn2 : n = 2 ^ m1 := by
        rw [hH.out.2.2.1, show 2 ^ 17 = 2 ^ m1 * 2 ^ (18 - (m1 + 1)) by rw [← Nat.pow_add]; congr 1; omega, Nat.mul_div_cancel _ (Nat.pow_pos (by decide))]
      have hnl : n ≤ 131072 := by rw [hn2]; exact Nat.pow_le_pow_right (n := 2) (by decide) (show m1 ≤ 17 by omega)
      have hn0 : 1 ≤ n := by rw [hn2]; exact Nat.pow_pos (by decide)
      have hni : (1 : Int) ≤ n := by omega
      obtain ⟨n', hn', hq1, hq2⟩ : ∃ n' : Nat, n' = n / 2 ∧ (n : Int).tdiv 2 = (n' : Int) ∧ (n : Int) / 2 = (n' : Int) := ⟨n / 2, rfl, by rw [Int.tdiv_eq_ediv_of_nonneg (by omega)]; omega, by omega⟩
      have hnw : IntKind.i64.wrap (n' : Int) = (n' : Int) := IntWalk.i64_in _ (by omega)
      have hkey : keyOf Tryd.prog 3 (.int .i64 n) = some (.int .i64 n) := Maps.keyOf_int_mk Tryd.underlying3 (wf_i64 (by omega))
      have hval : plainElem (H := Unit) Tryd.prog 68 (.int .u64 (rt m1 : Nat)) = some (.lit (.int .u64 (rt m1 : Nat)), []) := plainElem_int Tryd.underlying68 (wf_u64 (Nat.lt_trans (rt_lt m1) PP_lt))
      have HV := Lib.hid (And.intro hkey (And.intro hval (And.intro hn2 (And.intro hs (And.intro hat (And.intro hH.out.2.1 (And.intro hn' (And.intro hown.isMap hm))))))))
      have hn18 : n1 < maxLen := by unfold maxLen; omega
      obtain ⟨r2, hr2⟩ : ∃ r2, rt m1 * rt m1 % PP = r2 := ⟨_, rfl⟩
      have HR := Lib.hid hr2
      clear hH hkey hval hn2 hs hat hn' hm hr2
      go_wp2_with (at_mapUpdate; refine wpList_mapUpdate_own _ rfl _ _ _ 69 rfl 3 _ K Tryd.underlying69 _ b n1 D rfl hown hn18 _ _ _ rfl rfl HV.out.1 _ [] HV.out.2.1 ?_)
      intro w2 hown2 hgrow2
      have H2 : Hid (MapM w2 b m1 ∧ Below w.heap.size w w2) := by
        refine ⟨?_, ?_⟩
        · have h1 := HV.out.2.2.1
          rw [h1] at hown2
          exact MapM.put hown2 HV.out.2.2.2.2.2.2.2.1 (by have := HV.out.2.2.2.1; omega) HV.out.2.2.2.2.1
        · exact HV.out.2.2.2.2.2.1.grown hgrow2 HV.out.2.2.2.2.2.1.size (by intro j hj; injection hj with hj; rw [← hj, Hb.out]; exact Nat.le_refl _)
      clear hown2 hgrow2 hown
      go_wp2_with (fail)
      refine (times_ok _ _ _ (rt_lt m1) (rt_lt m1)).mono ?_
      rintro e w3 ⟨rfl, rfl⟩
      rw [HR.out]
      have HN : Hid (MapM w2 b m1 ∧ Below w.heap.size w w2 ∧ n' = 2 ^ 17 / 2 ^ (18 - m1) ∧ r2 < PP ∧ (1 ≤ m1 → r2 = rt (m1 - 1))) := by
        refine ⟨H2.out.1, H2.out.2, ?_, by rw [← HR.out]; exact Nat.mod_lt _ PP_pos, fun h => ?_⟩
        · rw [HV.out.2.2.2.2.2.2.1, HV.out.2.2.1]
          rcases Nat.eq_zero_or_pos m1 with h0 | h0
          · subst h0; decide
          · rw [show 2 ^ 17 = 2 ^ (m1 - 1) * 2 ^ (18 - m1) by rw [← Nat.pow_add]; congr 1; have := HV.out.2.2.2.2.2.2.2.2; omega, Nat.mul_div_cancel _ (Nat.pow_pos (by decide)), show m1 = m1 - 1 + 1 by omega, Nat.pow_succ, Nat.mul_div_cancel _ (by decide)]
            rfl
        · obtain ⟨m2, rfl⟩ : ∃ m2, m1 = m2 + 1 := ⟨m1 - 1, by omega⟩
          have h1 := rt_sq m2 (by have := HV.out.2.2.2.2.2.2.2.2; omega)
          rw [← HR.out, Nat.add_sub_cancel]
          exact ((Eqm.mod _).trans h1).eq (Nat.mod_lt _ PP_pos) (rt_lt m2)
      have hm18 : m1 ≤ 18 := by have := HV.out.2.2.2.2.2.2.2.2; omega
      clear H2 HR HV
      go_wp2_with (fail)
      go_roundw
      case rel => exact ⟨m1, r2, n', hm18, rfl, rfl, HN⟩
      case measure => simp [intOf]; omega
/-- what the map gives at a power of 2 -/
theorem MapR.look {W : World} {b k : Nat} (h : MapR W b) (hk : k ≤ 17) : ∃ (n : Nat) (D : DataW Unit), W.ownsMap Tryd.prog 3 (plainElem Tryd.prog 68) b n D ∧ D.atKey (.int .i64 ((2 ^ k : Nat) : Int)) (.lit (.int .u64 0)) = .lit (.int .u64 ((rt k : Nat) : Int)) := by
  obtain ⟨n, D, h1, -, -, h2⟩ := h
  exact ⟨n, D, h1, h2 k (Nat.zero_le _) hk⟩
theorem lit_inj {c : Int} {x : Nat} {H : Type} (h : (DataW.lit (.int .u64 (x : Int)) : DataW H) = .lit (.int .u64 c)) : c = (x : Int) := by
  injection h with h
  injection h with h1 h2
  exact h2.symm
open Classical in
set_option maxHeartbeats 1000000 in
theorem YRoot_ok (n : Int) (w : World) (hn : n ≤ 9223372036854775807) (hn' : -9223372036854775808 ≤ n) :
    Calls Tryd.prog 33 #[.int .i64 n] w fun e w' => ((∃ k : Nat, k ≤ 16 ∧ n = ((2 ^ k : Nat) : Int) ∧ e = .returned (.tuple #[.int .u64 ((rt k : Nat) : Int), .int .i64 0])) ∨ (¬ IsLen n ∧ e = .returned (.tuple #[.int .u64 0, .int .i64 1]))) ∧ Below w.heap.size w w' := by
  have hc := isLength_ok n w hn hn'
  by_cases hL : IsLen n
  · rw [decide_eq_true hL] at hc
    obtain ⟨k, hk, rfl⟩ := hL
    have K : Maps.Keyed Tryd.prog 3 := Maps.int_keyed Tryd.underlying3
    have hp16 : 2 ^ k ≤ 65536 := Nat.pow_le_pow_right (n := 2) (by decide) (show k ≤ 16 from hk)
    obtain ⟨N, hN⟩ : ∃ N, 2 ^ k = N := ⟨_, rfl⟩
    rw [hN] at hc hp16 ⊢
    have hkey : keyOf Tryd.prog 3 (.int .i64 N) = some (.int .i64 N) := Maps.keyOf_int_mk Tryd.underlying3 (wf_i64 (by omega))
    have Hc := Lib.hid (And.intro hc (And.intro hk (And.intro hN hkey)))
    clear hc hn hn' hp16 hk hN hkey
    go_enter Tryd.func33, Tryd.ntmps33
    go_wp2_with (fail)
    refine Hc.out.1.mono ?_
    rintro e w1 ⟨rfl, rfl⟩
    go_wp2_with (fail)
    refine (roots_ok _).mono ?_
    rintro e w2 ⟨b, rfl, hR, -, hb2⟩
    obtain ⟨n1, D, hown, hat⟩ := hR.look (k := k) (by have := Hc.out.2.1; omega)
    rw [Hc.out.2.2.1] at hat
    have Hat := Lib.hid (And.intro hat hb2)
    clear hR hat hb2
    go_wp2_with (at_lookup; refine wpList_lookup_own_int _ rfl _ _ 69 rfl 3 68 .u64 K Tryd.underlying69 Tryd.underlying68 (Tryd.zeroValue68 _) b n1 D rfl hown _ _ rfl Hc.out.2.2.2 ?_)
    intro c hcat hwf
    obtain rfl := lit_inj (Hat.out.1.symm.trans hcat)
    clear hcat hwf hown
    go_wp2_with (fail)
    go_ret2
    exact ⟨.inl ⟨k, Hc.out.2.1, by rw [Hc.out.2.2.1], rfl⟩, Hat.out.2⟩
  · rw [decide_eq_false hL] at hc
    have Hc := Lib.hid (And.intro hc hL)
    clear hc hL hn hn'
    go_enter Tryd.func33, Tryd.ntmps33
    go_wp2_with (fail)
    refine Hc.out.1.mono ?_
    rintro e w1 ⟨rfl, rfl⟩
    go_wp2_with (fail)
    go_ret2
    exact ⟨.inr ⟨Hc.out.2, rfl⟩, Below.refl _ _⟩
end Go.Proofs.YthpgdpkemnhneaaDoor

namespace Go.Proofs.YthpgdpkemnhneaaDoor
open Go.RowKit Go.Shelf
set_option linter.unusedVariables false
set_option linter.unusedSimpArgs false
set_option maxRecDepth 10000

theorem swp_plan (x m s P : Nat) (hP : P = 2 ^ s) (hx : x < 2 ^ 64) (hm : m < 2 ^ 64) (hms : m * P < 2 ^ 64) (hP0 : P < 2 ^ 64) : ∃ a b c y : Nat,
    bits .and .u64 ((x : Int) / (P : Int)) (m : Int) = (a : Int) ∧ bits .and .u64 (x : Int) (m : Int) = (b : Int) ∧ IntKind.u64.wrap ((b : Int) * (P : Int)) = (c : Int) ∧ bits .or .u64 (a : Int) (c : Int) = (y : Int) ∧ y = swp x m s ∧ y < 2 ^ 64 := by
  have h64 : (2 : Nat) ^ 64 = 18446744073709551616 := by decide
  have hb : (x &&& m) * P < 2 ^ 64 := Nat.lt_of_le_of_lt (Nat.mul_le_mul_right _ Nat.and_le_right) hms
  have ha : x / P &&& m < 2 ^ 64 := Nat.lt_of_le_of_lt Nat.and_le_right hm
  refine ⟨x / P &&& m, x &&& m, (x &&& m) * P, (x / P &&& m) ||| ((x &&& m) * P), ?_, ?_, ?_, ?_, ?_, Nat.or_lt_two_pow ha hb⟩
  · rw [← Int.natCast_ediv]
    exact bits_and_u64_nat _ _ (by have := Nat.div_le_self x P; omega) (by omega)
  · exact bits_and_u64_nat _ _ (by omega) (by omega)
  · rw [← Int.natCast_mul]
    exact wrap_nat _ (by have hB : B64 = 18446744073709551616 := rfl; omega)
  · exact bits_or_u64_nat _ _ (by omega) (by omega)
  · unfold swp
    rw [Nat.shiftRight_eq_div_pow, Nat.shiftLeft_eq, hP]
theorem swp_last (x : Nat) (hx : x < 2 ^ 64) : ∃ c y : Nat,
    IntKind.u64.wrap ((x : Int) * 4294967296) = (c : Int) ∧ bits .or .u64 ((x : Int) / 4294967296) (c : Int) = (y : Int) ∧ y = swp x 4294967295 32 := by
  have h64 : (2 : Nat) ^ 64 = 18446744073709551616 := by decide
  refine ⟨(x &&& 4294967295) * 4294967296, (x / 4294967296) ||| ((x &&& 4294967295) * 4294967296), ?_, ?_, ?_⟩
  · rw [IntKind.wrap_u64, show (4294967295 : Nat) = 2 ^ 32 - 1 from rfl, Nat.and_two_pow_sub_one_eq_mod]
    omega
  · have h1 := bits_or_u64_nat (x / 4294967296) ((x &&& 4294967295) * 4294967296) (by omega) (by rw [show (4294967295 : Nat) = 2 ^ 32 - 1 from rfl, Nat.and_two_pow_sub_one_eq_mod]; omega)
    rw [← h1]
    rfl
  · unfold swp
    rw [Nat.shiftRight_eq_div_pow, Nat.shiftLeft_eq]
    congr 1
    rw [show (4294967295 : Nat) = 2 ^ 32 - 1 from rfl, Nat.and_two_pow_sub_one_eq_mod]
    omega
set_option maxHeartbeats 400000 in
theorem ReverseBytes64_ok (x : Nat) (w : World) (hx : x < 2 ^ 64) :
    Calls Tryd.prog 115 #[.int .u64 x] w fun e w' => e = .returned (.int .u64 ((swp (swp (swp x 71777214294589695 8) 281470681808895 16) 4294967295 32 : Nat) : Int)) ∧ w = w' := by
  obtain ⟨a1, b1, c1, y1, p1, p2, p3, p4, e1, l1⟩ := swp_plan x 71777214294589695 8 256 rfl hx (by decide) (by decide) (by decide)
  obtain ⟨a2, b2, c2, y2, q1, q2, q3, q4, e2, l2⟩ := swp_plan y1 281470681808895 16 65536 rfl l1 (by decide) (by decide) (by decide)
  obtain ⟨c3, y3, r1, r2, e3⟩ := swp_last y2 l2
  rw [← e1, ← e2, ← e3]
  rw [show ((71777214294589695 : Nat) : Int) = 71777214294589695 from rfl] at p1 p2
  rw [show ((281470681808895 : Nat) : Int) = 281470681808895 from rfl] at q1 q2
  rw [show ((256 : Nat) : Int) = 256 from rfl] at p1 p3
  rw [show ((65536 : Nat) : Int) = 65536 from rfl] at q1 q3
  clear e1 e2 e3 l1 l2 hx
  go_enter Tryd.func115, Tryd.ntmps115
  go_wp2_with (fail)
  go_ret
  exact ⟨rfl, rfl⟩
set_option maxHeartbeats 400000 in
theorem Reverse64_ok (x : Nat) (w : World) (hx : x < 2 ^ 64) :
    Calls Tryd.prog 99 #[.int .u64 x] w fun e w' => e = .returned (.int .u64 ((rev64 x : Nat) : Int)) ∧ w = w' := by
  obtain ⟨a1, b1, c1, y1, p1, p2, p3, p4, e1, l1⟩ := swp_plan x 6148914691236517205 1 2 rfl hx (by decide) (by decide) (by decide)
  obtain ⟨a2, b2, c2, y2, q1, q2, q3, q4, e2, l2⟩ := swp_plan y1 3689348814741910323 2 4 rfl l1 (by decide) (by decide) (by decide)
  obtain ⟨a3, b3, c3, y3, r1, r2, r3, r4, e3, l3⟩ := swp_plan y2 1085102592571150095 4 16 rfl l2 (by decide) (by decide) (by decide)
  have hc := fun W => ReverseBytes64_ok y3 W l3
  unfold rev64
  rw [← e1, ← e2, ← e3]
  generalize swp (swp (swp y3 71777214294589695 8) 281470681808895 16) 4294967295 32 = Y at *
  rw [show ((6148914691236517205 : Nat) : Int) = 6148914691236517205 from rfl] at p1 p2
  rw [show ((3689348814741910323 : Nat) : Int) = 3689348814741910323 from rfl] at q1 q2
  rw [show ((1085102592571150095 : Nat) : Int) = 1085102592571150095 from rfl] at r1 r2
  rw [show ((2 : Nat) : Int) = 2 from rfl] at p1 p3
  rw [show ((4 : Nat) : Int) = 4 from rfl] at q1 q3
  rw [show ((16 : Nat) : Int) = 16 from rfl] at r1 r3
  have Hc := Lib.hid hc
  clear e1 e2 e3 l1 l2 l3 hx hc
  go_enter Tryd.func99, Tryd.ntmps99
  go_wp2_with (fail)
  refine (Hc.out _).mono ?_
  rintro e w1 ⟨rfl, rfl⟩
  go_wp2_with (fail)
  go_ret
  exact ⟨rfl, rfl⟩

/-- the table of bits.TrailingZeros64 -/
def TabY (w : World) : Prop := TabAt 1 Lib.deBruijn64tab w ∧ 1 < w.heap.size
theorem TabY.below {w w' : World} (h : TabY w) (hb : Below w.heap.size w w') : TabY w' := ⟨fun j hj => (hb.cell (p := ⟨_, j, none⟩) h.2).trans (h.1 j hj), Nat.lt_of_lt_of_le h.2 hb.size⟩
set_option maxHeartbeats 400000 in
theorem tz64_core (x k idx : Nat) (w : World) (hx0 : ((x : Int) == 0) = false)
    (key : IntKind.u64.wrap (bits BinOp.and IntKind.u64 (x : Int) (IntKind.u64.wrap (-(x : Int))) * 285870213051353865) / 288230376151711744 = (idx : Int))
    (hi : idx < 64) (hk : k < 64) (hcell : w.cell? ⟨1, idx, none⟩ = some (.int .u8 k)) :
    Calls Tryd.prog 114 #[.int .u64 x] w fun e w' => e = .returned (.int .i64 k) ∧ w = w' := by
  go_enter Tryd.func114, Tryd.ntmps114
  go_wp2_with (simp only [key])
  go_ret
  exact ⟨rfl, rfl⟩
theorem tz64_ok (x k : Nat) (w : World) (hk : k < 64) (hx : x = 2 ^ k) (hT : TabY w) :
    Calls Tryd.prog 114 #[.int .u64 x] w fun e w' => e = .returned (.int .i64 k) ∧ w = w' := by
  have hx64 : x < 2 ^ 64 := by
    rw [hx]
    exact Nat.pow_lt_pow_right (a := 2) (by decide) hk
  have hx0 : x ≠ 0 := by have := Nat.pow_pos (n := k) (show 0 < 2 by decide); omega
  have hlow : x &&& (18446744073709551616 - x) = 2 ^ k := by
    have h := Lib.and_neg 64 k 0 (by rw [Nat.mul_zero, Nat.zero_add, Nat.mul_one]; exact Nat.pow_lt_pow_right (by decide) hk)
    rw [Nat.mul_zero, Nat.zero_add, Nat.mul_one, ← hx] at h
    rw [← hx]
    exact h
  obtain ⟨hi, htab⟩ := Lib.deBruijn64_at k hk
  have hcell := hT.1 _ hi
  rw [htab] at hcell
  exact tz64_core x k _ w (by simp; omega) (tz64_key x _ hx64 hx0 hlow) hi hk hcell
theorem tz_ok (x k : Nat) (w : World) (hk : k < 64) (hx : x = 2 ^ k) (hT : TabY w) :
    Calls Tryd.prog 98 #[.int .u64 x] w fun e w' => e = .returned (.int .i64 k) ∧ w = w' := by
  have hc := tz64_ok x k w hk hx hT
  have hw : IntKind.u64.wrap (x : Int) = (x : Int) := wrap_nat x (by
    rw [hx]
    exact Nat.pow_lt_pow_right (a := 2) (n := 64) (by decide) hk)
  have Hc := Lib.hid hc
  clear hc hx hT
  go_enter Tryd.func98, Tryd.ntmps98
  go_wp2_with (fail)
  refine Hc.out.mono ?_
  rintro e w1 ⟨rfl, rfl⟩
  go_wp2_with (fail)
  go_ret
  exact ⟨rfl, rfl⟩
end Go.Proofs.YthpgdpkemnhneaaDoor

namespace Go.Proofs.YthpgdpkemnhneaaDoor
open Go.RowKit Go.Shelf
set_option linter.unusedVariables false
set_option linter.unusedSimpArgs false
set_option maxRecDepth 10000

theorem yes_no {e : Ending} {A B : Prop} (h : (e = .returned (.bool true) ∧ A) ∨ (e = .returned (.bool false) ∧ B)) : ∃ bb, e = .returned (.bool bb) ∧ ((bb = true ∧ A) ∨ (bb = false ∧ B)) := by
  rcases h with ⟨h, h2⟩ | ⟨h, h2⟩
  · exact ⟨true, h, .inl ⟨rfl, h2⟩⟩
  · exact ⟨false, h, .inr ⟨rfl, h2⟩⟩
/-- what the iterator hands over in round k -/
abbrev trn (s : Nat) (xs : List Nat) (k : Nat) : Array Value := #[.int .u64 ((yx xs (brev s k) : Nat) : Int)]
def RdT (Bx : Nat) (A : Option Addr) (n c : Nat) (xs : List Nat) (W : World) : Prop := W.cell? ⟨Bx, 0, none⟩ = some (.slice A n c) ∧ Sl W A n c xs ∧ TabY W


theorem turnedU_any (A : Option Addr) (n c : Nat) (w : World) :
    Calls Tryd.prog 70 #[.slice A n c] w fun e w' => e = .returned (.func (.func 97) #[] #[.pointer (some ⟨w.heap.size, 0, none⟩)]) ∧ w.alloc (.cells #[.slice A n c] 22) = w' := by
  go_enter Tryd.func70, Tryd.ntmps70
  go_wp2_with (fail)
  go_ret
  exact ⟨rfl, rfl⟩
set_option maxHeartbeats 2000000 in
theorem turnedU_rounds (m : Nat) (hm : 1 ≤ m) (Bx : Nat) (A : Option Addr) (n c s : Nat) (xs : List Nat) (hs : s ≤ 17) (hn : n = 2 ^ s) (w : World) :
    Rounds Fence.wide m Tryd.prog 97 #[.pointer (some ⟨Bx, 0, none⟩)] (trn s xs) n (fun _ => RdT Bx A n c xs) w := by
  have hn7 : n ≤ 131072 := by rw [hn]; exact Nat.pow_le_pow_right (n := 2) (by decide) hs
  have hmix : Tryd.prog.follows Departure.mixedOrders = true := by kernel_rfl
  have Hn := Lib.hid hn
  clear hn
  intro l J Jx W hW hJ hJx hR hY h0
  refine callsIn_of_wp Tryd.func97 rfl trivial ?_ rfl
  simp only [Tryd.ntmps97, List.size_toArray, List.length_cons, List.length_nil, Nat.reduceAdd, Nat.reduceSub, Array.replicate_succ, Array.replicate_zero, List.push_toArray, List.append_toArray, List.nil_append, List.cons_append]
  obtain ⟨hc0, hs0, hT0⟩ := hR 0 W h0
  have hwn : IntKind.u64.wrap (n : Int) = (n : Int) := wrap_nat n (by have hB : B64 = 18446744073709551616 := rfl; omega)
  have hws : IntKind.i64.wrap (64 - (s : Int)) = ((64 - s : Nat) : Int) := by rw [show (64 - (s : Int)) = ((64 - s : Nat) : Int) by omega]; exact IntWalk.i64_in _ (by omega)
  gi_wp2_with (first
    | (refine ⟨trivial, ?_⟩; gi_at_call 98; refine (callsIn_wide.2 (tz_ok n s _ (by omega) Hn.out hT0)).mono ?_; rintro e w' ⟨rfl, rfl⟩))
  gi_loopw [4, 12] (fun _ p wr => ∃ (k : Nat), k ≤ n ∧ p = .int .i64 (k : Int) ∧ J k wr) (fun _ p wr => n - (intOf p).toNat)
  case atStart => exact ⟨0, Nat.zero_le _, rfl, h0⟩
  case round =>
    obtain ⟨k, hk, rfl, hJk⟩ := hrel
    obtain ⟨hc1, hs1, hT1⟩ := hR k wr hJk
    by_cases hlt : k < n
    · have hki : (k : Int) < (n : Int) := by omega
      have hwk : IntKind.u64.wrap (k : Int) = (k : Int) := wrap_nat k (by have hB : B64 = 18446744073709551616 := rfl; omega)
      obtain ⟨fn, tmps, assign, body, hy, hRd⟩ := hY k wr.drew (hJ k wr wr.drew none hJk (grown_drew (World.grownBy.refl wr none)) (by intro r hr; cases hr)) hlt
      obtain ⟨r, hr⟩ : ∃ r, brev s k = r := ⟨_, rfl⟩
      have hrn : r < n := by rw [← hr, Hn.out]; exact brev_lt s k
      have hdv := rev64_brev (k := s) (x := k) (by omega) (by rw [← Hn.out]; exact hlt)
      rw [hr] at hdv
      obtain ⟨q, hq⟩ : ∃ q, rev64 k = q := ⟨_, rfl⟩
      rw [hq] at hdv
      have hk64 : k < 2 ^ 64 := Nat.lt_of_lt_of_le (show k < 262144 by omega) (by decide)
      obtain ⟨b, o, rfl, -, hcx⟩ := hs1.rd hrn
      have hri : (r : Int) < (n : Int) := by omega
      obtain ⟨x, hx⟩ : ∃ x, yx xs r = x := ⟨_, rfl⟩
      rw [hx] at hcx
      simp only [trn, hr, hx] at hy
      have HH := Lib.hid (And.intro hq (And.intro hk64 hx))
      obtain ⟨u, hu⟩ : ∃ u, 64 - s = u := ⟨_, rfl⟩
      rw [hu] at hdv
      have hdvI : (q : Int) / 2 ^ u = (r : Int) := by rw [← hdv]; push_cast; rfl
      have hu0 : (0 : Int) ≤ (u : Int) := by omega
      have hu64 : (u : Int) ≤ 64 := by omega
      rw [hu]
      clear hq hk64 hx hr hu hdv
      gi_wp2
      gi_region_with_o (first
        | (refine ⟨trivial, ?_⟩; gi_at_call 99; refine (callsIn_wide.2 (Reverse64_ok k _ HH.out.2.1)).mono ?_; rintro e w' ⟨rfl, rfl⟩; rw [HH.out.1])
        | (refine (hRd.mono (fun _ _ h => yes_no h)).mono ?_; rintro e W3 ⟨bb, rfl, hor⟩; have HO := Lib.hid hor; clear hor))
      all_goals
        rcases HO.out with ⟨rfl, hJ3⟩ | ⟨rfl, hJx3⟩
        · gi_wp2
          go_roundw
          case rel => exact ⟨k + 1, by omega, by go_num, hJ3⟩
          case measure => (simp [intOf]; omega)
        · gi_wp2
          refine bodyPost_ret (results_none rfl _ _ _) rfl ?_
          exact ⟨⟨_, rfl⟩, .inr ⟨k + 1, hJx3⟩⟩
    · obtain rfl : k = n := by omega
      have hki : ¬ (k : Int) < (k : Int) := by omega
      clear hR hY
      gi_wp2
      go_end0
      exact ⟨⟨_, rfl⟩, .inl hJk⟩

theorem turnedR_any (A : Option Addr) (n c : Nat) (w : World) :
    Calls Tryd.prog 117 #[.slice A n c] w fun e w' => e = .returned (.func (.func 121) #[] #[.pointer (some ⟨w.heap.size, 0, none⟩)]) ∧ w.alloc (.cells #[.slice A n c] 51) = w' := by
  go_enter Tryd.func117, Tryd.ntmps117
  go_wp2_with (fail)
  go_ret
  exact ⟨rfl, rfl⟩
set_option maxHeartbeats 2000000 in
theorem turnedR_rounds (m : Nat) (hm : 1 ≤ m) (Bx : Nat) (A : Option Addr) (n c s : Nat) (xs : List Nat) (hs : s ≤ 17) (hn : n = 2 ^ s) (w : World) :
    Rounds Fence.wide m Tryd.prog 121 #[.pointer (some ⟨Bx, 0, none⟩)] (trn s xs) n (fun _ => RdT Bx A n c xs) w := by
  have hn7 : n ≤ 131072 := by rw [hn]; exact Nat.pow_le_pow_right (n := 2) (by decide) hs
  have hmix : Tryd.prog.follows Departure.mixedOrders = true := by kernel_rfl
  have Hn := Lib.hid hn
  clear hn
  intro l J Jx W hW hJ hJx hR hY h0
  refine callsIn_of_wp Tryd.func121 rfl trivial ?_ rfl
  simp only [Tryd.ntmps121, List.size_toArray, List.length_cons, List.length_nil, Nat.reduceAdd, Nat.reduceSub, Array.replicate_succ, Array.replicate_zero, List.push_toArray, List.append_toArray, List.nil_append, List.cons_append]
  obtain ⟨hc0, hs0, hT0⟩ := hR 0 W h0
  have hwn : IntKind.u64.wrap (n : Int) = (n : Int) := wrap_nat n (by have hB : B64 = 18446744073709551616 := rfl; omega)
  have hws : IntKind.i64.wrap (64 - (s : Int)) = ((64 - s : Nat) : Int) := by rw [show (64 - (s : Int)) = ((64 - s : Nat) : Int) by omega]; exact IntWalk.i64_in _ (by omega)
  gi_wp2_with (first
    | (refine ⟨trivial, ?_⟩; gi_at_call 98; refine (callsIn_wide.2 (tz_ok n s _ (by omega) Hn.out hT0)).mono ?_; rintro e w' ⟨rfl, rfl⟩))
  gi_loopw [4, 12] (fun _ p wr => ∃ (k : Nat), k ≤ n ∧ p = .int .i64 (k : Int) ∧ J k wr) (fun _ p wr => n - (intOf p).toNat)
  case atStart => exact ⟨0, Nat.zero_le _, rfl, h0⟩
  case round =>
    obtain ⟨k, hk, rfl, hJk⟩ := hrel
    obtain ⟨hc1, hs1, hT1⟩ := hR k wr hJk
    by_cases hlt : k < n
    · have hki : (k : Int) < (n : Int) := by omega
      have hwk : IntKind.u64.wrap (k : Int) = (k : Int) := wrap_nat k (by have hB : B64 = 18446744073709551616 := rfl; omega)
      obtain ⟨fn, tmps, assign, body, hy, hRd⟩ := hY k wr.drew (hJ k wr wr.drew none hJk (grown_drew (World.grownBy.refl wr none)) (by intro r hr; cases hr)) hlt
      obtain ⟨r, hr⟩ : ∃ r, brev s k = r := ⟨_, rfl⟩
      have hrn : r < n := by rw [← hr, Hn.out]; exact brev_lt s k
      have hdv := rev64_brev (k := s) (x := k) (by omega) (by rw [← Hn.out]; exact hlt)
      rw [hr] at hdv
      obtain ⟨q, hq⟩ : ∃ q, rev64 k = q := ⟨_, rfl⟩
      rw [hq] at hdv
      have hk64 : k < 2 ^ 64 := Nat.lt_of_lt_of_le (show k < 262144 by omega) (by decide)
      obtain ⟨b, o, rfl, -, hcx⟩ := hs1.rd hrn
      have hri : (r : Int) < (n : Int) := by omega
      obtain ⟨x, hx⟩ : ∃ x, yx xs r = x := ⟨_, rfl⟩
      rw [hx] at hcx
      simp only [trn, hr, hx] at hy
      have HH := Lib.hid (And.intro hq (And.intro hk64 hx))
      obtain ⟨u, hu⟩ : ∃ u, 64 - s = u := ⟨_, rfl⟩
      rw [hu] at hdv
      have hdvI : (q : Int) / 2 ^ u = (r : Int) := by rw [← hdv]; push_cast; rfl
      have hu0 : (0 : Int) ≤ (u : Int) := by omega
      have hu64 : (u : Int) ≤ 64 := by omega
      rw [hu]
      clear hq hk64 hx hr hu hdv
      gi_wp2
      gi_region_with_o (first
        | (refine ⟨trivial, ?_⟩; gi_at_call 99; refine (callsIn_wide.2 (Reverse64_ok k _ HH.out.2.1)).mono ?_; rintro e w' ⟨rfl, rfl⟩; rw [HH.out.1])
        | (refine (hRd.mono (fun _ _ h => yes_no h)).mono ?_; rintro e W3 ⟨bb, rfl, hor⟩; have HO := Lib.hid hor; clear hor))
      all_goals
        rcases HO.out with ⟨rfl, hJ3⟩ | ⟨rfl, hJx3⟩
        · gi_wp2
          go_roundw
          case rel => exact ⟨k + 1, by omega, by go_num, hJ3⟩
          case measure => (simp [intOf]; omega)
        · gi_wp2
          refine bodyPost_ret (results_none rfl _ _ _) rfl ?_
          exact ⟨⟨_, rfl⟩, .inr ⟨k + 1, hJx3⟩⟩
    · obtain rfl : k = n := by omega
      have hki : ¬ (k : Int) < (k : Int) := by omega
      clear hR hY
      gi_wp2
      go_end0
      exact ⟨⟨_, rfl⟩, .inl hJk⟩
end Go.Proofs.YthpgdpkemnhneaaDoor

namespace Go.Proofs.YthpgdpkemnhneaaDoor
open Go.RowKit Go.Shelf
set_option linter.unusedVariables false
set_option linter.unusedSimpArgs false
set_option maxRecDepth 10000

/-- the part of f from o on is T, n elements -/
def putf (f : Nat → Nat) (o n : Nat) (T : Nat → Nat) (p : Nat) : Nat := if o ≤ p ∧ p < o + n then T (p - o) else f p
theorem putf_in {f : Nat → Nat} {o n : Nat} {T : Nat → Nat} {i : Nat} (h : i < n) : putf f o n T (o + i) = T i := by
  unfold putf
  rw [if_pos (by omega), Nat.add_sub_cancel_left]
theorem putf_out {f : Nat → Nat} {o n : Nat} {T : Nat → Nat} {p : Nat} (h : p < o ∨ o + n ≤ p) : putf f o n T p = f p := by
  unfold putf
  rw [if_neg (by omega)]
theorem Tr_one (a : Nat → Nat) (ha : a 0 < PP) : Tr 1 (rt 0) a 0 = a 0 := by
  unfold Tr
  simp only [Sm]
  rw [Nat.zero_mul, Nat.pow_zero, Nat.mul_one, Nat.zero_add, Nat.mod_eq_of_lt ha]
/-- both elements that one step makes -/
theorem butter {s : Nat} (hs : s < 32) (a : Nat → Nat) (k F E O S : Nat) (hE : E = Tr (2 ^ s) (rt s) (fun i => a (2 * i)) k) (hO : O = Tr (2 ^ s) (rt s) (fun i => a (2 * i + 1)) k) (hF : Eqm F (rt (s + 1) ^ k)) (hS : S = O * F % PP) :
    (E + S) % PP = Tr (2 * 2 ^ s) (rt (s + 1)) a k ∧ (E + (PP - S)) % PP = Tr (2 * 2 ^ s) (rt (s + 1)) a (k + 2 ^ s) ∧ E < PP ∧ O < PP ∧ S < PP := by
  have hSP : S < PP := by rw [hS]; exact Nat.mod_lt _ PP_pos
  have hS2 : Eqm S (rt (s + 1) ^ k * O) := by
    rw [hS]
    refine (Eqm.mod _).trans ?_
    rw [Nat.mul_comm]
    exact hF.mul (.refl _)
  have h1 := Tr_two (h := 2 ^ s) (rt_sq s hs) a k
  have h2 := Tr_high (h := 2 ^ s) (rt_sq s hs) (rt_full s (by omega)) (rt_half s hs) a k
  rw [← hE, ← hO] at h1
  rw [← hE, ← hO] at h2
  refine ⟨?_, ?_, by rw [hE]; exact Tr_lt _ _ _ _, by rw [hO]; exact Tr_lt _ _ _ _, hSP⟩
  · refine ((Eqm.mod _).trans (.trans (Eqm.add (.refl _) hS2) h1.symm)).eq (Nat.mod_lt _ PP_pos) (Tr_lt _ _ _ _)
  · refine Eqm.eq ?_ (Nat.mod_lt _ PP_pos) (Tr_lt _ _ _ _)
    refine (Eqm.mod _).trans (Eqm.cancel (c := S) ?_)
    have h3 : Eqm (E + (PP - S) + S) E := by
      rw [show E + (PP - S) + S = E + PP by omega]
      unfold Eqm
      simp
    exact h3.trans (h2.symm.trans (Eqm.add (.refl _) hS2.symm))
/-- the factor of a step -/
theorem factor {K s k N : Nat} (hN : N = 2 ^ K) (hs : s + 1 ≤ K) (hK : K ≤ 32) : Eqm (rt K ^ (k * (N / 2 ^ (s + 1))) % PP) (rt (s + 1) ^ k) := by
  have h1 : N / 2 ^ (s + 1) = 2 ^ (K - (s + 1)) := by
    rw [hN, show 2 ^ K = 2 ^ (K - (s + 1)) * 2 ^ (s + 1) by rw [← Nat.pow_add]; congr 1; omega, Nat.mul_div_cancel _ (Nat.pow_pos (by decide))]
  rw [h1, Nat.mul_comm, Nat.pow_mul]
  refine (Eqm.mod _).trans (Eqm.pow ?_ k)
  have h2 := rt_pow (s + 1) (K - (s + 1)) (by omega)
  rw [show s + 1 + (K - (s + 1)) = K by omega] at h2
  exact h2


/-- what the closure has: itself, the list, the factors -/
def WkBU (W : World) (pw pz pf g gf N M cz cf K : Nat) : Prop :=
  (W.cell? ⟨pw, 0, none⟩ = some (.func (.func 72) #[] #[.pointer (some ⟨pw, 0, none⟩), .pointer (some ⟨pz, 0, none⟩), .pointer (some ⟨pf, 0, none⟩)]) ∧ W.cell? ⟨pz, 0, none⟩ = some (.slice (some ⟨g, 0, none⟩) N cz) ∧ W.cell? ⟨pf, 0, none⟩ = some (.slice (some ⟨gf, 0, none⟩) M cf)) ∧
    Rp 68 W gf M (fun i => rt K ^ i % PP) ∧ pw ≠ g ∧ pz ≠ g ∧ pf ≠ g ∧ gf ≠ g
theorem WkBU.grown {W W' : World} {pw pz pf g gf N M cz cf K : Nat} (h : WkBU W pw pz pf g gf N M cz cf K) (hg : W.grownBy W' (some g)) : WkBU W' pw pz pf g gf N M cz cf K := by
  obtain ⟨⟨h1, h2, h3⟩, h4, h5, h6, h7, h8⟩ := h
  have cl : ∀ {p : Nat} {u : Value}, W.cell? ⟨p, 0, none⟩ = some u → p ≠ g → W'.cell? ⟨p, 0, none⟩ = some u := fun {p u} h hp => hg.cell h (by intro e; injection e with e; exact hp e)
  exact ⟨⟨cl h1 h5, cl h2 h6, cl h3 h7⟩, h4.heap (hg.block gf h4.lt (by intro e; injection e with e; exact h8 e)), h5, h6, h7, h8⟩
theorem workU_zero (pw pz pf g gf N M cz cf K : Nat) (o c : Nat) (a f : Nat → Nat) (W : World) (ha : a 0 < PP) (hf : f o = a 0) (hR : Rp 68 W g N f) :
    Calls Tryd.prog 72 #[.slice (some ⟨g, o, none⟩) 1 c, .pointer (some ⟨pw, 0, none⟩), .pointer (some ⟨pz, 0, none⟩), .pointer (some ⟨pf, 0, none⟩)] W fun e W' => e = .returned (.tuple #[]) ∧ Rp 68 W' g N (putf f o 1 (Tr 1 (rt 0) a)) ∧ W.grownBy W' (some g) := by
  have hN : Rp 68 W g N (putf f o 1 (Tr 1 (rt 0) a)) := hR.congr fun i _ => by
    by_cases h : i = o
    · subst h
      have := putf_in (f := f) (o := i) (n := 1) (T := Tr 1 (rt 0) a) (i := 0) (by omega)
      rw [Nat.add_zero] at this
      rw [this, hf, Tr_one a ha]
    · rw [putf_out (by omega)]
  have HN := Lib.hid hN
  clear hN hR hf ha
  go_enter Tryd.func72, Tryd.ntmps72
  go_wp2_with (fail)
  refine bodyPost_ret (results_none rfl _ _ _) rfl ?_
  exact ⟨rfl, HN.out, World.grownBy.refl _ _⟩
set_option maxHeartbeats 4000000 in
theorem workU_step (pw pz pf g gf N M cz cf K : Nat) (hN : N = 2 ^ K) (hM : M = N / 2) (hK : K ≤ 17) (s : Nat) (hs : s + 1 ≤ K)
    (IH : ∀ (o c : Nat) (a f : Nat → Nat) (W : World), o + 2 ^ s ≤ N → 2 ^ s ≤ c → c ≤ 9223372036854775807 → (∀ j, j < 2 ^ s → a j < PP) → (∀ i, i < 2 ^ s → f (o + i) = rv s a i) → Rp 68 W g N f → WkBU W pw pz pf g gf N M cz cf K →
      Calls Tryd.prog 72 #[.slice (some ⟨g, o, none⟩) (2 ^ s) c, .pointer (some ⟨pw, 0, none⟩), .pointer (some ⟨pz, 0, none⟩), .pointer (some ⟨pf, 0, none⟩)] W fun e W' => e = .returned (.tuple #[]) ∧ Rp 68 W' g N (putf f o (2 ^ s) (Tr (2 ^ s) (rt s) a)) ∧ W.grownBy W' (some g))
    (o c : Nat) (a f : Nat → Nat) (W : World) (ho : o + 2 ^ (s + 1) ≤ N) (hc : 2 ^ (s + 1) ≤ c) (hc2 : c ≤ 9223372036854775807) (ha : ∀ j, j < 2 ^ (s + 1) → a j < PP) (hf : ∀ i, i < 2 ^ (s + 1) → f (o + i) = rv (s + 1) a i) (hR : Rp 68 W g N f) (hW : WkBU W pw pz pf g gf N M cz cf K) :
      Calls Tryd.prog 72 #[.slice (some ⟨g, o, none⟩) (2 ^ (s + 1)) c, .pointer (some ⟨pw, 0, none⟩), .pointer (some ⟨pz, 0, none⟩), .pointer (some ⟨pf, 0, none⟩)] W fun e W' => e = .returned (.tuple #[]) ∧ Rp 68 W' g N (putf f o (2 ^ (s + 1)) (Tr (2 ^ (s + 1)) (rt (s + 1)) a)) ∧ W.grownBy W' (some g) := by
  obtain ⟨h, hh⟩ : ∃ h, 2 ^ s = h := ⟨_, rfl⟩
  have hh0 : 0 < h := by rw [← hh]; exact Nat.pow_pos (by decide)
  obtain ⟨m, hm⟩ : ∃ m, m = 2 * h := ⟨_, rfl⟩
  have hpm : 2 ^ (s + 1) = m := by rw [hm, Nat.pow_succ, hh, Nat.mul_comm]
  have hN7 : N ≤ 131072 := by rw [hN]; exact Nat.pow_le_pow_right (n := 2) (by decide) hK
  obtain ⟨st, hst⟩ : ∃ st, st = N / m := ⟨_, rfl⟩
  have hst2 : m * st = N := by
    rw [hst, ← hpm, hN]
    exact Nat.mul_div_cancel' (Nat.pow_dvd_pow 2 hs)
  have hfac : ∀ k, Eqm (rt K ^ (k * st) % PP) (rt (s + 1) ^ k) := fun k => by rw [hst, ← hpm]; exact factor hN hs (by omega)
  have hbut := fun k => butter (s := s) (by omega) a k
  rw [hh] at hbut IH
  have hrv1 : ∀ i, i < h → f (o + i) = rv s (fun j => a (2 * j)) i := fun i hi => by
    rw [hf i (by rw [hpm]; omega), rv, if_pos (by rw [hh]; exact hi)]
  have hrv2 : ∀ i, i < h → f (o + h + i) = rv s (fun j => a (2 * j + 1)) i := fun i hi => by
    rw [Nat.add_assoc, hf (h + i) (by rw [hpm]; omega), rv, if_neg (by rw [hh]; omega), hh, Nat.add_sub_cancel_left]
  rw [hpm] at ho hc ha ⊢
  rw [← hm] at hbut
  have hmN : m ≤ 131072 := by omega
  have e1 : (m : Int) / 2 = (h : Int) := by omega
  have e2 : (m : Int).tdiv 2 = (h : Int) := by rw [Int.tdiv_eq_ediv_of_nonneg (by omega)]; exact e1
  have e3 : IntKind.i64.wrap (h : Int) = (h : Int) := IntWalk.i64_in _ (by omega)
  have e4 : ¬ (m : Int) = 1 := by omega
  have e5 : (N : Int) / (m : Int) = (st : Int) := by rw [hst]; simp
  have e6 : (N : Int).tdiv (m : Int) = (st : Int) := by rw [Int.tdiv_eq_ediv_of_nonneg (by omega)]; exact e5
  have hstN : st ≤ 131072 := by rw [hst]; exact Nat.le_trans (Nat.div_le_self _ _) hN7
  have e7 : IntKind.i64.wrap (st : Int) = (st : Int) := IntWalk.i64_in _ (by omega)
  have e8 : (0 : Int) ≤ (h : Int) := by omega
  have e9 : (h : Int) ≤ (m : Int) := by omega
  have e10 : (m : Int) ≤ (c : Int) := by omega
  have e11 : (m : Int) - (h : Int) = (h : Int) := by omega
  have e12 : (h : Int) ≤ (c : Int) := by omega
  have hm1 : ((m : Int) == 1) = false := by simp; omega
  have hm0 : ¬ m = 0 := by omega
  have hmh : m - h = h := by omega
  obtain ⟨T, hT⟩ : ∃ T, T = Tr m (rt (s + 1)) a := ⟨_, rfl⟩
  rw [← hT]
  have HT := Lib.hid hT
  clear hT
  have c1 := hW.1.1
  have HH := Lib.hid (And.intro IH (And.intro hbut (And.intro hfac (And.intro hst2 (And.intro ha (And.intro (And.intro hrv1 hrv2) (And.intro hR (And.intro hW (And.intro ho (And.intro hm (And.intro hM hh0)))))))))))
  clear IH hbut hfac hst2 ha hf hrv1 hrv2 hR hW ho hm hM hh hpm hst hN
  go_enter Tryd.func72, Tryd.ntmps72
  go_wp2_with (fail)
  go_region
  go_wp2_with (fail)
  have hh5 : h ≤ 100000 := by omega
  refine (HH.out.1 o h (fun j => a (2 * j)) f W.drew (by have h1 := HH.out.2.2.2.2.2.2.2.2.1; have h2 := HH.out.2.2.2.2.2.2.2.2.2.1; omega) (Nat.le_refl _) (by omega) (fun j hj => HH.out.2.2.2.2.1 _ (by have h2 := HH.out.2.2.2.2.2.2.2.2.2.1; omega)) HH.out.2.2.2.2.2.1.1 HH.out.2.2.2.2.2.2.1 HH.out.2.2.2.2.2.2.2.1).mono ?_
  rintro e w1 ⟨rfl, hR1, hg1⟩
  have H1 := Lib.hid (And.intro hR1 (show W.grownBy w1 (some g) from grown_trans (grown_drew (World.grownBy.refl W (some g))) hg1))
  have c2 := (HH.out.2.2.2.2.2.2.2.1.grown H1.out.2).1.1
  clear hR1 hg1
  go_wp2_with (fail)
  refine (HH.out.1 (o + h) h (fun j => a (2 * j + 1)) (putf f o h (Tr h (rt s) (fun j => a (2 * j)))) w1 (by have h1 := HH.out.2.2.2.2.2.2.2.2.1; have h2 := HH.out.2.2.2.2.2.2.2.2.2.1; omega) (Nat.le_refl _) (by omega) (fun j hj => HH.out.2.2.2.2.1 _ (by have h2 := HH.out.2.2.2.2.2.2.2.2.2.1; omega)) (fun i hi => by rw [putf_out (by omega)]; exact HH.out.2.2.2.2.2.1.2 i hi) H1.out.1 (HH.out.2.2.2.2.2.2.2.1.grown H1.out.2)).mono ?_
  rintro e w2 ⟨rfl, hR2, hg2⟩
  obtain ⟨f2, hf2⟩ : ∃ f2, f2 = putf (putf f o h (Tr h (rt s) (fun j => a (2 * j)))) (o + h) h (Tr h (rt s) (fun j => a (2 * j + 1))) := ⟨_, rfl⟩
  rw [← hf2] at hR2
  have hE : ∀ k, k < h → f2 (o + k) = Tr h (rt s) (fun j => a (2 * j)) k ∧ f2 (o + h + k) = Tr h (rt s) (fun j => a (2 * j + 1)) k := fun k hk => by
    rw [hf2]
    exact ⟨by rw [putf_out (by omega), putf_in hk], putf_in hk⟩
  have hend : ∀ p, putf (putf f2 o h T) (o + h) h (fun i => T (i + h)) p = putf f o m T p := fun p => by
    have h2 := HH.out.2.2.2.2.2.2.2.2.2.1
    unfold putf
    by_cases q1 : o + h ≤ p ∧ p < o + h + h
    · rw [if_pos q1, if_pos (by omega)]
      show T (p - (o + h) + h) = _
      congr 1
      omega
    · rw [if_neg q1]
      by_cases q2 : o ≤ p ∧ p < o + h
      · rw [if_pos q2, if_pos (by omega)]
      · rw [if_neg q2, if_neg (by omega), hf2]
        rw [putf_out (by omega), putf_out (by omega)]
  have H2 : Hid (Rp 68 w2 g N (putf (putf f2 o 0 T) (o + h) 0 (fun i => T (i + h))) ∧ W.grownBy w2 (some g)) := ⟨hR2.congr fun i _ => by rw [putf_out (by omega), putf_out (by omega)], grown_trans H1.out.2 hg2⟩
  have HE := Lib.hid (And.intro hE (And.intro hend HT.out))
  have c3 := (HH.out.2.2.2.2.2.2.2.1.grown H2.out.2).1.2.1
  clear hR2 hg2 hf2 hE hend H1 c1 c2
  go_wp2_with (fail)
  go_loopw [10, 11, 12, 40] (fun _ _ _ iv wr => ∃ (k : Nat), k ≤ h ∧ iv = .int .i64 k ∧ Hid (Rp 68 wr g N (putf (putf f2 o k T) (o + h) k (fun i => T (i + h))) ∧ W.grownBy wr (some g))) (fun _ _ _ iv _ => h - (intOf iv).toNat)
  case atStart => exact ⟨0, Nat.zero_le _, rfl, H2⟩
  case round =>
    clear H2 c3
    obtain ⟨k, hk, rfl, hH⟩ := hrel
    by_cases hlt : k < h
    · have hki : (k : Int) < h := by omega
      have hwb := HH.out.2.2.2.2.2.2.2.1.grown hH.out.2
      have hom : o + h + k < N := by have h1 := HH.out.2.2.2.2.2.2.2.2.1; have h2 := HH.out.2.2.2.2.2.2.2.2.2.1; omega
      have c4 := hH.out.1.cell (i := o + k) (by omega)
      have c5 := hH.out.1.cell (i := o + h + k) hom
      have f4 := hH.out.1.frozen (o + k)
      have f5 := hH.out.1.frozen (o + h + k)
      rw [putf_out (by omega), putf_out (by omega), (HE.out.1 k hlt).1] at c4
      rw [show o + h + k = o + h + k from rfl, putf_out (by omega), putf_out (by omega), (HE.out.1 k hlt).2] at c5
      obtain ⟨q, hq⟩ : ∃ q, q = k * st := ⟨_, rfl⟩
      have hqM : q < M := by
        have h1 := HH.out.2.2.2.1
        have h2 := HH.out.2.2.2.2.2.2.2.2.2.1
        have h3 := HH.out.2.2.2.2.2.2.2.2.2.2.1
        rw [h2, Nat.mul_assoc] at h1
        have h4 : (k + 1) * st ≤ h * st := Nat.mul_le_mul_right _ hlt
        rw [Nat.succ_mul] at h4
        have h5 : 0 < st := by
          rcases Nat.eq_zero_or_pos st with h6 | h6
          · rw [h6] at h1; omega
          · exact h6
        omega
      have c6 := hwb.2.1.cell hqM
      have c7 := hwb.1.2.2
      obtain ⟨E, hEv⟩ : ∃ E, Tr h (rt s) (fun j => a (2 * j)) k = E := ⟨_, rfl⟩
      obtain ⟨O, hOv⟩ : ∃ O, Tr h (rt s) (fun j => a (2 * j + 1)) k = O := ⟨_, rfl⟩
      obtain ⟨F, hFv⟩ : ∃ F, rt K ^ q % PP = F := ⟨_, rfl⟩
      obtain ⟨S, hSv⟩ : ∃ S, O * F % PP = S := ⟨_, rfl⟩
      rw [hEv] at c4
      rw [hOv] at c5
      rw [hFv] at c6
      have hb := HH.out.2.1 k F E O S hEv.symm hOv.symm (by rw [← hFv, hq]; exact HH.out.2.2.1 k) hSv.symm
      have hFP : F < PP := by rw [← hFv]; exact Nat.mod_lt _ PP_pos
      have hqi : (k : Int) * (st : Int) = (q : Int) := by rw [hq]; push_cast; rfl
      have hM5 : M ≤ 131072 := by have h3 := HH.out.2.2.2.2.2.2.2.2.2.2.1; omega
      have hqw : IntKind.i64.wrap (q : Int) = (q : Int) := IntWalk.i64_in _ (by omega)
      have hqMi : (q : Int) < (M : Int) := by omega
      have hkm : (k : Int) < (h : Int) := hki
      rw [← HE.out.2.2] at hb
      obtain ⟨x, hx⟩ : ∃ x, (E + S) % PP = x := ⟨_, rfl⟩
      obtain ⟨y, hy⟩ : ∃ y, (E + (PP - S)) % PP = y := ⟨_, rfl⟩
      have hxB : x < B64 := by rw [← hx]; exact Nat.lt_trans (Nat.mod_lt _ PP_pos) PP_lt
      have hyB : y < B64 := by rw [← hy]; exact Nat.lt_trans (Nat.mod_lt _ PP_pos) PP_lt
      rw [hx, hy] at hb
      have HB := Lib.hid (And.intro hb (And.intro hFP (And.intro hSv (And.intro hx (And.intro hy hom)))))
      have HN : Hid (Rp 68 ((wr.setCell ⟨g, o + k, none⟩ (.int .u64 x)).setCell ⟨g, o + h + k, none⟩ (.int .u64 y)) g N (putf (putf f2 o (k + 1) T) (o + h) (k + 1) (fun i => T (i + h))) ∧ W.grownBy ((wr.setCell ⟨g, o + k, none⟩ (.int .u64 x)).setCell ⟨g, o + h + k, none⟩ (.int .u64 y)) (some g)) := by
        refine ⟨((hH.out.1.set (show o + k < N by omega) hxB).set hom hyB).congr fun i hi => ?_, grown_trans hH.out.2 (grown_trans (grown_set _ _ _ _) (grown_set _ _ _ _))⟩
        show (if i = o + h + k then y else if i = o + k then x else putf (putf f2 o k T) (o + h) k (fun i => T (i + h)) i) = _
        by_cases q1 : i = o + h + k
        · rw [if_pos q1, q1, putf_in (by omega)]
          exact hb.2.1
        · rw [if_neg q1]
          by_cases q2 : i = o + k
          · rw [if_pos q2, q2, putf_out (by omega), putf_in (by omega)]
            exact hb.1
          · rw [if_neg q2]
            unfold putf
            by_cases q3 : o + h ≤ i ∧ i < o + h + k
            · rw [if_pos q3, if_pos (by omega)]
            · rw [if_neg q3, if_neg (show ¬ (o + h ≤ i ∧ i < o + h + (k + 1)) by omega)]
              by_cases q4 : o ≤ i ∧ i < o + k
              · rw [if_pos q4, if_pos (by omega)]
              · rw [if_neg q4, if_neg (by omega)]
      clear hb hFP hSv hx hy hxB hyB hom hwb hH hEv hOv hFv hq hlt
      go_wp2_with (fail)
      go_region_held3 (fun w' => w'.cell? ⟨g, o + h + k, none⟩ = some (.int .u64 O) ∧ w'.cell? ⟨pf, 0, none⟩ = some (.slice (some ⟨gf, 0, none⟩) M cf) ∧ w'.cell? ⟨gf, q, none⟩ = some (.int .u64 F)) (first | exact ⟨c5, c7, c6⟩ | go_keep)
        (first
          | (go_at_call 64; refine (times_ok O F _ HB.out.1.2.2.2.1 HB.out.2.1).mono ?_; rintro e w3 ⟨rfl, rfl⟩; rw [HB.out.2.2.1]))
      all_goals
        go_wp2_with (fail)
        refine (plus_ok E S _ HB.out.1.2.2.1 HB.out.1.2.2.2.2).mono ?_
        rintro e w4 ⟨rfl, rfl⟩
        rw [HB.out.2.2.2.1]
        go_wp2_with (fail)
        refine (minus_ok E S _ HB.out.1.2.2.1 HB.out.1.2.2.2.2).mono ?_
        rintro e w4 ⟨rfl, rfl⟩
        rw [HB.out.2.2.2.2.1]
        go_wp2_with (fail)
        go_roundw
        case rel => exact ⟨k + 1, by omega, by go_num, Lib.hid ⟨HN.out.1, by first | exact HN.out.2 | exact grown_drew HN.out.2 | exact grown_drewN HN.out.2 _⟩⟩
        case measure => simp [intOf]; omega
    · have hki : ¬ (k : Int) < h := by omega
      obtain rfl : k = h := by omega
      go_wp2_with (fail)
      refine bodyPost_end (v := .tuple #[]) (results_none rfl _ _ _) rfl ?_
      exact ⟨rfl, hH.out.1.congr (fun p _ => HE.out.2.1 p), hH.out.2⟩
theorem workU_ok (pw pz pf g gf N M cz cf K : Nat) (hN : N = 2 ^ K) (hM : M = N / 2) (hK : K ≤ 17) : ∀ (s : Nat), s ≤ K → ∀ (o c : Nat) (a f : Nat → Nat) (W : World), o + 2 ^ s ≤ N → 2 ^ s ≤ c → c ≤ 9223372036854775807 → (∀ j, j < 2 ^ s → a j < PP) → (∀ i, i < 2 ^ s → f (o + i) = rv s a i) → Rp 68 W g N f → WkBU W pw pz pf g gf N M cz cf K →
      Calls Tryd.prog 72 #[.slice (some ⟨g, o, none⟩) (2 ^ s) c, .pointer (some ⟨pw, 0, none⟩), .pointer (some ⟨pz, 0, none⟩), .pointer (some ⟨pf, 0, none⟩)] W fun e W' => e = .returned (.tuple #[]) ∧ Rp 68 W' g N (putf f o (2 ^ s) (Tr (2 ^ s) (rt s) a)) ∧ W.grownBy W' (some g)
  | 0, _, o, c, a, f, W, _, _, _, ha, hf, hR, _ => workU_zero pw pz pf g gf N M cz cf K o c a f W (ha 0 (by decide)) (by have := hf 0 (by decide); rwa [Nat.add_zero] at this) hR
  | s + 1, hs, o, c, a, f, W, ho, hc, hc2, ha, hf, hR, hW => workU_step pw pz pf g gf N M cz cf K hN hM hK s hs (fun o c a f W h1 h2 h3 h4 h5 h6 h7 => workU_ok pw pz pf g gf N M cz cf K hN hM hK s (by omega) o c a f W h1 h2 h3 h4 h5 h6 h7) o c a f W ho hc hc2 ha hf hR hW

/-- what the closure has: itself, the list, the factors -/
def WkBR (W : World) (pw pz pf g gf N M cz cf K : Nat) : Prop :=
  (W.cell? ⟨pw, 0, none⟩ = some (.func (.func 118) #[] #[.pointer (some ⟨pw, 0, none⟩), .pointer (some ⟨pz, 0, none⟩), .pointer (some ⟨pf, 0, none⟩)]) ∧ W.cell? ⟨pz, 0, none⟩ = some (.slice (some ⟨g, 0, none⟩) N cz) ∧ W.cell? ⟨pf, 0, none⟩ = some (.slice (some ⟨gf, 0, none⟩) M cf)) ∧
    Rp 68 W gf M (fun i => rt K ^ i % PP) ∧ pw ≠ g ∧ pz ≠ g ∧ pf ≠ g ∧ gf ≠ g
theorem WkBR.grown {W W' : World} {pw pz pf g gf N M cz cf K : Nat} (h : WkBR W pw pz pf g gf N M cz cf K) (hg : W.grownBy W' (some g)) : WkBR W' pw pz pf g gf N M cz cf K := by
  obtain ⟨⟨h1, h2, h3⟩, h4, h5, h6, h7, h8⟩ := h
  have cl : ∀ {p : Nat} {u : Value}, W.cell? ⟨p, 0, none⟩ = some u → p ≠ g → W'.cell? ⟨p, 0, none⟩ = some u := fun {p u} h hp => hg.cell h (by intro e; injection e with e; exact hp e)
  exact ⟨⟨cl h1 h5, cl h2 h6, cl h3 h7⟩, h4.heap (hg.block gf h4.lt (by intro e; injection e with e; exact h8 e)), h5, h6, h7, h8⟩
theorem workR_zero (pw pz pf g gf N M cz cf K : Nat) (o c : Nat) (a f : Nat → Nat) (W : World) (ha : a 0 < PP) (hf : f o = a 0) (hR : Rp 68 W g N f) :
    Calls Tryd.prog 118 #[.slice (some ⟨g, o, none⟩) 1 c, .pointer (some ⟨pw, 0, none⟩), .pointer (some ⟨pz, 0, none⟩), .pointer (some ⟨pf, 0, none⟩)] W fun e W' => e = .returned (.tuple #[]) ∧ Rp 68 W' g N (putf f o 1 (Tr 1 (rt 0) a)) ∧ W.grownBy W' (some g) := by
  have hN : Rp 68 W g N (putf f o 1 (Tr 1 (rt 0) a)) := hR.congr fun i _ => by
    by_cases h : i = o
    · subst h
      have := putf_in (f := f) (o := i) (n := 1) (T := Tr 1 (rt 0) a) (i := 0) (by omega)
      rw [Nat.add_zero] at this
      rw [this, hf, Tr_one a ha]
    · rw [putf_out (by omega)]
  have HN := Lib.hid hN
  clear hN hR hf ha
  go_enter Tryd.func118, Tryd.ntmps118
  go_wp2_with (fail)
  refine bodyPost_ret (results_none rfl _ _ _) rfl ?_
  exact ⟨rfl, HN.out, World.grownBy.refl _ _⟩
set_option maxHeartbeats 4000000 in
theorem workR_step (pw pz pf g gf N M cz cf K : Nat) (hN : N = 2 ^ K) (hM : M = N / 2) (hK : K ≤ 17) (s : Nat) (hs : s + 1 ≤ K)
    (IH : ∀ (o c : Nat) (a f : Nat → Nat) (W : World), o + 2 ^ s ≤ N → 2 ^ s ≤ c → c ≤ 9223372036854775807 → (∀ j, j < 2 ^ s → a j < PP) → (∀ i, i < 2 ^ s → f (o + i) = rv s a i) → Rp 68 W g N f → WkBR W pw pz pf g gf N M cz cf K →
      Calls Tryd.prog 118 #[.slice (some ⟨g, o, none⟩) (2 ^ s) c, .pointer (some ⟨pw, 0, none⟩), .pointer (some ⟨pz, 0, none⟩), .pointer (some ⟨pf, 0, none⟩)] W fun e W' => e = .returned (.tuple #[]) ∧ Rp 68 W' g N (putf f o (2 ^ s) (Tr (2 ^ s) (rt s) a)) ∧ W.grownBy W' (some g))
    (o c : Nat) (a f : Nat → Nat) (W : World) (ho : o + 2 ^ (s + 1) ≤ N) (hc : 2 ^ (s + 1) ≤ c) (hc2 : c ≤ 9223372036854775807) (ha : ∀ j, j < 2 ^ (s + 1) → a j < PP) (hf : ∀ i, i < 2 ^ (s + 1) → f (o + i) = rv (s + 1) a i) (hR : Rp 68 W g N f) (hW : WkBR W pw pz pf g gf N M cz cf K) :
      Calls Tryd.prog 118 #[.slice (some ⟨g, o, none⟩) (2 ^ (s + 1)) c, .pointer (some ⟨pw, 0, none⟩), .pointer (some ⟨pz, 0, none⟩), .pointer (some ⟨pf, 0, none⟩)] W fun e W' => e = .returned (.tuple #[]) ∧ Rp 68 W' g N (putf f o (2 ^ (s + 1)) (Tr (2 ^ (s + 1)) (rt (s + 1)) a)) ∧ W.grownBy W' (some g) := by
  obtain ⟨h, hh⟩ : ∃ h, 2 ^ s = h := ⟨_, rfl⟩
  have hh0 : 0 < h := by rw [← hh]; exact Nat.pow_pos (by decide)
  obtain ⟨m, hm⟩ : ∃ m, m = 2 * h := ⟨_, rfl⟩
  have hpm : 2 ^ (s + 1) = m := by rw [hm, Nat.pow_succ, hh, Nat.mul_comm]
  have hN7 : N ≤ 131072 := by rw [hN]; exact Nat.pow_le_pow_right (n := 2) (by decide) hK
  obtain ⟨st, hst⟩ : ∃ st, st = N / m := ⟨_, rfl⟩
  have hst2 : m * st = N := by
    rw [hst, ← hpm, hN]
    exact Nat.mul_div_cancel' (Nat.pow_dvd_pow 2 hs)
  have hfac : ∀ k, Eqm (rt K ^ (k * st) % PP) (rt (s + 1) ^ k) := fun k => by rw [hst, ← hpm]; exact factor hN hs (by omega)
  have hbut := fun k => butter (s := s) (by omega) a k
  rw [hh] at hbut IH
  have hrv1 : ∀ i, i < h → f (o + i) = rv s (fun j => a (2 * j)) i := fun i hi => by
    rw [hf i (by rw [hpm]; omega), rv, if_pos (by rw [hh]; exact hi)]
  have hrv2 : ∀ i, i < h → f (o + h + i) = rv s (fun j => a (2 * j + 1)) i := fun i hi => by
    rw [Nat.add_assoc, hf (h + i) (by rw [hpm]; omega), rv, if_neg (by rw [hh]; omega), hh, Nat.add_sub_cancel_left]
  rw [hpm] at ho hc ha ⊢
  rw [← hm] at hbut
  have hmN : m ≤ 131072 := by omega
  have e1 : (m : Int) / 2 = (h : Int) := by omega
  have e2 : (m : Int).tdiv 2 = (h : Int) := by rw [Int.tdiv_eq_ediv_of_nonneg (by omega)]; exact e1
  have e3 : IntKind.i64.wrap (h : Int) = (h : Int) := IntWalk.i64_in _ (by omega)
  have e4 : ¬ (m : Int) = 1 := by omega
  have e5 : (N : Int) / (m : Int) = (st : Int) := by rw [hst]; simp
  have e6 : (N : Int).tdiv (m : Int) = (st : Int) := by rw [Int.tdiv_eq_ediv_of_nonneg (by omega)]; exact e5
  have hstN : st ≤ 131072 := by rw [hst]; exact Nat.le_trans (Nat.div_le_self _ _) hN7
  have e7 : IntKind.i64.wrap (st : Int) = (st : Int) := IntWalk.i64_in _ (by omega)
  have e8 : (0 : Int) ≤ (h : Int) := by omega
  have e9 : (h : Int) ≤ (m : Int) := by omega
  have e10 : (m : Int) ≤ (c : Int) := by omega
  have e11 : (m : Int) - (h : Int) = (h : Int) := by omega
  have e12 : (h : Int) ≤ (c : Int) := by omega
  have hm1 : ((m : Int) == 1) = false := by simp; omega
  have hm0 : ¬ m = 0 := by omega
  have hmh : m - h = h := by omega
  obtain ⟨T, hT⟩ : ∃ T, T = Tr m (rt (s + 1)) a := ⟨_, rfl⟩
  rw [← hT]
  have HT := Lib.hid hT
  clear hT
  have c1 := hW.1.1
  have HH := Lib.hid (And.intro IH (And.intro hbut (And.intro hfac (And.intro hst2 (And.intro ha (And.intro (And.intro hrv1 hrv2) (And.intro hR (And.intro hW (And.intro ho (And.intro hm (And.intro hM hh0)))))))))))
  clear IH hbut hfac hst2 ha hf hrv1 hrv2 hR hW ho hm hM hh hpm hst hN
  go_enter Tryd.func118, Tryd.ntmps118
  go_wp2_with (fail)
  go_region
  go_wp2_with (fail)
  have hh5 : h ≤ 100000 := by omega
  refine (HH.out.1 o h (fun j => a (2 * j)) f W.drew (by have h1 := HH.out.2.2.2.2.2.2.2.2.1; have h2 := HH.out.2.2.2.2.2.2.2.2.2.1; omega) (Nat.le_refl _) (by omega) (fun j hj => HH.out.2.2.2.2.1 _ (by have h2 := HH.out.2.2.2.2.2.2.2.2.2.1; omega)) HH.out.2.2.2.2.2.1.1 HH.out.2.2.2.2.2.2.1 HH.out.2.2.2.2.2.2.2.1).mono ?_
  rintro e w1 ⟨rfl, hR1, hg1⟩
  have H1 := Lib.hid (And.intro hR1 (show W.grownBy w1 (some g) from grown_trans (grown_drew (World.grownBy.refl W (some g))) hg1))
  have c2 := (HH.out.2.2.2.2.2.2.2.1.grown H1.out.2).1.1
  clear hR1 hg1
  go_wp2_with (fail)
  refine (HH.out.1 (o + h) h (fun j => a (2 * j + 1)) (putf f o h (Tr h (rt s) (fun j => a (2 * j)))) w1 (by have h1 := HH.out.2.2.2.2.2.2.2.2.1; have h2 := HH.out.2.2.2.2.2.2.2.2.2.1; omega) (Nat.le_refl _) (by omega) (fun j hj => HH.out.2.2.2.2.1 _ (by have h2 := HH.out.2.2.2.2.2.2.2.2.2.1; omega)) (fun i hi => by rw [putf_out (by omega)]; exact HH.out.2.2.2.2.2.1.2 i hi) H1.out.1 (HH.out.2.2.2.2.2.2.2.1.grown H1.out.2)).mono ?_
  rintro e w2 ⟨rfl, hR2, hg2⟩
  obtain ⟨f2, hf2⟩ : ∃ f2, f2 = putf (putf f o h (Tr h (rt s) (fun j => a (2 * j)))) (o + h) h (Tr h (rt s) (fun j => a (2 * j + 1))) := ⟨_, rfl⟩
  rw [← hf2] at hR2
  have hE : ∀ k, k < h → f2 (o + k) = Tr h (rt s) (fun j => a (2 * j)) k ∧ f2 (o + h + k) = Tr h (rt s) (fun j => a (2 * j + 1)) k := fun k hk => by
    rw [hf2]
    exact ⟨by rw [putf_out (by omega), putf_in hk], putf_in hk⟩
  have hend : ∀ p, putf (putf f2 o h T) (o + h) h (fun i => T (i + h)) p = putf f o m T p := fun p => by
    have h2 := HH.out.2.2.2.2.2.2.2.2.2.1
    unfold putf
    by_cases q1 : o + h ≤ p ∧ p < o + h + h
    · rw [if_pos q1, if_pos (by omega)]
      show T (p - (o + h) + h) = _
      congr 1
      omega
    · rw [if_neg q1]
      by_cases q2 : o ≤ p ∧ p < o + h
      · rw [if_pos q2, if_pos (by omega)]
      · rw [if_neg q2, if_neg (by omega), hf2]
        rw [putf_out (by omega), putf_out (by omega)]
  have H2 : Hid (Rp 68 w2 g N (putf (putf f2 o 0 T) (o + h) 0 (fun i => T (i + h))) ∧ W.grownBy w2 (some g)) := ⟨hR2.congr fun i _ => by rw [putf_out (by omega), putf_out (by omega)], grown_trans H1.out.2 hg2⟩
  have HE := Lib.hid (And.intro hE (And.intro hend HT.out))
  have c3 := (HH.out.2.2.2.2.2.2.2.1.grown H2.out.2).1.2.1
  clear hR2 hg2 hf2 hE hend H1 c1 c2
  go_wp2_with (fail)
  go_loopw [10, 11, 12, 40] (fun _ _ _ iv wr => ∃ (k : Nat), k ≤ h ∧ iv = .int .i64 k ∧ Hid (Rp 68 wr g N (putf (putf f2 o k T) (o + h) k (fun i => T (i + h))) ∧ W.grownBy wr (some g))) (fun _ _ _ iv _ => h - (intOf iv).toNat)
  case atStart => exact ⟨0, Nat.zero_le _, rfl, H2⟩
  case round =>
    clear H2 c3
    obtain ⟨k, hk, rfl, hH⟩ := hrel
    by_cases hlt : k < h
    · have hki : (k : Int) < h := by omega
      have hwb := HH.out.2.2.2.2.2.2.2.1.grown hH.out.2
      have hom : o + h + k < N := by have h1 := HH.out.2.2.2.2.2.2.2.2.1; have h2 := HH.out.2.2.2.2.2.2.2.2.2.1; omega
      have c4 := hH.out.1.cell (i := o + k) (by omega)
      have c5 := hH.out.1.cell (i := o + h + k) hom
      have f4 := hH.out.1.frozen (o + k)
      have f5 := hH.out.1.frozen (o + h + k)
      rw [putf_out (by omega), putf_out (by omega), (HE.out.1 k hlt).1] at c4
      rw [show o + h + k = o + h + k from rfl, putf_out (by omega), putf_out (by omega), (HE.out.1 k hlt).2] at c5
      obtain ⟨q, hq⟩ : ∃ q, q = k * st := ⟨_, rfl⟩
      have hqM : q < M := by
        have h1 := HH.out.2.2.2.1
        have h2 := HH.out.2.2.2.2.2.2.2.2.2.1
        have h3 := HH.out.2.2.2.2.2.2.2.2.2.2.1
        rw [h2, Nat.mul_assoc] at h1
        have h4 : (k + 1) * st ≤ h * st := Nat.mul_le_mul_right _ hlt
        rw [Nat.succ_mul] at h4
        have h5 : 0 < st := by
          rcases Nat.eq_zero_or_pos st with h6 | h6
          · rw [h6] at h1; omega
          · exact h6
        omega
      have c6 := hwb.2.1.cell hqM
      have c7 := hwb.1.2.2
      obtain ⟨E, hEv⟩ : ∃ E, Tr h (rt s) (fun j => a (2 * j)) k = E := ⟨_, rfl⟩
      obtain ⟨O, hOv⟩ : ∃ O, Tr h (rt s) (fun j => a (2 * j + 1)) k = O := ⟨_, rfl⟩
      obtain ⟨F, hFv⟩ : ∃ F, rt K ^ q % PP = F := ⟨_, rfl⟩
      obtain ⟨S, hSv⟩ : ∃ S, O * F % PP = S := ⟨_, rfl⟩
      rw [hEv] at c4
      rw [hOv] at c5
      rw [hFv] at c6
      have hb := HH.out.2.1 k F E O S hEv.symm hOv.symm (by rw [← hFv, hq]; exact HH.out.2.2.1 k) hSv.symm
      have hFP : F < PP := by rw [← hFv]; exact Nat.mod_lt _ PP_pos
      have hqi : (k : Int) * (st : Int) = (q : Int) := by rw [hq]; push_cast; rfl
      have hM5 : M ≤ 131072 := by have h3 := HH.out.2.2.2.2.2.2.2.2.2.2.1; omega
      have hqw : IntKind.i64.wrap (q : Int) = (q : Int) := IntWalk.i64_in _ (by omega)
      have hqMi : (q : Int) < (M : Int) := by omega
      have hkm : (k : Int) < (h : Int) := hki
      rw [← HE.out.2.2] at hb
      obtain ⟨x, hx⟩ : ∃ x, (E + S) % PP = x := ⟨_, rfl⟩
      obtain ⟨y, hy⟩ : ∃ y, (E + (PP - S)) % PP = y := ⟨_, rfl⟩
      have hxB : x < B64 := by rw [← hx]; exact Nat.lt_trans (Nat.mod_lt _ PP_pos) PP_lt
      have hyB : y < B64 := by rw [← hy]; exact Nat.lt_trans (Nat.mod_lt _ PP_pos) PP_lt
      rw [hx, hy] at hb
      have HB := Lib.hid (And.intro hb (And.intro hFP (And.intro hSv (And.intro hx (And.intro hy hom)))))
      have HN : Hid (Rp 68 ((wr.setCell ⟨g, o + k, none⟩ (.int .u64 x)).setCell ⟨g, o + h + k, none⟩ (.int .u64 y)) g N (putf (putf f2 o (k + 1) T) (o + h) (k + 1) (fun i => T (i + h))) ∧ W.grownBy ((wr.setCell ⟨g, o + k, none⟩ (.int .u64 x)).setCell ⟨g, o + h + k, none⟩ (.int .u64 y)) (some g)) := by
        refine ⟨((hH.out.1.set (show o + k < N by omega) hxB).set hom hyB).congr fun i hi => ?_, grown_trans hH.out.2 (grown_trans (grown_set _ _ _ _) (grown_set _ _ _ _))⟩
        show (if i = o + h + k then y else if i = o + k then x else putf (putf f2 o k T) (o + h) k (fun i => T (i + h)) i) = _
        by_cases q1 : i = o + h + k
        · rw [if_pos q1, q1, putf_in (by omega)]
          exact hb.2.1
        · rw [if_neg q1]
          by_cases q2 : i = o + k
          · rw [if_pos q2, q2, putf_out (by omega), putf_in (by omega)]
            exact hb.1
          · rw [if_neg q2]
            unfold putf
            by_cases q3 : o + h ≤ i ∧ i < o + h + k
            · rw [if_pos q3, if_pos (by omega)]
            · rw [if_neg q3, if_neg (show ¬ (o + h ≤ i ∧ i < o + h + (k + 1)) by omega)]
              by_cases q4 : o ≤ i ∧ i < o + k
              · rw [if_pos q4, if_pos (by omega)]
              · rw [if_neg q4, if_neg (by omega)]
      clear hb hFP hSv hx hy hxB hyB hom hwb hH hEv hOv hFv hq hlt
      go_wp2_with (fail)
      go_region_held3 (fun w' => w'.cell? ⟨g, o + h + k, none⟩ = some (.int .u64 O) ∧ w'.cell? ⟨pf, 0, none⟩ = some (.slice (some ⟨gf, 0, none⟩) M cf) ∧ w'.cell? ⟨gf, q, none⟩ = some (.int .u64 F)) (first | exact ⟨c5, c7, c6⟩ | go_keep)
        (first
          | (go_at_call 64; refine (times_ok O F _ HB.out.1.2.2.2.1 HB.out.2.1).mono ?_; rintro e w3 ⟨rfl, rfl⟩; rw [HB.out.2.2.1]))
      all_goals
        go_wp2_with (fail)
        refine (plus_ok E S _ HB.out.1.2.2.1 HB.out.1.2.2.2.2).mono ?_
        rintro e w4 ⟨rfl, rfl⟩
        rw [HB.out.2.2.2.1]
        go_wp2_with (fail)
        refine (minus_ok E S _ HB.out.1.2.2.1 HB.out.1.2.2.2.2).mono ?_
        rintro e w4 ⟨rfl, rfl⟩
        rw [HB.out.2.2.2.2.1]
        go_wp2_with (fail)
        go_roundw
        case rel => exact ⟨k + 1, by omega, by go_num, Lib.hid ⟨HN.out.1, by first | exact HN.out.2 | exact grown_drew HN.out.2 | exact grown_drewN HN.out.2 _⟩⟩
        case measure => simp [intOf]; omega
    · have hki : ¬ (k : Int) < h := by omega
      obtain rfl : k = h := by omega
      go_wp2_with (fail)
      refine bodyPost_end (v := .tuple #[]) (results_none rfl _ _ _) rfl ?_
      exact ⟨rfl, hH.out.1.congr (fun p _ => HE.out.2.1 p), hH.out.2⟩
theorem workR_ok (pw pz pf g gf N M cz cf K : Nat) (hN : N = 2 ^ K) (hM : M = N / 2) (hK : K ≤ 17) : ∀ (s : Nat), s ≤ K → ∀ (o c : Nat) (a f : Nat → Nat) (W : World), o + 2 ^ s ≤ N → 2 ^ s ≤ c → c ≤ 9223372036854775807 → (∀ j, j < 2 ^ s → a j < PP) → (∀ i, i < 2 ^ s → f (o + i) = rv s a i) → Rp 68 W g N f → WkBR W pw pz pf g gf N M cz cf K →
      Calls Tryd.prog 118 #[.slice (some ⟨g, o, none⟩) (2 ^ s) c, .pointer (some ⟨pw, 0, none⟩), .pointer (some ⟨pz, 0, none⟩), .pointer (some ⟨pf, 0, none⟩)] W fun e W' => e = .returned (.tuple #[]) ∧ Rp 68 W' g N (putf f o (2 ^ s) (Tr (2 ^ s) (rt s) a)) ∧ W.grownBy W' (some g)
  | 0, _, o, c, a, f, W, _, _, _, ha, hf, hR, _ => workR_zero pw pz pf g gf N M cz cf K o c a f W (ha 0 (by decide)) (by have := hf 0 (by decide); rwa [Nat.add_zero] at this) hR
  | s + 1, hs, o, c, a, f, W, ho, hc, hc2, ha, hf, hR, hW => workR_step pw pz pf g gf N M cz cf K hN hM hK s hs (fun o c a f W h1 h2 h3 h4 h5 h6 h7 => workR_ok pw pz pf g gf N M cz cf K hN hM hK s (by omega) o c a f W h1 h2 h3 h4 h5 h6 h7) o c a f W ho hc hc2 ha hf hR hW
end Go.Proofs.YthpgdpkemnhneaaDoor

namespace Go.Proofs.YthpgdpkemnhneaaDoor
open Go.RowKit Go.Shelf
set_option linter.unusedVariables false
set_option linter.unusedSimpArgs false
set_option maxRecDepth 10000
attribute [local go_sem] Oper.semAt_some
theorem run_store_funcY {P : Program} {w : World} {a : Addr} {m : Mode} (f : Fn) (b c : Array Value) : (store a (.func f b c) m).run P w = stored P w a (.func f b c) m := run_store P w a _ m rfl
attribute [local go_sem] run_store_funcY

theorem own_offY {W W' : World} {row : Option Nat} {base n size : Nat} {e : TypeId} {v : Value} {vs : List Value} (h : W.ownsRow base e size v n vs) (hg : W.grownBy W' row) (hr : ∀ r, row = some r → v.ownBlock ≠ some r) : W'.ownsRow base e size v n vs := by
  refine h.kept hg ?_
  cases hb : v.ownBlock with
  | none => exact .inl rfl
  | some gb => exact .inr fun e => hr gb e.symm (by rw [hb])
/-- the row that is gathered, its variable, and the list's -/
def ITr (t : TypeId) (w : World) (g pz Bx : Nat) (A : Option Addr) (n c : Nat) (F : Nat → Nat) (k : Nat) (W : World) : Prop :=
  Boxed W pz 51 (.slice (some ⟨g, 0, none⟩) k n) ∧ Boxed W Bx t (.slice A n c) ∧ W.ownsRow w.heap.size 68 1 (.slice (some ⟨g, 0, none⟩) k n) k (uvs (tb k F)) ∧ Below w.heap.size w W ∧ w.heap.size ≤ g ∧ g < pz ∧ pz < Bx
theorem ITr_own {t : TypeId} {w : World} {g pz Bx : Nat} {A : Option Addr} {n c B : Nat} {F : Nat → Nat} (hB : w.heap.size ≤ B) : OwnFrom B (ITr t w g pz Bx A n c F) := by
  rintro k W W' row ⟨h1, h2, h3, h4, h5, h6, h7⟩ hg hr
  have bx : ∀ {p : Nat} {t : TypeId} {v : Value}, Boxed W p t v → Boxed W' p t v := fun {p t v} h => (hg.block p h.lt (by
    intro e
    obtain ⟨_, o, ho, hc⟩ := hr p e.symm
    rw [show W.heap[p]? = _ from h] at ho
    cases ho; cases hc)).trans h
  refine ⟨bx h1, bx h2, own_offY h3 hg (fun r he hb => ?_), h4.grown hg h4.size (fun j hj => by have := (hr j hj).1; omega), h5, h6, h7⟩
  obtain ⟨_, o, ho, hc⟩ := hr r he
  rcases h3.2 with ⟨e, _⟩ | ⟨g2, cap, cur, e, _, hgb, _⟩
  · cases e
  · injection e with e1
    injection e1 with e1
    injection e1 with e1
    subst e1
    obtain rfl : g = r := by simpa [Value.ownBlock] using hb
    rw [hgb] at ho; cases ho; cases hc
theorem ITr.next {t : TypeId} {w W W2 : World} {g pz Bx : Nat} {A : Option Addr} {n c k x : Nat} {F : Nat → Nat} (h : ITr t w g pz Bx A n c F k W) (hx : F k = x) {o : Obj}
    (hown : W2.ownsRow w.heap.size 68 1 (.slice (some ⟨g, 0, none⟩) (k + 1) n) (k + 1) (uvs (tb k F) ++ [.int .u64 (x : Int)])) (hgrow : (W.alloc o).grownBy W2 (some g)) :
    Boxed W2 pz 51 (.slice (some ⟨g, 0, none⟩) k n) ∧ ITr t w g pz Bx A n c F (k + 1) (W2.setCell ⟨pz, 0, none⟩ (.slice (some ⟨g, 0, none⟩) (k + 1) n)) ∧ ∀ B, KeepsFrom B W (W2.setCell ⟨pz, 0, none⟩ (.slice (some ⟨g, 0, none⟩) (k + 1) n)) := by
  obtain ⟨h1, h2, h3, h4, h5, h6, h7⟩ := h
  have hne : 51 ≠ 68 := by decide
  obtain ⟨b1, b2, b3, b4, b5⟩ := h1.appended hne h3 h4.size (by omega) hown hgrow
  have hk2 : Boxed W2 Bx t (.slice A n c) := (h2.alloc o).kept hgrow (by simp; omega)
  refine ⟨b1, ⟨b2, (Below.heap_setCell W2 _ _ _ (by simp; omega)).trans hk2, ?_, h4.trans b5, h5, h6, h7⟩, fun B => b4.from _⟩
  rw [tb_succ, uvs_append, hx]
  exact b3


set_option maxHeartbeats 4000000 in
theorem transformedU_ok (A : Option Addr) (n c s : Nat) (xs : List Nat) (w : World) (hs : s ≤ 16) (hn : n = 2 ^ s) (hx : Sl w A n c xs) (hP : ∀ i, i < n → yx xs i < PP) (hT : TabY w) :
    Calls Tryd.prog 39 #[.slice A n c] w fun e w' => RwR 68 w w' e n (Tr n (rt s) (yx xs)) := by
  have hmix : Tryd.prog.follows Departure.mixedOrders = true := by kernel_rfl
  obtain ⟨i0, hi, hz0, hz1, hz2⟩ := info_parts Tryd.info68
  have hn7 : n ≤ 65536 := by rw [hn]; exact Nat.pow_le_pow_right (n := 2) (by decide) hs
  have Hx := Lib.hid (And.intro hx (And.intro hP (And.intro hT hn)))
  clear hx hP hT hn
  refine (callsIn_wide (n := 5)).1 ?_
  refine callsIn_of_wp_marks Tryd.func39 rfl trivial ?_ rfl
  simp only [Tryd.ntmps39, List.size_toArray, List.length_cons, List.length_nil, Nat.reduceAdd, Nat.reduceSub, Array.replicate_succ, Array.replicate_zero, List.push_toArray, List.append_toArray, List.nil_append, List.cons_append]
  gi_wp2_with (gi_at_make; refine wpListIn_make_own _ rfl _ _ 51 rfl w.heap.size 68 i0 (.int .u64 0) 1 Tryd.underlying51 hi hz0 hz1 .i64 .i64 _ n rfl rfl rfl (by rw [hz2]; omega) (by unfold maxLen; omega) (Nat.le_refl _) ?_)
  intro w1 hown hgrow
  have hb0 := below_of_grown hgrow (Nat.le_refl _)
  have hlt1 : w.heap.size < w1.heap.size := (hown.lt w.heap.size rfl).2
  obtain ⟨F, hF⟩ : ∃ F : Nat → Nat, F = fun i => yx xs (brev s i) := ⟨_, rfl⟩
  have hI0 : ITr 22 w w.heap.size w1.heap.size (w1.heap.size + 1) A n c F 0 ((w1.alloc (.cells #[.slice (some ⟨w.heap.size, 0, none⟩) 0 n] 51)).alloc (.cells #[.slice A n c] 22)) := by
    have h2 := Boxed.new (w1.alloc (.cells #[.slice (some ⟨w.heap.size, 0, none⟩) 0 n] 51)) 22 (.slice A n c)
    rw [World.size_alloc] at h2
    exact ⟨(Boxed.new w1 _ _).alloc _, h2, (hown.alloc _).alloc _, (hb0.alloc hb0.size _).alloc (by simp; omega) _, Nat.le_refl _, hlt1, by omega⟩
  have HI0 := Lib.hid (And.intro hI0 (And.intro hb0 hF))
  clear hown hgrow hI0 hb0 hF
  gi_wp2_with (first
    | (refine ⟨trivial, ?_⟩; gi_at_call 70; refine (callsIn_wide.2 (turnedU_any _ _ _ _)).mono ?_; rintro e w' ⟨rfl, rfl⟩))
  refine wpIn_rounds (F := Fence.wide) (n := 5) rfl (by decide) (gf := 97) (lb := #[.pointer (some ⟨w1.heap.size + 1, 0, none⟩)]) rfl trivial (fun args w => run_callFunc_enter Tryd.func97 (by kernel_rfl) (by kernel_rfl) args w)
    (turnedU_rounds 4 (by decide) (w1.heap.size + 1) A n c s xs (by omega) Hx.out.2.2.2 _) (Below.refl _ _) (fun _ => rfl)
    (ITr 22 w w.heap.size w1.heap.size (w1.heap.size + 1) A n c F) (fun _ _ _ => False) (ITr_own (by simp; omega)) (fun _ _ _ _ _ hs _ _ => hs) (fun k W h => ⟨h.2.1.cell, Hx.out.1.below h.2.2.2.1, Hx.out.2.2.1.below h.2.2.2.1⟩) HI0.out.1
    (fun k => { tmps := #[.slice A n c, undef, .slice none 0 0, .pointer (some ⟨w1.heap.size, 0, none⟩), .int .u64 ((yx xs (brev s k) : Nat) : Int), undef, undef, .slice A n c, .int .i64 (n : Int), .slice (some ⟨w.heap.size, 0, none⟩) 0 n, .slice A n c, .func (.func 97) #[] #[.pointer (some ⟨w1.heap.size + 1, 0, none⟩)], .int .u64 ((yx xs (brev s k) : Nat) : Int), undef, undef, undef, undef, undef, undef, undef, undef, undef, undef, undef, undef, undef, undef, undef, undef, undef], defers := [] }) ?assign ?body ?done ?stop
  case assign =>
    intro l k W K hK
    gi_wp2
    exact hK
  case body =>
    rintro l k W h hk
    have c1 := h.1.cell
    have f1 := h.1.frozen
    obtain ⟨x, hx⟩ : ∃ x, yx xs (brev s k) = x := ⟨_, rfl⟩
    have hFx : F k = x := by rw [HI0.out.2.2]; exact hx
    rw [hx]
    have H := Lib.hid (And.intro h hFx)
    have hWs := h.1.lt
    have h2 := h.2.2.1
    clear h hx hFx
    gi_wp2_with (gi_at_builtin; refine wpListIn_append_fits _ rfl (.tmp 13) (.tmp 15) 51 rfl w.heap.size 68 i0 1 Tryd.underlying51 hi hz1 w.heap.size k n _ rfl (h2.alloc _) ⟨W.heap.size, 0, none⟩ 1 1 [.int .u64 (x : Int)] rfl rfl (World.news_of_block (cs := #[.int .u64 (x : Int)]) (t := 68) (fr := (0, 0)) (heap_alloc_new W _)) (by simp [Value.oneCell']) (by omega) ?_)
    intro W2 hown2 hgrow2
    obtain ⟨b1, b2, b3⟩ := H.out.1.next H.out.2 hown2 hgrow2
    have c2 := b1.cell
    have f2 := b1.frozen
    have HP := Lib.hid (And.intro b2 b3)
    clear b1 b2 b3 hown2 hgrow2 h2 H c1 f1
    gi_wp2
    exact ⟨HP.out.2 _, HP.out.1⟩
  case done =>
    rintro D W hD h hcol
    obtain ⟨h1, h2, h3, h4, h5, h6, h7⟩ := h
    have K : Maps.Keyed Tryd.prog 3 := Maps.int_keyed Tryd.underlying3
    have hkey : keyOf Tryd.prog 3 (.int .i64 n) = some (.int .i64 n) := Maps.keyOf_int_mk Tryd.underlying3 (wf_i64 (by omega))
    have hR0 : Rp 68 W w.heap.size n F := Rp.own h3 (fun i _ => by rw [HI0.out.2.2]; exact yx_lt Hx.out.1.2.2.2.1 _)
    have hlD : D < W.heap.size := (Array.getElem?_eq_some_iff.1 hcol).1
    have hD2 : w1.heap.size + 2 ≤ D := by simp at hD; omega
    obtain ⟨M, hM, hM1, hM2⟩ : ∃ M : Nat, M = n / 2 ∧ (n : Int).tdiv 2 = (M : Int) ∧ (n : Int) / 2 = (M : Int) := ⟨n / 2, rfl, by rw [Int.tdiv_eq_ediv_of_nonneg (by omega)]; omega, by omega⟩
    have hMw : IntKind.i64.wrap (M : Int) = (M : Int) := IntWalk.i64_in _ (by omega)
    have hM5 : M ≤ 100000 := by omega
    have hb0 := HI0.out.2.1.size
    have H := Lib.hid (And.intro hR0 (And.intro h1 (And.intro h4 (And.intro hcol (And.intro hlD (And.intro hD2 (And.intro hM hkey)))))))
    clear h1 h2 h3 h4 h5 h7 hR0 hcol hlD hD hD2 hM hkey
    rename_i K' hK
    refine hK _ _ ?_
    clear hK
    refine wpIn_wide.2 ?_
    go_wp2_with (fail)
    refine (roots_ok _).mono ?_
    rintro e w2 ⟨b, rfl, hRt, -, hb2⟩
    obtain ⟨n1, Dm, hown, hat⟩ := hRt.look (k := s) (by omega)
    rw [← Hx.out.2.2.2] at hat
    have H2 := Lib.hid (And.intro hat hb2)
    clear hRt hat hb2
    go_wp2_with (at_lookup; refine wpList_lookup_own_int _ rfl _ _ 69 rfl 3 68 .u64 K Tryd.underlying69 Tryd.underlying68 (Tryd.zeroValue68 _) b n1 Dm rfl hown _ _ rfl H.out.2.2.2.2.2.2.2 ?_)
    intro cc hcat hwf
    obtain rfl := lit_inj (H2.out.1.symm.trans hcat)
    clear hcat hwf hown
    go_wp2_with (fail)
    refine (powers_ok (rt s) M _ (rt_lt s) hM5).mono ?_
    rintro e w3 ⟨gf, cf, rfl, hcf, hcf2, hRf, hgf, hb3⟩
    obtain ⟨X, hX⟩ : ∃ X, (w3.alloc (.cells #[.slice (some ⟨gf, 0, none⟩) M cf] 51)).alloc (.cells #[.func (.func 72) #[] #[.pointer (some ⟨w3.heap.size + 1, 0, none⟩), .pointer (some ⟨w1.heap.size, 0, none⟩), .pointer (some ⟨w3.heap.size, 0, none⟩)]] 77) = X := ⟨_, rfl⟩
    have hbX : Below w3.heap.size w3 X := by rw [← hX]; exact ((Below.refl _ _).alloc (Nat.le_refl _) _).alloc (by simp) _
    have hbWX : Below W.heap.size W X := H2.out.2.trans ((hb3.trans (hbX.mono hb3.size)).mono H2.out.2.size)
    have hsW := H.out.2.1.lt
    have hs2 := H2.out.2.size
    have hs3 := hb3.size
    have hWk : WkBU X (w3.heap.size + 1) w1.heap.size w3.heap.size w.heap.size gf n M n cf s := by
      refine ⟨⟨?_, ?_, ?_⟩, hRf.keep hbX, by omega, by omega, by omega, by omega⟩
      · rw [← hX]; simp
      · exact (hbWX.cell (p := ⟨w1.heap.size, 0, none⟩) hsW).trans H.out.2.1.cell
      · rw [← hX]; simp
    have hRX : Rp 68 X w.heap.size n F := H.out.1.keep hbWX
    have H3 := Lib.hid (And.intro hWk (And.intro hRX (And.intro hbWX (And.intro hs2 hs3))))
    have cz := hWk.1.2.1
    have cw := hWk.1.1
    clear hWk hRX hbWX hb3 hRf hcf hcf2
    have hwk := workU_ok (w3.heap.size + 1) w1.heap.size w3.heap.size w.heap.size gf n M n cf s Hx.out.2.2.2 H.out.2.2.2.2.2.2.1 (by omega) s (Nat.le_refl _) 0 n (yx xs) F X (by rw [← Hx.out.2.2.2]; omega) (by rw [← Hx.out.2.2.2]; omega) (by omega) (fun j hj => Hx.out.2.1 j (by rw [Hx.out.2.2.2]; exact hj)) (fun i _ => by rw [Nat.zero_add, rv_brev, HI0.out.2.2]) H3.out.2.1 H3.out.1
    rw [← Hx.out.2.2.2] at hwk
    have Hwk := Lib.hid hwk
    clear hwk
    go_wp2_with (fail)
    refine Hwk.out.mono ?_
    rintro e W4 ⟨rfl, hR4, hg4⟩
    have cz4 : W4.cell? ⟨w1.heap.size, 0, none⟩ = some (.slice (some ⟨w.heap.size, 0, none⟩) n n) := hg4.cell cz (by intro e; injection e with e; simp only at e; omega)
    have hcol4 : W4.heap[D]? = some (.deferred (some [])) := (hg4.block D (by have h1 := H3.out.2.2.1.size; have h2 := H.out.2.2.2.2.1; omega) (by intro e; injection e with e; have h3 := H.out.2.2.2.2.2.1; omega)).trans ((H3.out.2.2.1.block D H.out.2.2.2.2.1).trans H.out.2.2.2.1)
    have HF : Hid (Rp 68 W4 w.heap.size n (Tr n (rt s) (yx xs)) ∧ Below w.heap.size w W4 ∧ W4.heap[D]? = some (.deferred (some []))) := by
      refine ⟨hR4.congr fun i hi => ?_, ?_, hcol4⟩
      · have h1 := putf_in (f := F) (o := 0) (T := Tr n (rt s) (yx xs)) hi
        rw [Nat.zero_add] at h1
        exact h1
      · exact (H.out.2.2.1.trans (H3.out.2.2.1.mono H.out.2.2.1.size)).grown hg4 (H.out.2.2.1.trans (H3.out.2.2.1.mono H.out.2.2.1.size)).size (by intro j hj; injection hj with hj; omega)
    clear hR4 hg4 hcol4 cz cw Hwk
    go_wp2_with (fail)
    refine ⟨by simp, .inl ⟨_, _, rfl, run_takeDeferred HF.out.2.2, .slice (some ⟨w.heap.size, 0, none⟩) n n, by simp [results, Tryd.f39, Act.put, asAddr], ?_⟩⟩
    exact ⟨w.heap.size, n, rfl, Nat.le_refl _, by omega, HF.out.1.heap (World.putObj_heap_other (by have h3 := H.out.2.2.2.2.2.1; omega)), Nat.le_refl _, below_putObj HF.out.2.1 (by have h3 := H.out.2.2.2.2.2.1; omega) _⟩
  case stop =>
    rintro D c k W _ h _
    exact h.elim

set_option maxHeartbeats 4000000 in
theorem transformedR_ok (A : Option Addr) (n c s : Nat) (xs : List Nat) (w : World) (hs : s ≤ 16) (hn : n = 2 ^ s) (hx : Sl w A n c xs) (hP : ∀ i, i < n → yx xs i < PP) (hT : TabY w) :
    Calls Tryd.prog 103 #[.slice A n c] w fun e w' => RwR 68 w w' e n (Tr n (rt s) (yx xs)) := by
  have hmix : Tryd.prog.follows Departure.mixedOrders = true := by kernel_rfl
  obtain ⟨i0, hi, hz0, hz1, hz2⟩ := info_parts Tryd.info68
  have hn7 : n ≤ 65536 := by rw [hn]; exact Nat.pow_le_pow_right (n := 2) (by decide) hs
  have Hx := Lib.hid (And.intro hx (And.intro hP (And.intro hT hn)))
  clear hx hP hT hn
  refine (callsIn_wide (n := 5)).1 ?_
  refine callsIn_of_wp_marks Tryd.func103 rfl trivial ?_ rfl
  simp only [Tryd.ntmps103, List.size_toArray, List.length_cons, List.length_nil, Nat.reduceAdd, Nat.reduceSub, Array.replicate_succ, Array.replicate_zero, List.push_toArray, List.append_toArray, List.nil_append, List.cons_append]
  gi_wp2_with (gi_at_make; refine wpListIn_make_own _ rfl _ _ 51 rfl w.heap.size 68 i0 (.int .u64 0) 1 Tryd.underlying51 hi hz0 hz1 .i64 .i64 _ n rfl rfl rfl (by rw [hz2]; omega) (by unfold maxLen; omega) (Nat.le_refl _) ?_)
  intro w1 hown hgrow
  have hb0 := below_of_grown hgrow (Nat.le_refl _)
  have hlt1 : w.heap.size < w1.heap.size := (hown.lt w.heap.size rfl).2
  obtain ⟨F, hF⟩ : ∃ F : Nat → Nat, F = fun i => yx xs (brev s i) := ⟨_, rfl⟩
  have hI0 : ITr 51 w w.heap.size w1.heap.size (w1.heap.size + 1) A n c F 0 ((w1.alloc (.cells #[.slice (some ⟨w.heap.size, 0, none⟩) 0 n] 51)).alloc (.cells #[.slice A n c] 51)) := by
    have h2 := Boxed.new (w1.alloc (.cells #[.slice (some ⟨w.heap.size, 0, none⟩) 0 n] 51)) 51 (.slice A n c)
    rw [World.size_alloc] at h2
    exact ⟨(Boxed.new w1 _ _).alloc _, h2, (hown.alloc _).alloc _, (hb0.alloc hb0.size _).alloc (by simp; omega) _, Nat.le_refl _, hlt1, by omega⟩
  have HI0 := Lib.hid (And.intro hI0 (And.intro hb0 hF))
  clear hown hgrow hI0 hb0 hF
  gi_wp2_with (first
    | (refine ⟨trivial, ?_⟩; gi_at_call 117; refine (callsIn_wide.2 (turnedR_any _ _ _ _)).mono ?_; rintro e w' ⟨rfl, rfl⟩))
  refine wpIn_rounds (F := Fence.wide) (n := 5) rfl (by decide) (gf := 121) (lb := #[.pointer (some ⟨w1.heap.size + 1, 0, none⟩)]) rfl trivial (fun args w => run_callFunc_enter Tryd.func121 (by kernel_rfl) (by kernel_rfl) args w)
    (turnedR_rounds 4 (by decide) (w1.heap.size + 1) A n c s xs (by omega) Hx.out.2.2.2 _) (Below.refl _ _) (fun _ => rfl)
    (ITr 51 w w.heap.size w1.heap.size (w1.heap.size + 1) A n c F) (fun _ _ _ => False) (ITr_own (by simp; omega)) (fun _ _ _ _ _ hs _ _ => hs) (fun k W h => ⟨h.2.1.cell, Hx.out.1.below h.2.2.2.1, Hx.out.2.2.1.below h.2.2.2.1⟩) HI0.out.1
    (fun k => { tmps := #[.slice A n c, undef, .slice none 0 0, .pointer (some ⟨w1.heap.size, 0, none⟩), .int .u64 ((yx xs (brev s k) : Nat) : Int), undef, undef, .slice A n c, .int .i64 (n : Int), .slice (some ⟨w.heap.size, 0, none⟩) 0 n, .slice A n c, .func (.func 121) #[] #[.pointer (some ⟨w1.heap.size + 1, 0, none⟩)], .int .u64 ((yx xs (brev s k) : Nat) : Int), undef, undef, undef, undef, undef, undef, undef, undef, undef, undef, undef, undef, undef, undef, undef, undef, undef], defers := [] }) ?assign ?body ?done ?stop
  case assign =>
    intro l k W K hK
    gi_wp2
    exact hK
  case body =>
    rintro l k W h hk
    have c1 := h.1.cell
    have f1 := h.1.frozen
    obtain ⟨x, hx⟩ : ∃ x, yx xs (brev s k) = x := ⟨_, rfl⟩
    have hFx : F k = x := by rw [HI0.out.2.2]; exact hx
    rw [hx]
    have H := Lib.hid (And.intro h hFx)
    have hWs := h.1.lt
    have h2 := h.2.2.1
    clear h hx hFx
    gi_wp2_with (gi_at_builtin; refine wpListIn_append_fits _ rfl (.tmp 13) (.tmp 15) 51 rfl w.heap.size 68 i0 1 Tryd.underlying51 hi hz1 w.heap.size k n _ rfl (h2.alloc _) ⟨W.heap.size, 0, none⟩ 1 1 [.int .u64 (x : Int)] rfl rfl (World.news_of_block (cs := #[.int .u64 (x : Int)]) (t := 68) (fr := (0, 0)) (heap_alloc_new W _)) (by simp [Value.oneCell']) (by omega) ?_)
    intro W2 hown2 hgrow2
    obtain ⟨b1, b2, b3⟩ := H.out.1.next H.out.2 hown2 hgrow2
    have c2 := b1.cell
    have f2 := b1.frozen
    have HP := Lib.hid (And.intro b2 b3)
    clear b1 b2 b3 hown2 hgrow2 h2 H c1 f1
    gi_wp2
    exact ⟨HP.out.2 _, HP.out.1⟩
  case done =>
    rintro D W hD h hcol
    obtain ⟨h1, h2, h3, h4, h5, h6, h7⟩ := h
    have K : Maps.Keyed Tryd.prog 3 := Maps.int_keyed Tryd.underlying3
    have hkey : keyOf Tryd.prog 3 (.int .i64 n) = some (.int .i64 n) := Maps.keyOf_int_mk Tryd.underlying3 (wf_i64 (by omega))
    have hR0 : Rp 68 W w.heap.size n F := Rp.own h3 (fun i _ => by rw [HI0.out.2.2]; exact yx_lt Hx.out.1.2.2.2.1 _)
    have hlD : D < W.heap.size := (Array.getElem?_eq_some_iff.1 hcol).1
    have hD2 : w1.heap.size + 2 ≤ D := by simp at hD; omega
    obtain ⟨M, hM, hM1, hM2⟩ : ∃ M : Nat, M = n / 2 ∧ (n : Int).tdiv 2 = (M : Int) ∧ (n : Int) / 2 = (M : Int) := ⟨n / 2, rfl, by rw [Int.tdiv_eq_ediv_of_nonneg (by omega)]; omega, by omega⟩
    have hMw : IntKind.i64.wrap (M : Int) = (M : Int) := IntWalk.i64_in _ (by omega)
    have hM5 : M ≤ 100000 := by omega
    have hb0 := HI0.out.2.1.size
    have H := Lib.hid (And.intro hR0 (And.intro h1 (And.intro h4 (And.intro hcol (And.intro hlD (And.intro hD2 (And.intro hM hkey)))))))
    clear h1 h2 h3 h4 h5 h7 hR0 hcol hlD hD hD2 hM hkey
    rename_i K' hK
    refine hK _ _ ?_
    clear hK
    refine wpIn_wide.2 ?_
    go_wp2_with (fail)
    refine (roots_ok _).mono ?_
    rintro e w2 ⟨b, rfl, hRt, -, hb2⟩
    obtain ⟨n1, Dm, hown, hat⟩ := hRt.look (k := s) (by omega)
    rw [← Hx.out.2.2.2] at hat
    have H2 := Lib.hid (And.intro hat hb2)
    clear hRt hat hb2
    go_wp2_with (at_lookup; refine wpList_lookup_own_int _ rfl _ _ 69 rfl 3 68 .u64 K Tryd.underlying69 Tryd.underlying68 (Tryd.zeroValue68 _) b n1 Dm rfl hown _ _ rfl H.out.2.2.2.2.2.2.2 ?_)
    intro cc hcat hwf
    obtain rfl := lit_inj (H2.out.1.symm.trans hcat)
    clear hcat hwf hown
    go_wp2_with (fail)
    refine (powers_ok (rt s) M _ (rt_lt s) hM5).mono ?_
    rintro e w3 ⟨gf, cf, rfl, hcf, hcf2, hRf, hgf, hb3⟩
    obtain ⟨X, hX⟩ : ∃ X, (w3.alloc (.cells #[.slice (some ⟨gf, 0, none⟩) M cf] 51)).alloc (.cells #[.func (.func 118) #[] #[.pointer (some ⟨w3.heap.size + 1, 0, none⟩), .pointer (some ⟨w1.heap.size, 0, none⟩), .pointer (some ⟨w3.heap.size, 0, none⟩)]] 77) = X := ⟨_, rfl⟩
    have hbX : Below w3.heap.size w3 X := by rw [← hX]; exact ((Below.refl _ _).alloc (Nat.le_refl _) _).alloc (by simp) _
    have hbWX : Below W.heap.size W X := H2.out.2.trans ((hb3.trans (hbX.mono hb3.size)).mono H2.out.2.size)
    have hsW := H.out.2.1.lt
    have hs2 := H2.out.2.size
    have hs3 := hb3.size
    have hWk : WkBR X (w3.heap.size + 1) w1.heap.size w3.heap.size w.heap.size gf n M n cf s := by
      refine ⟨⟨?_, ?_, ?_⟩, hRf.keep hbX, by omega, by omega, by omega, by omega⟩
      · rw [← hX]; simp
      · exact (hbWX.cell (p := ⟨w1.heap.size, 0, none⟩) hsW).trans H.out.2.1.cell
      · rw [← hX]; simp
    have hRX : Rp 68 X w.heap.size n F := H.out.1.keep hbWX
    have H3 := Lib.hid (And.intro hWk (And.intro hRX (And.intro hbWX (And.intro hs2 hs3))))
    have cz := hWk.1.2.1
    have cw := hWk.1.1
    clear hWk hRX hbWX hb3 hRf hcf hcf2
    have hwk := workR_ok (w3.heap.size + 1) w1.heap.size w3.heap.size w.heap.size gf n M n cf s Hx.out.2.2.2 H.out.2.2.2.2.2.2.1 (by omega) s (Nat.le_refl _) 0 n (yx xs) F X (by rw [← Hx.out.2.2.2]; omega) (by rw [← Hx.out.2.2.2]; omega) (by omega) (fun j hj => Hx.out.2.1 j (by rw [Hx.out.2.2.2]; exact hj)) (fun i _ => by rw [Nat.zero_add, rv_brev, HI0.out.2.2]) H3.out.2.1 H3.out.1
    rw [← Hx.out.2.2.2] at hwk
    have Hwk := Lib.hid hwk
    clear hwk
    go_wp2_with (fail)
    refine Hwk.out.mono ?_
    rintro e W4 ⟨rfl, hR4, hg4⟩
    have cz4 : W4.cell? ⟨w1.heap.size, 0, none⟩ = some (.slice (some ⟨w.heap.size, 0, none⟩) n n) := hg4.cell cz (by intro e; injection e with e; simp only at e; omega)
    have hcol4 : W4.heap[D]? = some (.deferred (some [])) := (hg4.block D (by have h1 := H3.out.2.2.1.size; have h2 := H.out.2.2.2.2.1; omega) (by intro e; injection e with e; have h3 := H.out.2.2.2.2.2.1; omega)).trans ((H3.out.2.2.1.block D H.out.2.2.2.2.1).trans H.out.2.2.2.1)
    have HF : Hid (Rp 68 W4 w.heap.size n (Tr n (rt s) (yx xs)) ∧ Below w.heap.size w W4 ∧ W4.heap[D]? = some (.deferred (some []))) := by
      refine ⟨hR4.congr fun i hi => ?_, ?_, hcol4⟩
      · have h1 := putf_in (f := F) (o := 0) (T := Tr n (rt s) (yx xs)) hi
        rw [Nat.zero_add] at h1
        exact h1
      · exact (H.out.2.2.1.trans (H3.out.2.2.1.mono H.out.2.2.1.size)).grown hg4 (H.out.2.2.1.trans (H3.out.2.2.1.mono H.out.2.2.1.size)).size (by intro j hj; injection hj with hj; omega)
    clear hR4 hg4 hcol4 cz cw Hwk
    go_wp2_with (fail)
    refine ⟨by simp, .inl ⟨_, _, rfl, run_takeDeferred HF.out.2.2, .slice (some ⟨w.heap.size, 0, none⟩) n n, by simp [results, Tryd.f103, Act.put, asAddr], ?_⟩⟩
    exact ⟨w.heap.size, n, rfl, Nat.le_refl _, by omega, HF.out.1.heap (World.putObj_heap_other (by have h3 := H.out.2.2.2.2.2.1; omega)), Nat.le_refl _, below_putObj HF.out.2.1 (by have h3 := H.out.2.2.2.2.2.1; omega) _⟩
  case stop =>
    rintro D c k W _ h _
    exact h.elim
end Go.Proofs.YthpgdpkemnhneaaDoor

namespace Go.Proofs.YthpgdpkemnhneaaDoor
open Go.RowKit Go.Shelf
set_option linter.unusedVariables false
set_option linter.unusedSimpArgs false
set_option maxRecDepth 10000

/-- block g is new behind w, and begins with f -/
def RwB (w W : World) (g c n : Nat) (f : Nat → Nat) : Prop := Rp 68 W g n f ∧ (n ≤ c ∧ c ≤ 9223372036854775807 ∧ w.heap.size ≤ g) ∧ Below w.heap.size w W
/-- m elements from o on, of which the first k and the last k have changed places -/
def rvs (f : Nat → Nat) (o m k p : Nat) : Nat := if (o ≤ p ∧ p < o + k) ∨ (o + m ≤ p + k ∧ p < o + m) then f (2 * o + m - 1 - p) else f p
theorem Reverse_zero (A : Option Addr) (c : Nat) (W : World) : Calls Tryd.prog 73 #[.slice A 0 c] W fun e W' => e = .returned (.tuple #[]) ∧ W = W' := by
  have h1 : IntKind.i64.wrap ((0 : Int) - 1) = -1 := by decide
  go_enter Tryd.func73, Tryd.ntmps73
  go_wp2_with (fail)
  go_loopw [2, 3] (fun iv jv wr => iv = .int .i64 0 ∧ jv = .int .i64 (-1) ∧ wr = W) (fun _ _ _ => 0)
  case atStart => exact ⟨rfl, rfl, rfl⟩
  case round =>
    obtain ⟨rfl, rfl, rfl⟩ := hrel
    go_wp2_with (fail)
    refine bodyPost_end (v := .tuple #[]) (results_none rfl _ _ _) rfl ?_
    exact ⟨rfl, rfl⟩
set_option maxHeartbeats 1000000 in
theorem Reverse_ok (g n o m c : Nat) (f : Nat → Nat) (W : World) (hm : 1 ≤ m) (hm5 : m ≤ 100000) (hmc : m ≤ c) (ho : o + m ≤ n) (hR : Rp 68 W g n f) :
    Calls Tryd.prog 73 #[.slice (some ⟨g, o, none⟩) m c] W fun e W' => e = .returned (.tuple #[]) ∧ Rp 68 W' g n (fun p => if o ≤ p ∧ p < o + m then f (2 * o + m - 1 - p) else f p) ∧ W.grownBy W' (some g) := by
  have hmix : Tryd.prog.follows Departure.mixedOrders = true := by kernel_rfl
  have H0 : Hid (Rp 68 W g n (rvs f o m 0) ∧ W.grownBy W (some g)) := ⟨hR.congr fun p _ => by unfold rvs; rw [if_neg (by omega)], World.grownBy.refl _ _⟩
  have Hb : Hid (∀ p, p < n → f p < B64) := fun p hp => hR.bound hp
  have hj0 : IntKind.i64.wrap ((m : Int) - 1) = ((m - 1 : Nat) : Int) := by rw [show ((m : Int) - 1) = ((m - 1 : Nat) : Int) by omega]; exact IntWalk.i64_in _ (by omega)
  clear hR
  go_enter Tryd.func73, Tryd.ntmps73
  go_wp2_with (fail)
  go_loopw [2, 3] (fun iv jv wr => ∃ (k j : Nat), iv = .int .i64 k ∧ jv = .int .i64 j ∧ Hid (k + j + 1 = m ∧ k ≤ j + 1 ∧ Rp 68 wr g n (rvs f o m k) ∧ W.grownBy wr (some g))) (fun _ jv _ => (intOf jv).toNat)
  case atStart => exact ⟨0, m - 1, rfl, rfl, Lib.hid ⟨by omega, by omega, H0.out⟩⟩
  case round =>
    clear H0
    obtain ⟨k, j, rfl, rfl, hH⟩ := hrel
    by_cases hlt : k < j
    · have hki : (k : Int) < j := by omega
      have hkm : (k : Int) < m := by have := hH.out.1; omega
      have hjm : (j : Int) < m := by have := hH.out.1; omega
      have hkw : IntKind.i64.wrap ((k : Int) + 1) = ((k + 1 : Nat) : Int) := by rw [show ((k : Int) + 1) = ((k + 1 : Nat) : Int) by omega]; exact IntWalk.i64_in _ (by have := hH.out.1; omega)
      have hjw : IntKind.i64.wrap ((j : Int) - 1) = ((j - 1 : Nat) : Int) := by rw [show ((j : Int) - 1) = ((j - 1 : Nat) : Int) by omega]; exact IntWalk.i64_in _ (by have := hH.out.1; omega)
      have c1 := hH.out.2.2.1.cell (i := o + k) (by have := hH.out.1; omega)
      have c2 := hH.out.2.2.1.cell (i := o + j) (by have := hH.out.1; omega)
      have f1 := hH.out.2.2.1.frozen (o + k)
      have f2 := hH.out.2.2.1.frozen (o + j)
      obtain ⟨x, hx⟩ : ∃ x, rvs f o m k (o + k) = x := ⟨_, rfl⟩
      obtain ⟨y, hy⟩ : ∃ y, rvs f o m k (o + j) = y := ⟨_, rfl⟩
      rw [hx] at c1
      rw [hy] at c2
      have HN : Hid (Rp 68 ((wr.setCell ⟨g, o + k, none⟩ (.int .u64 y)).setCell ⟨g, o + j, none⟩ (.int .u64 x)) g n (rvs f o m (k + 1)) ∧ W.grownBy ((wr.setCell ⟨g, o + k, none⟩ (.int .u64 y)).setCell ⟨g, o + j, none⟩ (.int .u64 x)) (some g)) := by
        obtain ⟨e1, e2, e3, e4⟩ := hH.out
        have hx2 : x = f (o + k) := by rw [← hx]; unfold rvs; rw [if_neg (by omega)]
        have hy2 : y = f (o + j) := by rw [← hy]; unfold rvs; rw [if_neg (by omega)]
        refine ⟨((e3.set (show o + k < n by omega) (by rw [hy2]; exact Hb.out _ (by omega))).set (show o + j < n by omega) (by rw [hx2]; exact Hb.out _ (by omega))).congr fun i hi => ?_, grown_trans e4 (grown_trans (grown_set _ _ _ _) (grown_set _ _ _ _))⟩
        show (if i = o + j then x else if i = o + k then y else rvs f o m k i) = rvs f o m (k + 1) i
        unfold rvs
        by_cases q1 : i = o + j
        · rw [if_pos q1, if_pos (by omega), hx2]
          congr 1; omega
        · rw [if_neg q1]
          by_cases q2 : i = o + k
          · rw [if_pos q2, if_pos (by omega), hy2]
            congr 1; omega
          · rw [if_neg q2]
            by_cases q3 : (o ≤ i ∧ i < o + k) ∨ (o + m ≤ i + k ∧ i < o + m)
            · rw [if_pos q3, if_pos (by omega)]
            · rw [if_neg q3, if_neg (by omega)]
      have HJ : Hid ((k + 1) + (j - 1) + 1 = m ∧ k + 1 ≤ (j - 1) + 1) := ⟨by have := hH.out.1; omega, by omega⟩
      clear hx hy hH
      go_wp2_with (fail)
      go_region
      go_wp2_with (fail)
      go_roundw
      case rel => exact ⟨k + 1, j - 1, by go_num, rfl, Lib.hid ⟨HJ.out.1, HJ.out.2, HN.out.1, grown_drew HN.out.2⟩⟩
      case measure => simp [intOf]; omega
    · have hki : ¬ (k : Int) < j := by omega
      go_wp2_with (fail)
      refine bodyPost_end (v := .tuple #[]) (results_none rfl _ _ _) rfl ?_
      obtain ⟨e1, e2, e3, e4⟩ := hH.out
      refine ⟨rfl, e3.congr fun p hp => ?_, e4⟩
      unfold rvs
      by_cases q1 : o ≤ p ∧ p < o + m
      · rw [if_pos q1]
        by_cases q2 : (o ≤ p ∧ p < o + k) ∨ (o + m ≤ p + k ∧ p < o + m)
        · rw [if_pos q2]
        · rw [if_neg q2]
          congr 1; omega
      · rw [if_neg q1, if_neg (by omega)]

theorem Reverse_tail (A : Option Addr) (g n m c : Nat) (f : Nat → Nat) (W : World) (hA : m = 0 ∨ A = some ⟨g, 1, none⟩) (hn : n = m + 1) (hn5 : n ≤ 100000) (hmc : m ≤ c) (hR : Rp 68 W g n f) :
    Calls Tryd.prog 73 #[.slice A m c] W fun e W' => e = .returned (.tuple #[]) ∧ Rp 68 W' g n (fun p => f ((n - p) % n)) ∧ W.grownBy W' (some g) := by
  rcases Nat.eq_zero_or_pos m with h0 | h0
  · subst h0
    refine (Reverse_zero A c W).mono ?_
    rintro e W' ⟨rfl, rfl⟩
    exact ⟨rfl, hR.congr (fun p hp => by congr 1; rw [hn] at hp ⊢; omega), World.grownBy.refl _ _⟩
  · obtain rfl : A = some ⟨g, 1, none⟩ := by rcases hA with h | h; omega; exact h
    refine (Reverse_ok g n 1 m c f W h0 (by omega) hmc (by omega) hR).mono ?_
    rintro e W' ⟨rfl, h1, h2⟩
    refine ⟨rfl, h1.congr (fun p hp => ?_), h2⟩
    by_cases q : 1 ≤ p ∧ p < 1 + m
    · rw [if_pos q, Nat.mod_eq_of_lt (by omega)]
      congr 1; omega
    · obtain rfl : p = 0 := by omega
      rw [if_neg q, Nat.sub_zero, Nat.mod_self]


set_option maxHeartbeats 2000000 in
theorem backU_ok (A : Option Addr) (n c s : Nat) (xs : List Nat) (w : World) (hs : s ≤ 16) (hn : n = 2 ^ s) (hx : Sl w A n c xs) (hP : ∀ i, i < n → yx xs i < PP) (hT : TabY w) :
    Calls Tryd.prog 40 #[.slice A n c] w fun e w' => RwR 68 w w' e n (fun k => Tr n (rt s) (yx xs) ((n - k) % n) * (n ^ (PP - 2) % PP) % PP) := by
  have hn7 : n ≤ 65536 := by rw [hn]; exact Nat.pow_le_pow_right (n := 2) (by decide) hs
  have hn1 : 1 ≤ n := by rw [hn]; exact Nat.pow_pos (by decide)
  have ht := transformedU_ok A n c s xs w hs hn hx hP hT
  have hinv := fun W => inverse_ok n W (by have hp : PP = 18446744069414584321 := rfl; omega)
  obtain ⟨d, hd⟩ : ∃ d, n ^ (PP - 2) % PP = d := ⟨_, rfl⟩
  obtain ⟨T, hT2⟩ : ∃ T : Nat → Nat, T = fun k => Tr n (rt s) (yx xs) ((n - k) % n) := ⟨_, rfl⟩
  have hpost : (fun k => Tr n (rt s) (yx xs) ((n - k) % n) * (n ^ (PP - 2) % PP) % PP) = fun k => T k * d % PP := by rw [hT2, hd]
  rw [hpost]
  rw [hd] at hinv
  have hwn : IntKind.u64.wrap (n : Int) = (n : Int) := wrap_nat n (by have hB : B64 = 18446744073709551616 := rfl; omega)
  have HI := Lib.hid (And.intro hinv (show d < PP by rw [← hd]; exact Nat.mod_lt _ PP_pos))
  have HT : Hid (∀ k, T k < PP) := fun k => by rw [hT2]; exact Tr_lt _ _ _ _
  have HT2 := Lib.hid hT2
  have Ht := Lib.hid ht
  obtain ⟨m, hm⟩ : ∃ m, n - 1 = m := ⟨_, rfl⟩
  have Hm : Hid (n = m + 1) := (show n = m + 1 by omega)
  clear hn hx hP hT ht hinv hd hpost hT2
  go_enter Tryd.func40, Tryd.ntmps40
  go_wp2_with (fail)
  refine Ht.out.mono ?_
  rintro e w2 ⟨g, c1, rfl, hnc, hc9, hR, hg, hb⟩
  have hR0 := Lib.hid (And.intro hR hg)
  have HB := Lib.hid hb
  have h1i : (1 : Int) ≤ (n : Int) := by omega
  have h2i : (1 : Int) ≤ (c1 : Int) := by omega
  have h3i : (n : Int) ≤ (c1 : Int) := by omega
  clear hR hg hb Ht
  by_cases hc1 : c1 = 1
  · subst hc1
    go_wp2_with (first | (go_at_call 73; refine (Reverse_tail _ g n m _ _ _ (by first | exact .inr rfl | exact .inl (by have := Hm.out; omega)) Hm.out (by omega) (by have := Hm.out; omega) hR0.out.1).mono ?_; rintro e w3 ⟨rfl, hR3, hg3⟩))
    have HG : Hid (RwB w w3 g 1 n T) := Lib.hid ⟨by rw [HT2.out]; exact hR3, ⟨hnc, hc9, hR0.out.2⟩, HB.out.grown hg3 HB.out.size (by intro j hj; injection hj with hj; rw [← hj]; exact hR0.out.2)⟩
    clear hR3 hg3 hR0 HB
    go_wp2_with (fail)
    refine (HI.out.1 _).mono ?_
    rintro e w5 ⟨rfl, rfl⟩
    go_wp2_with (fail)
    go_loopw [5, 6, 19] (fun _ _ iv wr => ∃ (k : Nat), k ≤ n ∧ iv = .int .i64 k ∧ Hid (RwB w wr g 1 n (fun i => if i < k then d * T i % PP else T i))) (fun _ _ iv _ => n - (intOf iv).toNat)
    case atStart => exact ⟨0, Nat.zero_le _, rfl, Lib.hid ⟨HG.out.1.congr (fun i _ => by simp), HG.out.2⟩⟩
    case round =>
      obtain ⟨k, hk, rfl, hH⟩ := hrel
      by_cases hlt : k < n
      · have hki : (k : Int) < n := by omega
        have hc := hH.out.1.cell hlt
        have hf := hH.out.1.frozen k
        simp only [Nat.lt_irrefl, if_false] at hc
        obtain ⟨x, hxv⟩ : ∃ x, T k = x := ⟨_, rfl⟩
        rw [hxv] at hc
        have hxP : x < PP := by rw [← hxv]; exact HT.out k
        obtain ⟨r, hr⟩ : ∃ r, d * x % PP = r := ⟨_, rfl⟩
        have hrB : r < B64 := by rw [← hr]; exact Nat.lt_trans (Nat.mod_lt _ PP_pos) PP_lt
        have HN : Hid (RwB w (wr.setCell ⟨g, k, none⟩ (.int .u64 r)) g 1 n (fun i => if i < k + 1 then d * T i % PP else T i)) := by
          obtain ⟨h1, h2, h3⟩ := hH.out
          refine ⟨(h1.set hlt hrB).congr fun i hi => ?_, h2, h3.setCell h2.2.2 _⟩
          by_cases h5 : i = k
          · subst h5; simp [hxv, hr]
          · by_cases h6 : i < k
            · simp [h5, h6, show i < k + 1 by omega]
            · simp [h5, h6, show ¬ i < k + 1 by omega]
        have HX := Lib.hid (And.intro hxP hr)
        clear hH hxv hr hxP hrB
        go_wp2_with (fail)
        refine (times_ok d x _ HI.out.2 HX.out.1).mono ?_
        rintro e w6 ⟨rfl, rfl⟩
        rw [HX.out.2]
        go_wp2_with (fail)
        go_roundw
        case rel => exact ⟨k + 1, by omega, by go_num, HN⟩
        case measure => simp [intOf]; omega
      · have hki : ¬ (k : Int) < n := by omega
        obtain rfl : k = n := by omega
        go_wp2_with (fail)
        go_ret
        obtain ⟨h1, ⟨h2, h3, h4⟩, h5⟩ := hH.out
        refine ⟨g, 1, rfl, h2, h3, h1.congr (fun i hi => ?_), h4, h5⟩
        simp only [hi, if_true]
        rw [Nat.mul_comm]
  
  · have hc1' : ¬ 1 = c1 := fun h => hc1 h.symm
    go_wp2_with (first | (go_at_call 73; refine (Reverse_tail _ g n m _ _ _ (by first | exact .inr rfl | exact .inl (by have := Hm.out; omega)) Hm.out (by omega) (by have := Hm.out; omega) hR0.out.1).mono ?_; rintro e w3 ⟨rfl, hR3, hg3⟩))
    have HG : Hid (RwB w w3 g c1 n T) := Lib.hid ⟨by rw [HT2.out]; exact hR3, ⟨hnc, hc9, hR0.out.2⟩, HB.out.grown hg3 HB.out.size (by intro j hj; injection hj with hj; rw [← hj]; exact hR0.out.2)⟩
    clear hR3 hg3 hR0 HB
    go_wp2_with (fail)
    refine (HI.out.1 _).mono ?_
    rintro e w5 ⟨rfl, rfl⟩
    go_wp2_with (fail)
    go_loopw [5, 6, 19] (fun _ _ iv wr => ∃ (k : Nat), k ≤ n ∧ iv = .int .i64 k ∧ Hid (RwB w wr g c1 n (fun i => if i < k then d * T i % PP else T i))) (fun _ _ iv _ => n - (intOf iv).toNat)
    case atStart => exact ⟨0, Nat.zero_le _, rfl, Lib.hid ⟨HG.out.1.congr (fun i _ => by simp), HG.out.2⟩⟩
    case round =>
      obtain ⟨k, hk, rfl, hH⟩ := hrel
      by_cases hlt : k < n
      · have hki : (k : Int) < n := by omega
        have hc := hH.out.1.cell hlt
        have hf := hH.out.1.frozen k
        simp only [Nat.lt_irrefl, if_false] at hc
        obtain ⟨x, hxv⟩ : ∃ x, T k = x := ⟨_, rfl⟩
        rw [hxv] at hc
        have hxP : x < PP := by rw [← hxv]; exact HT.out k
        obtain ⟨r, hr⟩ : ∃ r, d * x % PP = r := ⟨_, rfl⟩
        have hrB : r < B64 := by rw [← hr]; exact Nat.lt_trans (Nat.mod_lt _ PP_pos) PP_lt
        have HN : Hid (RwB w (wr.setCell ⟨g, k, none⟩ (.int .u64 r)) g c1 n (fun i => if i < k + 1 then d * T i % PP else T i)) := by
          obtain ⟨h1, h2, h3⟩ := hH.out
          refine ⟨(h1.set hlt hrB).congr fun i hi => ?_, h2, h3.setCell h2.2.2 _⟩
          by_cases h5 : i = k
          · subst h5; simp [hxv, hr]
          · by_cases h6 : i < k
            · simp [h5, h6, show i < k + 1 by omega]
            · simp [h5, h6, show ¬ i < k + 1 by omega]
        have HX := Lib.hid (And.intro hxP hr)
        clear hH hxv hr hxP hrB
        go_wp2_with (fail)
        refine (times_ok d x _ HI.out.2 HX.out.1).mono ?_
        rintro e w6 ⟨rfl, rfl⟩
        rw [HX.out.2]
        go_wp2_with (fail)
        go_roundw
        case rel => exact ⟨k + 1, by omega, by go_num, HN⟩
        case measure => simp [intOf]; omega
      · have hki : ¬ (k : Int) < n := by omega
        obtain rfl : k = n := by omega
        go_wp2_with (fail)
        go_ret
        obtain ⟨h1, ⟨h2, h3, h4⟩, h5⟩ := hH.out
        refine ⟨g, c1, rfl, h2, h3, h1.congr (fun i hi => ?_), h4, h5⟩
        simp only [hi, if_true]
        rw [Nat.mul_comm]
  


set_option maxHeartbeats 2000000 in
theorem backR_ok (A : Option Addr) (n c s : Nat) (xs : List Nat) (w : World) (hs : s ≤ 16) (hn : n = 2 ^ s) (hx : Sl w A n c xs) (hP : ∀ i, i < n → yx xs i < PP) (hT : TabY w) :
    Calls Tryd.prog 80 #[.slice A n c] w fun e w' => RwR 68 w w' e n (fun k => Tr n (rt s) (yx xs) ((n - k) % n) * (n ^ (PP - 2) % PP) % PP) := by
  have hn7 : n ≤ 65536 := by rw [hn]; exact Nat.pow_le_pow_right (n := 2) (by decide) hs
  have hn1 : 1 ≤ n := by rw [hn]; exact Nat.pow_pos (by decide)
  have ht := transformedR_ok A n c s xs w hs hn hx hP hT
  have hinv := fun W => inverse_ok n W (by have hp : PP = 18446744069414584321 := rfl; omega)
  obtain ⟨d, hd⟩ : ∃ d, n ^ (PP - 2) % PP = d := ⟨_, rfl⟩
  obtain ⟨T, hT2⟩ : ∃ T : Nat → Nat, T = fun k => Tr n (rt s) (yx xs) ((n - k) % n) := ⟨_, rfl⟩
  have hpost : (fun k => Tr n (rt s) (yx xs) ((n - k) % n) * (n ^ (PP - 2) % PP) % PP) = fun k => T k * d % PP := by rw [hT2, hd]
  rw [hpost]
  rw [hd] at hinv
  have hwn : IntKind.u64.wrap (n : Int) = (n : Int) := wrap_nat n (by have hB : B64 = 18446744073709551616 := rfl; omega)
  have HI := Lib.hid (And.intro hinv (show d < PP by rw [← hd]; exact Nat.mod_lt _ PP_pos))
  have HT : Hid (∀ k, T k < PP) := fun k => by rw [hT2]; exact Tr_lt _ _ _ _
  have HT2 := Lib.hid hT2
  have Ht := Lib.hid ht
  obtain ⟨m, hm⟩ : ∃ m, n - 1 = m := ⟨_, rfl⟩
  have Hm : Hid (n = m + 1) := (show n = m + 1 by omega)
  clear hn hx hP hT ht hinv hd hpost hT2
  go_enter Tryd.func80, Tryd.ntmps80
  go_wp2_with (fail)
  refine Ht.out.mono ?_
  rintro e w2 ⟨g, c1, rfl, hnc, hc9, hR, hg, hb⟩
  have hR0 := Lib.hid (And.intro hR hg)
  have HB := Lib.hid hb
  have h1i : (1 : Int) ≤ (n : Int) := by omega
  have h2i : (1 : Int) ≤ (c1 : Int) := by omega
  have h3i : (n : Int) ≤ (c1 : Int) := by omega
  clear hR hg hb Ht
  by_cases hc1 : c1 = 1
  · subst hc1
    go_wp2_with (first | (go_at_call 73; refine (Reverse_tail _ g n m _ _ _ (by first | exact .inr rfl | exact .inl (by have := Hm.out; omega)) Hm.out (by omega) (by have := Hm.out; omega) hR0.out.1).mono ?_; rintro e w3 ⟨rfl, hR3, hg3⟩))
    have HG : Hid (RwB w w3 g 1 n T) := Lib.hid ⟨by rw [HT2.out]; exact hR3, ⟨hnc, hc9, hR0.out.2⟩, HB.out.grown hg3 HB.out.size (by intro j hj; injection hj with hj; rw [← hj]; exact hR0.out.2)⟩
    clear hR3 hg3 hR0 HB
    go_wp2_with (fail)
    refine (HI.out.1 _).mono ?_
    rintro e w5 ⟨rfl, rfl⟩
    go_wp2_with (fail)
    go_loopw [5, 6, 19] (fun _ _ iv wr => ∃ (k : Nat), k ≤ n ∧ iv = .int .i64 k ∧ Hid (RwB w wr g 1 n (fun i => if i < k then d * T i % PP else T i))) (fun _ _ iv _ => n - (intOf iv).toNat)
    case atStart => exact ⟨0, Nat.zero_le _, rfl, Lib.hid ⟨HG.out.1.congr (fun i _ => by simp), HG.out.2⟩⟩
    case round =>
      obtain ⟨k, hk, rfl, hH⟩ := hrel
      by_cases hlt : k < n
      · have hki : (k : Int) < n := by omega
        have hc := hH.out.1.cell hlt
        have hf := hH.out.1.frozen k
        simp only [Nat.lt_irrefl, if_false] at hc
        obtain ⟨x, hxv⟩ : ∃ x, T k = x := ⟨_, rfl⟩
        rw [hxv] at hc
        have hxP : x < PP := by rw [← hxv]; exact HT.out k
        obtain ⟨r, hr⟩ : ∃ r, d * x % PP = r := ⟨_, rfl⟩
        have hrB : r < B64 := by rw [← hr]; exact Nat.lt_trans (Nat.mod_lt _ PP_pos) PP_lt
        have HN : Hid (RwB w (wr.setCell ⟨g, k, none⟩ (.int .u64 r)) g 1 n (fun i => if i < k + 1 then d * T i % PP else T i)) := by
          obtain ⟨h1, h2, h3⟩ := hH.out
          refine ⟨(h1.set hlt hrB).congr fun i hi => ?_, h2, h3.setCell h2.2.2 _⟩
          by_cases h5 : i = k
          · subst h5; simp [hxv, hr]
          · by_cases h6 : i < k
            · simp [h5, h6, show i < k + 1 by omega]
            · simp [h5, h6, show ¬ i < k + 1 by omega]
        have HX := Lib.hid (And.intro hxP hr)
        clear hH hxv hr hxP hrB
        go_wp2_with (fail)
        refine (times_ok d x _ HI.out.2 HX.out.1).mono ?_
        rintro e w6 ⟨rfl, rfl⟩
        rw [HX.out.2]
        go_wp2_with (fail)
        go_roundw
        case rel => exact ⟨k + 1, by omega, by go_num, HN⟩
        case measure => simp [intOf]; omega
      · have hki : ¬ (k : Int) < n := by omega
        obtain rfl : k = n := by omega
        go_wp2_with (fail)
        go_ret
        obtain ⟨h1, ⟨h2, h3, h4⟩, h5⟩ := hH.out
        refine ⟨g, 1, rfl, h2, h3, h1.congr (fun i hi => ?_), h4, h5⟩
        simp only [hi, if_true]
        rw [Nat.mul_comm]
  
  · have hc1' : ¬ 1 = c1 := fun h => hc1 h.symm
    go_wp2_with (first | (go_at_call 73; refine (Reverse_tail _ g n m _ _ _ (by first | exact .inr rfl | exact .inl (by have := Hm.out; omega)) Hm.out (by omega) (by have := Hm.out; omega) hR0.out.1).mono ?_; rintro e w3 ⟨rfl, hR3, hg3⟩))
    have HG : Hid (RwB w w3 g c1 n T) := Lib.hid ⟨by rw [HT2.out]; exact hR3, ⟨hnc, hc9, hR0.out.2⟩, HB.out.grown hg3 HB.out.size (by intro j hj; injection hj with hj; rw [← hj]; exact hR0.out.2)⟩
    clear hR3 hg3 hR0 HB
    go_wp2_with (fail)
    refine (HI.out.1 _).mono ?_
    rintro e w5 ⟨rfl, rfl⟩
    go_wp2_with (fail)
    go_loopw [5, 6, 19] (fun _ _ iv wr => ∃ (k : Nat), k ≤ n ∧ iv = .int .i64 k ∧ Hid (RwB w wr g c1 n (fun i => if i < k then d * T i % PP else T i))) (fun _ _ iv _ => n - (intOf iv).toNat)
    case atStart => exact ⟨0, Nat.zero_le _, rfl, Lib.hid ⟨HG.out.1.congr (fun i _ => by simp), HG.out.2⟩⟩
    case round =>
      obtain ⟨k, hk, rfl, hH⟩ := hrel
      by_cases hlt : k < n
      · have hki : (k : Int) < n := by omega
        have hc := hH.out.1.cell hlt
        have hf := hH.out.1.frozen k
        simp only [Nat.lt_irrefl, if_false] at hc
        obtain ⟨x, hxv⟩ : ∃ x, T k = x := ⟨_, rfl⟩
        rw [hxv] at hc
        have hxP : x < PP := by rw [← hxv]; exact HT.out k
        obtain ⟨r, hr⟩ : ∃ r, d * x % PP = r := ⟨_, rfl⟩
        have hrB : r < B64 := by rw [← hr]; exact Nat.lt_trans (Nat.mod_lt _ PP_pos) PP_lt
        have HN : Hid (RwB w (wr.setCell ⟨g, k, none⟩ (.int .u64 r)) g c1 n (fun i => if i < k + 1 then d * T i % PP else T i)) := by
          obtain ⟨h1, h2, h3⟩ := hH.out
          refine ⟨(h1.set hlt hrB).congr fun i hi => ?_, h2, h3.setCell h2.2.2 _⟩
          by_cases h5 : i = k
          · subst h5; simp [hxv, hr]
          · by_cases h6 : i < k
            · simp [h5, h6, show i < k + 1 by omega]
            · simp [h5, h6, show ¬ i < k + 1 by omega]
        have HX := Lib.hid (And.intro hxP hr)
        clear hH hxv hr hxP hrB
        go_wp2_with (fail)
        refine (times_ok d x _ HI.out.2 HX.out.1).mono ?_
        rintro e w6 ⟨rfl, rfl⟩
        rw [HX.out.2]
        go_wp2_with (fail)
        go_roundw
        case rel => exact ⟨k + 1, by omega, by go_num, HN⟩
        case measure => simp [intOf]; omega
      · have hki : ¬ (k : Int) < n := by omega
        obtain rfl : k = n := by omega
        go_wp2_with (fail)
        go_ret
        obtain ⟨h1, ⟨h2, h3, h4⟩, h5⟩ := hH.out
        refine ⟨g, c1, rfl, h2, h3, h1.congr (fun i hi => ?_), h4, h5⟩
        simp only [hi, if_true]
        rw [Nat.mul_comm]
  

end Go.Proofs.YthpgdpkemnhneaaDoor

namespace Go.Proofs.YthpgdpkemnhneaaDoor
open Go.RowKit Go.Shelf
set_option linter.unusedVariables false
set_option linter.unusedSimpArgs false
set_option maxRecDepth 10000

/-- a new row, opened -/
theorem RwR.open {t : TypeId} {w w' : World} {e : Ending} {n : Nat} {f : Nat → Nat} (h : RwR t w w' e n f) : ∃ g c, e = .returned (.slice (some ⟨g, 0, none⟩) n c) ∧ Sl w' (some ⟨g, 0, none⟩) n c (tb n f) ∧ Below w.heap.size w w' ∧ n ≤ c ∧ c ≤ 9223372036854775807 ∧ Rp t w' g n f ∧ w.heap.size ≤ g := by
  obtain ⟨g, c, h1, h2, h3, h4, h5, h6⟩ := h
  exact ⟨g, c, h1, h4.sl h2 h3, h6, h2, h3, h4, h5⟩
theorem RwR.fun_eq {t : TypeId} {w w' : World} {e : Ending} {n : Nat} {f f' : Nat → Nat} (h : RwR t w w' e n f) (hf : ∀ i, i < n → f i = f' i) : RwR t w w' e n f' := by
  obtain ⟨g, c, h1, h2, h3, h4, h5, h6⟩ := h
  exact ⟨g, c, h1, h2, h3, h4.congr hf, h5, h6⟩
theorem Rp.shrink {t : TypeId} {W : World} {g n m : Nat} {f : Nat → Nat} (h : Rp t W g n f) (hm : m ≤ n) : Rp t W g m f := by
  obtain ⟨cur, h1, h2, h3⟩ := h
  refine ⟨cur, h1, ?_, fun i hi => h3 i (by omega)⟩
  have e : tb m f = (tb n f).take m := by
    apply List.ext_getElem?
    intro i
    by_cases hi : i < m
    · rw [tb_get _ hi, List.getElem?_take_of_lt hi, tb_get _ (by omega)]
    · rw [List.getElem?_eq_none (by simp [tb_length]; omega), List.getElem?_eq_none (by simp [tb_length]; omega)]
  rw [e, uvs_take, ← h2, List.take_take, Nat.min_eq_left hm]
/-- what is worked out of both transforms -/
theorem round_fin {n s : Nat} (hn : n = 2 ^ s) (hs : s ≤ 32) (a b c : Nat → Nat) (hc : ∀ k, k < n → c k = Tr n (rt s) a k * Tr n (rt s) b k % PP) {k : Nat} (hk : k < n) :
    Tr n (rt s) c ((n - k) % n) * (n ^ (PP - 2) % PP) % PP = Cv n a b k % PP := by
  have h := round_back s hs a b c (fun k hk => by rw [← hn]; rw [hc k (by rw [hn]; exact hk)]; exact Eqm.mod _) k (by rw [← hn]; exact hk)
  rw [← hn] at h
  have h2 : Eqm (Tr n (rt s) c ((n - k) % n) * (n ^ (PP - 2) % PP)) (Tr n (rt s) c ((n - k) % n) * n ^ (PP - 2)) := Eqm.mul (.refl _) (Eqm.mod _)
  exact h2.trans h


set_option maxHeartbeats 1000000 in
theorem roundU_ok (A A' : Option Addr) (n c c' s : Nat) (xs ys : List Nat) (w : World) (hs : s ≤ 16) (hn : n = 2 ^ s) (hx : Sl w A n c xs) (hy : Sl w A' n c' ys) (hP : ∀ i, i < n → yx xs i < PP) (hP' : ∀ i, i < n → yx ys i < PP) (hT : TabY w) :
    Calls Tryd.prog 47 #[.slice A n c, .slice A' n c'] w fun e w' => RwR 68 w w' e n (fun k => Cv n (yx xs) (yx ys) k % PP) := by
  have hn7 : n ≤ 65536 := by rw [hn]; exact Nat.pow_le_pow_right (n := 2) (by decide) hs
  have Hx := Lib.hid (And.intro hx (And.intro hy (And.intro hP (And.intro hP' (And.intro hT hn)))))
  clear hx hy hP hP' hT hn
  go_enter Tryd.func47, Tryd.ntmps47
  go_wp2_with (fail)
  refine (transformedU_ok A n c s xs _ hs Hx.out.2.2.2.2.2 Hx.out.1 Hx.out.2.2.1 Hx.out.2.2.2.2.1).mono ?_
  rintro e w2 hR
  obtain ⟨g2, c2, rfl, hs2, hb2, -⟩ := hR.open
  have H2 := Lib.hid (And.intro hs2 hb2)
  clear hR hs2 hb2
  go_wp2_with (fail)
  refine (transformedU_ok A' n c' s ys _ hs Hx.out.2.2.2.2.2 (Hx.out.2.1.below H2.out.2) Hx.out.2.2.2.1 (Hx.out.2.2.2.2.1.below H2.out.2)).mono ?_
  rintro e w3 hR
  obtain ⟨g3, c3, rfl, hs3, hb3, -⟩ := hR.open
  have H3 := Lib.hid (And.intro hs3 (And.intro (H2.out.1.below hb3) (H2.out.2.trans (hb3.mono H2.out.2.size))))
  clear hR hs3 hb3
  go_wp2_with (fail)
  refine (productsR_ok _ _ n n c2 c3 _ _ _ (by omega) (Nat.le_refl _) (by omega) H3.out.2.1 H3.out.1 (fun i hi => by rw [yx_tb _ hi]; exact Tr_lt _ _ _ _) (fun i hi => by rw [yx_tb _ hi]; exact Tr_lt _ _ _ _)).mono ?_
  rintro e w4 hR
  obtain ⟨g4, c4, rfl, hs4, hb4, -⟩ := hR.open
  have H4 := Lib.hid (And.intro hs4 (H3.out.2.2.trans (hb4.mono H3.out.2.2.size)))
  clear hR hs4 hb4
  go_wp2_with (fail)
  refine (backR_ok _ n c4 s _ _ hs Hx.out.2.2.2.2.2 H4.out.1 (fun i hi => by rw [yx_tb _ hi]; exact Nat.mod_lt _ PP_pos) (Hx.out.2.2.2.2.1.below H4.out.2)).mono ?_
  rintro e w5 hR
  have hR5 := (hR.later H4.out.2).fun_eq (f' := fun k => Cv n (yx xs) (yx ys) k % PP) (fun i hi => round_fin Hx.out.2.2.2.2.2 (by omega) _ _ _ (fun k hk => by rw [yx_tb _ hk, yx_tb _ hk, yx_tb _ hk]) hi)
  obtain ⟨g5, c5, rfl, h5⟩ := hR5
  have H5 := Lib.hid h5
  clear hR h5
  go_wp2_with (fail)
  go_ret
  exact ⟨g5, c5, rfl, H5.out⟩

set_option maxHeartbeats 1000000 in
theorem roundR_ok (A A' : Option Addr) (n c c' s : Nat) (xs ys : List Nat) (w : World) (hs : s ≤ 16) (hn : n = 2 ^ s) (hx : Sl w A n c xs) (hy : Sl w A' n c' ys) (hP : ∀ i, i < n → yx xs i < PP) (hP' : ∀ i, i < n → yx ys i < PP) (hT : TabY w) :
    Calls Tryd.prog 82 #[.slice A n c, .slice A' n c'] w fun e w' => RwR 68 w w' e n (fun k => Cv n (yx xs) (yx ys) k % PP) := by
  have hn7 : n ≤ 65536 := by rw [hn]; exact Nat.pow_le_pow_right (n := 2) (by decide) hs
  have Hx := Lib.hid (And.intro hx (And.intro hy (And.intro hP (And.intro hP' (And.intro hT hn)))))
  clear hx hy hP hP' hT hn
  go_enter Tryd.func82, Tryd.ntmps82
  go_wp2_with (fail)
  refine (transformedR_ok A n c s xs _ hs Hx.out.2.2.2.2.2 Hx.out.1 Hx.out.2.2.1 Hx.out.2.2.2.2.1).mono ?_
  rintro e w2 hR
  obtain ⟨g2, c2, rfl, hs2, hb2, -⟩ := hR.open
  have H2 := Lib.hid (And.intro hs2 hb2)
  clear hR hs2 hb2
  go_wp2_with (fail)
  refine (transformedR_ok A' n c' s ys _ hs Hx.out.2.2.2.2.2 (Hx.out.2.1.below H2.out.2) Hx.out.2.2.2.1 (Hx.out.2.2.2.2.1.below H2.out.2)).mono ?_
  rintro e w3 hR
  obtain ⟨g3, c3, rfl, hs3, hb3, -⟩ := hR.open
  have H3 := Lib.hid (And.intro hs3 (And.intro (H2.out.1.below hb3) (H2.out.2.trans (hb3.mono H2.out.2.size))))
  clear hR hs3 hb3
  go_wp2_with (fail)
  refine (productsR_ok _ _ n n c2 c3 _ _ _ (by omega) (Nat.le_refl _) (by omega) H3.out.2.1 H3.out.1 (fun i hi => by rw [yx_tb _ hi]; exact Tr_lt _ _ _ _) (fun i hi => by rw [yx_tb _ hi]; exact Tr_lt _ _ _ _)).mono ?_
  rintro e w4 hR
  obtain ⟨g4, c4, rfl, hs4, hb4, -⟩ := hR.open
  have H4 := Lib.hid (And.intro hs4 (H3.out.2.2.trans (hb4.mono H3.out.2.2.size)))
  clear hR hs4 hb4
  go_wp2_with (fail)
  refine (backR_ok _ n c4 s _ _ hs Hx.out.2.2.2.2.2 H4.out.1 (fun i hi => by rw [yx_tb _ hi]; exact Nat.mod_lt _ PP_pos) (Hx.out.2.2.2.2.1.below H4.out.2)).mono ?_
  rintro e w5 hR
  have hR5 := (hR.later H4.out.2).fun_eq (f' := fun k => Cv n (yx xs) (yx ys) k % PP) (fun i hi => round_fin Hx.out.2.2.2.2.2 (by omega) _ _ _ (fun k hk => by rw [yx_tb _ hk, yx_tb _ hk, yx_tb _ hk]) hi)
  obtain ⟨g5, c5, rfl, h5⟩ := hR5
  have H5 := Lib.hid h5
  clear hR h5
  go_wp2_with (fail)
  go_ret
  exact ⟨g5, c5, rfl, H5.out⟩

/-- the turned product -/
def Tn (n : Nat) (a b : Nat → Nat) (k : Nat) : Nat := (Lc n n a b k + (PP - Lc n n a b (k + n) % PP)) % PP
theorem Tn_eq {n : Nat} {a b : Nat → Nat} {k z : Nat} (hz : z < PP) (h : Eqm (z + Lc n n a b (k + n)) (Lc n n a b k)) : z = Tn n a b k := by
  refine Eqm.eq ?_ hz (Nat.mod_lt _ PP_pos)
  refine Eqm.trans ?_ (Eqm.mod _).symm
  generalize Lc n n a b (k + n) = Y at *
  refine Eqm.cancel (c := Y) (h.trans ?_)
  have h1 := Nat.mod_lt Y PP_pos
  have h2 := Nat.div_add_mod Y PP
  rw [show Lc n n a b k + (PP - Y % PP) + Y = Lc n n a b k + PP * (Y / PP + 1) by rw [Nat.mul_add]; omega]
  unfold Eqm
  simp
theorem rt_lookup {W : World} {b k N : Nat} (h : MapR W b) (hk : k ≤ 17) (hN : N = 2 ^ k) : ∃ (n : Nat) (D : DataW Unit), W.ownsMap Tryd.prog 3 (plainElem Tryd.prog 68) b n D ∧ D.atKey (.int .i64 (N : Int)) (.lit (.int .u64 0)) = .lit (.int .u64 ((rt k : Nat) : Int)) := by
  rw [hN]
  exact h.look hk
set_option maxHeartbeats 2000000 in
theorem turnedU_ok (A A' : Option Addr) (n c c' s : Nat) (xs ys : List Nat) (w : World) (hs : s ≤ 16) (hn : n = 2 ^ s) (hx : Sl w A n c xs) (hy : Sl w A' n c' ys) (hP : ∀ i, i < n → yx xs i < PP) (hP' : ∀ i, i < n → yx ys i < PP) (hT : TabY w) :
    Calls Tryd.prog 48 #[.slice A n c, .slice A' n c'] w fun e w' => RwR 68 w w' e n (Tn n (yx xs) (yx ys)) := by
  have hn7 : n ≤ 65536 := by rw [hn]; exact Nat.pow_le_pow_right (n := 2) (by decide) hs
  have Hx := Lib.hid (And.intro hx (And.intro hy (And.intro hP (And.intro hP' (And.intro hT hn)))))
  have K : Maps.Keyed Tryd.prog 3 := Maps.int_keyed Tryd.underlying3
  obtain ⟨N, hN⟩ : ∃ N, N = 2 * n := ⟨_, rfl⟩
  have hNi : 2 * (n : Int) = (N : Int) := by omega
  have hNw : IntKind.i64.wrap (N : Int) = (N : Int) := IntWalk.i64_in _ (by omega)
  have hkey : keyOf Tryd.prog 3 (.int .i64 N) = some (.int .i64 N) := Maps.keyOf_int_mk Tryd.underlying3 (wf_i64 (by omega))
  have HN := Lib.hid (And.intro (show N = 2 ^ (s + 1) by rw [hN, hn, Nat.pow_succ, Nat.mul_comm]) hkey)
  clear hx hy hP hP' hT hn hN hkey
  go_enter Tryd.func48, Tryd.ntmps48
  go_wp2_with (fail)
  refine (roots_ok _).mono ?_
  rintro e w2 ⟨b, rfl, hRt, -, hb2⟩
  obtain ⟨n1, Dm, hown, hat⟩ := rt_lookup hRt (k := s + 1) (by omega) HN.out.1
  have H2 := Lib.hid (And.intro hat hb2)
  clear hRt hat hb2
  go_wp2_with (at_lookup; refine wpList_lookup_own_int _ rfl _ _ 69 rfl 3 68 .u64 K Tryd.underlying69 Tryd.underlying68 (Tryd.zeroValue68 _) b n1 Dm rfl hown _ _ rfl HN.out.2 ?_)
  intro cc hcat hwf
  obtain rfl := lit_inj (H2.out.1.symm.trans hcat)
  clear hcat hwf hown
  obtain ⟨v, hv⟩ : ∃ v, rt (s + 1) = v := ⟨_, rfl⟩
  have HV := Lib.hid (And.intro hv (show v < PP by rw [← hv]; exact rt_lt _))
  rw [hv]
  clear hv
  go_wp2_with (fail)
  refine (powers_ok v n _ HV.out.2 (by omega)).mono ?_
  rintro e w3 hR
  obtain ⟨g3, c3, rfl, hs3, hb3, -⟩ := hR.open
  have H3 := Lib.hid (And.intro hs3 (H2.out.2.trans (hb3.mono H2.out.2.size)))
  clear hR hs3 hb3
  go_wp2_with (fail)
  refine (productsU_ok A _ n n c c3 _ _ _ (by omega) (Nat.le_refl _) (by omega) (Hx.out.1.below H3.out.2) H3.out.1 Hx.out.2.2.1 (fun i hi => by rw [yx_tb _ hi]; exact Nat.mod_lt _ PP_pos)).mono ?_
  rintro e w4 hR
  obtain ⟨g4, c4, rfl, hs4, hb4, -⟩ := hR.open
  have H4 := Lib.hid (And.intro hs4 (And.intro (H3.out.1.below hb4) (H3.out.2.trans (hb4.mono H3.out.2.size))))
  clear hR hs4 hb4
  go_wp2_with (fail)
  refine (productsU_ok A' _ n n c' c3 _ _ _ (by omega) (Nat.le_refl _) (by omega) (Hx.out.2.1.below H4.out.2.2) H4.out.2.1 Hx.out.2.2.2.1 (fun i hi => by rw [yx_tb _ hi]; exact Nat.mod_lt _ PP_pos)).mono ?_
  rintro e w5 hR
  obtain ⟨g5, c5, rfl, hs5, hb5, -⟩ := hR.open
  have H5 := Lib.hid (And.intro hs5 (And.intro (H4.out.1.below hb5) (H4.out.2.2.trans (hb5.mono H4.out.2.2.size))))
  clear hR hs5 hb5
  go_wp2_with (fail)
  refine (roundR_ok _ _ n c4 c5 s _ _ _ hs Hx.out.2.2.2.2.2 H5.out.2.1 H5.out.1 (fun i hi => by rw [yx_tb _ hi]; exact Nat.mod_lt _ PP_pos) (fun i hi => by rw [yx_tb _ hi]; exact Nat.mod_lt _ PP_pos) (Hx.out.2.2.2.2.1.below H5.out.2.2)).mono ?_
  rintro e w6 hR
  obtain ⟨g6, c6, rfl, hs6, hb6, -⟩ := hR.open
  have H6 := Lib.hid (And.intro hs6 (H5.out.2.2.trans (hb6.mono H5.out.2.2.size)))
  clear hR hs6 hb6
  obtain ⟨u, hu⟩ : ∃ u, v ^ (PP - 2) % PP = u := ⟨_, rfl⟩
  have hinv := fun W => inverse_ok v W HV.out.2
  rw [hu] at hinv
  have HU := Lib.hid (And.intro hinv (And.intro hu (show u < PP by rw [← hu]; exact Nat.mod_lt _ PP_pos)))
  clear hinv hu
  go_wp2_with (fail)
  refine (HU.out.1 _).mono ?_
  rintro e w7 ⟨rfl, rfl⟩
  go_wp2_with (fail)
  refine (powers_ok u n _ HU.out.2.2 (by omega)).mono ?_
  rintro e w7 hR
  obtain ⟨g7, c7, rfl, hs7, hb7, -⟩ := hR.open
  have H7 := Lib.hid (And.intro hs7 (And.intro (H6.out.1.below hb7) (H6.out.2.trans (hb7.mono H6.out.2.size))))
  clear hR hs7 hb7
  go_wp2_with (fail)
  refine (productsR_ok _ _ n n c6 c7 _ _ _ (by omega) (Nat.le_refl _) (by omega) H7.out.2.1 H7.out.1 (fun i hi => by rw [yx_tb _ hi]; exact Nat.mod_lt _ PP_pos) (fun i hi => by rw [yx_tb _ hi]; exact Nat.mod_lt _ PP_pos)).mono ?_
  rintro e w8 hR
  have hR8 := (hR.later H7.out.2.2).fun_eq (f' := Tn n (yx xs) (yx ys)) (fun i hi => Tn_eq (Nat.mod_lt _ PP_pos) (by
    rw [yx_tb _ hi, yx_tb _ hi]
    have h := turned_back s (by omega) (yx xs) (yx ys) i (by rw [← Hx.out.2.2.2.2.2]; exact hi)
    rw [← Hx.out.2.2.2.2.2, HV.out.1] at h
    refine Eqm.trans (Eqm.add (.trans (Eqm.mod _) (Eqm.mul (.trans (Eqm.mod _) (Cv_eqm (fun j hj => ?_) (fun j hj => ?_) i)) (.trans (Eqm.mod _) (Eqm.pow (by rw [← HU.out.2.1]; exact Eqm.mod _) i)))) (.refl _)) h
    · rw [yx_tb _ hj, yx_tb _ hj]
      exact (Eqm.mod _).trans (Eqm.mul (.refl _) (Eqm.mod _))
    · rw [yx_tb _ hj, yx_tb _ hj]
      exact (Eqm.mod _).trans (Eqm.mul (.refl _) (Eqm.mod _))))
  obtain ⟨g8, c8, rfl, h8⟩ := hR8
  have H8 := Lib.hid h8
  clear hR h8
  go_wp2_with (fail)
  go_ret
  exact ⟨g8, c8, rfl, H8.out⟩
/-- what a long product answers: nothing where a list is empty -/
def LgR (w w' : World) (e : Ending) (k l : Nat) (a b : Nat → Nat) : Prop := ((k = 0 ∨ l = 0) ∧ e = .returned (.slice none 0 0) ∧ Below w.heap.size w w') ∨ (1 ≤ k ∧ 1 ≤ l ∧ RwR 68 w w' e (k + l - 1) (fun m => Lc k l a b m % PP))
/-- a long product out of a round one of padded lists -/
theorem long_fin {k l n : Nat} {xs ys : List Nat} (hx : xs.length = k) (hy : ys.length = l) (hn : k + l ≤ n + 1) (hk : 1 ≤ k) (hl : 1 ≤ l) {i : Nat} (hi : i < k + l - 1) (a b : Nat → Nat) (ha : ∀ j, j < n → a j = yx xs j) (hb : ∀ j, j < n → b j = yx ys j) :
    Cv n a b i % PP = Lc k l (yx xs) (yx ys) i % PP := by
  have h1 : Eqm (Cv n a b i) (Cv n (yx xs) (yx ys) i) := Cv_eqm (fun j hj => .of_eq (ha j hj)) (fun j hj => .of_eq (hb j hj)) i
  rw [show Cv n a b i % PP = Cv n (yx xs) (yx ys) i % PP from h1, Cv_Lc _ _ (show i < n by omega), Lc_pad (show k ≤ n by omega) (show l ≤ n by omega) (fun j hj => yx_far (by omega)) (fun j hj => yx_far (by omega)), Lc_pad (show k ≤ n by omega) (show l ≤ n by omega) (fun j hj => yx_far (by omega)) (fun j hj => yx_far (by omega)), Lc_far (m := i + n) (by omega), Nat.add_zero]
theorem yx_res {n : Nat} {xs : List Nat} (hl : xs.length = n) (hP : ∀ i, i < n → yx xs i < PP) (i : Nat) : yx xs i < PP := by
  rcases Nat.lt_or_ge i n with h | h
  · exact hP i h
  · rw [yx_far (by omega)]; exact PP_pos

set_option maxHeartbeats 2000000 in
theorem longU_ok (A A' : Option Addr) (k l c c' : Nat) (xs ys : List Nat) (w : World) (hk : k ≤ 32768) (hl : l ≤ 32768) (hx : Sl w A k c xs) (hy : Sl w A' l c' ys) (hP : ∀ i, i < k → yx xs i < PP) (hP' : ∀ i, i < l → yx ys i < PP) (hT : TabY w) :
    Calls Tryd.prog 50 #[.slice A k c, .slice A' l c'] w fun e w' => LgR w w' e k l (yx xs) (yx ys) := by
  have Hx := Lib.hid (And.intro hx (And.intro hy (And.intro (yx_res hx.1 hP) (And.intro (yx_res hy.1 hP') hT))))
  clear hx hy hP hP' hT
  by_cases hk0 : k = 0
  · subst hk0
    go_enter Tryd.func50, Tryd.ntmps50
    go_wp2_with (fail)
    go_ret
    exact .inl ⟨.inl rfl, rfl, Below.refl _ _⟩
  · by_cases hl0 : l = 0
    · subst hl0
      have e1 : ((k : Int) == 0) = false := by simp; omega
      go_enter Tryd.func50, Tryd.ntmps50
      go_wp2_with (fail)
      go_ret
      exact .inl ⟨.inr rfl, rfl, Below.refl _ _⟩
    · have e1 : ((k : Int) == 0) = false := by simp; omega
      have e2 : ((l : Int) == 0) = false := by simp; omega
      have e3 : ¬ (k : Int) = 0 := by omega
      have e4 : ¬ (l : Int) = 0 := by omega
      obtain ⟨n, hn⟩ : ∃ n, n = k + l - 1 := ⟨_, rfl⟩
      have e5 : IntKind.i64.wrap ((k : Int) + (l : Int)) = (k : Int) + (l : Int) := IntWalk.i64_in _ (by omega)
      have e6 : IntKind.i64.wrap ((k : Int) + (l : Int) - 1) = (n : Int) := by rw [show ((k : Int) + (l : Int) - 1) = (n : Int) by omega]; exact IntWalk.i64_in _ (by omega)
      have Hn := Lib.hid (And.intro hn (show n ≤ 65535 by omega))
      have hn5 : n ≤ 65535 := by omega
      clear hn
      go_enter Tryd.func50, Tryd.ntmps50
      go_wp2_with (fail)
      refine (lengthFor_ok n _ (by omega)).mono ?_
      rintro e w2 ⟨⟨q, hq, hnq, rfl⟩, rfl⟩
      obtain ⟨N, hN⟩ : ∃ N, 2 ^ q = N := ⟨_, rfl⟩
      rw [hN] at hnq ⊢
      have HN := Lib.hid (And.intro hq hN.symm)
      have hN6 : N ≤ 65536 := by rw [← hN]; exact Nat.pow_le_pow_right (n := 2) (by decide) hq
      clear hq hN
      go_wp2_with (fail)
      refine (paddedU_ok A k N c xs _ (by have := Hn.out.1; omega) (by omega) Hx.out.1).mono ?_
      rintro e w3 hR
      obtain ⟨g3, c3, rfl, hs3, hb3, -⟩ := hR.open
      have H3 := Lib.hid (And.intro hs3 hb3)
      clear hR hs3 hb3
      go_wp2_with (fail)
      refine (paddedU_ok A' l N c' ys _ (by have := Hn.out.1; omega) (by omega) (Hx.out.2.1.below H3.out.2)).mono ?_
      rintro e w4 hR
      obtain ⟨g4, c4, rfl, hs4, hb4, -⟩ := hR.open
      have H4 := Lib.hid (And.intro hs4 (And.intro (H3.out.1.below hb4) (H3.out.2.trans (hb4.mono H3.out.2.size))))
      clear hR hs4 hb4
      go_wp2_with (fail)
      refine (roundU_ok _ _ N c3 c4 q _ _ _ HN.out.1 HN.out.2 H4.out.2.1 H4.out.1 (fun i hi => by rw [yx_tb _ hi]; exact Hx.out.2.2.1 i) (fun i hi => by rw [yx_tb _ hi]; exact Hx.out.2.2.2.1 i) (Hx.out.2.2.2.2.below H4.out.2.2)).mono ?_
      rintro e w5 hR
      obtain ⟨g5, c5, rfl, hs5, hb5, hc5, hc9, hp5, hg5⟩ := hR.open
      have hni : (n : Int) ≤ (c5 : Int) := by omega
      have hn0i : (0 : Int) ≤ (n : Int) := by omega
      have HF := Lib.hid (And.intro (H4.out.2.2.trans (hb5.mono H4.out.2.2.size)) (And.intro hc9 (And.intro hp5 (Nat.le_trans H4.out.2.2.size hg5))))
      clear hR hs5 hb5 hp5 hg5
      go_wp2_with (fail)
      go_ret
      refine .inr ⟨by omega, by omega, ?_⟩
      rw [← Hn.out.1]
      refine ⟨g5, c5, rfl, by omega, HF.out.2.1, (HF.out.2.2.1.shrink hnq).congr (fun i hi => ?_), HF.out.2.2.2, HF.out.1⟩
      exact long_fin Hx.out.1.1 Hx.out.2.1.1 (by have := Hn.out.1; omega) (by omega) (by omega) (by have := Hn.out.1; omega) _ _ (fun j hj => yx_tb _ hj) (fun j hj => yx_tb _ hj)

set_option maxHeartbeats 2000000 in
theorem longR_ok (A A' : Option Addr) (k l c c' : Nat) (xs ys : List Nat) (w : World) (hk : k ≤ 32768) (hl : l ≤ 32768) (hx : Sl w A k c xs) (hy : Sl w A' l c' ys) (hP : ∀ i, i < k → yx xs i < PP) (hP' : ∀ i, i < l → yx ys i < PP) (hT : TabY w) :
    Calls Tryd.prog 78 #[.slice A k c, .slice A' l c'] w fun e w' => LgR w w' e k l (yx xs) (yx ys) := by
  have Hx := Lib.hid (And.intro hx (And.intro hy (And.intro (yx_res hx.1 hP) (And.intro (yx_res hy.1 hP') hT))))
  clear hx hy hP hP' hT
  by_cases hk0 : k = 0
  · subst hk0
    go_enter Tryd.func78, Tryd.ntmps78
    go_wp2_with (fail)
    go_ret
    exact .inl ⟨.inl rfl, rfl, Below.refl _ _⟩
  · by_cases hl0 : l = 0
    · subst hl0
      have e1 : ((k : Int) == 0) = false := by simp; omega
      go_enter Tryd.func78, Tryd.ntmps78
      go_wp2_with (fail)
      go_ret
      exact .inl ⟨.inr rfl, rfl, Below.refl _ _⟩
    · have e1 : ((k : Int) == 0) = false := by simp; omega
      have e2 : ((l : Int) == 0) = false := by simp; omega
      have e3 : ¬ (k : Int) = 0 := by omega
      have e4 : ¬ (l : Int) = 0 := by omega
      obtain ⟨n, hn⟩ : ∃ n, n = k + l - 1 := ⟨_, rfl⟩
      have e5 : IntKind.i64.wrap ((k : Int) + (l : Int)) = (k : Int) + (l : Int) := IntWalk.i64_in _ (by omega)
      have e6 : IntKind.i64.wrap ((k : Int) + (l : Int) - 1) = (n : Int) := by rw [show ((k : Int) + (l : Int) - 1) = (n : Int) by omega]; exact IntWalk.i64_in _ (by omega)
      have Hn := Lib.hid (And.intro hn (show n ≤ 65535 by omega))
      have hn5 : n ≤ 65535 := by omega
      clear hn
      go_enter Tryd.func78, Tryd.ntmps78
      go_wp2_with (fail)
      refine (lengthFor_ok n _ (by omega)).mono ?_
      rintro e w2 ⟨⟨q, hq, hnq, rfl⟩, rfl⟩
      obtain ⟨N, hN⟩ : ∃ N, 2 ^ q = N := ⟨_, rfl⟩
      rw [hN] at hnq ⊢
      have HN := Lib.hid (And.intro hq hN.symm)
      have hN6 : N ≤ 65536 := by rw [← hN]; exact Nat.pow_le_pow_right (n := 2) (by decide) hq
      clear hq hN
      go_wp2_with (fail)
      refine (paddedR_ok A k N c xs _ (by have := Hn.out.1; omega) (by omega) Hx.out.1).mono ?_
      rintro e w3 hR
      obtain ⟨g3, c3, rfl, hs3, hb3, -⟩ := hR.open
      have H3 := Lib.hid (And.intro hs3 hb3)
      clear hR hs3 hb3
      go_wp2_with (fail)
      refine (paddedR_ok A' l N c' ys _ (by have := Hn.out.1; omega) (by omega) (Hx.out.2.1.below H3.out.2)).mono ?_
      rintro e w4 hR
      obtain ⟨g4, c4, rfl, hs4, hb4, -⟩ := hR.open
      have H4 := Lib.hid (And.intro hs4 (And.intro (H3.out.1.below hb4) (H3.out.2.trans (hb4.mono H3.out.2.size))))
      clear hR hs4 hb4
      go_wp2_with (fail)
      refine (roundR_ok _ _ N c3 c4 q _ _ _ HN.out.1 HN.out.2 H4.out.2.1 H4.out.1 (fun i hi => by rw [yx_tb _ hi]; exact Hx.out.2.2.1 i) (fun i hi => by rw [yx_tb _ hi]; exact Hx.out.2.2.2.1 i) (Hx.out.2.2.2.2.below H4.out.2.2)).mono ?_
      rintro e w5 hR
      obtain ⟨g5, c5, rfl, hs5, hb5, hc5, hc9, hp5, hg5⟩ := hR.open
      have hni : (n : Int) ≤ (c5 : Int) := by omega
      have hn0i : (0 : Int) ≤ (n : Int) := by omega
      have HF := Lib.hid (And.intro (H4.out.2.2.trans (hb5.mono H4.out.2.2.size)) (And.intro hc9 (And.intro hp5 (Nat.le_trans H4.out.2.2.size hg5))))
      clear hR hs5 hb5 hp5 hg5
      go_wp2_with (fail)
      go_ret
      refine .inr ⟨by omega, by omega, ?_⟩
      rw [← Hn.out.1]
      refine ⟨g5, c5, rfl, by omega, HF.out.2.1, (HF.out.2.2.1.shrink hnq).congr (fun i hi => ?_), HF.out.2.2.2, HF.out.1⟩
      exact long_fin Hx.out.1.1 Hx.out.2.1.1 (by have := Hn.out.1; omega) (by omega) (by omega) (by have := Hn.out.1; omega) _ _ (fun j hj => yx_tb _ hj) (fun j hj => yx_tb _ hj)

end Go.Proofs.YthpgdpkemnhneaaDoor

