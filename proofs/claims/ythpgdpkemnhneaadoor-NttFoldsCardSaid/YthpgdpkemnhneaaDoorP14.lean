/- Pieces of the proofs, together: YTop, YDig, YNumM, YNum, YMulM, YMul, YSame, YAwM, YAwake. -/
import Derived.Lib.MinMax
import Derived.Test.YthpgdpkemnhneaaDoorP13
import Derived.Test.YthpgdpkemnhneaaDoorP5
import Derived.Test.YthpgdpkemnhneaaDoorP1

namespace Go.Proofs.YthpgdpkemnhneaaDoor
open Go.RowKit Go.Shelf
set_option linter.unusedVariables false
set_option linter.unusedSimpArgs false
set_option maxRecDepth 10000

theorem nl_arg {w : World} {A : Option Addr} {n c : Nat} {xs : List Nat} (t : TypeId) (hx : Sl w A n c xs) : Nl (w.alloc (.cells #[.slice A n c] t)) (some ⟨w.heap.size, 0, none⟩) 1 1 [(A, n, c)] [xs] := by
  refine ⟨rfl, fun _ => ⟨w.heap.size, 0, rfl, by simp, fun j u hj => ?_⟩, rfl, fun i s ys h1 h2 => ?_⟩
  · match j, hj with
    | 0, hj => simp [svs] at hj; subst hj; simp
  · match i, h1, h2 with
    | 0, h1, h2 =>
      simp at h1 h2
      subst h1 h2
      exact hx.below ((Below.refl _ _).alloc (Nat.le_refl _) _)
theorem nl_args {w : World} {A A' : Option Addr} {n n' c c' : Nat} {xs ys : List Nat} (t : TypeId) (hx : Sl w A n c xs) (hy : Sl w A' n' c' ys) : Nl (w.alloc (.cells #[.slice A n c, .slice A' n' c'] t)) (some ⟨w.heap.size, 0, none⟩) 2 2 [(A, n, c), (A', n', c')] [xs, ys] := by
  refine ⟨rfl, fun _ => ⟨w.heap.size, 0, rfl, by simp, fun j u hj => ?_⟩, rfl, fun i s zs h1 h2 => ?_⟩
  · match j, hj with
    | 0, hj => simp [svs] at hj; subst hj; simp
    | 1, hj => simp [svs] at hj; subst hj; simp
  · match i, h1, h2 with
    | 0, h1, h2 =>
      simp at h1 h2
      subst h1 h2
      exact hx.below ((Below.refl _ _).alloc (Nat.le_refl _) _)
    | 1, h1, h2 =>
      simp at h1 h2
      subst h1 h2
      exact hy.below ((Below.refl _ _).alloc (Nat.le_refl _) _)
theorem chkA_one (A : Option Addr) (n c : Nat) (xs : List Nat) (w : World) (t : TypeId) (hx : Sl w A n c xs) (g : Nat) (hg : g = w.heap.size) :
    Calls Tryd.prog 49 #[.slice (some ⟨g, 0, none⟩) 1 1] (w.alloc (.cells #[.slice A n c] t)) fun e w' => e = .returned (.int .i64 (if Rs1 xs = true then 0 else 1)) ∧ Below w.heap.size w w' := by
  subst hg
  refine (checkResidues_any _ _ _ 1 1 _ (by omega) (by have := hx.2.1; have := hx.2.2.1; simp; omega) (nl_arg t hx)).mono ?_
  rintro e w' ⟨rfl, rfl⟩
  refine ⟨?_, (Below.refl _ _).alloc (Nat.le_refl _) _⟩
  by_cases h : Rs1 xs = true <;> simp [chkR, Rss, h]
theorem chkA_two (A A' : Option Addr) (n n' c c' : Nat) (xs ys : List Nat) (w : World) (t : TypeId) (hx : Sl w A n c xs) (hy : Sl w A' n' c' ys) (g : Nat) (hg : g = w.heap.size) :
    Calls Tryd.prog 49 #[.slice (some ⟨g, 0, none⟩) 2 2] (w.alloc (.cells #[.slice A n c, .slice A' n' c'] t)) fun e w' => e = .returned (.int .i64 (if Rs1 xs = true ∧ Rs1 ys = true then 0 else 1)) ∧ Below w.heap.size w w' := by
  subst hg
  refine (checkResidues_any _ _ _ 2 2 _ (by omega) (by have := hx.2.1; have := hx.2.2.1; have := hy.2.1; have := hy.2.2.1; simp; omega) (nl_args t hx hy)).mono ?_
  rintro e w' ⟨rfl, rfl⟩
  refine ⟨?_, (Below.refl _ _).alloc (Nat.le_refl _) _⟩
  by_cases h : Rs1 xs = true <;> by_cases h' : Rs1 ys = true <;> simp [chkR, Rss, h, h']
theorem rs1_iff {n : Nat} {xs : List Nat} (hl : xs.length = n) : Rs1 xs = true ↔ ∀ i, i < n → yx xs i < PP := by
  unfold Rs1
  rw [List.all_eq_true]
  constructor
  · intro h i hi
    have h1 := h _ (List.getElem_mem (show i < xs.length by omega))
    simp only [decide_eq_true_eq] at h1
    simpa [yx, List.getD_eq_getElem?_getD, List.getElem?_eq_getElem (show i < xs.length by omega)] using h1
  · intro h x hx
    obtain ⟨i, hi, rfl⟩ := List.getElem_of_mem hx
    have h1 := h i (by omega)
    simp only [decide_eq_true_eq]
    simpa [yx, List.getD_eq_getElem?_getD, List.getElem?_eq_getElem hi] using h1
open Classical in
set_option maxHeartbeats 400000 in
theorem checkList_okY (A : Option Addr) (n c : Nat) (xs : List Nat) (w : World) (hx : Sl w A n c xs) :
    Calls Tryd.prog 37 #[.slice A n c] w fun e w' => e = .returned (.int .i64 (if IsLen n ∧ Rs1 xs = true then 0 else 1)) ∧ Below w.heap.size w w' := by
  have hL := isLength_ok (n : Int) w (by have := hx.2.1; have := hx.2.2.1; omega) (by omega)
  have hC := fun t => chkA_one A n c xs w t hx _ rfl
  by_cases h1 : IsLen n
  · rw [decide_eq_true h1] at hL
    have e1 : (if IsLen n ∧ Rs1 xs = true then (0 : Int) else 1) = (if Rs1 xs = true then 0 else 1) := by simp [h1]
    rw [e1]
    generalize (if Rs1 xs = true then (0 : Int) else 1) = E at *
    have H := Lib.hid (And.intro hL hC)
    clear hL hC hx h1 e1
    go_enter Tryd.func37, Tryd.ntmps37
    go_wp2_with (fail)
    refine H.out.1.mono ?_
    rintro e w1 ⟨rfl, rfl⟩
    go_wp2_with (fail)
    refine (H.out.2 _).mono ?_
    rintro e w2 ⟨rfl, hb⟩
    have HB := Lib.hid hb
    clear hb
    go_wp2_with (fail)
    go_ret
    exact ⟨rfl, HB.out⟩
  · rw [decide_eq_false h1] at hL
    have e1 : (if IsLen n ∧ Rs1 xs = true then (0 : Int) else 1) = 1 := by simp [h1]
    rw [e1]
    have H := Lib.hid hL
    clear hL hC hx h1 e1
    go_enter Tryd.func37, Tryd.ntmps37
    go_wp2_with (fail)
    refine H.out.mono ?_
    rintro e w1 ⟨rfl, rfl⟩
    go_wp2_with (fail)
    go_ret
    exact ⟨rfl, Below.refl _ _⟩
open Classical in
set_option maxHeartbeats 400000 in
theorem checkPair_ok (A A' : Option Addr) (n n' c c' : Nat) (xs ys : List Nat) (w : World) (hx : Sl w A n c xs) (hy : Sl w A' n' c' ys) :
    Calls Tryd.prog 46 #[.slice A n c, .slice A' n' c'] w fun e w' => e = .returned (.int .i64 (if n = n' ∧ IsLen n ∧ Rs1 xs = true ∧ Rs1 ys = true then 0 else 1)) ∧ Below w.heap.size w w' := by
  have hL := isLength_ok (n : Int) w (by have := hx.2.1; have := hx.2.2.1; omega) (by omega)
  have hC := fun t => chkA_two A A' n n' c c' xs ys w t hx hy _ rfl
  by_cases h0 : n = n'
  · subst h0
    by_cases h1 : IsLen n
    · rw [decide_eq_true h1] at hL
      have e1 : (if n = n ∧ IsLen n ∧ Rs1 xs = true ∧ Rs1 ys = true then (0 : Int) else 1) = (if Rs1 xs = true ∧ Rs1 ys = true then 0 else 1) := by simp [h1]
      rw [e1]
      generalize (if Rs1 xs = true ∧ Rs1 ys = true then (0 : Int) else 1) = E at *
      have H := Lib.hid (And.intro hL hC)
      clear hL hC hx hy h1 e1
      go_enter Tryd.func46, Tryd.ntmps46
      go_wp2_with (fail)
      refine H.out.1.mono ?_
      rintro e w1 ⟨rfl, rfl⟩
      go_wp2_with (fail)
      refine (H.out.2 _).mono ?_
      rintro e w2 ⟨rfl, hb⟩
      have HB := Lib.hid hb
      clear hb
      go_wp2_with (fail)
      go_ret
      exact ⟨rfl, HB.out⟩
    · rw [decide_eq_false h1] at hL
      have e1 : (if n = n ∧ IsLen n ∧ Rs1 xs = true ∧ Rs1 ys = true then (0 : Int) else 1) = 1 := by simp [h1]
      rw [e1]
      have H := Lib.hid hL
      clear hL hC hx hy h1 e1
      go_enter Tryd.func46, Tryd.ntmps46
      go_wp2_with (fail)
      refine H.out.mono ?_
      rintro e w1 ⟨rfl, rfl⟩
      go_wp2_with (fail)
      go_ret
      exact ⟨rfl, Below.refl _ _⟩
  · have e1 : (if n = n' ∧ IsLen n ∧ Rs1 xs = true ∧ Rs1 ys = true then (0 : Int) else 1) = 1 := by simp [h0]
    rw [e1]
    have hne : ((n : Int) == (n' : Int)) = false := by simp; omega
    have hne2 : ¬ (n : Int) = (n' : Int) := by omega
    clear hL hC hx hy e1 h0
    go_enter Tryd.func46, Tryd.ntmps46
    go_wp2_with (fail)
    go_ret
    exact ⟨rfl, Below.refl _ _⟩
/-- what the package answers for a list: n elements f i -/
def YR (w w' : World) (e : Ending) (n : Nat) (f : Nat → Nat) : Prop := ∃ g c, e = .returned (.tuple #[.slice (some ⟨g, 0, none⟩) n c, .int .i64 0]) ∧ n ≤ c ∧ c ≤ 9223372036854775807 ∧ Rp 43 w' g n f ∧ w.heap.size ≤ g ∧ Below w.heap.size w w'
/-- and where it refuses -/
def YE (w w' : World) (e : Ending) : Prop := e = .returned (.tuple #[.slice none 0 0, .int .i64 1]) ∧ Below w.heap.size w w'


set_option maxHeartbeats 400000 in
theorem YTransform_ok (A : Option Addr) (n c s : Nat) (xs : List Nat) (w : World) (hs : s ≤ 16) (hn : n = 2 ^ s) (hx : Sl w A n c xs) (hP : ∀ i, i < n → yx xs i < PP) (hT : TabY w) :
    Calls Tryd.prog 10 #[.slice A n c] w fun e w' => YR w w' e n (Tr n (rt s) (yx xs)) := by
  have hn7 : n ≤ 65536 := by rw [hn]; exact Nat.pow_le_pow_right (n := 2) (by decide) hs
  have hC := checkList_okY A n c xs w hx
  rw [if_pos ⟨⟨s, hs, by rw [hn]⟩, (rs1_iff hx.1).2 hP⟩] at hC
  have hM := fun W (hb : Below w.heap.size w W) => transformedU_ok A n c s xs W hs hn (hx.below hb) hP (hT.below hb)
  have hB : ∀ i, (Tr n (rt s) (yx xs)) i < PP := fun i => Nat.mod_lt _ PP_pos
  generalize (Tr n (rt s) (yx xs)) = F at *
  have H := Lib.hid (And.intro hC (And.intro hM hB))
  clear hC hM hB hx hP hT hn
  go_enter Tryd.func10, Tryd.ntmps10
  go_wp2_with (fail)
  refine H.out.1.mono ?_
  rintro e w1 ⟨rfl, hb1⟩
  have H1 := Lib.hid hb1
  clear hb1
  go_wp2_with (fail)
  refine (H.out.2.1 _ H1.out).mono ?_
  rintro e w2 hR
  obtain ⟨g2, c2, rfl, hs2, hb2, -⟩ := hR.open
  have H2 := Lib.hid (And.intro hs2 (H1.out.trans (hb2.mono H1.out.size)))
  clear hR hs2 hb2
  go_wp2_with (fail)
  refine (words_ok _ n c2 _ _ (by omega) H2.out.1).mono ?_
  rintro e w3 hR
  have hR3 := (hR.later H2.out.2).fun_eq (f' := F) (fun i hi => yx_tb _ hi)
  obtain ⟨g3, c3, rfl, h3⟩ := hR3
  have H3 := Lib.hid h3
  clear hR h3
  go_wp2_with (fail)
  go_ret2
  exact ⟨g3, c3, rfl, H3.out⟩
set_option maxHeartbeats 400000 in
theorem YTransform_err (A : Option Addr) (n c : Nat) (xs : List Nat) (w : World) (hx : Sl w A n c xs) (h : ¬ (IsLen n ∧ Rs1 xs = true)) :
    Calls Tryd.prog 10 #[.slice A n c] w fun e w' => YE w w' e := by
  have hC := checkList_okY A n c xs w hx
  rw [if_neg h] at hC
  have H := Lib.hid hC
  clear hC hx h
  go_enter Tryd.func10, Tryd.ntmps10
  go_wp2_with (fail)
  refine H.out.mono ?_
  rintro e w1 ⟨rfl, hb1⟩
  have H1 := Lib.hid hb1
  clear hb1
  go_wp2_with (fail)
  go_ret2
  exact ⟨rfl, H1.out⟩

set_option maxHeartbeats 400000 in
theorem YBack_ok (A : Option Addr) (n c s : Nat) (xs : List Nat) (w : World) (hs : s ≤ 16) (hn : n = 2 ^ s) (hx : Sl w A n c xs) (hP : ∀ i, i < n → yx xs i < PP) (hT : TabY w) :
    Calls Tryd.prog 11 #[.slice A n c] w fun e w' => YR w w' e n (fun k => Tr n (rt s) (yx xs) ((n - k) % n) * (n ^ (PP - 2) % PP) % PP) := by
  have hn7 : n ≤ 65536 := by rw [hn]; exact Nat.pow_le_pow_right (n := 2) (by decide) hs
  have hC := checkList_okY A n c xs w hx
  rw [if_pos ⟨⟨s, hs, by rw [hn]⟩, (rs1_iff hx.1).2 hP⟩] at hC
  have hM := fun W (hb : Below w.heap.size w W) => backU_ok A n c s xs W hs hn (hx.below hb) hP (hT.below hb)
  have hB : ∀ i, (fun k => Tr n (rt s) (yx xs) ((n - k) % n) * (n ^ (PP - 2) % PP) % PP) i < PP := fun i => Nat.mod_lt _ PP_pos
  generalize (fun k => Tr n (rt s) (yx xs) ((n - k) % n) * (n ^ (PP - 2) % PP) % PP) = F at *
  have H := Lib.hid (And.intro hC (And.intro hM hB))
  clear hC hM hB hx hP hT hn
  go_enter Tryd.func11, Tryd.ntmps11
  go_wp2_with (fail)
  refine H.out.1.mono ?_
  rintro e w1 ⟨rfl, hb1⟩
  have H1 := Lib.hid hb1
  clear hb1
  go_wp2_with (fail)
  refine (H.out.2.1 _ H1.out).mono ?_
  rintro e w2 hR
  obtain ⟨g2, c2, rfl, hs2, hb2, -⟩ := hR.open
  have H2 := Lib.hid (And.intro hs2 (H1.out.trans (hb2.mono H1.out.size)))
  clear hR hs2 hb2
  go_wp2_with (fail)
  refine (words_ok _ n c2 _ _ (by omega) H2.out.1).mono ?_
  rintro e w3 hR
  have hR3 := (hR.later H2.out.2).fun_eq (f' := F) (fun i hi => yx_tb _ hi)
  obtain ⟨g3, c3, rfl, h3⟩ := hR3
  have H3 := Lib.hid h3
  clear hR h3
  go_wp2_with (fail)
  go_ret2
  exact ⟨g3, c3, rfl, H3.out⟩
set_option maxHeartbeats 400000 in
theorem YBack_err (A : Option Addr) (n c : Nat) (xs : List Nat) (w : World) (hx : Sl w A n c xs) (h : ¬ (IsLen n ∧ Rs1 xs = true)) :
    Calls Tryd.prog 11 #[.slice A n c] w fun e w' => YE w w' e := by
  have hC := checkList_okY A n c xs w hx
  rw [if_neg h] at hC
  have H := Lib.hid hC
  clear hC hx h
  go_enter Tryd.func11, Tryd.ntmps11
  go_wp2_with (fail)
  refine H.out.mono ?_
  rintro e w1 ⟨rfl, hb1⟩
  have H1 := Lib.hid hb1
  clear hb1
  go_wp2_with (fail)
  go_ret2
  exact ⟨rfl, H1.out⟩

set_option maxHeartbeats 400000 in
theorem YRound_ok (A A' : Option Addr) (n c c' s : Nat) (xs ys : List Nat) (w : World) (hs : s ≤ 16) (hn : n = 2 ^ s) (hx : Sl w A n c xs) (hy : Sl w A' n c' ys) (hP : ∀ i, i < n → yx xs i < PP) (hP' : ∀ i, i < n → yx ys i < PP) (hT : TabY w) :
    Calls Tryd.prog 19 #[.slice A n c, .slice A' n c'] w fun e w' => YR w w' e n (fun k => Cv n (yx xs) (yx ys) k % PP) := by
  have hn7 : n ≤ 65536 := by rw [hn]; exact Nat.pow_le_pow_right (n := 2) (by decide) hs
  have hC := checkPair_ok A A' n n c c' xs ys w hx hy
  rw [if_pos ⟨rfl, ⟨s, hs, by rw [hn]⟩, (rs1_iff hx.1).2 hP, (rs1_iff hy.1).2 hP'⟩] at hC
  have hM := fun W (hb : Below w.heap.size w W) => roundU_ok A A' n c c' s xs ys W hs hn (hx.below hb) (hy.below hb) hP hP' (hT.below hb)
  generalize (fun k => Cv n (yx xs) (yx ys) k % PP) = F at *
  have H := Lib.hid (And.intro hC hM)
  clear hC hM hx hy hP hP' hT hn
  go_enter Tryd.func19, Tryd.ntmps19
  go_wp2_with (fail)
  refine H.out.1.mono ?_
  rintro e w1 ⟨rfl, hb1⟩
  have H1 := Lib.hid hb1
  clear hb1
  go_wp2_with (fail)
  refine (H.out.2 _ H1.out).mono ?_
  rintro e w2 hR
  obtain ⟨g2, c2, rfl, hs2, hb2, -⟩ := hR.open
  have H2 := Lib.hid (And.intro hs2 (H1.out.trans (hb2.mono H1.out.size)))
  clear hR hs2 hb2
  go_wp2_with (fail)
  refine (words_ok _ n c2 _ _ (by omega) H2.out.1).mono ?_
  rintro e w3 hR
  have hR3 := (hR.later H2.out.2).fun_eq (f' := F) (fun i hi => yx_tb _ hi)
  obtain ⟨g3, c3, rfl, h3⟩ := hR3
  have H3 := Lib.hid h3
  clear hR h3
  go_wp2_with (fail)
  go_ret2
  exact ⟨g3, c3, rfl, H3.out⟩
set_option maxHeartbeats 400000 in
theorem YRound_err (A A' : Option Addr) (n n' c c' : Nat) (xs ys : List Nat) (w : World) (hx : Sl w A n c xs) (hy : Sl w A' n' c' ys) (h : ¬ (n = n' ∧ IsLen n ∧ Rs1 xs = true ∧ Rs1 ys = true)) :
    Calls Tryd.prog 19 #[.slice A n c, .slice A' n' c'] w fun e w' => YE w w' e := by
  have hC := checkPair_ok A A' n n' c c' xs ys w hx hy
  rw [if_neg h] at hC
  have H := Lib.hid hC
  clear hC hx hy h
  go_enter Tryd.func19, Tryd.ntmps19
  go_wp2_with (fail)
  refine H.out.mono ?_
  rintro e w1 ⟨rfl, hb1⟩
  have H1 := Lib.hid hb1
  clear hb1
  go_wp2_with (fail)
  go_ret2
  exact ⟨rfl, H1.out⟩

set_option maxHeartbeats 400000 in
theorem YTurned_ok (A A' : Option Addr) (n c c' s : Nat) (xs ys : List Nat) (w : World) (hs : s ≤ 16) (hn : n = 2 ^ s) (hx : Sl w A n c xs) (hy : Sl w A' n c' ys) (hP : ∀ i, i < n → yx xs i < PP) (hP' : ∀ i, i < n → yx ys i < PP) (hT : TabY w) :
    Calls Tryd.prog 20 #[.slice A n c, .slice A' n c'] w fun e w' => YR w w' e n (Tn n (yx xs) (yx ys)) := by
  have hn7 : n ≤ 65536 := by rw [hn]; exact Nat.pow_le_pow_right (n := 2) (by decide) hs
  have hC := checkPair_ok A A' n n c c' xs ys w hx hy
  rw [if_pos ⟨rfl, ⟨s, hs, by rw [hn]⟩, (rs1_iff hx.1).2 hP, (rs1_iff hy.1).2 hP'⟩] at hC
  have hM := fun W (hb : Below w.heap.size w W) => turnedU_ok A A' n c c' s xs ys W hs hn (hx.below hb) (hy.below hb) hP hP' (hT.below hb)
  generalize (Tn n (yx xs) (yx ys)) = F at *
  have H := Lib.hid (And.intro hC hM)
  clear hC hM hx hy hP hP' hT hn
  go_enter Tryd.func20, Tryd.ntmps20
  go_wp2_with (fail)
  refine H.out.1.mono ?_
  rintro e w1 ⟨rfl, hb1⟩
  have H1 := Lib.hid hb1
  clear hb1
  go_wp2_with (fail)
  refine (H.out.2 _ H1.out).mono ?_
  rintro e w2 hR
  obtain ⟨g2, c2, rfl, hs2, hb2, -⟩ := hR.open
  have H2 := Lib.hid (And.intro hs2 (H1.out.trans (hb2.mono H1.out.size)))
  clear hR hs2 hb2
  go_wp2_with (fail)
  refine (words_ok _ n c2 _ _ (by omega) H2.out.1).mono ?_
  rintro e w3 hR
  have hR3 := (hR.later H2.out.2).fun_eq (f' := F) (fun i hi => yx_tb _ hi)
  obtain ⟨g3, c3, rfl, h3⟩ := hR3
  have H3 := Lib.hid h3
  clear hR h3
  go_wp2_with (fail)
  go_ret2
  exact ⟨g3, c3, rfl, H3.out⟩
set_option maxHeartbeats 400000 in
theorem YTurned_err (A A' : Option Addr) (n n' c c' : Nat) (xs ys : List Nat) (w : World) (hx : Sl w A n c xs) (hy : Sl w A' n' c' ys) (h : ¬ (n = n' ∧ IsLen n ∧ Rs1 xs = true ∧ Rs1 ys = true)) :
    Calls Tryd.prog 20 #[.slice A n c, .slice A' n' c'] w fun e w' => YE w w' e := by
  have hC := checkPair_ok A A' n n' c c' xs ys w hx hy
  rw [if_neg h] at hC
  have H := Lib.hid hC
  clear hC hx hy h
  go_enter Tryd.func20, Tryd.ntmps20
  go_wp2_with (fail)
  refine H.out.mono ?_
  rintro e w1 ⟨rfl, hb1⟩
  have H1 := Lib.hid hb1
  clear hb1
  go_wp2_with (fail)
  go_ret2
  exact ⟨rfl, H1.out⟩

/-- how many elements a long product has -/
def lcn (k l : Nat) : Nat := if k = 0 ∨ l = 0 then 0 else k + l - 1
set_option maxHeartbeats 400000 in
theorem YLong_ok (A A' : Option Addr) (k l c c' : Nat) (xs ys : List Nat) (w : World) (hk : k ≤ 32768) (hl : l ≤ 32768) (hx : Sl w A k c xs) (hy : Sl w A' l c' ys) (hP : ∀ i, i < k → yx xs i < PP) (hP' : ∀ i, i < l → yx ys i < PP) (hT : TabY w) :
    Calls Tryd.prog 21 #[.slice A k c, .slice A' l c'] w fun e w' => YR w w' e (lcn k l) (fun m => Lc k l (yx xs) (yx ys) m % PP) := by
  have hC := chkA_two A A' k l c c' xs ys w 22 hx hy _ rfl
  rw [if_pos ⟨(rs1_iff hx.1).2 hP, (rs1_iff hy.1).2 hP'⟩] at hC
  have hM := fun W (hb : Below w.heap.size w W) => longU_ok A A' k l c c' xs ys W hk hl (hx.below hb) (hy.below hb) hP hP' (hT.below hb)
  obtain ⟨mx, hmx, hmx2⟩ : ∃ mx : Nat, max (k : Int) (l : Int) = (mx : Int) ∧ mx ≤ 32768 := ⟨max k l, by omega, by omega⟩
  have hmi : ¬ (32768 : Int) < (mx : Int) := by omega
  obtain ⟨F, hF⟩ : ∃ F, (fun m => Lc k l (yx xs) (yx ys) m % PP) = F := ⟨_, rfl⟩
  have HF := Lib.hid hF
  rw [hF]
  have H := Lib.hid (And.intro hC hM)
  clear hC hM hx hy hP hP' hT hF
  go_enter Tryd.func21, Tryd.ntmps21
  go_wp2_with (fail)
  refine H.out.1.mono ?_
  rintro e w1 ⟨rfl, hb1⟩
  have H1 := Lib.hid hb1
  clear hb1
  go_wp2_with (fail)
  refine (H.out.2 _ H1.out).mono ?_
  rintro e w2 (⟨h0, rfl, hb2⟩ | ⟨hk1, hl1, hR⟩)
  · have H2 := Lib.hid (And.intro h0 (H1.out.trans (hb2.mono H1.out.size)))
    clear h0 hb2
    go_wp2_with (fail)
    refine (words_ok none 0 0 [] _ (by omega) ⟨rfl, by omega, by omega, fun x hx => (by cases hx), fun h => absurd rfl h⟩).mono ?_
    rintro e w3 hR
    obtain ⟨g3, c3, rfl, h3⟩ := (hR.later H2.out.2).fun_eq (f' := F) (fun i hi => by omega)
    have H3 := Lib.hid h3
    clear hR h3
    go_wp2_with (fail)
    go_ret2
    have e0 : lcn k l = 0 := if_pos H2.out.1
    rw [e0]
    exact ⟨g3, c3, rfl, H3.out⟩
  · rw [HF.out] at hR
    have e0 : lcn k l = k + l - 1 := if_neg (by omega)
    obtain ⟨n, hn⟩ : ∃ n, k + l - 1 = n := ⟨_, rfl⟩
    rw [hn] at hR e0
    have Hn := Lib.hid (And.intro e0 (show n ≤ 65536 by omega))
    obtain ⟨g2, c2, rfl, hs2, hb2, -⟩ := hR.open
    have H2 := Lib.hid (And.intro hs2 (H1.out.trans (hb2.mono H1.out.size)))
    clear hR hs2 hb2 e0 hn
    go_wp2_with (fail)
    refine (words_ok _ n c2 _ _ (by have := Hn.out.2; omega) H2.out.1).mono ?_
    rintro e w3 hR
    obtain ⟨g3, c3, rfl, h3⟩ := (hR.later H2.out.2).fun_eq (f' := F) (fun i hi => yx_tb _ hi)
    have H3 := Lib.hid h3
    clear hR h3
    go_wp2_with (fail)
    go_ret2
    rw [Hn.out.1]
    exact ⟨g3, c3, rfl, H3.out⟩
set_option maxHeartbeats 400000 in
theorem YLong_err (A A' : Option Addr) (k l c c' : Nat) (xs ys : List Nat) (w : World) (hx : Sl w A k c xs) (hy : Sl w A' l c' ys) (h : 32768 < k ∨ 32768 < l ∨ ¬ (Rs1 xs = true ∧ Rs1 ys = true)) :
    Calls Tryd.prog 21 #[.slice A k c, .slice A' l c'] w fun e w' => YE w w' e := by
  have hk9 := hx.2.1
  have hl9 := hy.2.1
  have hk8 := hx.2.2.1
  have hl8 := hy.2.2.1
  by_cases hbig : 32768 < k ∨ 32768 < l
  · obtain ⟨mx, hmx, hmx2⟩ : ∃ mx : Nat, max (k : Int) (l : Int) = (mx : Int) ∧ 32768 < mx := ⟨max k l, by omega, by omega⟩
    have hmi : (32768 : Int) < (mx : Int) := by omega
    clear hx hy h hbig
    go_enter Tryd.func21, Tryd.ntmps21
    go_wp2_with (fail)
    go_ret2
    exact ⟨rfl, Below.refl _ _⟩
  · obtain ⟨mx, hmx, hmx2⟩ : ∃ mx : Nat, max (k : Int) (l : Int) = (mx : Int) ∧ mx ≤ 32768 := ⟨max k l, by omega, by omega⟩
    have hmi : ¬ (32768 : Int) < (mx : Int) := by omega
    have hC := chkA_two A A' k l c c' xs ys w 22 hx hy _ rfl
    rw [if_neg (by rcases h with h | h | h; exact absurd (.inl h) hbig; exact absurd (.inr h) hbig; exact h)] at hC
    have H := Lib.hid hC
    clear hC hx hy h hbig
    go_enter Tryd.func21, Tryd.ntmps21
    go_wp2_with (fail)
    refine H.out.mono ?_
    rintro e w1 ⟨rfl, hb1⟩
    have H1 := Lib.hid hb1
    clear hb1
    go_wp2_with (fail)
    go_ret2
    exact ⟨rfl, H1.out⟩
end Go.Proofs.YthpgdpkemnhneaaDoor

namespace Go.Proofs.YthpgdpkemnhneaaDoor
open Go.RowKit Go.Shelf
set_option linter.unusedVariables false
set_option linter.unusedSimpArgs false
set_option maxRecDepth 10000

/-- how many bits a digit may have -/
def DgS (s : Int) : Prop := s = 8 ∨ s = 16 ∨ s = 32
open Classical in
theorem isDigitSize_ok (s : Int) (w : World) : Calls Tryd.prog 53 #[.int .i64 s] w fun e w' => e = .returned (.bool (decide (DgS s))) ∧ w = w' := by
  by_cases h : DgS s
  · rw [decide_eq_true h]
    rcases h with rfl | rfl | rfl
    all_goals
      go_enter Tryd.func53, Tryd.ntmps53
      go_wp2_with (fail)
      go_ret
      exact ⟨rfl, rfl⟩
  · rw [decide_eq_false h]
    have h1 : (s == 8) = false := by simp; intro e; exact h (.inl e)
    have h2 : (s == 16) = false := by simp; intro e; exact h (.inr (.inl e))
    have h3 : (s == 32) = false := by simp; intro e; exact h (.inr (.inr e))
    clear h
    go_enter Tryd.func53, Tryd.ntmps53
    go_wp2_with (fail)
    go_ret
    exact ⟨rfl, rfl⟩
/-- digit i of a number -/
def dgt (sz x i : Nat) : Nat := x / 2 ^ (sz * i) % 2 ^ sz
theorem dgt_lt (sz x i : Nat) : dgt sz x i < 2 ^ sz := Nat.mod_lt _ (Nat.pow_pos (by decide))
theorem sz_word {sz : Nat} (h : sz = 8 ∨ sz = 16 ∨ sz = 32) (i : Nat) : i * sz % 64 + sz ≤ 64 := by rcases h with rfl | rfl | rfl <;> omega
/-- a digit out of its word -/
theorem dgt_word {sz : Nat} (h : sz = 8 ∨ sz = 16 ∨ sz = 32) {xs : List Nat} (hw : Ws xs) {i : Nat} (hi : i * sz / 64 < xs.length) : yx xs (i * sz / 64) / 2 ^ (i * sz % 64) % 2 ^ sz = dgt sz (V xs) i := by
  have h1 := sz_word h i
  obtain ⟨q, hq⟩ : ∃ q, q = i * sz / 64 := ⟨_, rfl⟩
  obtain ⟨r, hr⟩ : ∃ r, r = i * sz % 64 := ⟨_, rfl⟩
  rw [← hq, ← hr]
  rw [← hq] at hi
  rw [← hr] at h1
  have h2 : sz * i = 64 * q + r := by rw [Nat.mul_comm]; omega
  have h3 : V xs / B64 ^ q = yx xs q + B64 * V (xs.drop (q + 1)) := by
    rw [← V_dropped hw (Nat.le_of_lt hi), List.drop_eq_getElem_cons hi]
    simp only [V]
    have : yx xs q = xs[q] := by simp [yx, List.getD_eq_getElem?_getD, List.getElem?_eq_getElem hi]
    rw [this]
  unfold dgt
  rw [h2, Nat.pow_add, Nat.pow_mul, show (2 : Nat) ^ 64 = B64 from by decide, ← Nat.div_div_eq_div_mul, h3]
  have h4 : B64 = 2 ^ r * 2 ^ (64 - r) := by rw [← Nat.pow_add, show r + (64 - r) = 64 by omega]; decide
  rw [h4, Nat.mul_assoc, Nat.add_mul_div_left _ _ (Nat.pow_pos (by decide)), show (64 - r) = sz + (64 - r - sz) by omega, Nat.pow_add, Nat.mul_assoc, Nat.add_mul_mod_self_left]

set_option maxHeartbeats 1000000 in
theorem digitsU_ok (A : Option Addr) (n c sz : Nat) (xs : List Nat) (w : World) (hsz : sz = 8 ∨ sz = 16 ∨ sz = 32) (hn : n ≤ 4096) (hx : Sl w A n c xs) :
    Calls Tryd.prog 54 #[.slice A n c, .int .i64 sz] w fun e w' => ∃ L, BL (V xs) L ∧ RwR 43 w w' e ((L + sz - 1) / sz) (dgt sz (V xs)) := by
  obtain ⟨i0, hi, hz0, hz1, hz2⟩ := info_parts Tryd.info43
  have hsz8 : 8 ≤ sz ∧ sz ≤ 32 := by omega
  have Hx := Lib.hid (And.intro hx hsz)
  clear hx hsz
  go_enter Tryd.func54, Tryd.ntmps54
  go_wp2_with (fail)
  refine (NLen_ok A n c xs _ (by omega) Hx.out.1).mono ?_
  rintro e w1 ⟨L, rfl, hL, hBL, rfl⟩
  obtain ⟨m, hm⟩ : ∃ m, m = (L + sz - 1) / sz := ⟨_, rfl⟩
  have hmL : ∀ i, i < m → i * sz < L := fun i hi => by
    rw [hm, Nat.lt_div_iff_mul_lt (by omega)] at hi
    omega
  have hm5 : m ≤ 40000 := by
    rw [hm]
    exact Nat.le_trans (Nat.div_le_div_left hsz8.1 (by decide)) (by omega)
  have e1 : IntKind.i64.wrap ((L : Int) + (sz : Int)) = (L : Int) + (sz : Int) := IntWalk.i64_in _ (by omega)
  have e2 : IntKind.i64.wrap ((L : Int) + (sz : Int) - 1) = ((L + sz - 1 : Nat) : Int) := by rw [show ((L : Int) + (sz : Int) - 1) = ((L + sz - 1 : Nat) : Int) by omega]; exact IntWalk.i64_in _ (by omega)
  have e3 : ((L + sz - 1 : Nat) : Int).tdiv (sz : Int) = (m : Int) := by rw [Int.tdiv_eq_ediv_of_nonneg (by omega), hm]; simp
  have e4 : ((L + sz - 1 : Nat) : Int) / (sz : Int) = (m : Int) := by rw [hm]; simp
  have e5 : IntKind.i64.wrap (m : Int) = (m : Int) := IntWalk.i64_in _ (by omega)
  have e6 : ¬ sz = 0 := by omega
  have e7 : ¬ (sz : Int) = 0 := by omega
  have HL := Lib.hid (And.intro hL (And.intro hBL (And.intro hm hmL)))
  clear hL hBL hm hmL
  obtain ⟨Ls, hLs⟩ : ∃ Ls, L + sz - 1 = Ls := ⟨_, rfl⟩
  rw [hLs] at e2 e3 e4
  clear hLs
  go_wp2_with (at_make; refine wpList_make_full _ rfl _ _ 22 rfl w.heap.size 43 i0 (.int .u64 0) 1 Tryd.underlying22 hi hz0 hz1 .i64 .i64 _ _ m rfl rfl rfl rfl (by rw [hz2]; omega) (by unfold maxLen; omega) (Nat.le_refl _) ?_)
  intro w1 hown hgrow
  have hb1 := below_of_grown hgrow (Nat.le_refl _)
  have hr := Rw.made hown
  obtain ⟨g, hg⟩ : ∃ g, g = w.heap.size := ⟨_, rfl⟩
  rw [← hg] at hr ⊢
  have H0 : Hid (Below w.heap.size w w1 ∧ Rw 43 w1 g m (fun i => if i < 0 then dgt sz (V xs) i else 0) ∧ w.heap.size ≤ g) := ⟨hb1, hr.congr (fun i _ => by simp), by omega⟩
  clear hown hgrow hb1 hr hg
  go_wp2_with (fail)
  go_loopw [6, 7, 18] (fun _ _ iv wr => ∃ (k : Nat), k ≤ m ∧ iv = .int .i64 k ∧ Hid (Below w.heap.size w wr ∧ Rw 43 wr g m (fun i => if i < k then dgt sz (V xs) i else 0) ∧ w.heap.size ≤ g)) (fun _ _ iv _ => m - (intOf iv).toNat)
  case atStart => exact ⟨0, Nat.zero_le _, rfl, H0⟩
  case round =>
    clear H0
    obtain ⟨k, hk, rfl, hH⟩ := hrel
    by_cases hlt : k < m
    · have hki : (k : Int) < m := by omega
      have hc := hH.out.2.1.cell hlt
      have hf := hH.out.2.1.frozen k
      obtain ⟨at_, hat⟩ : ∃ a, a = k * sz := ⟨_, rfl⟩
      have hat1 : (k : Int) * (sz : Int) = (at_ : Int) := by rw [hat]; push_cast; rfl
      have hatL : at_ < L := by rw [hat]; exact HL.out.2.2.2 k hlt
      have hat2 : IntKind.i64.wrap (at_ : Int) = (at_ : Int) := IntWalk.i64_in _ (by have := HL.out.1; omega)
      obtain ⟨q, hq, q1, q2⟩ : ∃ q : Nat, q = at_ / 64 ∧ (at_ : Int).tdiv 64 = (q : Int) ∧ (at_ : Int) / 64 = (q : Int) := ⟨at_ / 64, rfl, by rw [Int.tdiv_eq_ediv_of_nonneg (by omega)]; omega, by omega⟩
      have hqn : q < n := by have := HL.out.1; omega
      have hq3 : IntKind.i64.wrap (q : Int) = (q : Int) := IntWalk.i64_in _ (by omega)
      obtain ⟨r, hr, r1, r2⟩ : ∃ r : Nat, r = at_ % 64 ∧ (at_ : Int).tmod 64 = (r : Int) ∧ (at_ : Int) % 64 = (r : Int) := ⟨at_ % 64, rfl, by rw [Int.tmod_eq_emod_of_nonneg (by omega)]; omega, by omega⟩
      have hr3 : IntKind.i64.wrap (r : Int) = (r : Int) := IntWalk.i64_in _ (by omega)
      have hr4 : (0 : Int) ≤ (r : Int) := by omega
      have hr5 : (r : Int) ≤ 64 := by omega
      have hqi : (q : Int) < (n : Int) := by omega
      obtain ⟨b, o, rfl, -, hcx⟩ := (Hx.out.1.below hH.out.1).rd hqn
      obtain ⟨x, hxv⟩ : ∃ x, yx xs q = x := ⟨_, rfl⟩
      rw [hxv] at hcx
      have hd := dgt_word Hx.out.2 Hx.out.1.2.2.2.1 (i := k) (by rw [← hat, ← hq, Hx.out.1.1]; exact hqn)
      rw [← hat, ← hq, ← hr, hxv] at hd
      have hxB : x < B64 := by rw [← hxv]; exact yx_lt Hx.out.1.2.2.2.1 _
      obtain ⟨y, hy⟩ : ∃ y, x / 2 ^ r = y := ⟨_, rfl⟩
      have hyB : y < B64 := by rw [← hy]; exact Nat.lt_of_le_of_lt (Nat.div_le_self _ _) hxB
      have hyi : (x : Int) / 2 ^ r = (y : Int) := by rw [← hy]; push_cast; rfl
      rw [hy] at hd
      obtain ⟨z, hz⟩ : ∃ z, dgt sz (V xs) k = z := ⟨_, rfl⟩
      rw [hz] at hd
      have hzB : z < B64 := by rw [← hd]; exact Nat.lt_of_le_of_lt (Nat.mod_le _ _) hyB
      have hp0 : 0 < 2 ^ sz := Nat.pow_pos (by decide)
      have hp : (2 : Nat) ^ sz ≤ 4294967296 := Nat.pow_le_pow_right (n := 2) (by decide) hsz8.2
      obtain ⟨B, hB⟩ : ∃ B : Nat, 2 ^ sz = B := ⟨_, rfl⟩
      have hB1 : IntKind.u64.wrap (2 ^ sz) = (B : Int) := by
        rw [show ((2 : Int) ^ sz) = ((2 ^ sz : Nat) : Int) by push_cast; rfl, hB]
        exact wrap_nat B (by have hBB : B64 = 18446744073709551616 := rfl; omega)
      have hB2 : IntKind.u64.wrap ((B : Int) - 1) = ((B - 1 : Nat) : Int) := by
        rw [show ((B : Int) - 1) = ((B - 1 : Nat) : Int) by omega]
        exact wrap_nat _ (by have hBB : B64 = 18446744073709551616 := rfl; omega)
      have hand : bits BinOp.and IntKind.u64 (y : Int) ((B - 1 : Nat) : Int) = (z : Int) := by
        rw [bits_and_u64_nat y (B - 1) hyB (by omega), ← hB, Nat.and_two_pow_sub_one_eq_mod, hd]
      obtain ⟨B', hB'⟩ : ∃ B' : Nat, B - 1 = B' := ⟨_, rfl⟩
      rw [hB'] at hB2 hand
      have hs0 : (0 : Int) ≤ (sz : Int) := by omega
      have hs64 : (sz : Int) ≤ 64 := by omega
      have HN : Hid (Below w.heap.size w (wr.setCell ⟨g, k, none⟩ (.int .u64 z)) ∧ Rw 43 (wr.setCell ⟨g, k, none⟩ (.int .u64 z)) g m (fun i => if i < k + 1 then dgt sz (V xs) i else 0) ∧ w.heap.size ≤ g) := by
        obtain ⟨h1, h2, h3⟩ := hH.out
        refine ⟨h1.setCell h3 _, (h2.set k hzB).congr fun i hi => ?_, h3⟩
        by_cases h5 : i = k
        · subst h5; simp [hz]
        · by_cases h6 : i < k
          · simp [h5, h6, show i < k + 1 by omega]
          · simp [h5, h6, show ¬ i < k + 1 by omega]
      clear hH hxv hd hxB hy hyB hz hzB hat hq hr hB hB' hp hp0
      go_wp2_with (fail)
      go_region
      go_wp2_with (fail)
      go_roundw
      case rel => exact ⟨k + 1, by omega, by go_num, Lib.hid ⟨HN.out.1.drew, HN.out.2⟩⟩
      case measure => simp [intOf]; omega
    · have hki : ¬ (k : Int) < m := by omega
      obtain rfl : k = m := by omega
      go_wp2_with (fail)
      go_ret
      refine ⟨L, HL.out.2.1, ?_⟩
      rw [← HL.out.2.2.1]
      exact ⟨g, _, rfl, Nat.le_refl _, by omega, (hH.out.2.1.congr (fun i hi => by simp [hi])).pre, hH.out.2.2, hH.out.1⟩

set_option maxHeartbeats 1000000 in
theorem digitsR_ok (A : Option Addr) (n c sz : Nat) (xs : List Nat) (w : World) (hsz : sz = 8 ∨ sz = 16 ∨ sz = 32) (hn : n ≤ 4096) (hx : Sl w A n c xs) :
    Calls Tryd.prog 79 #[.slice A n c, .int .i64 sz] w fun e w' => ∃ L, BL (V xs) L ∧ RwR 68 w w' e ((L + sz - 1) / sz) (dgt sz (V xs)) := by
  obtain ⟨i0, hi, hz0, hz1, hz2⟩ := info_parts Tryd.info68
  have hsz8 : 8 ≤ sz ∧ sz ≤ 32 := by omega
  have Hx := Lib.hid (And.intro hx hsz)
  clear hx hsz
  go_enter Tryd.func79, Tryd.ntmps79
  go_wp2_with (fail)
  refine (NLen_ok A n c xs _ (by omega) Hx.out.1).mono ?_
  rintro e w1 ⟨L, rfl, hL, hBL, rfl⟩
  obtain ⟨m, hm⟩ : ∃ m, m = (L + sz - 1) / sz := ⟨_, rfl⟩
  have hmL : ∀ i, i < m → i * sz < L := fun i hi => by
    rw [hm, Nat.lt_div_iff_mul_lt (by omega)] at hi
    omega
  have hm5 : m ≤ 40000 := by
    rw [hm]
    exact Nat.le_trans (Nat.div_le_div_left hsz8.1 (by decide)) (by omega)
  have e1 : IntKind.i64.wrap ((L : Int) + (sz : Int)) = (L : Int) + (sz : Int) := IntWalk.i64_in _ (by omega)
  have e2 : IntKind.i64.wrap ((L : Int) + (sz : Int) - 1) = ((L + sz - 1 : Nat) : Int) := by rw [show ((L : Int) + (sz : Int) - 1) = ((L + sz - 1 : Nat) : Int) by omega]; exact IntWalk.i64_in _ (by omega)
  have e3 : ((L + sz - 1 : Nat) : Int).tdiv (sz : Int) = (m : Int) := by rw [Int.tdiv_eq_ediv_of_nonneg (by omega), hm]; simp
  have e4 : ((L + sz - 1 : Nat) : Int) / (sz : Int) = (m : Int) := by rw [hm]; simp
  have e5 : IntKind.i64.wrap (m : Int) = (m : Int) := IntWalk.i64_in _ (by omega)
  have e6 : ¬ sz = 0 := by omega
  have e7 : ¬ (sz : Int) = 0 := by omega
  have HL := Lib.hid (And.intro hL (And.intro hBL (And.intro hm hmL)))
  clear hL hBL hm hmL
  obtain ⟨Ls, hLs⟩ : ∃ Ls, L + sz - 1 = Ls := ⟨_, rfl⟩
  rw [hLs] at e2 e3 e4
  clear hLs
  go_wp2_with (at_make; refine wpList_make_full _ rfl _ _ 51 rfl w.heap.size 68 i0 (.int .u64 0) 1 Tryd.underlying51 hi hz0 hz1 .i64 .i64 _ _ m rfl rfl rfl rfl (by rw [hz2]; omega) (by unfold maxLen; omega) (Nat.le_refl _) ?_)
  intro w1 hown hgrow
  have hb1 := below_of_grown hgrow (Nat.le_refl _)
  have hr := Rw.made hown
  obtain ⟨g, hg⟩ : ∃ g, g = w.heap.size := ⟨_, rfl⟩
  rw [← hg] at hr ⊢
  have H0 : Hid (Below w.heap.size w w1 ∧ Rw 68 w1 g m (fun i => if i < 0 then dgt sz (V xs) i else 0) ∧ w.heap.size ≤ g) := ⟨hb1, hr.congr (fun i _ => by simp), by omega⟩
  clear hown hgrow hb1 hr hg
  go_wp2_with (fail)
  go_loopw [6, 7, 18] (fun _ _ iv wr => ∃ (k : Nat), k ≤ m ∧ iv = .int .i64 k ∧ Hid (Below w.heap.size w wr ∧ Rw 68 wr g m (fun i => if i < k then dgt sz (V xs) i else 0) ∧ w.heap.size ≤ g)) (fun _ _ iv _ => m - (intOf iv).toNat)
  case atStart => exact ⟨0, Nat.zero_le _, rfl, H0⟩
  case round =>
    clear H0
    obtain ⟨k, hk, rfl, hH⟩ := hrel
    by_cases hlt : k < m
    · have hki : (k : Int) < m := by omega
      have hc := hH.out.2.1.cell hlt
      have hf := hH.out.2.1.frozen k
      obtain ⟨at_, hat⟩ : ∃ a, a = k * sz := ⟨_, rfl⟩
      have hat1 : (k : Int) * (sz : Int) = (at_ : Int) := by rw [hat]; push_cast; rfl
      have hatL : at_ < L := by rw [hat]; exact HL.out.2.2.2 k hlt
      have hat2 : IntKind.i64.wrap (at_ : Int) = (at_ : Int) := IntWalk.i64_in _ (by have := HL.out.1; omega)
      obtain ⟨q, hq, q1, q2⟩ : ∃ q : Nat, q = at_ / 64 ∧ (at_ : Int).tdiv 64 = (q : Int) ∧ (at_ : Int) / 64 = (q : Int) := ⟨at_ / 64, rfl, by rw [Int.tdiv_eq_ediv_of_nonneg (by omega)]; omega, by omega⟩
      have hqn : q < n := by have := HL.out.1; omega
      have hq3 : IntKind.i64.wrap (q : Int) = (q : Int) := IntWalk.i64_in _ (by omega)
      obtain ⟨r, hr, r1, r2⟩ : ∃ r : Nat, r = at_ % 64 ∧ (at_ : Int).tmod 64 = (r : Int) ∧ (at_ : Int) % 64 = (r : Int) := ⟨at_ % 64, rfl, by rw [Int.tmod_eq_emod_of_nonneg (by omega)]; omega, by omega⟩
      have hr3 : IntKind.i64.wrap (r : Int) = (r : Int) := IntWalk.i64_in _ (by omega)
      have hr4 : (0 : Int) ≤ (r : Int) := by omega
      have hr5 : (r : Int) ≤ 64 := by omega
      have hqi : (q : Int) < (n : Int) := by omega
      obtain ⟨b, o, rfl, -, hcx⟩ := (Hx.out.1.below hH.out.1).rd hqn
      obtain ⟨x, hxv⟩ : ∃ x, yx xs q = x := ⟨_, rfl⟩
      rw [hxv] at hcx
      have hd := dgt_word Hx.out.2 Hx.out.1.2.2.2.1 (i := k) (by rw [← hat, ← hq, Hx.out.1.1]; exact hqn)
      rw [← hat, ← hq, ← hr, hxv] at hd
      have hxB : x < B64 := by rw [← hxv]; exact yx_lt Hx.out.1.2.2.2.1 _
      obtain ⟨y, hy⟩ : ∃ y, x / 2 ^ r = y := ⟨_, rfl⟩
      have hyB : y < B64 := by rw [← hy]; exact Nat.lt_of_le_of_lt (Nat.div_le_self _ _) hxB
      have hyi : (x : Int) / 2 ^ r = (y : Int) := by rw [← hy]; push_cast; rfl
      rw [hy] at hd
      obtain ⟨z, hz⟩ : ∃ z, dgt sz (V xs) k = z := ⟨_, rfl⟩
      rw [hz] at hd
      have hzB : z < B64 := by rw [← hd]; exact Nat.lt_of_le_of_lt (Nat.mod_le _ _) hyB
      have hp0 : 0 < 2 ^ sz := Nat.pow_pos (by decide)
      have hp : (2 : Nat) ^ sz ≤ 4294967296 := Nat.pow_le_pow_right (n := 2) (by decide) hsz8.2
      obtain ⟨B, hB⟩ : ∃ B : Nat, 2 ^ sz = B := ⟨_, rfl⟩
      have hB1 : IntKind.u64.wrap (2 ^ sz) = (B : Int) := by
        rw [show ((2 : Int) ^ sz) = ((2 ^ sz : Nat) : Int) by push_cast; rfl, hB]
        exact wrap_nat B (by have hBB : B64 = 18446744073709551616 := rfl; omega)
      have hB2 : IntKind.u64.wrap ((B : Int) - 1) = ((B - 1 : Nat) : Int) := by
        rw [show ((B : Int) - 1) = ((B - 1 : Nat) : Int) by omega]
        exact wrap_nat _ (by have hBB : B64 = 18446744073709551616 := rfl; omega)
      have hand : bits BinOp.and IntKind.u64 (y : Int) ((B - 1 : Nat) : Int) = (z : Int) := by
        rw [bits_and_u64_nat y (B - 1) hyB (by omega), ← hB, Nat.and_two_pow_sub_one_eq_mod, hd]
      obtain ⟨B', hB'⟩ : ∃ B' : Nat, B - 1 = B' := ⟨_, rfl⟩
      rw [hB'] at hB2 hand
      have hs0 : (0 : Int) ≤ (sz : Int) := by omega
      have hs64 : (sz : Int) ≤ 64 := by omega
      have HN : Hid (Below w.heap.size w (wr.setCell ⟨g, k, none⟩ (.int .u64 z)) ∧ Rw 68 (wr.setCell ⟨g, k, none⟩ (.int .u64 z)) g m (fun i => if i < k + 1 then dgt sz (V xs) i else 0) ∧ w.heap.size ≤ g) := by
        obtain ⟨h1, h2, h3⟩ := hH.out
        refine ⟨h1.setCell h3 _, (h2.set k hzB).congr fun i hi => ?_, h3⟩
        by_cases h5 : i = k
        · subst h5; simp [hz]
        · by_cases h6 : i < k
          · simp [h5, h6, show i < k + 1 by omega]
          · simp [h5, h6, show ¬ i < k + 1 by omega]
      clear hH hxv hd hxB hy hyB hz hzB hat hq hr hB hB' hp hp0
      go_wp2_with (fail)
      go_region
      go_wp2_with (fail)
      go_roundw
      case rel => exact ⟨k + 1, by omega, by go_num, Lib.hid ⟨HN.out.1.drew, HN.out.2⟩⟩
      case measure => simp [intOf]; omega
    · have hki : ¬ (k : Int) < m := by omega
      obtain rfl : k = m := by omega
      go_wp2_with (fail)
      go_ret
      refine ⟨L, HL.out.2.1, ?_⟩
      rw [← HL.out.2.2.1]
      exact ⟨g, _, rfl, Nat.le_refl _, by omega, (hH.out.2.1.congr (fun i hi => by simp [hi])).pre, hH.out.2.2, hH.out.1⟩

end Go.Proofs.YthpgdpkemnhneaaDoor

namespace Go.Proofs.YthpgdpkemnhneaaDoor
open Go.RowKit Go.Shelf
set_option linter.unusedVariables false
set_option linter.unusedSimpArgs false
set_option maxRecDepth 10000

/-- what number holds after i rounds: the row us, the carry C -/
def NI (sz m : Nat) (f : Nat → Nat) (i : Nat) (us : List Nat) (C : Nat) : Prop :=
  us.length = (i * sz + 63) / 64 ∧ Ws us ∧ V us < 2 ^ (i * sz) ∧ V us + C * 2 ^ (i * sz) = Sm i (fun j => f j * 2 ^ (j * sz)) ∧ C * 2 ^ ((i - m) * sz) < B64 ∧ i ≤ m + 8
theorem NI_start (sz m : Nat) (f : Nat → Nat) : NI sz m f 0 [] 0 := ⟨by simp, Ws_nil, by simp [V], by simp [V, Sm], by simp; exact B64_pos, by omega⟩
theorem yB64_two : B64 = 2 ^ 64 := by decide
/-- the row with a word more where one begins -/
def grow (sz i : Nat) (us : List Nat) : List Nat := if i * sz % 64 = 0 then us ++ [0] else us
/-- the step: t is the carry with the element, d its lowest digit -/
theorem NI_step {sz m i C t q r : Nat} {f : Nat → Nat} {us : List Nat} (hsz : sz = 8 ∨ sz = 16 ∨ sz = 32) (h : NI sz m f i us C) (hi : i < m ∨ 0 < C) (hf : ∀ j, f j < B64) (hf0 : ∀ j, m ≤ j → f j = 0) (ht : t = C + f i) (hq : q = i * sz / 64) (hr : r = i * sz % 64) :
    ∃ (ps : List Nat) (x : Nat), grow sz i us = ps ++ [x] ∧ ps.length = q ∧ (ps ++ [x]).length = q + 1 ∧ x < 2 ^ r ∧ r + sz ≤ 64 ∧ x < B64 ∧ t % 2 ^ sz * 2 ^ r < B64 ∧ x + t % 2 ^ sz * 2 ^ r < B64 ∧ NI sz m f (i + 1) (ps ++ [x + t % 2 ^ sz * 2 ^ r]) (t / 2 ^ sz) := by
  obtain ⟨h1, h2, h3, h4, h5, h6⟩ := h
  have hrs : r + sz ≤ 64 := by rw [hr]; exact sz_word hsz i
  have hat : i * sz = 64 * q + r := by rw [hq, hr]; omega
  have hpat : 2 ^ (i * sz) = B64 ^ q * 2 ^ r := by rw [hat, Nat.pow_add, Nat.pow_mul, ← yB64_two]
  have hr64 : r < 64 := by omega
  have hCB : C < B64 := Nat.lt_of_le_of_lt (Nat.le_mul_of_pos_right C (Nat.pow_pos (n := (i - m) * sz) (show 0 < 2 by decide))) h5
  obtain ⟨ps, x, hps, hpl, hx, hpw⟩ : ∃ ps x, grow sz i us = ps ++ [x] ∧ ps.length = q ∧ x < 2 ^ r ∧ (Ws ps ∧ V us = V ps + x * B64 ^ q) := by
    unfold grow
    by_cases h0 : r = 0
    · rw [if_pos (by rw [← hr]; exact h0)]
      have hul : us.length = q := by rw [h1, hat, h0]; omega
      exact ⟨us, 0, rfl, hul, by rw [h0]; decide, h2, by simp⟩
    · rw [if_neg (by rw [← hr]; exact h0)]
      have hul : us.length = q + 1 := by rw [h1, hat]; omega
      obtain ⟨ps, x, rfl⟩ : ∃ ps x, us = ps ++ [x] := ⟨us.dropLast, us.getLast (by intro e; rw [e] at hul; simp at hul), (List.dropLast_concat_getLast _).symm⟩
      have hpl : ps.length = q := by simp at hul; exact hul
      rw [V_snoc, hpl] at h3 ⊢
      refine ⟨ps, x, rfl, hpl, ?_, fun y hy => h2 y (by simp [hy]), rfl⟩
      rw [hpat, Nat.mul_comm (B64 ^ q)] at h3
      have h7 : x * B64 ^ q < 2 ^ r * B64 ^ q := by omega
      exact Nat.lt_of_mul_lt_mul_right h7
  have hxB : x < B64 := Nat.lt_of_lt_of_le hx (by rw [yB64_two]; exact Nat.pow_le_pow_right (by decide) (by omega))
  have hd : t % 2 ^ sz < 2 ^ sz := Nat.mod_lt _ (Nat.pow_pos (by decide))
  have hsum : x + t % 2 ^ sz * 2 ^ r < 2 ^ (r + sz) := by
    rw [Nat.pow_add]
    have h7 : (t % 2 ^ sz + 1) * 2 ^ r ≤ 2 ^ sz * 2 ^ r := Nat.mul_le_mul_right _ hd
    rw [Nat.succ_mul, Nat.mul_comm (2 ^ sz)] at h7
    omega
  have hsB : x + t % 2 ^ sz * 2 ^ r < B64 := Nat.lt_of_lt_of_le hsum (by rw [yB64_two]; exact Nat.pow_le_pow_right (by decide) hrs)
  have hps1 : (i + 1) * sz = 64 * q + (r + sz) := by rw [Nat.succ_mul, hat]; omega
  have hp1 : 2 ^ ((i + 1) * sz) = B64 ^ q * 2 ^ (r + sz) := by rw [hps1, Nat.pow_add, Nat.pow_mul, ← yB64_two]
  refine ⟨ps, x, hps, hpl, by simp [hpl], hx, hrs, hxB, by omega, hsB, ?_, ?_, ?_, ?_, ?_, ?_⟩
  · rw [hps1]; simp [hpl]; omega
  · intro y hy
    rcases List.mem_append.1 hy with h7 | h7
    · exact hpw.1 y h7
    · simp at h7; omega
  · rw [V_snoc, hpl, hp1]
    have h7 := V_lt ps hpw.1
    rw [hpl] at h7
    have h8 : (x + t % 2 ^ sz * 2 ^ r + 1) * B64 ^ q ≤ 2 ^ (r + sz) * B64 ^ q := Nat.mul_le_mul_right _ hsum
    rw [Nat.succ_mul, Nat.mul_comm (2 ^ (r + sz))] at h8
    omega
  · rw [V_snoc, hpl]
    show _ = Sm i (fun j => f j * 2 ^ (j * sz)) + f i * 2 ^ (i * sz)
    rw [← h4, hpw.2, Nat.add_mul x, hp1, hpat, Nat.pow_add]
    have h7 : t = 2 ^ sz * (t / 2 ^ sz) + t % 2 ^ sz := (Nat.div_add_mod _ _).symm
    have h8 : C * (B64 ^ q * 2 ^ r) + f i * (B64 ^ q * 2 ^ r) = t * (B64 ^ q * 2 ^ r) := by rw [ht, Nat.add_mul]
    have h9 : t * (B64 ^ q * 2 ^ r) = t / 2 ^ sz * (B64 ^ q * (2 ^ r * 2 ^ sz)) + t % 2 ^ sz * 2 ^ r * B64 ^ q := by
      conv => lhs; rw [h7]
      rw [Nat.add_mul]
      congr 1 <;> ac_rfl
    omega
  · rcases Nat.lt_or_ge i m with h7 | h7
    · rw [show i + 1 - m = 0 by omega, Nat.zero_mul, Nat.pow_zero, Nat.mul_one]
      have h8 : (2 : Nat) ^ 8 ≤ 2 ^ sz := Nat.pow_le_pow_right (by decide) (by omega)
      have h9 := hf i
      refine Nat.div_lt_of_lt_mul ?_
      have : 2 ^ 8 * B64 ≤ 2 ^ sz * B64 := Nat.mul_le_mul_right _ h8
      have hB : B64 = 18446744073709551616 := rfl
      omega
    · rw [show i + 1 - m = (i - m) + 1 by omega, Nat.succ_mul, Nat.pow_add, ← Nat.mul_assoc, ht, hf0 i h7, Nat.add_zero]
      refine Nat.lt_of_le_of_lt ?_ h5
      rw [Nat.mul_right_comm]
      exact Nat.mul_le_mul_right _ (Nat.div_mul_le_self _ _)
  · rcases hi with h7 | h7
    · omega
    · rcases Nat.lt_or_ge i (m + 8) with h8 | h8
      · omega
      · exfalso
        have h9 : 2 ^ 64 ≤ 2 ^ ((i - m) * sz) := by
          refine Nat.pow_le_pow_right (by decide) ?_
          have h10 : 8 * 8 ≤ (i - m) * sz := Nat.mul_le_mul (by omega) (by omega)
          omega
        have h11 : 1 * 2 ^ 64 ≤ C * 2 ^ ((i - m) * sz) := Nat.mul_le_mul h7 h9
        rw [← yB64_two] at h11
        omega
theorem NI_end {sz m i : Nat} {f : Nat → Nat} {us : List Nat} (h : NI sz m f i us 0) (hi : m ≤ i) (hf0 : ∀ j, m ≤ j → f j = 0) : V us = Sm m (fun j => f j * 2 ^ (j * sz)) := by
  obtain ⟨h1, h2, h3, h4, h5, h6⟩ := h
  rw [Nat.zero_mul, Nat.add_zero] at h4
  rw [h4]
  exact Sm_le hi fun j hj _ => by rw [hf0 j hj, Nat.zero_mul]
end Go.Proofs.YthpgdpkemnhneaaDoor

namespace Go.Proofs.YthpgdpkemnhneaaDoor
open Go.RowKit Go.Shelf
set_option linter.unusedVariables false
set_option linter.unusedSimpArgs false
set_option maxRecDepth 10000


set_option maxHeartbeats 400000 in
theorem yused_ok (A : Option Addr) (n c : Nat) (xs : List Nat) (w : World) (hn : n ≤ 200000) (hx : Sl w A n c xs) :
    Calls Tryd.prog 105 #[.slice A n c] w fun e w' => ∃ k, e = .returned (.slice A k c) ∧ k ≤ n ∧ Hid (V (xs.take k) = V xs ∧ Cn (xs.take k)) ∧ w = w' := by
  have hnc := hx.2.1
  have Hx := Lib.hid hx
  clear hx
  go_enter Tryd.func105, Tryd.ntmps105
  go_wp2
  go_loop [3] (fun kv => ∃ k : Nat, k ≤ n ∧ kv = .int .i64 k ∧ Hid (V (xs.take k) = V xs)) (fun kv => (intOf kv).toNat)
  case atStart => exact ⟨n, Nat.le_refl _, rfl, by rw [Hx.out.take_all]; rfl⟩
  case round =>
    obtain ⟨k, hk, rfl, hH⟩ := hrel
    rcases Nat.eq_zero_or_pos k with rfl | hpos
    · have h0 : ¬ (0 : Int) < ((0 : Nat) : Int) := by omega
      go_wp2
      go_ret
      exact ⟨0, rfl, by omega, ⟨hH.out, by simpa using Cn_nil⟩, rfl⟩
    · obtain ⟨m, rfl⟩ : ∃ m, k = m + 1 := ⟨k - 1, by omega⟩
      have hml : m < xs.length := by rw [Hx.out.1]; omega
      have hg := List.getElem?_eq_getElem hml
      obtain ⟨b, o, rfl, hb, hcx⟩ := Hx.out.2.2.2.2.at (uvs_get hg)
      generalize xs[m] = x at *
      have Hg := Lib.hid hg
      have hmi : ((m + 1 : Nat) : Int) - 1 = (m : Int) := by omega
      have hmi2 : (m : Int) + 1 - 1 = (m : Int) := by omega
      have hmn : (m : Int) < (n : Int) := by omega
      clear hg hml
      by_cases hx0 : x = 0
      · subst hx0
        have hv : Hid (V (xs.take m) = V xs) := V_cut xs m Hg.out hH.out
        clear hH
        go_wp2
        go_round
        case rel => exact ⟨m, by omega, rfl, hv⟩
        case measure => simp [intOf]
      · have hxb : ((x : Int) == 0) = false := by simp; omega
        have Hx0 := Lib.hid hx0
        clear hx0
        go_wp2
        go_ret
        refine ⟨m + 1, rfl, hk, ⟨hH.out, fun m' h => ?_⟩, rfl⟩
        have hl : (xs.take (m + 1)).length = m + 1 := by rw [List.length_take, Hx.out.1]; omega
        have : m' = m := by omega
        subst this
        rw [List.getElem?_take, if_pos (by omega), Hg.out]
        intro e
        injection e with e
        exact Hx0.out e
set_option maxHeartbeats 400000 in
theorem ytrim_ok (A : Option Addr) (n c : Nat) (xs : List Nat) (w : World) (hn : n ≤ 200000) (hx : Sl w A n c xs) :
    Calls Tryd.prog 107 #[.slice A n c] w fun e w' => Rv w w' e (V xs) := by
  obtain ⟨i0, hi, hz0, hz1, hz2⟩ := info_parts Tryd.info43
  have Hx := Lib.hid hx
  clear hx
  go_enter Tryd.func107, Tryd.ntmps107
  go_wp2_with (fail)
  refine (yused_ok A n c xs w hn Hx.out).mono ?_
  rintro e w1 ⟨k, rfl, hk, hH, rfl⟩
  have Hs := Lib.hid (Hx.out.tk hk)
  have hl : (uvs (xs.take k)).length = k := by rw [uvs_length]; exact Hs.out.1
  have Hl := Lib.hid (And.intro hl Hs.out.2.2.2.2)
  clear hl
  go_wp2_with (at_builtin; refine wpList_append_rd _ rfl (.const (.slice none 0 0)) (.tmp 4) 34 rfl w.heap.size 43 i0 (.int .u64 0) Tryd.underlying34 hi hz0 hz1 hz2 rfl _ 0 [] rfl (World.ownsRow_nil _ _ _ _) w.heap.size A k c (uvs (xs.take k)) rfl Hl.out.1 Hl.out.2 (uvs_one _) (by omega) (by omega) ?_)
  intro v' w' hown hgrow hblk
  have H := Lib.hid (And.intro hown hgrow)
  clear hown hgrow hblk
  go_wp2
  go_ret
  refine ⟨v', rfl, ⟨k, xs.take k, ⟨Hs.out.1, Hs.out.2.2.2.1, by simpa using H.out.1⟩, hH.out.2, hH.out.1⟩, (Below.refl _ _).grown H.out.2 (Nat.le_refl _) (by intro k hk; cases hk)⟩


set_option maxHeartbeats 400000 in
theorem yresult_ok (A : Option Addr) (n c : Nat) (xs : List Nat) (w : World) (hn : n ≤ 200000) (hx : Sl w A n c xs) :
    Calls Tryd.prog 89 #[.slice A n c] w fun e w' => Rs w w' e (V xs) := by
  have hc := ytrim_ok A n c xs w hn hx
  have Hc := Lib.hid hc
  clear hc hx
  go_enter Tryd.func89, Tryd.ntmps89
  go_wp2_with (fail)
  refine Hc.out.mono ?_
  rintro e w1 ⟨v, rfl, hv, hb1⟩
  obtain ⟨A2, n2, c2, zs, rfl, h1, h2, h3, h4⟩ := hv.sl
  have H := Lib.hid (And.intro h1 (And.intro h2 (And.intro h3 (And.intro h4 hb1))))
  clear hv h1 h2 h3 h4 hb1
  by_cases hbig : 4096 < n2
  · have hcs := fun t => checkSizes_one A2 n2 c2 t w1.heap.size w1 rfl
    rw [chkS_one_big hbig] at hcs
    have HC := Lib.hid hcs
    have HB : Hid (Big ≤ V xs) := by
      have := Cn_big H.out.1.2.2.2.1 H.out.2.1
      rw [H.out.2.2.1, H.out.1.1] at this
      exact Nat.le_of_not_lt (fun h => by have := this.2 h; omega)
    clear hcs hbig
    go_wp2_with (fail)
    refine (HC.out _).mono ?_
    rintro e w3 ⟨rfl, hb3⟩
    have HE := Lib.hid (H.out.2.2.2.2.trans (hb3.mono H.out.2.2.2.2.size))
    clear hb3
    go_wp2_with (fail)
    go_ret2
    exact ⟨.inr ⟨rfl, HB.out⟩, HE.out⟩
  · have hcs := fun t => checkSizes_one A2 n2 c2 t w1.heap.size w1 rfl
    rw [chkS_one (by omega)] at hcs
    have HC := Lib.hid hcs
    have HB : Hid (V xs < Big) := by
      have := Cn_big H.out.1.2.2.2.1 H.out.2.1
      rw [H.out.2.2.1, H.out.1.1] at this
      exact this.1 (by omega)
    clear hcs hbig
    go_wp2_with (fail)
    refine (HC.out _).mono ?_
    rintro e w3 ⟨rfl, hb3⟩
    have HE := Lib.hid (And.intro hb3 (H.out.2.2.2.2.trans (hb3.mono H.out.2.2.2.2.size)))
    clear hb3
    go_wp2_with (fail)
    go_ret2
    exact ⟨.inl ⟨_, rfl, ⟨n2, zs, H.out.2.2.2.1.later (Nat.le_refl _) HE.out.1, H.out.2.1, H.out.2.2.1⟩, HB.out⟩, HE.out.2⟩
/-- the value of a list of digits -/
def dsum (sz m : Nat) (f : Nat → Nat) : Nat := Sm m (fun j => f j * 2 ^ (j * sz))
theorem NI_cap {sz m k q C a2 cap : Nat} {f : Nat → Nat} {us : List Nat} (hk : k < m ∨ 0 < C) (hN : NI sz m f k us C) (hs : 0 < sz) (h2 : a2 = m * sz / 64) (hc : cap = a2 + 2) (hq : q = k * sz / 64) : q + 1 ≤ cap := by
  obtain ⟨-, -, -, -, h5, -⟩ := hN
  rcases Nat.lt_or_ge k m with h | h
  · have h3 : k * sz / 64 ≤ m * sz / 64 := Nat.div_le_div_right (Nat.mul_le_mul_right _ (Nat.le_of_lt h))
    omega
  · have hC : 0 < C := by omega
    have h6 : (k - m) * sz < 64 := by
      rcases Nat.lt_or_ge ((k - m) * sz) 64 with h7 | h7
      · exact h7
      · exfalso
        have h8 : 2 ^ 64 ≤ 2 ^ ((k - m) * sz) := Nat.pow_le_pow_right (by decide) h7
        have h9 : 1 * 2 ^ 64 ≤ C * 2 ^ ((k - m) * sz) := Nat.mul_le_mul hC h8
        rw [← yB64_two] at h9
        omega
    have h7 : k * sz = m * sz + (k - m) * sz := by rw [← Nat.add_mul]; congr 1; omega
    omega
theorem or_add {x y r : Nat} (hx : x < 2 ^ r) : x ||| y * 2 ^ r = x + y * 2 ^ r := by
  rw [Nat.or_comm, Nat.mul_comm, ← Nat.two_pow_add_eq_or_of_lt hx, Nat.add_comm]


theorem num_step {sz m k C s bb q r : Nat} {f : Nat → Nat} {us : List Nat} (hsz : sz = 8 ∨ sz = 16 ∨ sz = 32) (h : NI sz m f k us C) (hi : k < m ∨ 0 < C) (hf : ∀ j, f j < B64) (hf0 : ∀ j, m ≤ j → f j = 0)
    (hst : C + f k = s + bb * B64) (hsB : s < B64) (hbb : bb ≤ 1) (hq : q = k * sz / 64) (hr : r = k * sz % 64) :
    ∃ (ps : List Nat) (x y B B' D z u s2 z2 C2 : Nat), (grow sz k us = ps ++ [x] ∧ ps.length = q ∧ r + sz ≤ 64 ∧ x < B64 ∧ y < B64 ∧ C2 < B64 ∧ NI sz m f (k + 1) (ps ++ [y]) C2 ∧ D < B64) ∧
      IntKind.u64.wrap (2 ^ sz) = (B : Int) ∧ IntKind.u64.wrap ((B : Int) - 1) = (B' : Int) ∧ bits BinOp.and IntKind.u64 (s : Int) (B' : Int) = (D : Int) ∧ IntKind.u64.wrap ((D : Int) * 2 ^ r) = (z : Int) ∧ bits BinOp.or IntKind.u64 (x : Int) (z : Int) = (y : Int) ∧
      IntKind.i64.wrap (64 - (sz : Int)) = (u : Int) ∧ u ≤ 64 ∧ (s : Int) / 2 ^ sz = (s2 : Int) ∧ IntKind.u64.wrap ((bb : Int) * 2 ^ u) = (z2 : Int) ∧ bits BinOp.or IntKind.u64 (s2 : Int) (z2 : Int) = (C2 : Int) := by
  obtain ⟨t, ht⟩ : ∃ t, t = C + f k := ⟨_, rfl⟩
  rw [← ht] at hst
  have hsz8 : 8 ≤ sz ∧ sz ≤ 32 := by omega
  obtain ⟨ps, x, hgr, hpl, hpl1, hxr, hrs, hxB, hdB, hxdB, hNI⟩ := NI_step hsz h hi hf hf0 ht hq hr
  obtain ⟨D, hD⟩ : ∃ D, t % 2 ^ sz = D := ⟨_, rfl⟩
  obtain ⟨C2, hC2⟩ : ∃ C2, t / 2 ^ sz = C2 := ⟨_, rfl⟩
  obtain ⟨y, hy⟩ : ∃ y, x + D * 2 ^ r = y := ⟨_, rfl⟩
  rw [hD, hC2, hy] at hNI
  rw [hD] at hdB hxdB
  rw [hy] at hxdB
  have hp0 : 0 < 2 ^ sz := Nat.pow_pos (by decide)
  have hp : (2 : Nat) ^ sz ≤ 4294967296 := Nat.pow_le_pow_right (n := 2) (by decide) hsz8.2
  have hDB : D < B64 := by
    have h1 : t % 2 ^ sz < 2 ^ sz := Nat.mod_lt _ hp0
    have hBB : B64 = 18446744073709551616 := rfl
    omega
  have hC2B : C2 < B64 := by
    have h5 := hNI.2.2.2.2.1
    exact Nat.lt_of_le_of_lt (Nat.le_mul_of_pos_right C2 (Nat.pow_pos (show 0 < 2 by decide))) h5
  obtain ⟨B, hB⟩ : ∃ B : Nat, 2 ^ sz = B := ⟨_, rfl⟩
  have hB1 : IntKind.u64.wrap (2 ^ sz) = (B : Int) := by
    rw [show ((2 : Int) ^ sz) = ((2 ^ sz : Nat) : Int) by push_cast; rfl, hB]
    exact wrap_nat B (by have hBB : B64 = 18446744073709551616 := rfl; omega)
  have hB2 : IntKind.u64.wrap ((B : Int) - 1) = ((B - 1 : Nat) : Int) := by
    rw [show ((B : Int) - 1) = ((B - 1 : Nat) : Int) by omega]
    exact wrap_nat _ (by have hBB : B64 = 18446744073709551616 := rfl; omega)
  have hand : bits BinOp.and IntKind.u64 (s : Int) ((B - 1 : Nat) : Int) = (D : Int) := by
    rw [bits_and_u64_nat s (B - 1) hsB (by have hBB : B64 = 18446744073709551616 := rfl; omega), ← hB, Nat.and_two_pow_sub_one_eq_mod, ← hD, hst]
    congr 1
    rw [yB64_two, show 64 = sz + (64 - sz) by omega, Nat.pow_add, Nat.mul_comm bb, Nat.mul_assoc, Nat.add_mul_mod_self_left]
  obtain ⟨z, hz⟩ : ∃ z, D * 2 ^ r = z := ⟨_, rfl⟩
  rw [hz] at hdB
  have hshl : IntKind.u64.wrap ((D : Int) * 2 ^ r) = (z : Int) := by
    rw [show ((D : Int) * 2 ^ r) = ((D * 2 ^ r : Nat) : Int) by push_cast; rfl, hz]
    exact wrap_nat z hdB
  have hor : bits BinOp.or IntKind.u64 (x : Int) (z : Int) = (y : Int) := by
    rw [bits_or_u64_nat x z hxB hdB, ← hz, or_add hxr, hy]
  obtain ⟨u, hu⟩ : ∃ u, 64 - sz = u := ⟨_, rfl⟩
  have hui : IntKind.i64.wrap (64 - (sz : Int)) = (u : Int) := by rw [show (64 - (sz : Int)) = (u : Int) by omega]; exact IntWalk.i64_in _ (by omega)
  obtain ⟨s2, hs2⟩ : ∃ s2, s / 2 ^ sz = s2 := ⟨_, rfl⟩
  have hs2i : (s : Int) / 2 ^ sz = (s2 : Int) := by rw [← hs2]; push_cast; rfl
  have hs2u : s2 < 2 ^ u := by
    rw [← hs2]
    refine Nat.div_lt_of_lt_mul ?_
    rw [← Nat.pow_add, show sz + u = 64 by omega, ← yB64_two]
    exact hsB
  have hs2B : s2 < B64 := by rw [← hs2]; exact Nat.lt_of_le_of_lt (Nat.div_le_self _ _) hsB
  obtain ⟨z2, hz2⟩ : ∃ z2, bb * 2 ^ u = z2 := ⟨_, rfl⟩
  have hz2B : z2 < B64 := by
    rw [← hz2, yB64_two]
    refine Nat.lt_of_le_of_lt (Nat.mul_le_mul_right _ hbb) ?_
    rw [Nat.one_mul]
    exact Nat.pow_lt_pow_right (by decide) (by omega)
  have hshl2 : IntKind.u64.wrap ((bb : Int) * 2 ^ u) = (z2 : Int) := by
    rw [show ((bb : Int) * 2 ^ u) = ((bb * 2 ^ u : Nat) : Int) by push_cast; rfl, hz2]
    exact wrap_nat z2 hz2B
  have hor2 : bits BinOp.or IntKind.u64 (s2 : Int) (z2 : Int) = (C2 : Int) := by
    rw [bits_or_u64_nat s2 z2 hs2B hz2B, ← hz2, or_add hs2u, ← hs2, ← hC2, hst, yB64_two, show 2 ^ 64 = 2 ^ sz * 2 ^ u by rw [← Nat.pow_add]; congr 1; omega, Nat.mul_left_comm, Nat.add_mul_div_left _ _ (Nat.pow_pos (by decide))]
  exact ⟨ps, x, y, B, B - 1, D, z, u, s2, z2, C2, ⟨hgr, hpl, hrs, hxB, hxdB, hC2B, hNI, hDB⟩, hB1, hB2, hand, hshl, hor, hui, by omega, hs2i, hshl2, hor2⟩


set_option maxHeartbeats 4000000 in
theorem numberU_ok (A : Option Addr) (m c sz : Nat) (xs : List Nat) (w : World) (hsz : sz = 8 ∨ sz = 16 ∨ sz = 32) (hm : m ≤ 262144) (hx : Sl w A m c xs) :
    Calls Tryd.prog 55 #[.slice A m c, .int .i64 sz] w fun e w' => Rs w w' e (dsum sz m (yx xs)) := by
  obtain ⟨i0, hi, hz0, hz1, hz2⟩ := info_parts Tryd.info43
  have hsz8 : 8 ≤ sz ∧ sz ≤ 32 := by omega
  have Hx := Lib.hid hx
  have HS := Lib.hid hsz
  have HF : Hid ((∀ j, yx xs j < B64) ∧ ∀ j, m ≤ j → yx xs j = 0) := Lib.hid ⟨yx_lt hx.2.2.2.1, fun j hj => yx_far (by rw [hx.1]; exact hj)⟩
  obtain ⟨a, ha, ha0⟩ : ∃ a : Nat, (m : Int) * (sz : Int) = (a : Int) ∧ a = m * sz := ⟨m * sz, by push_cast; rfl, rfl⟩
  have ha5 : a ≤ 8388608 := by rw [ha0]; exact Nat.mul_le_mul hm hsz8.2
  have ha1 : IntKind.i64.wrap (a : Int) = (a : Int) := IntWalk.i64_in _ (by omega)
  obtain ⟨a2, ha2, ha3, ha4⟩ : ∃ a2 : Nat, a2 = a / 64 ∧ (a : Int).tdiv 64 = (a2 : Int) ∧ (a : Int) / 64 = (a2 : Int) := ⟨a / 64, rfl, by rw [Int.tdiv_eq_ediv_of_nonneg (by omega)]; omega, by omega⟩
  have ha6 : IntKind.i64.wrap (a2 : Int) = (a2 : Int) := IntWalk.i64_in _ (by omega)
  obtain ⟨cap, hcap⟩ : ∃ cap, cap = a2 + 2 := ⟨_, rfl⟩
  have ha7 : IntKind.i64.wrap ((a2 : Int) + 2) = (cap : Int) := by rw [show ((a2 : Int) + 2) = (cap : Int) by omega]; exact IntWalk.i64_in _ (by omega)
  have hcap5 : cap ≤ 200000 := by omega
  have HC : Hid (∀ k q C us, (k < m ∨ 0 < C) → NI sz m (yx xs) k us C → q = k * sz / 64 → q + 1 ≤ cap) := Lib.hid (fun k q C us hk hN hq => NI_cap hk hN (by omega) (by rw [← ha0]; exact ha2) hcap hq)
  clear hx hsz ha0 ha2 hcap
  go_enter Tryd.func55, Tryd.ntmps55
  go_wp2_with (at_make; refine wpList_make_own _ rfl _ _ 34 rfl w.heap.size 43 i0 (.int .u64 0) 1 Tryd.underlying34 hi hz0 hz1 .i64 .i64 _ cap rfl rfl rfl (by rw [hz2]; omega) (by unfold maxLen; omega) (Nat.le_refl _) ?_)
  intro w1 hown hgrow
  have hb1 := below_of_grown hgrow (Nat.le_refl _)
  obtain ⟨g, hg⟩ : ∃ g, g = w.heap.size := ⟨_, rfl⟩
  have Hg := Lib.hid hg
  have hown2 : w1.ownsRow w.heap.size 43 1 (.slice (some ⟨g, 0, none⟩) 0 cap) 0 (uvs []) := by rw [hg]; exact hown
  rw [← hg]
  have H0 : Hid (NI sz m (yx xs) 0 [] 0 ∧ w1.ownsRow w.heap.size 43 1 (.slice (some ⟨g, 0, none⟩) 0 cap) 0 (uvs []) ∧ Below w.heap.size w w1) := ⟨NI_start _ _ _, hown2, hb1⟩
  clear hown hown2 hgrow hb1 hg
  go_wp2_with (fail)
  go_loopw [6, 7, 8, 9, 10] (fun rv cv iv _ _ wr => ∃ (k C L : Nat) (us : List Nat), rv = .slice (some ⟨g, 0, none⟩) L cap ∧ cv = .int .u64 C ∧ iv = .int .i64 k ∧ L ≤ cap ∧ C < B64 ∧ k ≤ m + 8 ∧ Hid (us.length = L ∧ NI sz m (yx xs) k us C ∧ wr.ownsRow w.heap.size 43 1 (.slice (some ⟨g, 0, none⟩) L cap) L (uvs us) ∧ Below w.heap.size w wr)) (fun _ _ iv _ _ _ => m + 9 - (intOf iv).toNat)
  case atStart => exact ⟨0, 0, 0, [], rfl, rfl, rfl, Nat.zero_le _, B64_pos, Nat.zero_le _, Lib.hid ⟨rfl, H0.out⟩⟩
  case round =>
    clear H0
    obtain ⟨k, C, L, us, rfl, rfl, rfl, hLc, hC, hk8, hH⟩ := hrel
    obtain ⟨at_, hat⟩ : ∃ a, a = k * sz := ⟨_, rfl⟩
    have hat1 : (k : Int) * (sz : Int) = (at_ : Int) := by rw [hat]; push_cast; rfl
    have hat5 : at_ ≤ 8400000 := by rw [hat]; exact Nat.le_trans (Nat.mul_le_mul (show k ≤ 262152 by omega) hsz8.2) (by decide)
    have hat2 : IntKind.i64.wrap (at_ : Int) = (at_ : Int) := IntWalk.i64_in _ (by omega)
    obtain ⟨q, hq, q1, q2⟩ : ∃ q : Nat, q = at_ / 64 ∧ (at_ : Int).tdiv 64 = (q : Int) ∧ (at_ : Int) / 64 = (q : Int) := ⟨at_ / 64, rfl, by rw [Int.tdiv_eq_ediv_of_nonneg (by omega)]; omega, by omega⟩
    have hq3 : IntKind.i64.wrap (q : Int) = (q : Int) := IntWalk.i64_in _ (by omega)
    obtain ⟨r, hr, r1, r2⟩ : ∃ r : Nat, r = at_ % 64 ∧ (at_ : Int).tmod 64 = (r : Int) ∧ (at_ : Int) % 64 = (r : Int) := ⟨at_ % 64, rfl, by rw [Int.tmod_eq_emod_of_nonneg (by omega)]; omega, by omega⟩
    have hr3 : IntKind.i64.wrap (r : Int) = (r : Int) := IntWalk.i64_in _ (by omega)
    have hr4 : (0 : Int) ≤ (r : Int) := by omega
    have hr5 : (r : Int) ≤ 64 := by omega
    have hs0 : (0 : Int) ≤ (sz : Int) := by omega
    have hs64 : (sz : Int) ≤ 64 := by omega
    rw [hat] at hq hr
    by_cases hlt : k < m
    · have hki : (k : Int) < m := by omega
      have hi' : k < m ∨ 0 < C := .inl hlt
      by_cases h0 : r = 0
      · skip
        obtain ⟨x0, hx0⟩ : ∃ x0, yx xs k = x0 := ⟨_, rfl⟩
        obtain ⟨b, o, rfl, -, hcx⟩ := (Hx.out.below hH.out.2.2.2).rd hlt
        rw [hx0] at hcx
        have hx0B : x0 < B64 := by rw [← hx0]; exact HF.out.1 k
        obtain ⟨s, bb, hsum, hcall⟩ := add64_zero C x0 hC hx0B
        have HSm : Hid (C + yx xs k = s + bb * B64 ∧ s < B64 ∧ bb ≤ 1) := Lib.hid (by rw [hx0]; exact hsum)
        obtain ⟨ps, x, y, B, B', D, z, u, s2, z2, C2, hA, hB1, hB2, hand, hshl, hor, hui, hu, hs2i, hshl2, hor2⟩ := num_step HS.out hH.out.2.1 hi' HF.out.1 HF.out.2 HSm.out.1 HSm.out.2.1 HSm.out.2.2 hq hr
        have hu0 : (0 : Int) ≤ (u : Int) := by omega
        have hu64 : (u : Int) ≤ 64 := by omega
        have hqcap := HC.out k q C us hi' hH.out.2.1 hq
        have hqi : (q : Int) < (q : Int) + 1 := by omega
        have hqi2 : (q : Int) < ((q + 1 : Nat) : Int) := by omega
        have HA := Lib.hid hA
        have hlq : L = q := by rw [← hH.out.1, hH.out.2.1.1]; omega
        subst hlq
        have hgw : us = ps ∧ x = 0 := by
          have := hA.1
          unfold grow at this
          rw [if_pos (by rw [← hr]; exact h0)] at this
          have h9 := List.append_inj' this rfl
          exact ⟨h9.1, by have := h9.2; simp at this; omega⟩
        obtain ⟨hps, hx00⟩ := hgw
        have hrz : (r : Int) = 0 := by omega
        have HX := Lib.hid (And.intro hps hx00)
        have h2 := hH.out.2.2.1
        have HHb := Lib.hid hH.out.2.2.2
        clear hH hA hq hr h0 hps hx00 hat hx0 hx0B hsum
        go_wp2_with (at_builtin; refine wpList_append_fits _ rfl (.tmp 47) (.tmp 48) 34 rfl w.heap.size 43 i0 1 Tryd.underlying34 hi hz1 g L cap _ rfl (h2.alloc _) ⟨wr.heap.size, 0, none⟩ 1 1 [.int .u64 0] rfl rfl (World.news_of_block (cs := #[.int .u64 0]) (t := 43) (fr := (0, 0)) (heap_alloc_new wr _)) (by simp [Value.oneCell']) (by omega) ?_)
        intro W2 hown2 hgrow2
        have hb2 : Below w.heap.size w W2 := (HHb.out.alloc HHb.out.size _).grown hgrow2 (by simp; have := HHb.out.size; omega) (by intro j hj; cases hj; have := Hg.out; omega)
        have hown3 : W2.ownsRow w.heap.size 43 1 (.slice (some ⟨g, 0, none⟩) (L + 1) cap) (L + 1) (uvs (ps ++ [x])) := by
          rw [HX.out.2, uvs_append, ← HX.out.1]
          exact hown2
        clear hown2 hgrow2 h2 HHb hrz HX
        have hc := (World.ownsRow.cellAt hown3 L (by omega)).trans (uvs_get (x := x) (by rw [List.getElem?_append_right (by rw [HA.out.2.1]; exact Nat.le_refl _), HA.out.2.1, Nat.sub_self]; rfl))
        have hf := World.ownsRow.frozenAt hown3 L
        have HN : Hid ((ps ++ [y]).length = L + 1 ∧ NI sz m (yx xs) (k + 1) (ps ++ [y]) C2 ∧ (W2.setCell ⟨g, L, none⟩ (.int .u64 (y : Int))).ownsRow w.heap.size 43 1 (.slice (some ⟨g, 0, none⟩) (L + 1) cap) (L + 1) (uvs (ps ++ [y])) ∧ Below w.heap.size w (W2.setCell ⟨g, L, none⟩ (.int .u64 (y : Int)))) := by
          refine ⟨by simp [HA.out.2.1], HA.out.2.2.2.2.2.2.1, ?_, hb2.setCell (by show w.heap.size ≤ g; have := Hg.out; omega) _⟩
          have h9 := (World.ownsRow.stored hown3 L (.int .u64 (y : Int))).1
          have h8 : (uvs (ps ++ [x])).set L (.int .u64 (y : Int)) = uvs (ps ++ [y]) := by
            rw [show (uvs (ps ++ [x])).set L (.int .u64 (y : Int)) = uvs ((ps ++ [x]).set L y) by simp [uvs, List.map_set], List.set_append_right _ _ (by rw [HA.out.2.1]; exact Nat.le_refl _), HA.out.2.1, Nat.sub_self]
            rfl
          rw [h8] at h9
          exact h9
        have hk1 : k + 1 ≤ m + 8 := HA.out.2.2.2.2.2.2.1.2.2.2.2.2
        have hC2 := HA.out.2.2.2.2.2.1
        clear hown3 hb2
        go_wp2_with (fail)
        go_region
        go_wp2_with (fail)
        go_region
        go_wp2_with (fail)
        go_roundw
        case rel => exact ⟨k + 1, C2, L + 1, ps ++ [y], by go_num, by go_num, by go_num, by omega, hC2, hk1, Lib.hid ⟨HN.out.1, HN.out.2.1, HN.out.2.2.1.drew.drew, HN.out.2.2.2.drew.drew⟩⟩
        case measure => simp [intOf]; omega

      · skip
        obtain ⟨x0, hx0⟩ : ∃ x0, yx xs k = x0 := ⟨_, rfl⟩
        obtain ⟨b, o, rfl, -, hcx⟩ := (Hx.out.below hH.out.2.2.2).rd hlt
        rw [hx0] at hcx
        have hx0B : x0 < B64 := by rw [← hx0]; exact HF.out.1 k
        obtain ⟨s, bb, hsum, hcall⟩ := add64_zero C x0 hC hx0B
        have HSm : Hid (C + yx xs k = s + bb * B64 ∧ s < B64 ∧ bb ≤ 1) := Lib.hid (by rw [hx0]; exact hsum)
        obtain ⟨ps, x, y, B, B', D, z, u, s2, z2, C2, hA, hB1, hB2, hand, hshl, hor, hui, hu, hs2i, hshl2, hor2⟩ := num_step HS.out hH.out.2.1 hi' HF.out.1 HF.out.2 HSm.out.1 HSm.out.2.1 HSm.out.2.2 hq hr
        have hu0 : (0 : Int) ≤ (u : Int) := by omega
        have hu64 : (u : Int) ≤ 64 := by omega
        have hqcap := HC.out k q C us hi' hH.out.2.1 hq
        have hqi : (q : Int) < (q : Int) + 1 := by omega
        have hqi2 : (q : Int) < ((q + 1 : Nat) : Int) := by omega
        have HA := Lib.hid hA
        have hlq : L = q + 1 := by rw [← hH.out.1, hH.out.2.1.1]; omega
        subst hlq
        have hgw : us = ps ++ [x] := by
          have := hA.1
          unfold grow at this
          rw [if_neg (by rw [← hr]; exact h0)] at this
          exact this
        have hrz : ¬ (r : Int) = 0 := by omega
        have hown3 : wr.ownsRow w.heap.size 43 1 (.slice (some ⟨g, 0, none⟩) (q + 1) cap) (q + 1) (uvs (ps ++ [x])) := by
          rw [← hgw]
          exact hH.out.2.2.1
        have hb2 := hH.out.2.2.2
        clear hH hA hq hr h0 hgw hat hx0 hx0B hsum
        have hc := (World.ownsRow.cellAt hown3 q (by omega)).trans (uvs_get (x := x) (by rw [List.getElem?_append_right (by rw [HA.out.2.1]; exact Nat.le_refl _), HA.out.2.1, Nat.sub_self]; rfl))
        have hf := World.ownsRow.frozenAt hown3 q
        have HN : Hid ((ps ++ [y]).length = q + 1 ∧ NI sz m (yx xs) (k + 1) (ps ++ [y]) C2 ∧ (wr.setCell ⟨g, q, none⟩ (.int .u64 (y : Int))).ownsRow w.heap.size 43 1 (.slice (some ⟨g, 0, none⟩) (q + 1) cap) (q + 1) (uvs (ps ++ [y])) ∧ Below w.heap.size w (wr.setCell ⟨g, q, none⟩ (.int .u64 (y : Int)))) := by
          refine ⟨by simp [HA.out.2.1], HA.out.2.2.2.2.2.2.1, ?_, hb2.setCell (by show w.heap.size ≤ g; have := Hg.out; omega) _⟩
          have h9 := (World.ownsRow.stored hown3 q (.int .u64 (y : Int))).1
          have h8 : (uvs (ps ++ [x])).set q (.int .u64 (y : Int)) = uvs (ps ++ [y]) := by
            rw [show (uvs (ps ++ [x])).set q (.int .u64 (y : Int)) = uvs ((ps ++ [x]).set q y) by simp [uvs, List.map_set], List.set_append_right _ _ (by rw [HA.out.2.1]; exact Nat.le_refl _), HA.out.2.1, Nat.sub_self]
            rfl
          rw [h8] at h9
          exact h9
        have hk1 : k + 1 ≤ m + 8 := HA.out.2.2.2.2.2.2.1.2.2.2.2.2
        have hC2 := HA.out.2.2.2.2.2.1
        clear hown3 hb2
        go_wp2_with (fail)
        go_region
        go_wp2_with (fail)
        go_region
        go_wp2_with (fail)
        go_roundw
        case rel => exact ⟨k + 1, C2, q + 1, ps ++ [y], by go_num, by go_num, by go_num, by omega, hC2, hk1, Lib.hid ⟨HN.out.1, HN.out.2.1, HN.out.2.2.1.drew.drew, HN.out.2.2.2.drew.drew⟩⟩
        case measure => simp [intOf]; omega

    · have hki : ¬ (k : Int) < m := by omega
      have hmk : (m : Int) ≤ k := by omega
      by_cases hC0 : 0 < C
      · have hCi : (0 : Int) < C := by omega
        have hi' : k < m ∨ 0 < C := .inr hC0
        by_cases h0 : r = 0
        · skip
          obtain ⟨s, hs⟩ : ∃ s, C = s := ⟨_, rfl⟩
          have HSm : Hid (C + yx xs k = s + 0 * B64 ∧ s < B64 ∧ 0 ≤ 1) := Lib.hid ⟨by rw [HF.out.2 k (by omega), hs]; omega, by omega, by omega⟩
          subst hs
          obtain ⟨ps, x, y, B, B', D, z, u, s2, z2, C2, hA, hB1, hB2, hand, hshl, hor, hui, hu, hs2i, hshl2, hor2⟩ := num_step HS.out hH.out.2.1 hi' HF.out.1 HF.out.2 HSm.out.1 HSm.out.2.1 HSm.out.2.2 hq hr
          have hu0 : (0 : Int) ≤ (u : Int) := by omega
          have hu64 : (u : Int) ≤ 64 := by omega
          have hqcap := HC.out k q C us hi' hH.out.2.1 hq
          have hqi : (q : Int) < (q : Int) + 1 := by omega
          have hqi2 : (q : Int) < ((q + 1 : Nat) : Int) := by omega
          have HA := Lib.hid hA
          rw [show ((0 : Nat) : Int) = 0 from rfl, Int.zero_mul] at hshl2
          have hz20 : z2 = 0 := by rw [IntKind.wrap_u64] at hshl2; omega
          rw [hz20, show ((0 : Nat) : Int) = 0 from rfl] at hor2
          clear hshl2 hz20
          have hlq : L = q := by rw [← hH.out.1, hH.out.2.1.1]; omega
          subst hlq
          have hgw : us = ps ∧ x = 0 := by
            have := hA.1
            unfold grow at this
            rw [if_pos (by rw [← hr]; exact h0)] at this
            have h9 := List.append_inj' this rfl
            exact ⟨h9.1, by have := h9.2; simp at this; omega⟩
          obtain ⟨hps, hx00⟩ := hgw
          have hrz : (r : Int) = 0 := by omega
          have HX := Lib.hid (And.intro hps hx00)
          have h2 := hH.out.2.2.1
          have HHb := Lib.hid hH.out.2.2.2
          clear hH hA hq hr h0 hps hx00 hat
          go_wp2_with (at_builtin; refine wpList_append_fits _ rfl (.tmp 47) (.tmp 48) 34 rfl w.heap.size 43 i0 1 Tryd.underlying34 hi hz1 g L cap _ rfl (h2.alloc _) ⟨wr.heap.size, 0, none⟩ 1 1 [.int .u64 0] rfl rfl (World.news_of_block (cs := #[.int .u64 0]) (t := 43) (fr := (0, 0)) (heap_alloc_new wr _)) (by simp [Value.oneCell']) (by omega) ?_)
          intro W2 hown2 hgrow2
          have hb2 : Below w.heap.size w W2 := (HHb.out.alloc HHb.out.size _).grown hgrow2 (by simp; have := HHb.out.size; omega) (by intro j hj; cases hj; have := Hg.out; omega)
          have hown3 : W2.ownsRow w.heap.size 43 1 (.slice (some ⟨g, 0, none⟩) (L + 1) cap) (L + 1) (uvs (ps ++ [x])) := by
            rw [HX.out.2, uvs_append, ← HX.out.1]
            exact hown2
          clear hown2 hgrow2 h2 HHb hrz HX
          have hc := (World.ownsRow.cellAt hown3 L (by omega)).trans (uvs_get (x := x) (by rw [List.getElem?_append_right (by rw [HA.out.2.1]; exact Nat.le_refl _), HA.out.2.1, Nat.sub_self]; rfl))
          have hf := World.ownsRow.frozenAt hown3 L
          have HN : Hid ((ps ++ [y]).length = L + 1 ∧ NI sz m (yx xs) (k + 1) (ps ++ [y]) C2 ∧ (W2.setCell ⟨g, L, none⟩ (.int .u64 (y : Int))).ownsRow w.heap.size 43 1 (.slice (some ⟨g, 0, none⟩) (L + 1) cap) (L + 1) (uvs (ps ++ [y])) ∧ Below w.heap.size w (W2.setCell ⟨g, L, none⟩ (.int .u64 (y : Int)))) := by
            refine ⟨by simp [HA.out.2.1], HA.out.2.2.2.2.2.2.1, ?_, hb2.setCell (by show w.heap.size ≤ g; have := Hg.out; omega) _⟩
            have h9 := (World.ownsRow.stored hown3 L (.int .u64 (y : Int))).1
            have h8 : (uvs (ps ++ [x])).set L (.int .u64 (y : Int)) = uvs (ps ++ [y]) := by
              rw [show (uvs (ps ++ [x])).set L (.int .u64 (y : Int)) = uvs ((ps ++ [x]).set L y) by simp [uvs, List.map_set], List.set_append_right _ _ (by rw [HA.out.2.1]; exact Nat.le_refl _), HA.out.2.1, Nat.sub_self]
              rfl
            rw [h8] at h9
            exact h9
          have hk1 : k + 1 ≤ m + 8 := HA.out.2.2.2.2.2.2.1.2.2.2.2.2
          have hC2 := HA.out.2.2.2.2.2.1
          clear hown3 hb2
          go_wp2_with (fail)
          go_region
          go_wp2_with (fail)
          go_region
          go_wp2_with (fail)
          go_roundw
          case rel => exact ⟨k + 1, C2, L + 1, ps ++ [y], by go_num, by go_num, by go_num, by omega, hC2, hk1, Lib.hid ⟨HN.out.1, HN.out.2.1, HN.out.2.2.1.drew.drew, HN.out.2.2.2.drew.drew⟩⟩
          case measure => simp [intOf]; omega

        · skip
          obtain ⟨s, hs⟩ : ∃ s, C = s := ⟨_, rfl⟩
          have HSm : Hid (C + yx xs k = s + 0 * B64 ∧ s < B64 ∧ 0 ≤ 1) := Lib.hid ⟨by rw [HF.out.2 k (by omega), hs]; omega, by omega, by omega⟩
          subst hs
          obtain ⟨ps, x, y, B, B', D, z, u, s2, z2, C2, hA, hB1, hB2, hand, hshl, hor, hui, hu, hs2i, hshl2, hor2⟩ := num_step HS.out hH.out.2.1 hi' HF.out.1 HF.out.2 HSm.out.1 HSm.out.2.1 HSm.out.2.2 hq hr
          have hu0 : (0 : Int) ≤ (u : Int) := by omega
          have hu64 : (u : Int) ≤ 64 := by omega
          have hqcap := HC.out k q C us hi' hH.out.2.1 hq
          have hqi : (q : Int) < (q : Int) + 1 := by omega
          have hqi2 : (q : Int) < ((q + 1 : Nat) : Int) := by omega
          have HA := Lib.hid hA
          rw [show ((0 : Nat) : Int) = 0 from rfl, Int.zero_mul] at hshl2
          have hz20 : z2 = 0 := by rw [IntKind.wrap_u64] at hshl2; omega
          rw [hz20, show ((0 : Nat) : Int) = 0 from rfl] at hor2
          clear hshl2 hz20
          have hlq : L = q + 1 := by rw [← hH.out.1, hH.out.2.1.1]; omega
          subst hlq
          have hgw : us = ps ++ [x] := by
            have := hA.1
            unfold grow at this
            rw [if_neg (by rw [← hr]; exact h0)] at this
            exact this
          have hrz : ¬ (r : Int) = 0 := by omega
          have hown3 : wr.ownsRow w.heap.size 43 1 (.slice (some ⟨g, 0, none⟩) (q + 1) cap) (q + 1) (uvs (ps ++ [x])) := by
            rw [← hgw]
            exact hH.out.2.2.1
          have hb2 := hH.out.2.2.2
          clear hH hA hq hr h0 hgw hat
          have hc := (World.ownsRow.cellAt hown3 q (by omega)).trans (uvs_get (x := x) (by rw [List.getElem?_append_right (by rw [HA.out.2.1]; exact Nat.le_refl _), HA.out.2.1, Nat.sub_self]; rfl))
          have hf := World.ownsRow.frozenAt hown3 q
          have HN : Hid ((ps ++ [y]).length = q + 1 ∧ NI sz m (yx xs) (k + 1) (ps ++ [y]) C2 ∧ (wr.setCell ⟨g, q, none⟩ (.int .u64 (y : Int))).ownsRow w.heap.size 43 1 (.slice (some ⟨g, 0, none⟩) (q + 1) cap) (q + 1) (uvs (ps ++ [y])) ∧ Below w.heap.size w (wr.setCell ⟨g, q, none⟩ (.int .u64 (y : Int)))) := by
            refine ⟨by simp [HA.out.2.1], HA.out.2.2.2.2.2.2.1, ?_, hb2.setCell (by show w.heap.size ≤ g; have := Hg.out; omega) _⟩
            have h9 := (World.ownsRow.stored hown3 q (.int .u64 (y : Int))).1
            have h8 : (uvs (ps ++ [x])).set q (.int .u64 (y : Int)) = uvs (ps ++ [y]) := by
              rw [show (uvs (ps ++ [x])).set q (.int .u64 (y : Int)) = uvs ((ps ++ [x]).set q y) by simp [uvs, List.map_set], List.set_append_right _ _ (by rw [HA.out.2.1]; exact Nat.le_refl _), HA.out.2.1, Nat.sub_self]
              rfl
            rw [h8] at h9
            exact h9
          have hk1 : k + 1 ≤ m + 8 := HA.out.2.2.2.2.2.2.1.2.2.2.2.2
          have hC2 := HA.out.2.2.2.2.2.1
          clear hown3 hb2
          go_wp2_with (fail)
          go_region
          go_wp2_with (fail)
          go_region
          go_wp2_with (fail)
          go_roundw
          case rel => exact ⟨k + 1, C2, q + 1, ps ++ [y], by go_num, by go_num, by go_num, by omega, hC2, hk1, Lib.hid ⟨HN.out.1, HN.out.2.1, HN.out.2.2.1.drew.drew, HN.out.2.2.2.drew.drew⟩⟩
          case measure => simp [intOf]; omega

      · obtain rfl : C = 0 := by omega
        have he := NI_end hH.out.2.1 (by omega) HF.out.2
        have HE : Hid (V us = dsum sz m (yx xs) ∧ Sl wr (some ⟨g, 0, none⟩) L cap us ∧ Below w.heap.size w wr) := Lib.hid ⟨he, by
          obtain ⟨A', c', e', h9⟩ := Nw.sl (w := w) (⟨hH.out.1, hH.out.2.1.2.1, hH.out.2.2.1⟩ : Nw w wr _ L us)
          injection e' with e1 e2 e3
          subst e1 e3
          exact h9, hH.out.2.2.2⟩
        clear he hH hq hr hat
        go_wp2_with (fail)
        refine (yresult_ok _ L cap us _ (by omega) HE.out.2.1).mono ?_
        rintro e w2 hRs
        have HR : Hid (Rs w w2 e (dsum sz m (yx xs))) := Lib.hid (by rw [← HE.out.1]; exact hRs.from HE.out.2.2)
        obtain ⟨v, c2, rfl⟩ : ∃ v c2, e = .returned (.tuple #[v, .int .i64 c2]) := by
          obtain ⟨h9 | h9, -⟩ := hRs
          · obtain ⟨v, rfl, -⟩ := h9; exact ⟨v, 0, rfl⟩
          · exact ⟨_, 2, h9.1⟩
        clear hRs
        go_wp2_with (fail)
        go_ret2
        exact HR.out


set_option maxHeartbeats 4000000 in
theorem numberR_ok (A : Option Addr) (m c sz : Nat) (xs : List Nat) (w : World) (hsz : sz = 8 ∨ sz = 16 ∨ sz = 32) (hm : m ≤ 262144) (hx : Sl w A m c xs) :
    Calls Tryd.prog 77 #[.slice A m c, .int .i64 sz] w fun e w' => Rs w w' e (dsum sz m (yx xs)) := by
  obtain ⟨i0, hi, hz0, hz1, hz2⟩ := info_parts Tryd.info43
  have hsz8 : 8 ≤ sz ∧ sz ≤ 32 := by omega
  have Hx := Lib.hid hx
  have HS := Lib.hid hsz
  have HF : Hid ((∀ j, yx xs j < B64) ∧ ∀ j, m ≤ j → yx xs j = 0) := Lib.hid ⟨yx_lt hx.2.2.2.1, fun j hj => yx_far (by rw [hx.1]; exact hj)⟩
  obtain ⟨a, ha, ha0⟩ : ∃ a : Nat, (m : Int) * (sz : Int) = (a : Int) ∧ a = m * sz := ⟨m * sz, by push_cast; rfl, rfl⟩
  have ha5 : a ≤ 8388608 := by rw [ha0]; exact Nat.mul_le_mul hm hsz8.2
  have ha1 : IntKind.i64.wrap (a : Int) = (a : Int) := IntWalk.i64_in _ (by omega)
  obtain ⟨a2, ha2, ha3, ha4⟩ : ∃ a2 : Nat, a2 = a / 64 ∧ (a : Int).tdiv 64 = (a2 : Int) ∧ (a : Int) / 64 = (a2 : Int) := ⟨a / 64, rfl, by rw [Int.tdiv_eq_ediv_of_nonneg (by omega)]; omega, by omega⟩
  have ha6 : IntKind.i64.wrap (a2 : Int) = (a2 : Int) := IntWalk.i64_in _ (by omega)
  obtain ⟨cap, hcap⟩ : ∃ cap, cap = a2 + 2 := ⟨_, rfl⟩
  have ha7 : IntKind.i64.wrap ((a2 : Int) + 2) = (cap : Int) := by rw [show ((a2 : Int) + 2) = (cap : Int) by omega]; exact IntWalk.i64_in _ (by omega)
  have hcap5 : cap ≤ 200000 := by omega
  have HC : Hid (∀ k q C us, (k < m ∨ 0 < C) → NI sz m (yx xs) k us C → q = k * sz / 64 → q + 1 ≤ cap) := Lib.hid (fun k q C us hk hN hq => NI_cap hk hN (by omega) (by rw [← ha0]; exact ha2) hcap hq)
  clear hx hsz ha0 ha2 hcap
  go_enter Tryd.func77, Tryd.ntmps77
  go_wp2_with (at_make; refine wpList_make_own _ rfl _ _ 34 rfl w.heap.size 43 i0 (.int .u64 0) 1 Tryd.underlying34 hi hz0 hz1 .i64 .i64 _ cap rfl rfl rfl (by rw [hz2]; omega) (by unfold maxLen; omega) (Nat.le_refl _) ?_)
  intro w1 hown hgrow
  have hb1 := below_of_grown hgrow (Nat.le_refl _)
  obtain ⟨g, hg⟩ : ∃ g, g = w.heap.size := ⟨_, rfl⟩
  have Hg := Lib.hid hg
  have hown2 : w1.ownsRow w.heap.size 43 1 (.slice (some ⟨g, 0, none⟩) 0 cap) 0 (uvs []) := by rw [hg]; exact hown
  rw [← hg]
  have H0 : Hid (NI sz m (yx xs) 0 [] 0 ∧ w1.ownsRow w.heap.size 43 1 (.slice (some ⟨g, 0, none⟩) 0 cap) 0 (uvs []) ∧ Below w.heap.size w w1) := ⟨NI_start _ _ _, hown2, hb1⟩
  clear hown hown2 hgrow hb1 hg
  go_wp2_with (fail)
  go_loopw [6, 7, 8, 9, 10] (fun rv cv iv _ _ wr => ∃ (k C L : Nat) (us : List Nat), rv = .slice (some ⟨g, 0, none⟩) L cap ∧ cv = .int .u64 C ∧ iv = .int .i64 k ∧ L ≤ cap ∧ C < B64 ∧ k ≤ m + 8 ∧ Hid (us.length = L ∧ NI sz m (yx xs) k us C ∧ wr.ownsRow w.heap.size 43 1 (.slice (some ⟨g, 0, none⟩) L cap) L (uvs us) ∧ Below w.heap.size w wr)) (fun _ _ iv _ _ _ => m + 9 - (intOf iv).toNat)
  case atStart => exact ⟨0, 0, 0, [], rfl, rfl, rfl, Nat.zero_le _, B64_pos, Nat.zero_le _, Lib.hid ⟨rfl, H0.out⟩⟩
  case round =>
    clear H0
    obtain ⟨k, C, L, us, rfl, rfl, rfl, hLc, hC, hk8, hH⟩ := hrel
    obtain ⟨at_, hat⟩ : ∃ a, a = k * sz := ⟨_, rfl⟩
    have hat1 : (k : Int) * (sz : Int) = (at_ : Int) := by rw [hat]; push_cast; rfl
    have hat5 : at_ ≤ 8400000 := by rw [hat]; exact Nat.le_trans (Nat.mul_le_mul (show k ≤ 262152 by omega) hsz8.2) (by decide)
    have hat2 : IntKind.i64.wrap (at_ : Int) = (at_ : Int) := IntWalk.i64_in _ (by omega)
    obtain ⟨q, hq, q1, q2⟩ : ∃ q : Nat, q = at_ / 64 ∧ (at_ : Int).tdiv 64 = (q : Int) ∧ (at_ : Int) / 64 = (q : Int) := ⟨at_ / 64, rfl, by rw [Int.tdiv_eq_ediv_of_nonneg (by omega)]; omega, by omega⟩
    have hq3 : IntKind.i64.wrap (q : Int) = (q : Int) := IntWalk.i64_in _ (by omega)
    obtain ⟨r, hr, r1, r2⟩ : ∃ r : Nat, r = at_ % 64 ∧ (at_ : Int).tmod 64 = (r : Int) ∧ (at_ : Int) % 64 = (r : Int) := ⟨at_ % 64, rfl, by rw [Int.tmod_eq_emod_of_nonneg (by omega)]; omega, by omega⟩
    have hr3 : IntKind.i64.wrap (r : Int) = (r : Int) := IntWalk.i64_in _ (by omega)
    have hr4 : (0 : Int) ≤ (r : Int) := by omega
    have hr5 : (r : Int) ≤ 64 := by omega
    have hs0 : (0 : Int) ≤ (sz : Int) := by omega
    have hs64 : (sz : Int) ≤ 64 := by omega
    rw [hat] at hq hr
    by_cases hlt : k < m
    · have hki : (k : Int) < m := by omega
      have hi' : k < m ∨ 0 < C := .inl hlt
      by_cases h0 : r = 0
      · skip
        obtain ⟨x0, hx0⟩ : ∃ x0, yx xs k = x0 := ⟨_, rfl⟩
        obtain ⟨b, o, rfl, -, hcx⟩ := (Hx.out.below hH.out.2.2.2).rd hlt
        rw [hx0] at hcx
        have hx0B : x0 < B64 := by rw [← hx0]; exact HF.out.1 k
        obtain ⟨s, bb, hsum, hcall⟩ := add64_zero C x0 hC hx0B
        have HSm : Hid (C + yx xs k = s + bb * B64 ∧ s < B64 ∧ bb ≤ 1) := Lib.hid (by rw [hx0]; exact hsum)
        obtain ⟨ps, x, y, B, B', D, z, u, s2, z2, C2, hA, hB1, hB2, hand, hshl, hor, hui, hu, hs2i, hshl2, hor2⟩ := num_step HS.out hH.out.2.1 hi' HF.out.1 HF.out.2 HSm.out.1 HSm.out.2.1 HSm.out.2.2 hq hr
        have hu0 : (0 : Int) ≤ (u : Int) := by omega
        have hu64 : (u : Int) ≤ 64 := by omega
        have hqcap := HC.out k q C us hi' hH.out.2.1 hq
        have hqi : (q : Int) < (q : Int) + 1 := by omega
        have hqi2 : (q : Int) < ((q + 1 : Nat) : Int) := by omega
        have HA := Lib.hid hA
        have hlq : L = q := by rw [← hH.out.1, hH.out.2.1.1]; omega
        subst hlq
        have hgw : us = ps ∧ x = 0 := by
          have := hA.1
          unfold grow at this
          rw [if_pos (by rw [← hr]; exact h0)] at this
          have h9 := List.append_inj' this rfl
          exact ⟨h9.1, by have := h9.2; simp at this; omega⟩
        obtain ⟨hps, hx00⟩ := hgw
        have hrz : (r : Int) = 0 := by omega
        have HX := Lib.hid (And.intro hps hx00)
        have h2 := hH.out.2.2.1
        have HHb := Lib.hid hH.out.2.2.2
        clear hH hA hq hr h0 hps hx00 hat hx0 hx0B hsum
        go_wp2_with (at_builtin; refine wpList_append_fits _ rfl (.tmp 47) (.tmp 48) 34 rfl w.heap.size 43 i0 1 Tryd.underlying34 hi hz1 g L cap _ rfl (h2.alloc _) ⟨wr.heap.size, 0, none⟩ 1 1 [.int .u64 0] rfl rfl (World.news_of_block (cs := #[.int .u64 0]) (t := 43) (fr := (0, 0)) (heap_alloc_new wr _)) (by simp [Value.oneCell']) (by omega) ?_)
        intro W2 hown2 hgrow2
        have hb2 : Below w.heap.size w W2 := (HHb.out.alloc HHb.out.size _).grown hgrow2 (by simp; have := HHb.out.size; omega) (by intro j hj; cases hj; have := Hg.out; omega)
        have hown3 : W2.ownsRow w.heap.size 43 1 (.slice (some ⟨g, 0, none⟩) (L + 1) cap) (L + 1) (uvs (ps ++ [x])) := by
          rw [HX.out.2, uvs_append, ← HX.out.1]
          exact hown2
        clear hown2 hgrow2 h2 HHb hrz HX
        have hc := (World.ownsRow.cellAt hown3 L (by omega)).trans (uvs_get (x := x) (by rw [List.getElem?_append_right (by rw [HA.out.2.1]; exact Nat.le_refl _), HA.out.2.1, Nat.sub_self]; rfl))
        have hf := World.ownsRow.frozenAt hown3 L
        have HN : Hid ((ps ++ [y]).length = L + 1 ∧ NI sz m (yx xs) (k + 1) (ps ++ [y]) C2 ∧ (W2.setCell ⟨g, L, none⟩ (.int .u64 (y : Int))).ownsRow w.heap.size 43 1 (.slice (some ⟨g, 0, none⟩) (L + 1) cap) (L + 1) (uvs (ps ++ [y])) ∧ Below w.heap.size w (W2.setCell ⟨g, L, none⟩ (.int .u64 (y : Int)))) := by
          refine ⟨by simp [HA.out.2.1], HA.out.2.2.2.2.2.2.1, ?_, hb2.setCell (by show w.heap.size ≤ g; have := Hg.out; omega) _⟩
          have h9 := (World.ownsRow.stored hown3 L (.int .u64 (y : Int))).1
          have h8 : (uvs (ps ++ [x])).set L (.int .u64 (y : Int)) = uvs (ps ++ [y]) := by
            rw [show (uvs (ps ++ [x])).set L (.int .u64 (y : Int)) = uvs ((ps ++ [x]).set L y) by simp [uvs, List.map_set], List.set_append_right _ _ (by rw [HA.out.2.1]; exact Nat.le_refl _), HA.out.2.1, Nat.sub_self]
            rfl
          rw [h8] at h9
          exact h9
        have hk1 : k + 1 ≤ m + 8 := HA.out.2.2.2.2.2.2.1.2.2.2.2.2
        have hC2 := HA.out.2.2.2.2.2.1
        clear hown3 hb2
        go_wp2_with (fail)
        go_region
        go_wp2_with (fail)
        go_region
        go_wp2_with (fail)
        go_roundw
        case rel => exact ⟨k + 1, C2, L + 1, ps ++ [y], by go_num, by go_num, by go_num, by omega, hC2, hk1, Lib.hid ⟨HN.out.1, HN.out.2.1, HN.out.2.2.1.drew.drew, HN.out.2.2.2.drew.drew⟩⟩
        case measure => simp [intOf]; omega

      · skip
        obtain ⟨x0, hx0⟩ : ∃ x0, yx xs k = x0 := ⟨_, rfl⟩
        obtain ⟨b, o, rfl, -, hcx⟩ := (Hx.out.below hH.out.2.2.2).rd hlt
        rw [hx0] at hcx
        have hx0B : x0 < B64 := by rw [← hx0]; exact HF.out.1 k
        obtain ⟨s, bb, hsum, hcall⟩ := add64_zero C x0 hC hx0B
        have HSm : Hid (C + yx xs k = s + bb * B64 ∧ s < B64 ∧ bb ≤ 1) := Lib.hid (by rw [hx0]; exact hsum)
        obtain ⟨ps, x, y, B, B', D, z, u, s2, z2, C2, hA, hB1, hB2, hand, hshl, hor, hui, hu, hs2i, hshl2, hor2⟩ := num_step HS.out hH.out.2.1 hi' HF.out.1 HF.out.2 HSm.out.1 HSm.out.2.1 HSm.out.2.2 hq hr
        have hu0 : (0 : Int) ≤ (u : Int) := by omega
        have hu64 : (u : Int) ≤ 64 := by omega
        have hqcap := HC.out k q C us hi' hH.out.2.1 hq
        have hqi : (q : Int) < (q : Int) + 1 := by omega
        have hqi2 : (q : Int) < ((q + 1 : Nat) : Int) := by omega
        have HA := Lib.hid hA
        have hlq : L = q + 1 := by rw [← hH.out.1, hH.out.2.1.1]; omega
        subst hlq
        have hgw : us = ps ++ [x] := by
          have := hA.1
          unfold grow at this
          rw [if_neg (by rw [← hr]; exact h0)] at this
          exact this
        have hrz : ¬ (r : Int) = 0 := by omega
        have hown3 : wr.ownsRow w.heap.size 43 1 (.slice (some ⟨g, 0, none⟩) (q + 1) cap) (q + 1) (uvs (ps ++ [x])) := by
          rw [← hgw]
          exact hH.out.2.2.1
        have hb2 := hH.out.2.2.2
        clear hH hA hq hr h0 hgw hat hx0 hx0B hsum
        have hc := (World.ownsRow.cellAt hown3 q (by omega)).trans (uvs_get (x := x) (by rw [List.getElem?_append_right (by rw [HA.out.2.1]; exact Nat.le_refl _), HA.out.2.1, Nat.sub_self]; rfl))
        have hf := World.ownsRow.frozenAt hown3 q
        have HN : Hid ((ps ++ [y]).length = q + 1 ∧ NI sz m (yx xs) (k + 1) (ps ++ [y]) C2 ∧ (wr.setCell ⟨g, q, none⟩ (.int .u64 (y : Int))).ownsRow w.heap.size 43 1 (.slice (some ⟨g, 0, none⟩) (q + 1) cap) (q + 1) (uvs (ps ++ [y])) ∧ Below w.heap.size w (wr.setCell ⟨g, q, none⟩ (.int .u64 (y : Int)))) := by
          refine ⟨by simp [HA.out.2.1], HA.out.2.2.2.2.2.2.1, ?_, hb2.setCell (by show w.heap.size ≤ g; have := Hg.out; omega) _⟩
          have h9 := (World.ownsRow.stored hown3 q (.int .u64 (y : Int))).1
          have h8 : (uvs (ps ++ [x])).set q (.int .u64 (y : Int)) = uvs (ps ++ [y]) := by
            rw [show (uvs (ps ++ [x])).set q (.int .u64 (y : Int)) = uvs ((ps ++ [x]).set q y) by simp [uvs, List.map_set], List.set_append_right _ _ (by rw [HA.out.2.1]; exact Nat.le_refl _), HA.out.2.1, Nat.sub_self]
            rfl
          rw [h8] at h9
          exact h9
        have hk1 : k + 1 ≤ m + 8 := HA.out.2.2.2.2.2.2.1.2.2.2.2.2
        have hC2 := HA.out.2.2.2.2.2.1
        clear hown3 hb2
        go_wp2_with (fail)
        go_region
        go_wp2_with (fail)
        go_region
        go_wp2_with (fail)
        go_roundw
        case rel => exact ⟨k + 1, C2, q + 1, ps ++ [y], by go_num, by go_num, by go_num, by omega, hC2, hk1, Lib.hid ⟨HN.out.1, HN.out.2.1, HN.out.2.2.1.drew.drew, HN.out.2.2.2.drew.drew⟩⟩
        case measure => simp [intOf]; omega

    · have hki : ¬ (k : Int) < m := by omega
      have hmk : (m : Int) ≤ k := by omega
      by_cases hC0 : 0 < C
      · have hCi : (0 : Int) < C := by omega
        have hi' : k < m ∨ 0 < C := .inr hC0
        by_cases h0 : r = 0
        · skip
          obtain ⟨s, hs⟩ : ∃ s, C = s := ⟨_, rfl⟩
          have HSm : Hid (C + yx xs k = s + 0 * B64 ∧ s < B64 ∧ 0 ≤ 1) := Lib.hid ⟨by rw [HF.out.2 k (by omega), hs]; omega, by omega, by omega⟩
          subst hs
          obtain ⟨ps, x, y, B, B', D, z, u, s2, z2, C2, hA, hB1, hB2, hand, hshl, hor, hui, hu, hs2i, hshl2, hor2⟩ := num_step HS.out hH.out.2.1 hi' HF.out.1 HF.out.2 HSm.out.1 HSm.out.2.1 HSm.out.2.2 hq hr
          have hu0 : (0 : Int) ≤ (u : Int) := by omega
          have hu64 : (u : Int) ≤ 64 := by omega
          have hqcap := HC.out k q C us hi' hH.out.2.1 hq
          have hqi : (q : Int) < (q : Int) + 1 := by omega
          have hqi2 : (q : Int) < ((q + 1 : Nat) : Int) := by omega
          have HA := Lib.hid hA
          rw [show ((0 : Nat) : Int) = 0 from rfl, Int.zero_mul] at hshl2
          have hz20 : z2 = 0 := by rw [IntKind.wrap_u64] at hshl2; omega
          rw [hz20, show ((0 : Nat) : Int) = 0 from rfl] at hor2
          clear hshl2 hz20
          have hlq : L = q := by rw [← hH.out.1, hH.out.2.1.1]; omega
          subst hlq
          have hgw : us = ps ∧ x = 0 := by
            have := hA.1
            unfold grow at this
            rw [if_pos (by rw [← hr]; exact h0)] at this
            have h9 := List.append_inj' this rfl
            exact ⟨h9.1, by have := h9.2; simp at this; omega⟩
          obtain ⟨hps, hx00⟩ := hgw
          have hrz : (r : Int) = 0 := by omega
          have HX := Lib.hid (And.intro hps hx00)
          have h2 := hH.out.2.2.1
          have HHb := Lib.hid hH.out.2.2.2
          clear hH hA hq hr h0 hps hx00 hat
          go_wp2_with (at_builtin; refine wpList_append_fits _ rfl (.tmp 47) (.tmp 48) 34 rfl w.heap.size 43 i0 1 Tryd.underlying34 hi hz1 g L cap _ rfl (h2.alloc _) ⟨wr.heap.size, 0, none⟩ 1 1 [.int .u64 0] rfl rfl (World.news_of_block (cs := #[.int .u64 0]) (t := 43) (fr := (0, 0)) (heap_alloc_new wr _)) (by simp [Value.oneCell']) (by omega) ?_)
          intro W2 hown2 hgrow2
          have hb2 : Below w.heap.size w W2 := (HHb.out.alloc HHb.out.size _).grown hgrow2 (by simp; have := HHb.out.size; omega) (by intro j hj; cases hj; have := Hg.out; omega)
          have hown3 : W2.ownsRow w.heap.size 43 1 (.slice (some ⟨g, 0, none⟩) (L + 1) cap) (L + 1) (uvs (ps ++ [x])) := by
            rw [HX.out.2, uvs_append, ← HX.out.1]
            exact hown2
          clear hown2 hgrow2 h2 HHb hrz HX
          have hc := (World.ownsRow.cellAt hown3 L (by omega)).trans (uvs_get (x := x) (by rw [List.getElem?_append_right (by rw [HA.out.2.1]; exact Nat.le_refl _), HA.out.2.1, Nat.sub_self]; rfl))
          have hf := World.ownsRow.frozenAt hown3 L
          have HN : Hid ((ps ++ [y]).length = L + 1 ∧ NI sz m (yx xs) (k + 1) (ps ++ [y]) C2 ∧ (W2.setCell ⟨g, L, none⟩ (.int .u64 (y : Int))).ownsRow w.heap.size 43 1 (.slice (some ⟨g, 0, none⟩) (L + 1) cap) (L + 1) (uvs (ps ++ [y])) ∧ Below w.heap.size w (W2.setCell ⟨g, L, none⟩ (.int .u64 (y : Int)))) := by
            refine ⟨by simp [HA.out.2.1], HA.out.2.2.2.2.2.2.1, ?_, hb2.setCell (by show w.heap.size ≤ g; have := Hg.out; omega) _⟩
            have h9 := (World.ownsRow.stored hown3 L (.int .u64 (y : Int))).1
            have h8 : (uvs (ps ++ [x])).set L (.int .u64 (y : Int)) = uvs (ps ++ [y]) := by
              rw [show (uvs (ps ++ [x])).set L (.int .u64 (y : Int)) = uvs ((ps ++ [x]).set L y) by simp [uvs, List.map_set], List.set_append_right _ _ (by rw [HA.out.2.1]; exact Nat.le_refl _), HA.out.2.1, Nat.sub_self]
              rfl
            rw [h8] at h9
            exact h9
          have hk1 : k + 1 ≤ m + 8 := HA.out.2.2.2.2.2.2.1.2.2.2.2.2
          have hC2 := HA.out.2.2.2.2.2.1
          clear hown3 hb2
          go_wp2_with (fail)
          go_region
          go_wp2_with (fail)
          go_region
          go_wp2_with (fail)
          go_roundw
          case rel => exact ⟨k + 1, C2, L + 1, ps ++ [y], by go_num, by go_num, by go_num, by omega, hC2, hk1, Lib.hid ⟨HN.out.1, HN.out.2.1, HN.out.2.2.1.drew.drew, HN.out.2.2.2.drew.drew⟩⟩
          case measure => simp [intOf]; omega

        · skip
          obtain ⟨s, hs⟩ : ∃ s, C = s := ⟨_, rfl⟩
          have HSm : Hid (C + yx xs k = s + 0 * B64 ∧ s < B64 ∧ 0 ≤ 1) := Lib.hid ⟨by rw [HF.out.2 k (by omega), hs]; omega, by omega, by omega⟩
          subst hs
          obtain ⟨ps, x, y, B, B', D, z, u, s2, z2, C2, hA, hB1, hB2, hand, hshl, hor, hui, hu, hs2i, hshl2, hor2⟩ := num_step HS.out hH.out.2.1 hi' HF.out.1 HF.out.2 HSm.out.1 HSm.out.2.1 HSm.out.2.2 hq hr
          have hu0 : (0 : Int) ≤ (u : Int) := by omega
          have hu64 : (u : Int) ≤ 64 := by omega
          have hqcap := HC.out k q C us hi' hH.out.2.1 hq
          have hqi : (q : Int) < (q : Int) + 1 := by omega
          have hqi2 : (q : Int) < ((q + 1 : Nat) : Int) := by omega
          have HA := Lib.hid hA
          rw [show ((0 : Nat) : Int) = 0 from rfl, Int.zero_mul] at hshl2
          have hz20 : z2 = 0 := by rw [IntKind.wrap_u64] at hshl2; omega
          rw [hz20, show ((0 : Nat) : Int) = 0 from rfl] at hor2
          clear hshl2 hz20
          have hlq : L = q + 1 := by rw [← hH.out.1, hH.out.2.1.1]; omega
          subst hlq
          have hgw : us = ps ++ [x] := by
            have := hA.1
            unfold grow at this
            rw [if_neg (by rw [← hr]; exact h0)] at this
            exact this
          have hrz : ¬ (r : Int) = 0 := by omega
          have hown3 : wr.ownsRow w.heap.size 43 1 (.slice (some ⟨g, 0, none⟩) (q + 1) cap) (q + 1) (uvs (ps ++ [x])) := by
            rw [← hgw]
            exact hH.out.2.2.1
          have hb2 := hH.out.2.2.2
          clear hH hA hq hr h0 hgw hat
          have hc := (World.ownsRow.cellAt hown3 q (by omega)).trans (uvs_get (x := x) (by rw [List.getElem?_append_right (by rw [HA.out.2.1]; exact Nat.le_refl _), HA.out.2.1, Nat.sub_self]; rfl))
          have hf := World.ownsRow.frozenAt hown3 q
          have HN : Hid ((ps ++ [y]).length = q + 1 ∧ NI sz m (yx xs) (k + 1) (ps ++ [y]) C2 ∧ (wr.setCell ⟨g, q, none⟩ (.int .u64 (y : Int))).ownsRow w.heap.size 43 1 (.slice (some ⟨g, 0, none⟩) (q + 1) cap) (q + 1) (uvs (ps ++ [y])) ∧ Below w.heap.size w (wr.setCell ⟨g, q, none⟩ (.int .u64 (y : Int)))) := by
            refine ⟨by simp [HA.out.2.1], HA.out.2.2.2.2.2.2.1, ?_, hb2.setCell (by show w.heap.size ≤ g; have := Hg.out; omega) _⟩
            have h9 := (World.ownsRow.stored hown3 q (.int .u64 (y : Int))).1
            have h8 : (uvs (ps ++ [x])).set q (.int .u64 (y : Int)) = uvs (ps ++ [y]) := by
              rw [show (uvs (ps ++ [x])).set q (.int .u64 (y : Int)) = uvs ((ps ++ [x]).set q y) by simp [uvs, List.map_set], List.set_append_right _ _ (by rw [HA.out.2.1]; exact Nat.le_refl _), HA.out.2.1, Nat.sub_self]
              rfl
            rw [h8] at h9
            exact h9
          have hk1 : k + 1 ≤ m + 8 := HA.out.2.2.2.2.2.2.1.2.2.2.2.2
          have hC2 := HA.out.2.2.2.2.2.1
          clear hown3 hb2
          go_wp2_with (fail)
          go_region
          go_wp2_with (fail)
          go_region
          go_wp2_with (fail)
          go_roundw
          case rel => exact ⟨k + 1, C2, q + 1, ps ++ [y], by go_num, by go_num, by go_num, by omega, hC2, hk1, Lib.hid ⟨HN.out.1, HN.out.2.1, HN.out.2.2.1.drew.drew, HN.out.2.2.2.drew.drew⟩⟩
          case measure => simp [intOf]; omega

      · obtain rfl : C = 0 := by omega
        have he := NI_end hH.out.2.1 (by omega) HF.out.2
        have HE : Hid (V us = dsum sz m (yx xs) ∧ Sl wr (some ⟨g, 0, none⟩) L cap us ∧ Below w.heap.size w wr) := Lib.hid ⟨he, by
          obtain ⟨A', c', e', h9⟩ := Nw.sl (w := w) (⟨hH.out.1, hH.out.2.1.2.1, hH.out.2.2.1⟩ : Nw w wr _ L us)
          injection e' with e1 e2 e3
          subst e1 e3
          exact h9, hH.out.2.2.2⟩
        clear he hH hq hr hat
        go_wp2_with (fail)
        refine (yresult_ok _ L cap us _ (by omega) HE.out.2.1).mono ?_
        rintro e w2 hRs
        have HR : Hid (Rs w w2 e (dsum sz m (yx xs))) := Lib.hid (by rw [← HE.out.1]; exact hRs.from HE.out.2.2)
        obtain ⟨v, c2, rfl⟩ : ∃ v c2, e = .returned (.tuple #[v, .int .i64 c2]) := by
          obtain ⟨h9 | h9, -⟩ := hRs
          · obtain ⟨v, rfl, -⟩ := h9; exact ⟨v, 0, rfl⟩
          · exact ⟨_, 2, h9.1⟩
        clear hRs
        go_wp2_with (fail)
        go_ret2
        exact HR.out

end Go.Proofs.YthpgdpkemnhneaaDoor

namespace Go.Proofs.YthpgdpkemnhneaaDoor
open Go.RowKit Go.Shelf
set_option linter.unusedVariables false
set_option linter.unusedSimpArgs false
set_option maxRecDepth 10000

theorem dgt_sum (sz x : Nat) : ∀ m, Sm m (fun i => dgt sz x i * 2 ^ (i * sz)) = x % 2 ^ (m * sz)
  | 0 => by simp [Sm, Nat.mod_one]
  | m + 1 => by
    show Sm m (fun i => dgt sz x i * 2 ^ (i * sz)) + dgt sz x m * 2 ^ (m * sz) = _
    rw [dgt_sum sz x m, Nat.succ_mul, Nat.pow_add, Nat.mod_mul]
    unfold dgt
    rw [Nat.mul_comm sz m, Nat.mul_comm (2 ^ (m * sz))]
/-- the digits of a number make it up -/
theorem dgt_all {sz x L m : Nat} (hx : BL x L) (hs : 0 < sz) (hm : m = (L + sz - 1) / sz) : Sm m (fun i => dgt sz x i * 2 ^ (i * sz)) = x := by
  rw [dgt_sum]
  refine Nat.mod_eq_of_lt (Nat.lt_of_lt_of_le hx.1 (Nat.pow_le_pow_right (by decide) ?_))
  have h1 := Nat.div_add_mod (L + sz - 1) sz
  have h2 := Nat.mod_lt (L + sz - 1) hs
  rw [← hm, Nat.mul_comm] at h1
  omega
theorem Sm_max {c : Nat} : ∀ {k : Nat} {f : Nat → Nat}, (∀ i, i < k → f i ≤ c) → Sm k f ≤ k * c
  | 0, _, _ => by simp [Sm]
  | k + 1, f, h => by
    have h1 := Sm_max (k := k) (f := f) fun i hi => h i (by omega)
    have h2 := h k (by omega)
    rw [Nat.succ_mul]
    exact Nat.add_le_add h1 h2
theorem Sm_one {c m i : Nat} (l : Nat) {f : Nat → Nat} (h : ∀ j, f j ≤ c) : Sm l (fun j => if m = i + j then f j else 0) ≤ c := by
  by_cases h1 : i ≤ m ∧ m - i < l
  · rw [Sm_congr (g := fun j => if j = m - i then f j else 0) fun j hj => ?_, Sm_pick h1.2]
    · exact h _
    · by_cases h2 : m = i + j
      · rw [if_pos h2, if_pos (by omega)]
      · rw [if_neg h2, if_neg (by omega)]
  · rw [Sm_congr (g := fun _ => 0) fun j hj => if_neg (by omega), Sm_zero]
    omega
theorem Lc_small {k l : Nat} {a b : Nat → Nat} (hk : k ≤ 16384) (ha : ∀ i, a i < 65536) (hb : ∀ i, b i < 65536) (m : Nat) : Lc k l a b m < PP := by
  have h1 : Lc k l a b m ≤ k * 4294836225 := Sm_max fun i _ => Sm_one l fun j => Nat.le_trans (Nat.mul_le_mul (show a i ≤ 65535 by have := ha i; omega) (show b j ≤ 65535 by have := hb j; omega)) (by decide)
  have h2 : k * 4294836225 ≤ 16384 * 4294836225 := Nat.mul_le_mul_right _ hk
  have h3 : PP = 18446744069414584321 := rfl
  omega
theorem Lc_value (k l B : Nat) (a b : Nat → Nat) : Sm (k + l - 1) (fun m => Lc k l a b m * B ^ m) = Sm k (fun i => a i * B ^ i) * Sm l (fun j => b j * B ^ j) := by
  have h0 : Sm (k + l) (fun m => Lc k l a b m * B ^ m) = Sm (k + l - 1) (fun m => Lc k l a b m * B ^ m) := Sm_le (by omega) fun m hm hm2 => by rw [Lc_far (by omega), Nat.zero_mul]
  rw [← h0]
  unfold Lc
  rw [Sm_congr (g := fun m => Sm k (fun i => Sm l (fun j => (if m = i + j then a i * b j else 0) * B ^ m))) fun m _ => by rw [← Sm_mulr]; exact Sm_congr fun i _ => (Sm_mulr _ _ _).symm]
  rw [Sm_swap, ← Sm_mulr]
  refine Sm_congr fun i hi => ?_
  rw [Sm_swap, ← Sm_mul]
  refine Sm_congr fun j hj => ?_
  rw [Sm_congr (g := fun m => if m = i + j then a i * b j * B ^ m else 0) fun m _ => ?_, Sm_pick (show i + j < k + l by omega)]
  · rw [Nat.pow_add]; ac_rfl
  · split <;> simp
theorem yx_dgt (n x i : Nat) : yx (tb n (dgt 16 x)) i < 65536 := by
  rcases Nat.lt_or_ge i n with h | h
  · rw [yx_tb _ h]; exact dgt_lt 16 x i
  · rw [yx_far (by rw [tb_length]; exact h)]; decide
theorem sum_tb (n sz : Nat) (f : Nat → Nat) : Sm n (fun i => yx (tb n f) i * 2 ^ (i * sz)) = Sm n (fun i => f i * 2 ^ (i * sz)) := Sm_congr fun i hi => by rw [yx_tb _ hi]
theorem pow16 (f : Nat → Nat) (n : Nat) : Sm n (fun i => f i * 2 ^ (i * 16)) = Sm n (fun i => f i * 65536 ^ i) := Sm_congr fun i hi => by rw [Nat.mul_comm i, Nat.pow_mul]
/-- what number makes of the long product of two numbers' digits -/
theorem mul_sum {x y L L' k l : Nat} (hx : BL x L) (hy : BL y L') (hk : k = (L + 16 - 1) / 16) (hl : l = (L' + 16 - 1) / 16) (hk5 : k ≤ 16384) :
    dsum 16 (k + l - 1) (yx (tb (k + l - 1) (fun m => Lc k l (yx (tb k (dgt 16 x))) (yx (tb l (dgt 16 y))) m % PP))) = x * y := by
  unfold dsum
  rw [sum_tb, Sm_congr (g := fun m => Lc k l (yx (tb k (dgt 16 x))) (yx (tb l (dgt 16 y))) m * 2 ^ (m * 16)) fun m _ => by rw [Nat.mod_eq_of_lt (Lc_small hk5 (yx_dgt _ _) (yx_dgt _ _) m)],
    pow16, Lc_value, ← pow16, ← pow16, sum_tb, sum_tb, dgt_all hx (by decide) hk, dgt_all hy (by decide) hl]
theorem mul_zero {x L : Nat} (hx : BL x L) (hk : (L + 16 - 1) / 16 = 0) : x = 0 := by
  have h1 : L = 0 := by omega
  have h2 := hx.1
  rw [h1] at h2
  omega
theorem dsum_zero (sz : Nat) (f : Nat → Nat) : dsum sz 0 f = 0 := rfl
end Go.Proofs.YthpgdpkemnhneaaDoor

namespace Go.Proofs.YthpgdpkemnhneaaDoor
open Go.RowKit Go.Shelf
set_option linter.unusedVariables false
set_option linter.unusedSimpArgs false
set_option maxRecDepth 10000

theorem ysl_nil (w : World) : Sl w none 0 0 [] := ⟨rfl, by omega, by omega, fun x hx => (by cases hx), fun h => absurd rfl h⟩
theorem BL_digits {x L k : Nat} {xs : List Nat} {n c : Nat} {w : World} {A : Option Addr} (hx : Sl w A n c xs) (hn : n ≤ 4096) (hL : BL (V xs) L) (hk : k = (L + 16 - 1) / 16) : k ≤ 16384 := by
  have h1 := V_lt xs hx.2.2.2.1
  rw [hx.1] at h1
  have h2 : V xs < 2 ^ (64 * n) := by rw [← B64_two]; exact h1
  have h3 : L ≤ 64 * n := by
    rcases Nat.eq_zero_or_pos (V xs) with h0 | h0
    · rw [hL.2.2 h0]; omega
    · have h4 := hL.2.1 h0
      rcases Nat.lt_or_ge (64 * n) L with h5 | h5
      · exfalso
        have h6 : 2 ^ (64 * n) ≤ 2 ^ (L - 1) := Nat.pow_le_pow_right (by decide) (by omega)
        omega
      · exact h5
  omega
set_option maxHeartbeats 1000000 in
theorem YMul_ok (A A' : Option Addr) (n n' c c' : Nat) (xs ys : List Nat) (w : World) (hn : n ≤ 4096) (hn' : n' ≤ 4096) (hx : Sl w A n c xs) (hy : Sl w A' n' c' ys) (hT : TabY w) :
    Calls Tryd.prog 45 #[.slice A n c, .slice A' n' c'] w fun e w' => Rs w w' e (V xs * V ys) := by
  have Hx := Lib.hid (And.intro hx (And.intro hy hT))
  have Hk := Lib.hid (chkS_two (A := A) (A' := A') (c := c) (c' := c') hn hn')
  clear hx hy hT
  go_enter Tryd.func45, Tryd.ntmps45
  go_wp2_with (fail)
  refine (checkSizes_two A A' _ _ c c' _ _ w rfl).mono ?_
  rintro e w1 ⟨rfl, hb1⟩
  rw [Hk.out]
  have H1 := Lib.hid (And.intro (Hx.out.1.below hb1) (And.intro (Hx.out.2.1.below hb1) hb1))
  clear hb1
  go_wp2_with (fail)
  refine (digitsR_ok A n c 16 xs w1 (by omega) hn H1.out.1).mono ?_
  rintro e w2 ⟨L, hL, hR⟩
  obtain ⟨k, hk⟩ : ∃ k, k = (L + 16 - 1) / 16 := ⟨_, rfl⟩
  rw [← hk] at hR
  obtain ⟨g2, c2, rfl, hs2, hb2, -⟩ := hR.open
  have H2 := Lib.hid (And.intro hL (And.intro hk (And.intro hs2 (H1.out.2.2.trans (hb2.mono H1.out.2.2.size)))))
  clear hR hs2 hb2 hL hk
  go_wp2_with (fail)
  refine (digitsR_ok A' n' c' 16 ys w2 (by omega) hn' (Hx.out.2.1.below H2.out.2.2.2)).mono ?_
  rintro e w3 ⟨L', hL', hR⟩
  obtain ⟨l, hl⟩ : ∃ l, l = (L' + 16 - 1) / 16 := ⟨_, rfl⟩
  rw [← hl] at hR
  obtain ⟨g3, c3, rfl, hs3, hb3, -⟩ := hR.open
  have H3 := Lib.hid (And.intro hL' (And.intro hl (And.intro hs3 (And.intro (H2.out.2.2.1.below hb3) (H2.out.2.2.2.trans (hb3.mono H2.out.2.2.2.size))))))
  clear hR hs3 hb3 hL' hl
  have hk5 := BL_digits (x := 0) Hx.out.1 hn H2.out.1 H2.out.2.1
  have hl5 := BL_digits (x := 0) Hx.out.2.1 hn' H3.out.1 H3.out.2.1
  have HP : Hid (∀ (m x i : Nat), yx (tb m (dgt 16 x)) i < PP) := Lib.hid fun m x i => Nat.lt_trans (yx_dgt m x i) (by decide)
  go_wp2_with (fail)
  refine (longR_ok _ _ k l c2 c3 _ _ w3 (by omega) (by omega) H3.out.2.2.2.1 H3.out.2.2.1 (fun i _ => HP.out _ _ i) (fun i _ => HP.out _ _ i) (Hx.out.2.2.below H3.out.2.2.2.2)).mono ?_
  rintro e w4 (⟨h0, rfl, hb4⟩ | ⟨hk1, hl1, hR⟩)
  · have H4 : Hid (V xs * V ys = 0 ∧ Below w.heap.size w w4) := Lib.hid ⟨by
      rcases h0 with h0 | h0
      · rw [mul_zero H2.out.1 (by rw [← H2.out.2.1]; exact h0), Nat.zero_mul]
      · rw [mul_zero H3.out.1 (by rw [← H3.out.2.1]; exact h0), Nat.mul_zero], H3.out.2.2.2.2.trans (hb4.mono H3.out.2.2.2.2.size)⟩
    clear h0 hb4
    go_wp2_with (fail)
    refine (numberR_ok none 0 0 16 [] w4 (by omega) (by omega) (ysl_nil _)).mono ?_
    rintro e w5 hRs
    have HR : Hid (Rs w w5 e (V xs * V ys)) := Lib.hid (by rw [H4.out.1, ← dsum_zero 16 (yx [])]; exact hRs.from H4.out.2)
    obtain ⟨v, c9, rfl⟩ : ∃ v c9, e = .returned (.tuple #[v, .int .i64 c9]) := by
      obtain ⟨h9 | h9, -⟩ := hRs
      · obtain ⟨v, rfl, -⟩ := h9; exact ⟨v, 0, rfl⟩
      · exact ⟨_, 2, h9.1⟩
    clear hRs
    go_wp2_with (fail)
    go_ret2
    exact HR.out
  · obtain ⟨m, hm⟩ : ∃ m, m = k + l - 1 := ⟨_, rfl⟩
    have hsum := mul_sum H2.out.1 H3.out.1 H2.out.2.1 H3.out.2.1 hk5
    rw [← hm] at hR hsum
    obtain ⟨g4, c4, rfl, hs4, hb4, -⟩ := hR.open
    have hm5 : m ≤ 40000 := by omega
    have H4 := Lib.hid (And.intro hsum (And.intro hs4 (H3.out.2.2.2.2.trans (hb4.mono H3.out.2.2.2.2.size))))
    clear hR hs4 hb4 hsum hm
    go_wp2_with (fail)
    refine (numberR_ok _ m c4 16 _ w4 (by omega) (by omega) H4.out.2.1).mono ?_
    rintro e w5 hRs
    have HR : Hid (Rs w w5 e (V xs * V ys)) := Lib.hid (by rw [← H4.out.1]; exact hRs.from H4.out.2.2)
    obtain ⟨v, c9, rfl⟩ : ∃ v c9, e = .returned (.tuple #[v, .int .i64 c9]) := by
      obtain ⟨h9 | h9, -⟩ := hRs
      · obtain ⟨v, rfl, -⟩ := h9; exact ⟨v, 0, rfl⟩
      · exact ⟨_, 2, h9.1⟩
    clear hRs
    go_wp2_with (fail)
    go_ret2
    exact HR.out
end Go.Proofs.YthpgdpkemnhneaaDoor


namespace Go.Proofs.YthpgdpkemnhneaaDoor
open Go.RowKit Go.Shelf
set_option linter.unusedVariables false
set_option linter.unusedSimpArgs false
set_option maxRecDepth 10000

theorem same_step {xs ys : List Nat} {k x y : Nat} (h : xs.take k = ys.take k) (hx : xs[k]? = some x) (hy : ys[k]? = some y) (he : x = y) : xs.take (k + 1) = ys.take (k + 1) := by
  rw [List.take_add_one, List.take_add_one, h, hx, hy, he]
set_option maxHeartbeats 1000000 in
theorem same_ok (A A' : Option Addr) (n n' c c' : Nat) (xs ys : List Nat) (w : World) (hn : n ≤ 1000000) (hn' : n' ≤ 1000000) (hx : Sl w A n c xs) (hy : Sl w A' n' c' ys) :
    Calls Tryd.prog 14 #[.slice A n c, .slice A' n' c'] w fun e w' => e = .returned (.bool (decide (xs = ys))) ∧ Below w.heap.size w w' := by
  have Hx := Lib.hid (And.intro hx hy)
  clear hx hy
  by_cases hnn : n = n'
  · subst hnn
    go_enter Tryd.func14, Tryd.ntmps14
    go_wp2_with (fail)
    go_loopw [5] (fun iv wr => ∃ k : Nat, k ≤ n ∧ iv = .int .i64 k ∧ Hid (xs.take k = ys.take k ∧ Below w.heap.size w wr)) (fun iv _ => n - (intOf iv).toNat)
    case atStart => exact ⟨0, Nat.zero_le _, rfl, Lib.hid ⟨by simp, Below.refl _ _⟩⟩
    case round =>
      obtain ⟨k, hk, rfl, hH⟩ := hrel
      by_cases hlt : k < n
      · have hki : (k : Int) < n := by omega
        obtain ⟨x, hxk, hxB, -⟩ := Hx.out.1.get hlt
        obtain ⟨y, hyk, hyB, -⟩ := Hx.out.2.get hlt
        obtain ⟨b, o, rfl, -, hcx⟩ := (Hx.out.1.below hH.out.2).2.2.2.2.at (uvs_get hxk)
        obtain ⟨b', o', rfl, -, hcy⟩ := (Hx.out.2.below hH.out.2).2.2.2.2.at (uvs_get hyk)
        have HK := Lib.hid (And.intro hxk hyk)
        clear hxk hyk
        by_cases hxy : x = y
        · have HS : Hid (xs.take (k + 1) = ys.take (k + 1)) := Lib.hid (same_step hH.out.1 HK.out.1 HK.out.2 hxy)
          subst hxy
          have hb := Lib.hid hH.out.2
          clear hH
          go_wp2_with (fail)
          go_region
          go_wp2_with (fail)
          go_roundw
          case rel => exact ⟨k + 1, by omega, by go_num, Lib.hid ⟨HS.out, hb.out.drew⟩⟩
          case measure => simp [intOf]; omega
        · have hxb : ((x : Int) == (y : Int)) = false := by simp; omega
          have hxi : ¬ (x : Int) = (y : Int) := by omega
          have HS : Hid (xs ≠ ys) := Lib.hid fun e => hxy (by have := HK.out.1; rw [e, HK.out.2] at this; injection this with this; exact this.symm)
          have hb := Lib.hid hH.out.2
          clear hH hxy
          go_wp2_with (fail)
          go_region
          go_wp2_with (fail)
          go_ret
          exact ⟨by rw [decide_eq_false HS.out]; rfl, hb.out.drew⟩
      · have hki : ¬ (k : Int) < n := by omega
        obtain rfl : k = n := by omega
        have HS : Hid (xs = ys ∧ Below w.heap.size w wr) := Lib.hid ⟨by
          have := hH.out.1
          rwa [List.take_of_length_le (by rw [Hx.out.1.1]; exact Nat.le_refl _), List.take_of_length_le (by rw [Hx.out.2.1]; exact Nat.le_refl _)] at this, hH.out.2⟩
        clear hH
        go_wp2_with (fail)
        go_ret
        exact ⟨by rw [decide_eq_true HS.out.1]; rfl, HS.out.2⟩
  · have hni : ((n : Int) == (n' : Int)) = false := by simp; omega
    have hni2 : ¬ (n : Int) = (n' : Int) := by omega
    have HS : Hid (xs ≠ ys) := Lib.hid fun e => hnn (by rw [← Hx.out.1.1, ← Hx.out.2.1, e])
    clear hnn
    go_enter Tryd.func14, Tryd.ntmps14
    go_wp2_with (fail)
    go_ret
    exact ⟨by rw [decide_eq_false HS.out]; rfl, Below.refl _ _⟩

set_option maxHeartbeats 400000 in
theorem yfew_any (A : Option Addr) (n c : Nat) (m : Nat) (xs : List Nat) (w : World) (hn : xs.length = n) (hnc : n ≤ c) (hc : c ≤ 9223372036854775807) (hm : m ≤ 4096)
    (hr : Rd w w.heap.size A (uvs xs)) :
    Calls Tryd.prog 9 #[.slice A n c, .int .i64 m] w fun e w' => ∃ v, e = .returned v ∧ w'.ownsRow w.heap.size 43 1 v (xs.take m).length (uvs (xs.take m)) ∧ Below w.heap.size w w' := by
  obtain ⟨i0, hi, hz0, hz1, hz2⟩ := info_parts Tryd.info43
  have Hn := Lib.hid hn
  clear hn
  rcases Nat.lt_or_ge m n with hlt | hge
  · have hmin : min (n : Int) (m : Int) = (m : Int) := by omega
    have hl : (uvs (xs.take m)).length = m := by rw [uvs_length, List.length_take, Hn.out]; omega
    have hr2 : Rd w w.heap.size A (uvs (xs.take m)) := by rw [uvs_take]; exact hr.take m
    have Hl := Lib.hid hl
    have Hr := Lib.hid hr2
    clear hl hr hr2
    go_enter Tryd.func9, Tryd.ntmps9
    go_wp2_with (at_builtin; refine wpList_append_rd _ rfl (.tmp 6) (.tmp 12) 22 rfl w.heap.size 43 i0 (.int .u64 0) Tryd.underlying22 hi hz0 hz1 hz2 rfl _ 0 [] rfl (World.ownsRow_nil _ _ _ _) w.heap.size A m c (uvs (xs.take m)) rfl Hl.out Hr.out (uvs_one _) (by omega) (by omega) ?_)
    intro v' w' hown hgrow hblk
    go_wp2
    go_ret
    refine ⟨v', rfl, ?_, (Below.refl _ _).grown hgrow (Nat.le_refl _) (by intro k hk; cases hk)⟩
    have := Hl.out
    rw [uvs_length] at this
    rw [this]
    simpa using hown
  · have hmin : min (n : Int) (m : Int) = (n : Int) := by omega
    have hl : (uvs xs).length = n := by rw [uvs_length, Hn.out]
    have Hl := Lib.hid hl
    have Hr := Lib.hid hr
    clear hl hr
    go_enter Tryd.func9, Tryd.ntmps9
    go_wp2_with (at_builtin; refine wpList_append_rd _ rfl (.tmp 6) (.tmp 12) 22 rfl w.heap.size 43 i0 (.int .u64 0) Tryd.underlying22 hi hz0 hz1 hz2 rfl _ 0 [] rfl (World.ownsRow_nil _ _ _ _) w.heap.size A n c (uvs xs) rfl Hl.out Hr.out (uvs_one _) (by omega) (by omega) ?_)
    intro v' w' hown hgrow hblk
    go_wp2
    go_ret
    refine ⟨v', rfl, ?_, (Below.refl _ _).grown hgrow (Nat.le_refl _) (by intro k hk; cases hk)⟩
    rw [List.take_of_length_le (by rw [Hn.out]; exact hge), Hn.out]
    simpa using hown
theorem yfew_ok (A : Option Addr) (n c : Nat) (m : Nat) (xs : List Nat) (w : World) (hx : Sl w A n c xs) (hm : m ≤ 4096) :
    Calls Tryd.prog 9 #[.slice A n c, .int .i64 m] w fun e w' => ∃ v, e = .returned v ∧ Nw w w' v (min m n) (xs.take m) ∧ Below w.heap.size w w' := by
  refine (yfew_any A n c m xs w hx.1 hx.2.1 hx.2.2.1 hm hx.2.2.2.2).mono ?_
  rintro e w' ⟨v, rfl, ho, hb⟩
  have hl : (xs.take m).length = min m n := by rw [List.length_take, hx.1]
  exact ⟨v, rfl, ⟨hl, Ws_take hx.2.2.2.1 m, hl ▸ ho⟩, hb⟩
end Go.Proofs.YthpgdpkemnhneaaDoor

namespace Go.Proofs.YthpgdpkemnhneaaDoor
open Go.RowKit Go.Shelf
set_option linter.unusedVariables false
set_option linter.unusedSimpArgs false
set_option maxRecDepth 10000

theorem yrow (w : World) (xs : List Nat) (t : TypeId) (hw : Ws xs) (hl : xs.length ≤ 1000) : Sl (w.alloc (.cells (uvs xs).toArray t)) (some ⟨w.heap.size, 0, none⟩) xs.length xs.length xs :=
  ⟨rfl, Nat.le_refl _, by omega, hw, fun _ => ⟨w.heap.size, 0, rfl, by simp, fun j u hj => by simpa [Addr.add] using hj⟩⟩
theorem ws_of (xs : List Nat) (h : xs.all (fun x => decide (x < B64)) = true) : Ws xs := fun x hx => by
  have := List.all_eq_true.1 h x hx
  simpa using this
theorem rt_1 : rt 1 = 18446744069414584320 := Eqm.eq (rt_one.trans (.of_eq (by decide))) (rt_lt 1) (by decide)
theorem rt_2 : rt 2 = 281474976710656 := by
  obtain ⟨e, he⟩ : ∃ e : Nat, e = 4611686017353646080 := ⟨_, rfl⟩
  rw [rt_of (k := 2) (e := e) (by rw [he]; decide)]
  have := pm_eq 64 7 e 1 (by rw [he]; decide)
  rw [Nat.one_mul] at this
  rw [← this, he]
  decide +kernel
theorem two_inj {k j : Nat} (h : 2 ^ k = 2 ^ j) : k = j := by
  rcases Nat.lt_trichotomy k j with h1 | h1 | h1
  · have := Nat.pow_lt_pow_right (a := 2) (by decide) h1
    omega
  · exact h1
  · have := Nat.pow_lt_pow_right (a := 2) (by decide) h1
    omega
theorem Root_two (w : World) : Calls Tryd.prog 33 #[.int .i64 2] w fun e w' => e = .returned (.tuple #[.int .u64 18446744069414584320, .int .i64 0]) ∧ Below w.heap.size w w' := by
  refine (YRoot_ok 2 w (by omega) (by omega)).mono ?_
  rintro e w' ⟨⟨k, hk, h2, rfl⟩ | ⟨h, -⟩, hb⟩
  · obtain rfl : k = 1 := two_inj (show 2 ^ k = 2 ^ 1 by omega)
    rw [rt_1]
    exact ⟨rfl, hb⟩
  · exact absurd ⟨1, by omega, rfl⟩ h
theorem Root_four (w : World) : Calls Tryd.prog 33 #[.int .i64 4] w fun e w' => e = .returned (.tuple #[.int .u64 281474976710656, .int .i64 0]) ∧ Below w.heap.size w w' := by
  refine (YRoot_ok 4 w (by omega) (by omega)).mono ?_
  rintro e w' ⟨⟨k, hk, h2, rfl⟩ | ⟨h, -⟩, hb⟩
  · obtain rfl : k = 2 := two_inj (show 2 ^ k = 2 ^ 2 by omega)
    rw [rt_2]
    exact ⟨rfl, hb⟩
  · exact absurd ⟨2, by omega, rfl⟩ h
/-- an answer that is a new list of known elements -/
def Ya (w w' : World) (e : Ending) (n : Nat) (zs : List Nat) : Prop := ∃ g c, e = .returned (.tuple #[.slice (some ⟨g, 0, none⟩) n c, .int .i64 0]) ∧ Sl w' (some ⟨g, 0, none⟩) n c zs ∧ Below w.heap.size w w'
theorem YR.ya {w0 w w' : World} {e : Ending} {n : Nat} {f : Nat → Nat} {zs : List Nat} (h : YR w w' e n f) (hb : Below w0.heap.size w0 w) (hz : tb n f = zs) : Ya w0 w' e n zs := by
  obtain ⟨g, c, rfl, h1, h2, h3, h4, h5⟩ := h
  subst hz
  exact ⟨g, c, rfl, h3.sl h1 h2, hb.trans (h5.mono hb.size)⟩
theorem w12 : Ws [1, 2] := ws_of _ (by decide)
theorem w34 : Ws [3, 4] := ws_of _ (by decide)
theorem res_of {n : Nat} (xs : List Nat) (h : xs.all (fun x => decide (x < PP)) = true) (hl : xs.length = n) : ∀ i, i < n → yx xs i < PP := (rs1_iff hl).1 (by
  first | exact h | simpa [Rs1] using h)
theorem Transform_aw (w : World) (hT : TabY w) : Calls Tryd.prog 10 #[.slice (some ⟨w.heap.size, 0, none⟩) 2 2] (w.alloc (.cells #[.int .u64 1, .int .u64 2] 43)) fun e w' => Ya w w' e 2 [3, 18446744069414584320] := by
  have hb : Below w.heap.size w (w.alloc (.cells #[.int .u64 1, .int .u64 2] 43)) := (Below.refl _ _).alloc (Nat.le_refl _) _
  refine (YTransform_ok _ 2 2 1 [1, 2] _ (by omega) rfl (yrow w [1, 2] 43 w12 (by decide)) (res_of _ (by decide) rfl) (hT.below hb)).mono ?_
  rintro e w' h
  refine h.ya hb ?_
  rw [show tb 2 (Tr 2 (rt 1) (yx [1, 2])) = [Tr 2 (rt 1) (yx [1, 2]) 0, Tr 2 (rt 1) (yx [1, 2]) 1] from rfl, rt_1]
  decide +kernel
theorem args_aw (w : World) : Below w.heap.size w ((w.alloc (.cells #[.int .u64 1, .int .u64 2] 43)).alloc (.cells #[.int .u64 3, .int .u64 4] 43)) ∧ Sl ((w.alloc (.cells #[.int .u64 1, .int .u64 2] 43)).alloc (.cells #[.int .u64 3, .int .u64 4] 43)) (some ⟨w.heap.size, 0, none⟩) 2 2 [1, 2] ∧ Sl ((w.alloc (.cells #[.int .u64 1, .int .u64 2] 43)).alloc (.cells #[.int .u64 3, .int .u64 4] 43)) (some ⟨w.heap.size + 1, 0, none⟩) 2 2 [3, 4] := by
  have hb : Below w.heap.size w (w.alloc (.cells #[.int .u64 1, .int .u64 2] 43)) := (Below.refl _ _).alloc (Nat.le_refl _) _
  have hb2 : Below (w.alloc (.cells #[.int .u64 1, .int .u64 2] 43)).heap.size (w.alloc (.cells #[.int .u64 1, .int .u64 2] 43)) ((w.alloc (.cells #[.int .u64 1, .int .u64 2] 43)).alloc (.cells #[.int .u64 3, .int .u64 4] 43)) := (Below.refl _ _).alloc (Nat.le_refl _) _
  have h2 := yrow (w.alloc (.cells #[.int .u64 1, .int .u64 2] 43)) [3, 4] 43 w34 (by decide)
  rw [World.size_alloc] at h2
  exact ⟨hb.trans (hb2.mono hb.size), Sl.below (yrow w [1, 2] 43 w12 (by decide)) hb2, h2⟩
theorem Round_aw (w : World) (hT : TabY w) : Calls Tryd.prog 19 #[.slice (some ⟨w.heap.size, 0, none⟩) 2 2, .slice (some ⟨w.heap.size + 1, 0, none⟩) 2 2] ((w.alloc (.cells #[.int .u64 1, .int .u64 2] 43)).alloc (.cells #[.int .u64 3, .int .u64 4] 43)) fun e w' => Ya w w' e 2 [11, 10] := by
  obtain ⟨hb, h1, h2⟩ := args_aw w
  refine (YRound_ok _ _ 2 2 2 1 [1, 2] [3, 4] _ (by omega) rfl h1 h2 (res_of _ (by decide) rfl) (res_of _ (by decide) rfl) (hT.below hb)).mono ?_
  rintro e w' h
  exact h.ya hb (by decide +kernel)
theorem Turned_aw (w : World) (hT : TabY w) : Calls Tryd.prog 20 #[.slice (some ⟨w.heap.size, 0, none⟩) 2 2, .slice (some ⟨w.heap.size + 1, 0, none⟩) 2 2] ((w.alloc (.cells #[.int .u64 1, .int .u64 2] 43)).alloc (.cells #[.int .u64 3, .int .u64 4] 43)) fun e w' => Ya w w' e 2 [18446744069414584316, 10] := by
  obtain ⟨hb, h1, h2⟩ := args_aw w
  refine (YTurned_ok _ _ 2 2 2 1 [1, 2] [3, 4] _ (by omega) rfl h1 h2 (res_of _ (by decide) rfl) (res_of _ (by decide) rfl) (hT.below hb)).mono ?_
  rintro e w' h
  exact h.ya hb (by decide +kernel)
theorem Long_aw (w : World) (hT : TabY w) : Calls Tryd.prog 21 #[.slice (some ⟨w.heap.size, 0, none⟩) 2 2, .slice (some ⟨w.heap.size + 1, 0, none⟩) 2 2] ((w.alloc (.cells #[.int .u64 1, .int .u64 2] 43)).alloc (.cells #[.int .u64 3, .int .u64 4] 43)) fun e w' => Ya w w' e 3 [3, 10, 8] := by
  obtain ⟨hb, h1, h2⟩ := args_aw w
  refine (YLong_ok _ _ 2 2 2 2 [1, 2] [3, 4] _ (by omega) (by omega) h1 h2 (res_of _ (by decide) rfl) (res_of _ (by decide) rfl) (hT.below hb)).mono ?_
  rintro e w' h
  exact h.ya hb (by decide +kernel)
theorem Mul_aw (w : World) (hT : TabY w) : Calls Tryd.prog 45 #[.slice (some ⟨w.heap.size, 0, none⟩) 3 3, .slice (some ⟨w.heap.size + 1, 0, none⟩) 2 2] ((w.alloc (.cells #[.int .u64 1, .int .u64 2, .int .u64 3] 43)).alloc (.cells #[.int .u64 4, .int .u64 5] 43)) fun e w' => ∃ A n c zs, e = .returned (.tuple #[.slice A n c, .int .i64 0]) ∧ Nu w w' A n c zs (V [4, 13, 22, 15]) := by
  have hb : Below w.heap.size w (w.alloc (.cells #[.int .u64 1, .int .u64 2, .int .u64 3] 43)) := (Below.refl _ _).alloc (Nat.le_refl _) _
  have hb2 : Below (w.alloc (.cells #[.int .u64 1, .int .u64 2, .int .u64 3] 43)).heap.size (w.alloc (.cells #[.int .u64 1, .int .u64 2, .int .u64 3] 43)) ((w.alloc (.cells #[.int .u64 1, .int .u64 2, .int .u64 3] 43)).alloc (.cells #[.int .u64 4, .int .u64 5] 43)) := (Below.refl _ _).alloc (Nat.le_refl _) _
  have h1 := yrow w [1, 2, 3] 43 (ws_of _ (by decide)) (by decide)
  have h2 := yrow (w.alloc (.cells #[.int .u64 1, .int .u64 2, .int .u64 3] 43)) [4, 5] 43 (ws_of _ (by decide)) (by decide)
  rw [World.size_alloc] at h2
  have hbb := hb.trans (hb2.mono hb.size)
  refine (YMul_ok _ _ 3 2 3 2 [1, 2, 3] [4, 5] _ (by omega) (by omega) (Sl.below h1 hb2) h2 (hT.below hbb)).mono ?_
  rintro e w' hR
  rw [show V [1, 2, 3] * V [4, 5] = V [4, 13, 22, 15] by decide] at hR
  obtain ⟨A, n, c, zs, rfl, h3⟩ := hR.open (Big_of (k := 4) (by decide) (by omega))
  exact ⟨A, n, c, zs, rfl, h3.from hbb⟩
/-- same of a list and what it ought to be -/
theorem same_aw4 (w w1 : World) (A : Option Addr) (n m c : Nat) (zs : List Nat) (h : Sl w A n c zs) (hw : Ws zs) (hl : zs.length ≤ 1000) (h1 : w1 = w.alloc (.cells (uvs zs).toArray 43)) (hm : m = zs.length) (hn : n ≤ 1000) :
    Calls Tryd.prog 14 #[.slice A n c, .slice (some ⟨w.heap.size, 0, none⟩) m m] w1 fun e w' => e = .returned (.bool true) ∧ Below w.heap.size w w' := by
  subst h1 hm
  have hb : Below w.heap.size w (w.alloc (.cells (uvs zs).toArray 43)) := (Below.refl _ _).alloc (Nat.le_refl _) _
  refine (same_ok A _ n _ c _ zs zs _ (by omega) (by omega) (h.below hb) (yrow w zs 43 hw hl)).mono ?_
  rintro e w' ⟨rfl, hb2⟩
  exact ⟨by rw [decide_eq_true rfl], hb.trans (hb2.mono hb.size)⟩
/-- Is of a number and what it ought to be -/
theorem is_aw4 (w0 w w1 : World) (A : Option Addr) (n m c : Nat) (zs ys : List Nat) (h : Nu w0 w A n c zs (V ys)) (hw : Ws ys) (hl : ys.length ≤ 1000) (h1 : w1 = w.alloc (.cells (uvs ys).toArray 43)) (hm : m = ys.length) :
    Calls Tryd.prog 29 #[.slice A n c, .slice (some ⟨w.heap.size, 0, none⟩) m m] w1 fun e w' => e = .returned (.bool true) ∧ Below w.heap.size w w' := by
  subst h1 hm
  have hb : Below w.heap.size w (w.alloc (.cells (uvs ys).toArray 43)) := (Below.refl _ _).alloc (Nat.le_refl _) _
  have h2 := h.keep hb
  refine (Is_ok A _ n _ c _ zs ys _ h2.2.2.2.1 (by omega) h2.1 (yrow w ys 43 hw hl) h2.2.1 h2.2.2.1).mono ?_
  rintro e w' ⟨rfl, hb2⟩
  exact ⟨rfl, hb.trans (hb2.mono hb.size)⟩
end Go.Proofs.YthpgdpkemnhneaaDoor

namespace Go.Proofs.YthpgdpkemnhneaaDoor
open Go.RowKit Go.Shelf
set_option linter.unusedVariables false
set_option linter.unusedSimpArgs false
set_option maxRecDepth 100000

set_option maxHeartbeats 4000000 in
theorem yawake_any (w : World) (hT : TabY w) : Calls Tryd.prog 18 #[] w fun e w' => e = .returned (.bool true) ∧ Below w.heap.size w w' := by
  have HT := Lib.hid hT
  clear hT
  go_enter Tryd.func18, Tryd.ntmps18
  go_wp2_with (fail)
  refine (Root_two _).mono ?_
  rintro e w1 ⟨rfl, hb1⟩
  have H1 := Lib.hid hb1
  clear hb1
  go_wp2_with (fail)
  refine (Root_four _).mono ?_
  rintro e w2 ⟨rfl, hb2⟩
  have H2 := Lib.hid (H1.out.trans (hb2.mono H1.out.size))
  clear hb2 H1
  go_wp2_with (fail)
  refine (Transform_aw _ (HT.out.below H2.out)).mono ?_
  rintro e w3 ⟨g3, c3, rfl, h3, hb3⟩
  have H3 := Lib.hid (And.intro h3 (H2.out.trans (hb3.mono H2.out.size)))
  clear h3 hb3 H2
  go_wp2_with (fail)
  refine (Round_aw _ (HT.out.below H3.out.2)).mono ?_
  rintro e w4 ⟨g4, c4, rfl, h4, hb4⟩
  have H4 := Lib.hid (And.intro h4 (And.intro (H3.out.1.below hb4) (H3.out.2.trans (hb4.mono H3.out.2.size))))
  clear h4 hb4 H3
  go_wp2_with (fail)
  refine (Turned_aw _ (HT.out.below H4.out.2.2)).mono ?_
  rintro e w5 ⟨g5, c5, rfl, h5, hb5⟩
  have H5 := Lib.hid (And.intro h5 (And.intro (H4.out.1.below hb5) (And.intro (H4.out.2.1.below hb5) (H4.out.2.2.trans (hb5.mono H4.out.2.2.size)))))
  clear h5 hb5 H4
  go_wp2_with (fail)
  refine (Long_aw _ (HT.out.below H5.out.2.2.2)).mono ?_
  rintro e w6 ⟨g6, c6, rfl, h6, hb6⟩
  have H6 := Lib.hid (And.intro h6 (And.intro (H5.out.1.below hb6) (And.intro (H5.out.2.1.below hb6) (And.intro (H5.out.2.2.1.below hb6) (H5.out.2.2.2.trans (hb6.mono H5.out.2.2.2.size))))))
  clear h6 hb6 H5
  go_wp2_with (fail)
  refine (Mul_aw _ (HT.out.below H6.out.2.2.2.2)).mono ?_
  rintro e w7 ⟨A7, n7, c7, zs, rfl, h7⟩
  have hb7 := h7.bel
  have H7 := Lib.hid (And.intro h7 (And.intro (H6.out.1.below hb7) (And.intro (H6.out.2.1.below hb7) (And.intro (H6.out.2.2.1.below hb7) (And.intro (H6.out.2.2.2.1.below hb7) (H6.out.2.2.2.2.trans (hb7.mono H6.out.2.2.2.2.size)))))))
  clear h7 hb7 H6
  go_wp2_with (fail)
  refine (same_aw4 _ _ _ 2 2 c3 _ H7.out.2.2.2.2.1 (ws_of _ (by decide)) (by decide) rfl rfl (by omega)).mono ?_
  rintro e w8 ⟨rfl, hb8⟩
  have H8 := Lib.hid (And.intro (H7.out.1.keep hb8) (And.intro (H7.out.2.1.below hb8) (And.intro (H7.out.2.2.1.below hb8) (And.intro (H7.out.2.2.2.1.below hb8) (H7.out.2.2.2.2.2.trans (hb8.mono H7.out.2.2.2.2.2.size))))))
  clear hb8 H7
  go_wp2_with (fail)
  refine (same_aw4 _ _ _ 2 2 c4 _ H8.out.2.2.2.1 (ws_of _ (by decide)) (by decide) rfl rfl (by omega)).mono ?_
  rintro e w9 ⟨rfl, hb9⟩
  have H9 := Lib.hid (And.intro (H8.out.1.keep hb9) (And.intro (H8.out.2.1.below hb9) (And.intro (H8.out.2.2.1.below hb9) (H8.out.2.2.2.2.trans (hb9.mono H8.out.2.2.2.2.size)))))
  clear hb9 H8
  go_wp2_with (fail)
  refine (same_aw4 _ _ _ 2 2 c5 _ H9.out.2.2.1 (ws_of _ (by decide)) (by decide) rfl rfl (by omega)).mono ?_
  rintro e w10 ⟨rfl, hb10⟩
  have H10 := Lib.hid (And.intro (H9.out.1.keep hb10) (And.intro (H9.out.2.1.below hb10) (H9.out.2.2.2.trans (hb10.mono H9.out.2.2.2.size))))
  clear hb10 H9
  go_wp2_with (fail)
  refine (same_aw4 _ _ _ 3 3 c6 _ H10.out.2.1 (ws_of _ (by decide)) (by decide) rfl rfl (by omega)).mono ?_
  rintro e w11 ⟨rfl, hb11⟩
  have H11 := Lib.hid (And.intro (H10.out.1.keep hb11) (H10.out.2.2.trans (hb11.mono H10.out.2.2.size)))
  clear hb11 H10
  go_wp2_with (fail)
  refine (is_aw4 _ _ _ A7 n7 4 c7 zs [4, 13, 22, 15] H11.out.1 (ws_of _ (by decide)) (by decide) rfl rfl).mono ?_
  rintro e w12 ⟨rfl, hb12⟩
  have H12 := Lib.hid (H11.out.2.trans (hb12.mono H11.out.2.size))
  clear hb12 H11
  go_wp2_with (fail)
  go_ret
  exact ⟨rfl, H12.out⟩
end Go.Proofs.YthpgdpkemnhneaaDoor
