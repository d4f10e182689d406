/- The ends with ErrSize of package fast. -/
import Derived.Test.YthpgdpkemnhneaaGreatDoorZFVal
import Derived.Test.YthpgdpkemnhneaaGreatDoorZFSplit
import Derived.Test.YthpgdpkemnhneaaGreatDoorZFLm
namespace Go.Proofs.YthpgdpkemnhneaaGreatDoor
open Go.RowKit Go.Shelf
set_option linter.unusedVariables false
set_option linter.unusedSimpArgs false
set_option maxRecDepth 10000

set_option maxHeartbeats 1000000 in
theorem Split_big (A : Option Addr) (n c : Nat) (s : Int) (w : World) (h : 4096 < n) :
    Calls Tryz.prog 5 #[.slice A n c, .int .i64 s] w fun e w' => e = .returned (.tuple #[.slice none 0 0, .int .i64 2]) ∧ Below w.heap.size w w' := by
  have HC := Lib.hid (chkS_one_big (A := A) (c := c) h)
  go_enter Tryz.func5, Tryz.ntmps5
  go_wp2_with (fail)
  refine (fcheck_one A n c _ _ w rfl).mono ?_
  rintro e w1 ⟨rfl, hb1⟩
  rw [HC.out]
  have H1 := Lib.hid hb1
  clear hb1
  go_wp2_with (fail)
  go_ret2
  exact ⟨rfl, H1.out⟩
set_option maxHeartbeats 1000000 in
theorem Join_big (ls : List (Option Addr × Nat × Nat)) (A : Option Addr) (m c : Nat) (s : Int) (w : World) (hl : ls.length = m) (hm : m ≤ 5000) (hr : Rd w w.heap.size A (svs ls)) (h : chkS ls = 2) :
    Calls Tryz.prog 6 #[.slice A m c, .int .i64 s] w fun e w' => e = .returned (.tuple #[.slice none 0 0, .int .i64 2]) ∧ Below w.heap.size w w' := by
  have HC := Lib.hid (And.intro (fcheck_any ls A m c w hl (by omega) hr) h)
  clear hl hr h
  go_enter Tryz.func6, Tryz.ntmps6
  go_wp2_with (fail)
  refine HC.out.1.mono ?_
  rintro e w1 ⟨rfl, rfl⟩
  rw [HC.out.2]
  go_wp2_with (fail)
  go_ret2
  exact ⟨rfl, Below.refl _ _⟩
set_option maxHeartbeats 1000000 in
theorem FMul_big (A A' : Option Addr) (n n' c c' : Nat) (w : World) (h : 4096 < n ∨ 4096 < n') :
    Calls Tryz.prog 13 #[.slice A n c, .slice A' n' c'] w fun e w' => e = .returned (.tuple #[.slice none 0 0, .int .i64 2]) ∧ Below w.heap.size w w' := by
  have HC := Lib.hid (chkS_two_big (A := A) (A' := A') (c := c) (c' := c') h)
  clear h
  go_enter Tryz.func13, Tryz.ntmps13
  go_wp2_with (fail)
  refine (fcheck_two A A' n n' c c' _ _ w rfl).mono ?_
  rintro e w1 ⟨rfl, hb1⟩
  rw [HC.out]
  have H1 := Lib.hid hb1
  clear hb1
  go_wp2_with (fail)
  go_ret2
  exact ⟨rfl, H1.out⟩
set_option maxHeartbeats 1000000 in
theorem LowMul_big (A A' : Option Addr) (n n' c c' : Nat) (s : Int) (w : World) (h : 4096 < n ∨ 4096 < n') :
    Calls Tryz.prog 14 #[.slice A n c, .slice A' n' c', .int .i64 s] w fun e w' => e = .returned (.tuple #[.slice none 0 0, .int .i64 2]) ∧ Below w.heap.size w w' := by
  have HC := Lib.hid (chkS_two_big (A := A) (A' := A') (c := c) (c' := c') h)
  clear h
  go_enter Tryz.func14, Tryz.ntmps14
  go_wp2_with (fail)
  refine (fcheck_two A A' n n' c c' _ _ w rfl).mono ?_
  rintro e w1 ⟨rfl, hb1⟩
  rw [HC.out]
  have H1 := Lib.hid hb1
  clear hb1
  go_wp2_with (fail)
  go_ret2
  exact ⟨rfl, H1.out⟩
/-- what a call answers that refuses integers -/
def sn0 : Sn := ⟨false, none, 0, 0, []⟩
def Z2 (w w' : World) (z : Ending) : Prop := ∃ a b c d e : Sn, z = .returned (.tuple #[snV a b c d e, .int .i64 2]) ∧ Below w.heap.size w w'
theorem chkZ_big {al : List Sn} {a : Sn} (ha : a ∈ al) (h : 4096 < a.n) : chkZ al = 2 := by
  rw [chkZ, if_pos]
  exact List.any_eq_true.2 ⟨a, ha, by simpa using h⟩
set_option maxHeartbeats 1000000 in
theorem FValue_big (al : List Sn) (A : Option Addr) (m c : Nat) (t : Int) (w : World) (hm : m ≤ 100000) (hx : Zl w A m c al) (hn : chkZ al = 2) :
    Calls Tryz.prog 7 #[.slice A m c, .int .i64 t] w fun e w' => e = .returned (.tuple #[.agg #[.bool false, .slice none 0 0], .int .i64 2]) ∧ Below w.heap.size w w' := by
  have HC := Lib.hid hn
  have Hx := Lib.hid hx
  have HB := Lib.hid (VBx.new w t)
  clear hx hn
  go_enter Tryz.func7, Tryz.ntmps7
  go_wp2_with (fail)
  refine (checkInts_ok al A m c _ hm (Hx.out.below HB.out.2.2.1)).mono ?_
  rintro e w1 ⟨rfl, hb1⟩
  rw [HC.out]
  have H1 := Lib.hid (HB.out.below hb1)
  clear hb1 HB
  obtain ⟨c0, f0⟩ := H1.out.1
  obtain ⟨p0, q0⟩ := H1.out.2.1 0 _ rfl
  obtain ⟨p1, q1⟩ := H1.out.2.1 1 _ rfl
  have HR := Lib.hid ((H1.out.2.2.1.setCell (p := ⟨w.heap.size + 1, 0, none⟩) (by show w.heap.size ≤ w.heap.size + 1; omega) (.bool false)).setCell (p := ⟨w.heap.size + 1, 1, none⟩) (by show w.heap.size ≤ w.heap.size + 1; omega) (.slice none 0 0))
  clear H1
  go_wp2_with (fail)
  exact bodyPost_ret (v := .tuple #[.agg #[.bool false, .slice none 0 0], .int .i64 2]) (by simp [results, Tryz.results7, go_sem, World.cell?_setCell_same', p0, p1]) rfl ⟨rfl, HR.out⟩
set_option maxHeartbeats 1000000 in
theorem FFive_big (al : List Sn) (A : Option Addr) (m c : Nat) (w : World) (hm : m ≤ 100000) (hx : Zl w A m c al) (hn : chkZ al = 2) :
    Calls Tryz.prog 8 #[.slice A m c] w fun e w' => Z2 w w' e := by
  have Hx := Lib.hid hx
  have HC := Lib.hid hn
  have hb0 : Below w.heap.size w (w.alloc (.cells zero10.toArray 36)) := (Below.refl _ _).alloc (Nat.le_refl _) _
  have HZ := Lib.hid (And.intro (hx.below hb0) (And.intro hb0 (Bk.new w zero10 36)))
  clear hx hn hb0
  go_enter Tryz.func8, Tryz.ntmps8
  go_wp2_with (fail)
  refine (checkInts_ok al A m c _ hm HZ.out.1).mono ?_
  rintro e w1 ⟨rfl, hb1⟩
  rw [HC.out]
  have H1 := Lib.hid (And.intro (HZ.out.2.1.trans (hb1.mono HZ.out.2.1.size)) (show World.there w1 w.heap.size 0 zero10.toArray.size from (HZ.out.2.2.below hb1 (by simp)).there))
  clear hb1 HZ
  go_wp2_with (first | (with_reducible show wpList _ _ _ (Oper.mk none (Op.store _ _ _) _ _ _ _ :: _) _ _; refine wpList_store_mid rfl 36 _ _ rfl w.heap.size 0 zero10.toArray rfl rfl H1.out.2 (by kernel_rfl) (by simp [zero10, Value.oneCell']) ?_; obtain ⟨W8, hW8⟩ : ∃ W8, w1.setCells w.heap.size 0 zero10 = W8 := ⟨_, rfl⟩; rw [hW8]; have HW := Lib.hid hW8; clear hW8))
  obtain rfl := HW.out
  have hl := run_loadVar_mid (P := Tryz.prog) (w1.setCells w.heap.size 0 zero10) w.heap.size 0 36 zero10 _ (World.rangeAt_setCells_same _ _ _ _ H1.out.2) Tryz.underlying36 rfl (by kernel_rfl)
  exact bodyPost_ret (v := .tuple #[.agg zero10.toArray, .int .i64 2]) (by simp [results, Tryz.results8, Act.put, asAddr, hl]) rfl ⟨sn0, sn0, sn0, sn0, sn0, rfl, below_setCells H1.out.1 (Nat.le_refl _) _ _ H1.out.1.size⟩
set_option maxHeartbeats 1000000 in
theorem FBack_big (a b c d e : Sn) (w : World) (ha : ∀ s ∈ [a, b, c, d, e], Sl w s.A s.n s.c s.xs) (hn : chkZ [a, b, c, d, e] = 2) :
    Calls Tryz.prog 9 #[snV a b c d e] w fun z w' => Z2 w w' z := by
  have HC := Lib.hid hn
  have hb0 : Below w.heap.size w ((w.alloc (.cells (snL a b c d e).toArray 36)).alloc (.cells zero10.toArray 36)) := ((Below.refl _ _).alloc (Nat.le_refl _) _).alloc (by simp) _
  have k0 := (Bk.new w (snL a b c d e) 36).below ((Below.refl _ _).alloc (Nat.le_refl _) (.cells zero10.toArray 36)) (by simp)
  have k1 := Bk.new (w.alloc (.cells (snL a b c d e).toArray 36)) zero10 36
  rw [World.size_alloc] at k1
  have HZ := Lib.hid (And.intro (zl_new k0 (by simp; omega) (fun s hs => (ha s hs).below hb0)) (And.intro hb0 k1))
  clear hb0 k0 k1 ha hn
  go_enter Tryz.func9, Tryz.ntmps9
  go_wp2_with (fail)
  refine (checkInts_ok [a, b, c, d, e] _ 5 5 _ (by omega) HZ.out.1).mono ?_
  rintro z w1 ⟨rfl, hb1⟩
  rw [HC.out]
  have H1 := Lib.hid (And.intro (HZ.out.2.1.trans (hb1.mono HZ.out.2.1.size)) (show World.there w1 (w.heap.size + 1) 0 zero10.toArray.size from (HZ.out.2.2.below hb1 (by simp)).there))
  clear hb1 HZ
  go_wp2_with (first | (with_reducible show wpList _ _ _ (Oper.mk none (Op.store _ _ _) _ _ _ _ :: _) _ _; refine wpList_store_mid rfl 36 _ _ rfl (w.heap.size + 1) 0 zero10.toArray rfl rfl H1.out.2 (by kernel_rfl) (by simp [zero10, Value.oneCell']) ?_; obtain ⟨W8, hW8⟩ : ∃ W8, w1.setCells (w.heap.size + 1) 0 zero10 = W8 := ⟨_, rfl⟩; rw [hW8]; have HW := Lib.hid hW8; clear hW8))
  obtain rfl := HW.out
  have hl := run_loadVar_mid (P := Tryz.prog) (w1.setCells (w.heap.size + 1) 0 zero10) (w.heap.size + 1) 0 36 zero10 _ (World.rangeAt_setCells_same _ _ _ _ H1.out.2) Tryz.underlying36 rfl (by kernel_rfl)
  exact bodyPost_ret (v := .tuple #[.agg zero10.toArray, .int .i64 2]) (by simp [results, Tryz.results9, Act.put, asAddr, hl]) rfl ⟨sn0, sn0, sn0, sn0, sn0, rfl, below_setCells H1.out.1 (by omega) _ _ H1.out.1.size⟩
end Go.Proofs.YthpgdpkemnhneaaGreatDoor
