/- The contracts of fast.outOfPiece, fast.fromInt, fast.toInt. -/
import Derived.Test.YtalcikmngglplaaDoorZFDivd
import Derived.Test.YtalcikmngglplaaDoorZFHalves
namespace Go.Proofs.YtalcikmngglplaaDoor
open Go.RowKit Go.Shelf
set_option linter.unusedVariables false
set_option linter.unusedSimpArgs false
set_option maxRecDepth 10000

theorem outOfPiece_ok (n : Int) (w : World) : Calls Tryd.prog 41 #[.int .i64 n] w fun e w' => e = .returned (.bool (decide (n < 1 ∨ 1000 < n))) ∧ w = w' := by
  by_cases h1 : n < 1
  · go_enter Tryd.func41, Tryd.ntmps41
    go_wp2
    go_ret
    simp [h1]
  · by_cases h2 : n > 1000
    · go_enter Tryd.func41, Tryd.ntmps41
      go_wp2
      go_ret
      simp [h1, show 1000 < n from h2]
    · go_enter Tryd.func41, Tryd.ntmps41
      go_wp2
      go_ret
      simp [h1]; omega

set_option maxHeartbeats 2000000 in
theorem fromInt_ok (g : Bool) (A : Option Addr) (n c : Nat) (xs : List Nat) (w : World) (hn : n ≤ 4096) (hx : Sl w A n c xs) :
    Calls Tryd.prog 118 #[.agg #[.bool g, .slice A n c]] w fun e w' => ∃ k, e = .returned (.agg #[.bool g, .slice A k c]) ∧ k ≤ n ∧ Hid (V (xs.take k) = V xs ∧ Cn (xs.take k)) ∧ Below w.heap.size w w' := by
  have Hx := Lib.hid hx
  clear hx
  go_enter Tryd.func118, Tryd.ntmps118
  go_wp2_with (fail)
  obtain ⟨X, hX⟩ : ∃ X, (w.alloc (.cells #[.bool g, .slice A n c] 76)).alloc (.cells #[.bool false, .slice none 0 0] 67) = X := ⟨_, rfl⟩
  have hb : Below w.heap.size w X := by rw [← hX]; exact ((Below.refl _ _).alloc (Nat.le_refl _) _).alloc (by simp) _
  have k0 : Bk X w.heap.size [.bool g, .slice A n c] := by
    rw [← hX]; exact (Bk.new w _ _).below ((Below.refl _ _).alloc (Nat.le_refl _) _) (by simp)
  have k1 : Bk X (w.heap.size + 1) [.bool false, .slice none 0 0] := by
    have := Bk.new (w.alloc (.cells #[.bool g, .slice A n c] 76)) [.bool false, .slice none 0 0] 67
    rw [World.size_alloc] at this
    rw [← hX]; exact this
  obtain ⟨p0, -⟩ := k0 0 _ rfl
  obtain ⟨p1, -⟩ := k0 1 _ rfl
  obtain ⟨q0, f0⟩ := k1 0 _ rfl
  obtain ⟨q1, f1⟩ := k1 1 _ rfl
  have HX := Lib.hid hb
  rw [hX]
  clear hX hb k0 k1
  go_region_held3 (fun w' => w'.cell? ⟨w.heap.size, 0, none⟩ = some (.bool g) ∧ w'.cell? ⟨w.heap.size, 1, none⟩ = some (.slice A n c)) (first | exact ⟨p0, p1⟩ | exact ⟨keep2b p0, keep2b p1⟩ | go_keep)
    (first | (go_at_call 23; refine (fused_ok A n c xs X.drew (by omega) (show Sl X A n c xs from Hx.out.below HX.out)).mono ?_; rintro e w3 ⟨k3, rfl, hk3, hU, rfl⟩; have HU := Lib.hid hU; clear hU))
  go_wp2_with (fail)
  exact bodyPost_ret (v := .agg #[.bool g, .slice A k3 c]) (by simp [results, Tryd.results118, go_sem, World.cell?_setCell_same', q0, q1]) rfl ⟨k3, rfl, hk3, HU.out, ((show Below w.heap.size w X.drew from below_drewN HX.out 1).setCell (p := ⟨w.heap.size + 1, 0, none⟩) (by show w.heap.size ≤ w.heap.size + 1; omega) _).setCell (p := ⟨w.heap.size + 1, 1, none⟩) (by show w.heap.size ≤ w.heap.size + 1; omega) _⟩

set_option maxHeartbeats 2000000 in
theorem toInt_ok (w0 : World) (s : Bool) (A : Option Addr) (n c : Nat) (xs : List Nat) (S : Int) (w : World) (hx : Sg w0 w s A n c xs S) (hn : n ≤ 9223372036854775807) :
    Calls Tryd.prog 116 #[.agg #[.bool s, .slice A n c]] w fun e w' => ((e = .returned (.tuple #[.agg #[.bool s, .slice A n c], .int .i64 0]) ∧ V xs < Big ∧ n ≤ 4096) ∨ (e = .returned (.tuple #[.agg #[.bool false, .slice none 0 0], .int .i64 2]) ∧ Big ≤ V xs)) ∧ Below w.heap.size w w' := by
  have Hx := Lib.hid hx
  clear hx
  go_enter Tryd.func116, Tryd.ntmps116
  go_wp2_with (fail)
  have hb0 : Below w.heap.size w ((w.alloc (.cells #[.bool s, .slice A n c] 67)).alloc (.cells #[.bool false, .slice none 0 0] 76)) := ((Below.refl _ _).alloc (Nat.le_refl _) _).alloc (by simp) _
  refine (fresult_ok w0 A n c xs _ (Hx.out.1.later (Nat.le_refl _) hb0) Hx.out.2.1 hn).mono ?_
  rintro z w3 ⟨hz, hb3⟩
  have k0 := ((Bk.new w [.bool s, .slice A n c] 67).below ((Below.refl _ _).alloc (Nat.le_refl _) (.cells #[.bool false, .slice none 0 0] 76)) (by simp)).below hb3 (by simp; omega)
  have k1 : Bk w3 (w.heap.size + 1) [.bool false, .slice none 0 0] := by
    have := Bk.new (w.alloc (.cells #[.bool s, .slice A n c] 67)) [.bool false, .slice none 0 0] 76
    rw [World.size_alloc] at this
    exact this.below hb3 (by simp)
  obtain ⟨p0, -⟩ := k0 0 _ rfl
  obtain ⟨p1, -⟩ := k0 1 _ rfl
  obtain ⟨q0, f0⟩ := k1 0 _ rfl
  obtain ⟨q1, f1⟩ := k1 1 _ rfl
  have HB := Lib.hid (hb0.trans (hb3.mono hb0.size))
  clear hb0 hb3 k0 k1
  rcases hz with ⟨rfl, -, hz⟩ | ⟨rfl, hz⟩
  · have Hz := Lib.hid hz
    clear hz
    go_wp2_with (fail)
    exact bodyPost_ret (v := .tuple #[.agg #[.bool s, .slice A n c], .int .i64 0]) (by simp [results, Tryd.results116, go_sem, World.cell?_setCell_same', q0, q1]) rfl ⟨Or.inl ⟨rfl, Hz.out⟩, (HB.out.setCell (p := ⟨w.heap.size + 1, 0, none⟩) (by show w.heap.size ≤ w.heap.size + 1; omega) _).setCell (p := ⟨w.heap.size + 1, 1, none⟩) (by show w.heap.size ≤ w.heap.size + 1; omega) _⟩
  · have Hz := Lib.hid hz
    clear hz
    go_wp2_with (fail)
    exact bodyPost_ret (v := .tuple #[.agg #[.bool false, .slice none 0 0], .int .i64 2]) (by simp [results, Tryd.results116, go_sem, World.cell?_setCell_same', q0, q1]) rfl ⟨Or.inr ⟨rfl, Hz.out⟩, (HB.out.setCell (p := ⟨w.heap.size + 1, 0, none⟩) (by show w.heap.size ≤ w.heap.size + 1; omega) _).setCell (p := ⟨w.heap.size + 1, 1, none⟩) (by show w.heap.size ≤ w.heap.size + 1; omega) _⟩
end Go.Proofs.YtalcikmngglplaaDoor
