/- The arithmetic of NttConvolves; results of the program's residue calls. -/
import Derived.Test.YthpgdpkemnhneaaDoorZYCp
namespace Go.Proofs.YthpgdpkemnhneaaDoor
open Go.RowKit Go.Shelf
set_option linter.unusedVariables false
set_option linter.unusedSimpArgs false
set_option maxRecDepth 10000

theorem op_ok {ok : Prop} [Decidable ok] {x : Nat} {e : Ending} (h : OpR ok x e) (hk : ok) : e = .returned (.tuple #[.int .u64 (x : Int), .int .i64 0]) := by
  unfold OpR at h
  rw [if_pos hk, if_pos hk] at h
  exact h
theorem gAdd (a b : Nat) (w : World) (ha : a < PP) (hb : b < PP) {z : Nat} (hz : (a + b) % PP = z) :
    Calls Tryd.prog 31 #[.int .u64 a, .int .u64 b] w fun e w' => e = .returned (.tuple #[.int .u64 (z : Int), .int .i64 0]) ∧ Below w.heap.size w w' := by
  subst hz
  refine (YAdd_ok a b w (PP_B ha) (PP_B hb)).mono ?_
  rintro e w' ⟨h, hb'⟩
  exact ⟨op_ok h ⟨ha, hb⟩, hb'⟩
theorem gTimes (a b : Nat) (w : World) (ha : a < PP) (hb : b < PP) {z : Nat} (hz : a * b % PP = z) :
    Calls Tryd.prog 32 #[.int .u64 a, .int .u64 b] w fun e w' => e = .returned (.tuple #[.int .u64 (z : Int), .int .i64 0]) ∧ Below w.heap.size w w' := by
  subst hz
  refine (YTimes_ok a b w (PP_B ha) (PP_B hb)).mono ?_
  rintro e w' ⟨h, hb'⟩
  exact ⟨op_ok h ⟨ha, hb⟩, hb'⟩
theorem gPow (a k : Nat) (w : World) (ha : a < PP) (hk : k < B64) {z : Nat} (hz : a ^ k % PP = z) :
    Calls Tryd.prog 34 #[.int .u64 a, .int .u64 k] w fun e w' => e = .returned (.tuple #[.int .u64 (z : Int), .int .i64 0]) ∧ Below w.heap.size w w' := by
  subst hz
  refine (YPow_ok a k w (PP_B ha) hk).mono ?_
  rintro e w' ⟨h, hb'⟩
  exact ⟨op_ok h ha, hb'⟩
theorem tb_row {N : Nat} {F : Nat → Nat} (h : ∀ i, i < N → F i < PP) : ∀ i, i < N → yx (tb N F) i < PP := fun i hi => by rw [yx_tb _ hi]; exact h i hi
theorem cv_mul {s N : Nat} (hs : s ≤ 32) (hN : N = 2 ^ s) (α β : Nat → Nat) (m : Nat) :
    Tr N (rt s) (yx (tb N (fun k => Cv N α β k % PP))) m = Tr N (rt s) α m * Tr N (rt s) β m % PP := by
  rw [Tr_congr (b := Cv N α β) (fun i hi => by rw [yx_tb _ hi]; exact Eqm.mod _)]
  have h := Tr_mul (n := N) (w := rt s) (by rw [hN]; exact Nat.pow_pos (by decide)) (by rw [hN]; exact rt_full s hs) α β m
  have h2 : Tr N (rt s) (Cv N α β) m % PP = Tr N (rt s) (Cv N α β) m := Nat.mod_eq_of_lt (Tr_lt _ _ _ _)
  rw [← h2]
  exact h.symm
theorem cv_add {N w : Nat} (α β : Nat → Nat) (m : Nat) : Tr N w (yx (tb N (fun i => (α i + β i) % PP))) m = (Tr N w α m + Tr N w β m) % PP := by
  rw [Tr_congr (b := fun i => α i + β i) (fun i hi => by rw [yx_tb _ hi]; exact Eqm.mod _)]
  unfold Tr
  rw [Sm_congr (g := fun j => α j * w ^ (j * m) + β j * w ^ (j * m)) (fun i _ => Nat.add_mul _ _ _), Sm_add]
  exact (Eqm.add (Eqm.mod _) (Eqm.mod _)).symm
theorem cv_two {s N : Nat} (hs : s ≤ 32) (hN : N = 2 ^ s) (α : Nat → Nat) {m : Nat} (hm : m < N) : Tr N (rt s) (yx (tb N (Tr N (rt s) α))) m = α ((N - m) % N) * N % PP := by
  rw [Tr_congr (b := Tr N (rt s) α) (fun i hi => by rw [yx_tb _ hi]; exact .refl _)]
  subst hN
  have h := Tr_Tr s hs α m hm
  rw [Nat.mul_comm] at h
  have h2 : Tr (2 ^ s) (rt s) (Tr (2 ^ s) (rt s) α) m % PP = Tr (2 ^ s) (rt s) (Tr (2 ^ s) (rt s) α) m := Nat.mod_eq_of_lt (Tr_lt _ _ _ _)
  rw [← h2]
  exact h
theorem cv_back {s N : Nat} (hs : s ≤ 32) (hN : N = 2 ^ s) (α : Nat → Nat) {k : Nat} (hk : k < N) (ha : α k < PP) : Tr N (rt s) (yx (tb N (Tr N (rt s) α))) ((N - k) % N) * (N ^ (PP - 2) % PP) % PP = α k := by
  rw [Tr_congr (b := Tr N (rt s) α) (fun i hi => by rw [yx_tb _ hi]; exact .refl _)]
  subst hN
  have h := back_tr s hs α k hk
  have h2 := (Eqm.mul (.refl (Tr (2 ^ s) (rt s) (Tr (2 ^ s) (rt s) α) ((2 ^ s - k) % 2 ^ s))) (Eqm.mod ((2 ^ s) ^ (PP - 2)))).trans h
  have h3 : α k % PP = α k := Nat.mod_eq_of_lt ha
  rw [← h3]
  exact h2
theorem cv_full {s N : Nat} (hs : s ≤ 32) (hN : N = 2 ^ s) : rt s ^ N % PP = 1 := by
  rw [hN]
  exact rt_full s hs
theorem cv_half {s N : Nat} (hs : s < 32) (hN : N = 2 ^ (s + 1)) : rt (s + 1) ^ (N / 2) % PP = PP - 1 := by
  rw [hN, Nat.pow_succ, Nat.mul_div_cancel _ (by decide)]
  exact rt_half s hs
end Go.Proofs.YthpgdpkemnhneaaDoor
