/- Numbers and calls of FastSizes. -/
import Derived.Test.YthpgdpkemnhneaaGreatDoorZFLmB
import Derived.Test.YthpgdpkemnhneaaGreatDoorZFAwake
import Derived.Test.YthpgdpkemnhneaaGreatDoorZLawF
import Derived.Test.YthpgdpkemnhneaaGreatDoorP4
import Derived.Test.YthpgdpkemnhneaaGreatDoorZTabF
namespace Go.Proofs.YthpgdpkemnhneaaGreatDoor
open Go.RowKit Go.Shelf
set_option linter.unusedVariables false
set_option linter.unusedSimpArgs false
set_option maxRecDepth 10000

theorem B64_twoF (i : Nat) : B64 ^ i = 2 ^ (64 * i) := by
  rw [Nat.pow_mul]
  congr 1
theorem made_sl {W : World} {B g n : Nat} {t : TypeId} (hn : n ≤ 1000000) (h : W.ownsRow B t 1 (.slice (some ⟨g, 0, none⟩) n n) n (madeCells #[Value.int .u64 0] n).toList) : Sl W (some ⟨g, 0, none⟩) n n (List.replicate n 0) := by
  have hu : (madeCells #[Value.int .u64 0] n).toList = uvs (List.replicate n 0) := by
    refine List.ext_getElem (by simp [madeCells, uvs]) (fun i h1 h2 => ?_)
    simp [madeCells, uvs, Nat.mod_one]
  rw [hu] at h
  obtain ⟨A, c, e, h1, h2, h3, h4⟩ := own_form h
  injection e with e1 e2 e3
  subst e1 e3
  exact ⟨List.length_replicate, Nat.le_refl _, by omega, fun x hx => by rw [List.eq_of_mem_replicate hx]; exact B64_pos, h4⟩
theorem rd_two {w : World} {A A' : Option Addr} {n n' c c' : Nat} (t : TypeId) : Rd (w.alloc (.cells #[.slice A n c, .slice A' n' c'] t)) (w.alloc (.cells #[.slice A n c, .slice A' n' c'] t)).heap.size (some ⟨w.heap.size, 0, none⟩) (svs [(A, n, c), (A', n', c')]) := fun _ =>
  ⟨w.heap.size, 0, rfl, by simp, fun j u hj => by
    match j, hj with
    | 0, hj => simp [svs] at hj; subst hj; simp
    | 1, hj => simp [svs] at hj; subst hj; simp⟩
theorem zl_one {w : World} (a : Sn) (t : TypeId) (h : Sl w a.A a.n a.c a.xs) : Zl (w.alloc (.cells #[.bool a.s, .slice a.A a.n a.c] t)) (some ⟨w.heap.size, 0, none⟩) 1 1 [a] :=
  ⟨rfl, Nat.le_refl _, by omega, fun _ => ⟨w.heap.size, 0, rfl, by simp, fun j u hj => by
    match j, hj with
    | 0, hj => simp [sncs] at hj; subst hj; simp
    | 1, hj => simp [sncs] at hj; subst hj; simp⟩, fun s hs => by
    rw [List.mem_singleton] at hs
    subst hs
    exact h.below ((Below.refl _ _).alloc (Nat.le_refl _) _)⟩
theorem zl_two {w : World} {g : Nat} (hg : g = w.heap.size) (a b : Sn) (t : TypeId) (h : Sl w a.A a.n a.c a.xs) (h' : Sl w b.A b.n b.c b.xs) : Zl (w.alloc (.cells #[.bool a.s, .slice a.A a.n a.c, .bool b.s, .slice b.A b.n b.c] t)) (some ⟨g, 0, none⟩) 2 2 [a, b] := by
  subst hg
  exact ⟨rfl, Nat.le_refl _, by omega, fun _ => ⟨w.heap.size, 0, rfl, by simp, fun j u hj => by
    match j, hj with
    | 0, hj => simp [sncs] at hj; subst hj; simp
    | 1, hj => simp [sncs] at hj; subst hj; simp
    | 2, hj => simp [sncs] at hj; subst hj; simp
    | 3, hj => simp [sncs] at hj; subst hj; simp⟩, fun s hs => by
    simp only [List.mem_cons, List.not_mem_nil, or_false] at hs
    rcases hs with rfl | rfl
    · exact h.below ((Below.refl _ _).alloc (Nat.le_refl _) _)
    · exact h'.below ((Below.refl _ _).alloc (Nat.le_refl _) _)⟩
theorem chkL_big2 {A A' : Option Addr} {n n' c c' : Nat} (h : 4096 < n ∨ 4096 < n') : chkL 0 [(A, n, c), (A', n', c')] = 2 := by
  unfold chkL
  rw [chkS_two_big h]
  rfl
theorem chkL_big1 {A : Option Addr} {n c : Nat} (h : 4096 < n) : chkL 0 [(A, n, c)] = 2 := by
  unfold chkL
  rw [chkS_one_big h]
  rfl
/-- a power of B out of a call: its length -/
theorem Nu.sc {w w' : World} {A : Option Addr} {n c x : Nat} {zs : List Nat} (h : Nu w w' A n c zs x) : Sc w' A n c zs := ⟨h.1, h.2.1⟩
theorem pw_len {w w' : World} {A : Option Addr} {n c k : Nat} {zs : List Nat} (h : Nu w w' A n c zs (B64 ^ k)) : n = k + 1 := by
  have h1 := h.sc.long (k := k) (by rw [h.2.2.1]; exact Nat.le_refl _)
  have h2 := h.sc.short (k := k + 1) (by rw [h.2.2.1]; exact Nat.pow_lt_pow_right B64_one (by omega))
  omega
theorem half_pow {M : Nat} (hM : 1 ≤ M) : B64 ^ M / 2 = 2 ^ (64 * M - 1) := by
  rw [B64_twoF, show 64 * M = (64 * M - 1) + 1 by omega, Nat.pow_succ, Nat.mul_div_cancel _ (by decide), Nat.add_sub_cancel]
theorem half_len {w w' : World} {A : Option Addr} {n c M : Nat} {zs : List Nat} (hM : 1 ≤ M) (h : Nu w w' A n c zs (B64 ^ M / 2)) : n = M := by
  have h1 := h.sc.long (k := M - 1) (by
    rw [h.2.2.1, half_pow hM, B64_twoF]
    exact Nat.pow_le_pow_right (by decide) (by omega))
  have h2 := h.sc.short (k := M) (by
    rw [h.2.2.1]
    exact Nat.div_lt_self (Nat.pow_pos B64_pos) (by decide))
  omega
theorem big_prod {N M : Nat} (h : N + M = Most) : Big ≤ B64 ^ N * B64 ^ M := by
  rw [← Nat.pow_add, h]
  exact Nat.le_refl _
theorem half_prod {N M s : Nat} (hM : 1 ≤ M) (h : N + M = Most) (hs : s = 262143) : B64 ^ N * (B64 ^ M / 2) = 2 ^ s ∧ 2 ^ s < Big := by
  have e : 64 * N + (64 * M - 1) = s := by unfold Most at h; omega
  refine ⟨by rw [half_pow hM, B64_twoF, ← Nat.pow_add, e], ?_⟩
  unfold Big
  rw [B64_twoF]
  exact Nat.pow_lt_pow_right (by decide) (by unfold Most; omega)
theorem one_left {s k : Nat} (h : s = 64 * k) : V [1] * 2 ^ s = B64 ^ k := by
  rw [h, ← B64_twoF]
  simp [V]
theorem top_left {s k x : Nat} (h : s = 64 * k) (hx : x = B64 - 1) : V [x] * 2 ^ s = (B64 - 1) * B64 ^ k := by
  rw [h, ← B64_twoF, hx]
  simp [V]
theorem top_lt {k : Nat} (hk : k ≤ 4095) : (B64 - 1) * B64 ^ k < Big := by
  refine Big_of (k := k + 1) ?_ (by omega)
  rw [Nat.pow_succ, Nat.mul_comm]
  exact Nat.mul_lt_mul_of_pos_left (by decide) (Nat.pow_pos B64_pos)
theorem sl_oneF {w : World} {a : Nat} (t : TypeId) (ha : a < B64) : Sl (w.alloc (.cells #[.int .u64 a] t)) (some ⟨w.heap.size, 0, none⟩) 1 1 [a] :=
  ⟨rfl, Nat.le_refl _, by omega, fun x hx => (by rw [List.mem_singleton] at hx; subst hx; exact ha), fun _ => ⟨w.heap.size, 0, rfl, by simp, fun j u hj => by
    match j, hj with
    | 0, hj => simp [uvs] at hj; subst hj; simp⟩⟩
end Go.Proofs.YthpgdpkemnhneaaGreatDoor
