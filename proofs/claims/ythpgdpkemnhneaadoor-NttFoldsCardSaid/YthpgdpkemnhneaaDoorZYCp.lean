/- A new row into which residues are copied. -/
import Derived.Test.YthpgdpkemnhneaaDoorZYRfP
import Derived.Test.YthpgdpkemnhneaaDoorZYTame
namespace Go.Proofs.YthpgdpkemnhneaaDoor
open Go.RowKit Go.Shelf
set_option linter.unusedVariables false
set_option linter.unusedSimpArgs false
set_option maxRecDepth 10000

theorem splice_tb {N K : Nat} {F : Nat → Nat} (hK : K ≤ N) (h0 : ∀ i, K ≤ i → F i = 0) : splice (uvs (tb N (fun _ => 0))) 0 (uvs (tb K F)) = uvs (tb N F) := by
  apply List.ext_getElem?
  intro i
  have hl : (uvs (tb K F)).length = K := by rw [uvs_length, tb_length]
  unfold splice
  rw [List.take_zero, List.nil_append, Nat.zero_add, hl]
  by_cases h : i < K
  · rw [List.getElem?_append_left (by omega), uvs_get (tb_get F h), uvs_get (tb_get F (show i < N by omega))]
  · rw [List.getElem?_append_right (by omega), hl, List.getElem?_drop, show K + (i - K) = i by omega]
    by_cases h2 : i < N
    · rw [uvs_get (tb_get _ h2), uvs_get (tb_get F h2), h0 i (by omega)]
    · rw [List.getElem?_eq_none (by rw [uvs_length, tb_length]; omega), List.getElem?_eq_none (by rw [uvs_length, tb_length]; omega)]
/-- the copy's conditions -/
theorem cpb {w' : World} {A7 : Option Addr} {g N K c7 : Nat} {F : Nat → Nat} (hr : Rw 43 w' g N (fun _ => 0)) (hs : Sl w' A7 K c7 (tb K F)) (hKN : K ≤ N) :
    w'.heap[g]? = some (.cells (uvs (tb N fun _ => 0)).toArray 43 (0, 0)) ∧ (uvs (tb K F)).length = Nat.min K N ∧ (0 < (uvs (tb K F)).length → ∃ ad, A7 = some ad ∧ ∀ j v, (uvs (tb K F))[j]? = some v → w'.cell? (ad.add j) = some v) ∧ 0 + (uvs (tb K F)).length ≤ (uvs (tb N fun _ => 0)).length := by
  refine ⟨hr.1, by rw [uvs_length, tb_length]; exact (Nat.min_eq_left hKN).symm, fun h => ?_, by rw [uvs_length, uvs_length, tb_length, tb_length]; omega⟩
  obtain ⟨b, o, rfl, _, hc⟩ := hs.2.2.2.2 (by intro e; rw [e] at h; simp at h)
  exact ⟨⟨b, o, none⟩, rfl, fun j v hj => by rw [Addr.add_lit]; exact hc j v hj⟩
theorem cpb_row {w' : World} {g N K : Nat} {F : Nat → Nat} (h : Hid (w'.heap[g]? = some (.cells (splice (uvs (tb N fun _ => 0)) 0 (uvs (tb K F))).toArray 43 (0, 0)))) (hKN : K ≤ N) (h0 : ∀ i, K ≤ i → F i = 0) (hF : ∀ i, F i < B64) : Rw 43 w' g N F :=
  ⟨by rw [h.out, splice_tb hKN h0], fun i _ => hF i⟩
/-- residues of a row -/
def rsF (ys : List Nat) (i : Nat) : Nat := yx ys i % PP
theorem rsF_lt (ys : List Nat) (i : Nat) : rsF ys i < PP := Nat.mod_lt _ PP_pos
theorem rsF_far {ys : List Nat} {n i K N : Nat} (hl : ys.length = n) (hK : K = min n N) (h : K ≤ i) (hi : i < N) : rsF ys i = 0 := by
  unfold rsF
  rw [yx_far (by omega)]; rfl
/-- the first K residues, then 0 -/
def rsK (ys : List Nat) (K i : Nat) : Nat := if i < K then rsF ys i else 0
theorem rsK_lt (ys : List Nat) (K i : Nat) : rsK ys K i < PP := by
  unfold rsK
  split
  · exact rsF_lt ys i
  · exact PP_pos
theorem rsK_tb (ys : List Nat) (K : Nat) : tb K (rsK ys K) = tb K (fun i => yx ys i % PP) := tb_congr fun i hi => if_pos hi
end Go.Proofs.YthpgdpkemnhneaaDoor
