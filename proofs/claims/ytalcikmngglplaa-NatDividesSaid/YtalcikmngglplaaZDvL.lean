/- What the loops of the schoolbook division by any digits keep: three rows in three blocks. -/
import Derived.Test.YtalcikmngglplaaZDvM
import Derived.Test.YtalcikmngglplaaP1
namespace Go.Proofs.Ytalcikmngglplaa
open Go.RowKit
set_option linter.unusedVariables false
set_option linter.unusedSimpArgs false

theorem uvs_set (xs : List Nat) (j x : Nat) : uvs (xs.set j x) = (uvs xs).set j (.int .u64 (x : Int)) := by simp [uvs, List.map_set]
theorem Sl.far {W : World} {g n c : Nat} {xs : List Nat} (h : Sl W (some ⟨g, 0, none⟩) n c xs) {p : Addr} (hp : g ≠ p.block) (u : Value) : Sl (W.setCell p u) (some ⟨g, 0, none⟩) n c xs := by
  refine ⟨h.1, h.2.1, h.2.2.1, h.2.2.2.1, fun hne => ?_⟩
  obtain ⟨b, o, e, hb, hc⟩ := h.2.2.2.2 hne
  injection e with e
  injection e with e1 e2
  subst e1
  subst e2
  exact ⟨g, 0, rfl, by simpa [World.setCell] using hb, fun j v hv => (World.cell?_setCell_other _ _ _ _ (fun e => hp (by rw [e]))).trans (hc j v hv)⟩
/-- What is known: a in block g1 (written), b in g2 (read), q in g3 (written). -/
def DJ (w : World) (g1 c1 g2 c2 g3 M K n : Nat) (bs al ql : List Nat) (W : World) : Prop :=
  (w.heap.size ≤ g1 ∧ g1 < g2 ∧ g2 < g3) ∧ (W.ownsRow w.heap.size 37 1 (.slice (some ⟨g1, 0, none⟩) M c1) M (uvs al) ∧ al.length = M ∧ Dg al) ∧ (Sl W (some ⟨g2, 0, none⟩) n c2 bs ∧ Dg bs) ∧ (RowAt W g3 ql ∧ ql.length = K ∧ Dg ql) ∧ Below w.heap.size w W
section
variable {w W W' : World} {g1 c1 g2 c2 g3 M K n : Nat} {bs al ql : List Nat}
theorem DJ.below (h : DJ w g1 c1 g2 c2 g3 M K n bs al ql W) (hb : Below W.heap.size W W') : DJ w g1 c1 g2 c2 g3 M K n bs al ql W' := by
  obtain ⟨h1, h2, h3, h4, h5⟩ := h
  exact ⟨h1, ⟨own_below h2.1 hb (Nat.le_refl _), h2.2⟩, ⟨h3.1.below hb, h3.2⟩, ⟨(hb.block g3 h4.1.lt).trans h4.1, h4.2⟩, h5.trans (hb.mono h5.size)⟩
theorem DJ.drewN (h : DJ w g1 c1 g2 c2 g3 M K n bs al ql W) (m : Nat) : DJ w g1 c1 g2 c2 g3 M K n bs al ql (W.drewN m) := by
  obtain ⟨h1, h2, h3, h4, h5⟩ := h
  exact ⟨h1, ⟨own_drewN h2.1 m, h2.2⟩, h3, h4, below_drewN h5 m⟩
theorem DJ.cellA (h : DJ w g1 c1 g2 c2 g3 M K n bs al ql W) {j x : Nat} (hx : al[j]? = some x) : W.cell? ⟨g1, j, none⟩ = some (.int .u64 (x : Int)) ∧ W.frozen? ⟨g1, j, none⟩ = false := by
  have hj : j < al.length := (List.getElem?_eq_some_iff.1 hx).1
  exact ⟨(World.ownsRow.cellAt h.2.1.1 j (by have := h.2.1.2.1; omega)).trans (uvs_get hx), World.ownsRow.frozenAt h.2.1.1 j⟩
theorem DJ.cellB (h : DJ w g1 c1 g2 c2 g3 M K n bs al ql W) {j x : Nat} (hx : bs[j]? = some x) : W.cell? ⟨g2, j, none⟩ = some (.int .u64 (x : Int)) := by
  obtain ⟨b, o, e, _, hc⟩ := h.2.2.1.1.2.2.2.2.at (uvs_get hx)
  injection e with e
  injection e with e1 e2
  subst e1
  rw [← e2, Nat.zero_add] at hc
  exact hc
theorem DJ.cellQ (h : DJ w g1 c1 g2 c2 g3 M K n bs al ql W) {j x : Nat} (hx : ql[j]? = some x) : W.cell? ⟨g3, j, none⟩ = some (.int .u64 (x : Int)) ∧ W.frozen? ⟨g3, j, none⟩ = false :=
  ⟨h.2.2.2.1.1.cell hx, h.2.2.2.1.1.frozen j⟩
theorem DJ.setA (h : DJ w g1 c1 g2 c2 g3 M K n bs al ql W) {j x : Nat} (hx : x < H32) : DJ w g1 c1 g2 c2 g3 M K n bs (al.set j x) ql (W.setCell ⟨g1, j, none⟩ (.int .u64 (x : Int))) := by
  obtain ⟨h1, h2, h3, h4, h5⟩ := h
  refine ⟨h1, ⟨?_, by rw [List.length_set]; exact h2.2.1, Dg_set h2.2.2 j x hx⟩, ⟨h3.1.far (p := ⟨g1, j, none⟩) (by show g2 ≠ g1; omega) _, h3.2⟩, ⟨h4.1.far (p := ⟨g1, j, none⟩) (by show g3 ≠ g1; omega) _, h4.2⟩, h5.setCell (p := ⟨g1, j, none⟩) h1.1 _⟩
  rw [uvs_set]
  exact (World.ownsRow.stored h2.1 j _).1
theorem DJ.setQ (h : DJ w g1 c1 g2 c2 g3 M K n bs al ql W) {j x : Nat} (hx : x < H32) : DJ w g1 c1 g2 c2 g3 M K n bs al (ql.set j x) (W.setCell ⟨g3, j, none⟩ (.int .u64 (x : Int))) := by
  obtain ⟨h1, h2, h3, h4, h5⟩ := h
  refine ⟨h1, ⟨World.ownsRow.kept h2.1 (grown_set W g3 j _) (.inr ?_), h2.2⟩, ⟨h3.1.far (p := ⟨g3, j, none⟩) (by show g2 ≠ g3; omega) _, h3.2⟩, ⟨h4.1.set j x, by rw [List.length_set]; exact h4.2.1, Dg_set h4.2.2 j x hx⟩, h5.setCell (p := ⟨g3, j, none⟩) (by show w.heap.size ≤ g3; omega) _⟩
  show some g1 ≠ some g3
  intro e
  injection e with e
  omega
/-- a[i : i + k] -/
theorem DJ.part (h : DJ w g1 c1 g2 c2 g3 M K n bs al ql W) {i k : Nat} (hi : i + k ≤ M) : i + k ≤ c1 ∧ (0 < k → Sl W (some ⟨g1, i, none⟩) k (c1 - i) ((al.drop i).take k)) ∧ Dg ((al.drop i).take k) := by
  obtain ⟨_, _, e, hc1, hc2, _, hr⟩ := own_form h.2.1.1
  injection e with e1 e2 e3
  subst e1
  subst e3
  have hl := h.2.1.2.1
  refine ⟨by omega, fun hk => ⟨by simp; omega, by omega, by unfold maxLen at hc2; omega, Ws_take (fun x hx => h.2.1.2.2.ws x (List.mem_of_mem_drop hx)) k, ?_⟩, Dg_take (Dg_drop h.2.1.2.2 i) k⟩
  have h1 := (hr.drop (k := i) (cap := c1) (by rw [uvs_length]; omega)).take k
  rw [if_neg (by omega)] at h1
  have e4 : (some ({ block := g1, off := 0, spot := none } : Addr)).map (·.add i) = some ⟨g1, i, none⟩ := by simp [Addr.add_lit]
  rw [e4] at h1
  have e5 : uvs ((al.drop i).take k) = ((uvs al).drop i).take k := by simp [uvs]
  rw [e5]
  exact h1
end
theorem RowAt.sl {W : World} {g n : Nat} {zs : List Nat} (h : RowAt W g zs) (hl : zs.length = n) (hw : Ws zs) (hn : n ≤ 1000000) : Sl W (some ⟨g, 0, none⟩) n n zs :=
  ⟨hl, Nat.le_refl _, by omega, hw, fun _ => ⟨g, 0, rfl, h.lt, fun j u hu => by
    rw [Nat.zero_add, cell_of_row W g j _ _ _ h]
    simpa using hu⟩⟩
theorem RowAt.nw {w W : World} {g n : Nat} {zs : List Nat} (h : RowAt W g zs) (hg : w.heap.size ≤ g) (hl : zs.length = n) (hw : Ws zs) (hn : n ≤ 1000000) : Nw w W (.slice (some ⟨g, 0, none⟩) n n) n zs := by
  subst hl
  exact ⟨rfl, hw, by rw [uvs_length, Nat.mul_one], .inr ⟨g, zs.length, (uvs zs).toArray, rfl, hg, h, Nat.le_refl _, by unfold maxLen; omega, by simp [uvs_length], by rw [Nat.mul_one]; exact List.take_of_length_le (by simp [uvs_length])⟩⟩
end Go.Proofs.Ytalcikmngglplaa
