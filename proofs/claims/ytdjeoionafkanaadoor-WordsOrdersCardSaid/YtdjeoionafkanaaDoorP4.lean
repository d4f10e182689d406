/- Pieces of the proofs, together: OutW, RightR, Right, RShiftL, RShift, AppT. -/
import Derived.Test.YtdjeoionafkanaaDoorP1
import Derived.Test.YtdjeoionafkanaaDoorP3

namespace Go.Proofs.YtdjeoionafkanaaDoor
open Go.RowKit
set_option linter.unusedVariables false

set_option maxHeartbeats 400000 in
theorem outOfWord_any (s : Int) (w : World) : Calls Tryd.prog 154 #[.int .i64 s] w fun e w' => e = .returned (.bool (decide (s < 0) || decide (63 < s))) ∧ w = w' := by
  by_cases h : s < 0
  · have hd : (decide (s < 0) || decide (63 < s)) = true := by simp [h]
    have Hd := Lib.hid hd
    clear hd
    go_enter Tryd.func154, Tryd.ntmps154
    go_wp2
    go_ret
    exact ⟨by rw [Hd.out]; rfl, rfl⟩
  · have hd : (decide (s < 0) || decide (63 < s)) = decide (63 < s) := by simp [h]
    have Hd := Lib.hid hd
    clear hd
    have h0 : 0 ≤ s := by omega
    have hf : decide (s < 0) = false := by simpa using h0
    go_enter Tryd.func154, Tryd.ntmps154
    go_wp2
    go_ret
    exact ⟨rfl, rfl⟩
theorem outOfWord_no (s : Nat) (h : s ≤ 63) (w : World) : Calls Tryd.prog 154 #[.int .i64 s] w fun e w' => e = .returned (.bool false) ∧ w = w' := by
  have := outOfWord_any s w
  rwa [show (decide ((s : Int) < 0) || decide (63 < (s : Int))) = false by simp; omega] at this
theorem outOfWord_yes (s : Int) (h : s < 0 ∨ 63 < s) (w : World) : Calls Tryd.prog 154 #[.int .i64 s] w fun e w' => e = .returned (.bool true) ∧ w = w' := by
  have := outOfWord_any s w
  rwa [show (decide ((s : Int) < 0) || decide (63 < (s : Int))) = true by simp; omega] at this

end Go.Proofs.YtdjeoionafkanaaDoor

namespace Go.Proofs.YtdjeoionafkanaaDoor
open Go.RowKit Go.Shelf
set_option linter.unusedVariables false
attribute [local go_sem] Oper.semAt_some

theorem Right_leaf {W : World} {A : Addr} {b : Int} {z : Nat} {K : Exit → Act → World → Prop} {a : Act} (hK : K .normal a ((W.setCell A (.int .u64 (z : Int))).drewN 1)) (hz : b = (z : Int)) : K .normal a (W.drew.setCell A (.int .u64 b)) := by
  subst hz
  exact hK

set_option maxHeartbeats 4000000 in
/-- one round of Right: the region, in whatever order -/
theorem Right_round (l n i g pz pc ps : Nat) (W : World) (x s cv z : Nat) (K : Exit → Act → World → Prop)
    (hin : (i : Int) < n) (hs : s ≤ 63) (c1 : W.cell? ⟨pz, 0, none⟩ = some (.slice (some ⟨g, 0, none⟩) n n)) (c2 : W.cell? ⟨pc, 0, none⟩ = some (.int .u64 (cv : Int))) (c3 : W.cell? ⟨ps, 0, none⟩ = some (.int .i64 (s : Int))) (c4 : W.cell? ⟨g, i, none⟩ = some (.int .u64 (x : Int)))
    (f1 : W.frozen? ⟨g, i, none⟩ = false) (hor : Hid (bits BinOp.or IntKind.u64 ((x : Int) / 2 ^ s) (cv : Int) = (z : Int)))
    (v0 v1 v2 v4 v5 v6 v7 v12 v13 v14 v15 v16 v17 v18 v19 v20 v21 v22 v23 v24 v25 v26 v27 v28 v29 v30 v31 v32 v33 v34 v35 v36 v37 v38 v39 v40 : Value)
    (hK : Hid (∀ (t27 t28 t29 t30 t31 t32 t33 t34 : Value) (m : Nat), K .normal { tmps := #[v0, v1, v2, .pointer (some ⟨ps, 0, none⟩), v4, v5, v6, v7, .pointer (some ⟨pc, 0, none⟩), .pointer (some ⟨pz, 0, none⟩), .int .i64 (i : Int), .int .u64 (x : Int), v12, v13, v14, v15, v16, v17, v18, v19, v20, v21, v22, v23, v24, v25, v26, t27, t28, t29, t30, t31, t32, t33, t34, v35, v36, v37, v38, v39, v40], defers := [] } ((W.setCell ⟨g, i, none⟩ (.int .u64 (z : Int))).drewN m))) :
    (Code.region 11 #[{ dst := some 27, op := Op.load 22 (Operand.tmp 9), type := 22, pos := "words.go:135", after := #[], guard := none }, { dst := some 28, op := Op.move (Operand.tmp 10), type := 3, pos := "words.go:135", after := #[], guard := none }, { dst := some 29, op := Op.move (Operand.tmp 11), type := 23, pos := "words.go:135", after := #[], guard := none }, { dst := some 30, op := Op.load 3 (Operand.tmp 3), type := 3, pos := "words.go:135", after := #[], guard := none }, { dst := some 31, op := Op.binOp BinOp.shr 23 (Operand.tmp 29) (Operand.tmp 30) 3, type := 23, pos := "words.go:135", after := #[{ on := 2, ground := Ground.data }, { on := 3, ground := Ground.data }], guard := none }, { dst := some 32, op := Op.load 23 (Operand.tmp 8), type := 23, pos := "words.go:135", after := #[], guard := none }, { dst := some 33, op := Op.binOp BinOp.or 23 (Operand.tmp 31) (Operand.tmp 32) 23, type := 23, pos := "words.go:135", after := #[{ on := 4, ground := Ground.data }, { on := 5, ground := Ground.data }], guard := none }, { dst := some 34, op := Op.indexAddr 22 (Operand.tmp 27) (Operand.tmp 28), type := 0, pos := "words.go:135", after := #[{ on := 0, ground := Ground.data }, { on := 1, ground := Ground.data }, { on := 0, ground := Ground.phase }, { on := 1, ground := Ground.phase }, { on := 2, ground := Ground.phase }, { on := 3, ground := Ground.phase }, { on := 4, ground := Ground.phase }, { on := 5, ground := Ground.phase }, { on := 6, ground := Ground.phase }], guard := none }, { dst := none, op := Op.store 23 (Operand.tmp 34) (Operand.tmp 33), type := 0, pos := "words.go:135", after := #[{ on := 7, ground := Ground.data }, { on := 6, ground := Ground.data }, { on := 0, ground := Ground.phase }, { on := 1, ground := Ground.phase }, { on := 2, ground := Ground.phase }, { on := 3, ground := Ground.phase }, { on := 4, ground := Ground.phase }, { on := 5, ground := Ground.phase }, { on := 6, ground := Ground.phase }], guard := none }] true).wpIn (Fence.wide.inRound l) 3 Tryd.prog K { tmps := #[v0, v1, v2, .pointer (some ⟨ps, 0, none⟩), v4, v5, v6, v7, .pointer (some ⟨pc, 0, none⟩), .pointer (some ⟨pz, 0, none⟩), .int .i64 (i : Int), .int .u64 (x : Int), v12, v13, v14, v15, v16, v17, v18, v19, v20, v21, v22, v23, v24, v25, v26, v27, v28, v29, v30, v31, v32, v33, v34, v35, v36, v37, v38, v39, v40], defers := [] } W := by
  have hmix : Tryd.prog.follows Departure.mixedOrders = true := by kernel_rfl
  refine region_inRound hmix (NoDefer.of (by kernel_rfl)) ?_
  refine wpAnyIn_take (i := 1) (v := ?_) rfl rfl (by kernel_rfl) (by kernel_rfl) (by kernel_rfl) (fun _ _ _ h => h) ⟨Or.inl ⟨by rfl, ?_⟩, fun _ => rfl⟩ ?_
  rotate_left
  · intro w; go_simp; try with_reducible rfl
  refine wpAnyIn_take (i := 2) (v := ?_) rfl rfl (by kernel_rfl) (by kernel_rfl) (by kernel_rfl) (fun _ _ _ h => h) ⟨Or.inl ⟨by rfl, ?_⟩, fun _ => rfl⟩ ?_
  rotate_left
  · intro w; go_simp; try with_reducible rfl
  refine wpAnyIn_ready (rs := [0, 3, 5]) (by kernel_rfl) (by simp) ?_
  refine AllReadyIn.cons rfl (fun K hK => ?_) ?_
  · go_simp
    refine hK _ _ ?_; clear hK K
    refine wpAnyIn_ready (rs := [3, 5]) (by kernel_rfl) (by simp) ?_
    refine AllReadyIn.cons rfl (fun K hK => ?_) ?_
    · go_simp
      refine hK _ _ ?_; clear hK K
      refine wpAnyIn_take (i := 4) (v := ?_) rfl rfl (by kernel_rfl) (by kernel_rfl) (by kernel_rfl) (fun _ _ _ h => h) ⟨Or.inl ⟨by rfl, ?_⟩, fun _ => rfl⟩ ?_
      rotate_left
      · intro w; go_simp; try with_reducible rfl
      refine wpAnyIn_ready (rs := [5]) (by kernel_rfl) (by simp) ?_
      refine AllReadyIn.cons rfl (fun K hK => ?_) ?_
      · go_simp
        refine hK _ _ ?_; clear hK K
        refine wpAnyIn_take (i := 6) (v := ?_) rfl rfl (by kernel_rfl) (by kernel_rfl) (by kernel_rfl) (fun _ _ _ h => h) ⟨Or.inl ⟨by rfl, ?_⟩, fun _ => rfl⟩ ?_
        rotate_left
        · intro w; go_simp; try with_reducible rfl
        refine wpAnyIn_ready (rs := [7]) (by kernel_rfl) (by simp) ?_
        refine AllReadyIn.cons rfl (fun K hK => ?_) ?_
        · go_simp
          refine hK _ _ ?_; clear hK K
          refine wpAnyIn_ready (rs := [8]) (by kernel_rfl) (by simp) ?_
          refine AllReadyIn.cons rfl (fun K hK => ?_) ?_
          · go_simp
            refine hK _ _ ?_; clear hK K
            refine wpAnyIn_done (by kernel_rfl) ?_ _
            exact Right_leaf (hK.out _ _ _ _ _ _ _ _ 1) hor.out
          exact AllReadyIn.nil
        exact AllReadyIn.nil
      exact AllReadyIn.nil
    refine AllReadyIn.cons rfl (fun K hK => ?_) ?_
    · go_simp
      refine hK _ _ ?_; clear hK K
      refine wpAnyIn_ready (rs := [3]) (by kernel_rfl) (by simp) ?_
      refine AllReadyIn.cons rfl (fun K hK => ?_) ?_
      · go_simp
        refine hK _ _ ?_; clear hK K
        refine wpAnyIn_take (i := 4) (v := ?_) rfl rfl (by kernel_rfl) (by kernel_rfl) (by kernel_rfl) (fun _ _ _ h => h) ⟨Or.inl ⟨by rfl, ?_⟩, fun _ => rfl⟩ ?_
        rotate_left
        · intro w; go_simp; try with_reducible rfl
        refine wpAnyIn_take (i := 6) (v := ?_) rfl rfl (by kernel_rfl) (by kernel_rfl) (by kernel_rfl) (fun _ _ _ h => h) ⟨Or.inl ⟨by rfl, ?_⟩, fun _ => rfl⟩ ?_
        rotate_left
        · intro w; go_simp; try with_reducible rfl
        refine wpAnyIn_ready (rs := [7]) (by kernel_rfl) (by simp) ?_
        refine AllReadyIn.cons rfl (fun K hK => ?_) ?_
        · go_simp
          refine hK _ _ ?_; clear hK K
          refine wpAnyIn_ready (rs := [8]) (by kernel_rfl) (by simp) ?_
          refine AllReadyIn.cons rfl (fun K hK => ?_) ?_
          · go_simp
            refine hK _ _ ?_; clear hK K
            refine wpAnyIn_done (by kernel_rfl) ?_ _
            exact Right_leaf (hK.out _ _ _ _ _ _ _ _ 1) hor.out
          exact AllReadyIn.nil
        exact AllReadyIn.nil
      exact AllReadyIn.nil
    exact AllReadyIn.nil
  refine AllReadyIn.cons rfl (fun K hK => ?_) ?_
  · go_simp
    refine hK _ _ ?_; clear hK K
    refine wpAnyIn_take (i := 4) (v := ?_) rfl rfl (by kernel_rfl) (by kernel_rfl) (by kernel_rfl) (fun _ _ _ h => h) ⟨Or.inl ⟨by rfl, ?_⟩, fun _ => rfl⟩ ?_
    rotate_left
    · intro w; go_simp; try with_reducible rfl
    refine wpAnyIn_ready (rs := [0, 5]) (by kernel_rfl) (by simp) ?_
    refine AllReadyIn.cons rfl (fun K hK => ?_) ?_
    · go_simp
      refine hK _ _ ?_; clear hK K
      refine wpAnyIn_ready (rs := [5]) (by kernel_rfl) (by simp) ?_
      refine AllReadyIn.cons rfl (fun K hK => ?_) ?_
      · go_simp
        refine hK _ _ ?_; clear hK K
        refine wpAnyIn_take (i := 6) (v := ?_) rfl rfl (by kernel_rfl) (by kernel_rfl) (by kernel_rfl) (fun _ _ _ h => h) ⟨Or.inl ⟨by rfl, ?_⟩, fun _ => rfl⟩ ?_
        rotate_left
        · intro w; go_simp; try with_reducible rfl
        refine wpAnyIn_ready (rs := [7]) (by kernel_rfl) (by simp) ?_
        refine AllReadyIn.cons rfl (fun K hK => ?_) ?_
        · go_simp
          refine hK _ _ ?_; clear hK K
          refine wpAnyIn_ready (rs := [8]) (by kernel_rfl) (by simp) ?_
          refine AllReadyIn.cons rfl (fun K hK => ?_) ?_
          · go_simp
            refine hK _ _ ?_; clear hK K
            refine wpAnyIn_done (by kernel_rfl) ?_ _
            exact Right_leaf (hK.out _ _ _ _ _ _ _ _ 1) hor.out
          exact AllReadyIn.nil
        exact AllReadyIn.nil
      exact AllReadyIn.nil
    refine AllReadyIn.cons rfl (fun K hK => ?_) ?_
    · go_simp
      refine hK _ _ ?_; clear hK K
      refine wpAnyIn_take (i := 6) (v := ?_) rfl rfl (by kernel_rfl) (by kernel_rfl) (by kernel_rfl) (fun _ _ _ h => h) ⟨Or.inl ⟨by rfl, ?_⟩, fun _ => rfl⟩ ?_
      rotate_left
      · intro w; go_simp; try with_reducible rfl
      refine wpAnyIn_ready (rs := [0]) (by kernel_rfl) (by simp) ?_
      refine AllReadyIn.cons rfl (fun K hK => ?_) ?_
      · go_simp
        refine hK _ _ ?_; clear hK K
        refine wpAnyIn_ready (rs := [7]) (by kernel_rfl) (by simp) ?_
        refine AllReadyIn.cons rfl (fun K hK => ?_) ?_
        · go_simp
          refine hK _ _ ?_; clear hK K
          refine wpAnyIn_ready (rs := [8]) (by kernel_rfl) (by simp) ?_
          refine AllReadyIn.cons rfl (fun K hK => ?_) ?_
          · go_simp
            refine hK _ _ ?_; clear hK K
            refine wpAnyIn_done (by kernel_rfl) ?_ _
            exact Right_leaf (hK.out _ _ _ _ _ _ _ _ 1) hor.out
          exact AllReadyIn.nil
        exact AllReadyIn.nil
      exact AllReadyIn.nil
    exact AllReadyIn.nil
  refine AllReadyIn.cons rfl (fun K hK => ?_) ?_
  · go_simp
    refine hK _ _ ?_; clear hK K
    refine wpAnyIn_ready (rs := [0, 3]) (by kernel_rfl) (by simp) ?_
    refine AllReadyIn.cons rfl (fun K hK => ?_) ?_
    · go_simp
      refine hK _ _ ?_; clear hK K
      refine wpAnyIn_ready (rs := [3]) (by kernel_rfl) (by simp) ?_
      refine AllReadyIn.cons rfl (fun K hK => ?_) ?_
      · go_simp
        refine hK _ _ ?_; clear hK K
        refine wpAnyIn_take (i := 4) (v := ?_) rfl rfl (by kernel_rfl) (by kernel_rfl) (by kernel_rfl) (fun _ _ _ h => h) ⟨Or.inl ⟨by rfl, ?_⟩, fun _ => rfl⟩ ?_
        rotate_left
        · intro w; go_simp; try with_reducible rfl
        refine wpAnyIn_take (i := 6) (v := ?_) rfl rfl (by kernel_rfl) (by kernel_rfl) (by kernel_rfl) (fun _ _ _ h => h) ⟨Or.inl ⟨by rfl, ?_⟩, fun _ => rfl⟩ ?_
        rotate_left
        · intro w; go_simp; try with_reducible rfl
        refine wpAnyIn_ready (rs := [7]) (by kernel_rfl) (by simp) ?_
        refine AllReadyIn.cons rfl (fun K hK => ?_) ?_
        · go_simp
          refine hK _ _ ?_; clear hK K
          refine wpAnyIn_ready (rs := [8]) (by kernel_rfl) (by simp) ?_
          refine AllReadyIn.cons rfl (fun K hK => ?_) ?_
          · go_simp
            refine hK _ _ ?_; clear hK K
            refine wpAnyIn_done (by kernel_rfl) ?_ _
            exact Right_leaf (hK.out _ _ _ _ _ _ _ _ 1) hor.out
          exact AllReadyIn.nil
        exact AllReadyIn.nil
      exact AllReadyIn.nil
    refine AllReadyIn.cons rfl (fun K hK => ?_) ?_
    · go_simp
      refine hK _ _ ?_; clear hK K
      refine wpAnyIn_take (i := 4) (v := ?_) rfl rfl (by kernel_rfl) (by kernel_rfl) (by kernel_rfl) (fun _ _ _ h => h) ⟨Or.inl ⟨by rfl, ?_⟩, fun _ => rfl⟩ ?_
      rotate_left
      · intro w; go_simp; try with_reducible rfl
      refine wpAnyIn_take (i := 6) (v := ?_) rfl rfl (by kernel_rfl) (by kernel_rfl) (by kernel_rfl) (fun _ _ _ h => h) ⟨Or.inl ⟨by rfl, ?_⟩, fun _ => rfl⟩ ?_
      rotate_left
      · intro w; go_simp; try with_reducible rfl
      refine wpAnyIn_ready (rs := [0]) (by kernel_rfl) (by simp) ?_
      refine AllReadyIn.cons rfl (fun K hK => ?_) ?_
      · go_simp
        refine hK _ _ ?_; clear hK K
        refine wpAnyIn_ready (rs := [7]) (by kernel_rfl) (by simp) ?_
        refine AllReadyIn.cons rfl (fun K hK => ?_) ?_
        · go_simp
          refine hK _ _ ?_; clear hK K
          refine wpAnyIn_ready (rs := [8]) (by kernel_rfl) (by simp) ?_
          refine AllReadyIn.cons rfl (fun K hK => ?_) ?_
          · go_simp
            refine hK _ _ ?_; clear hK K
            refine wpAnyIn_done (by kernel_rfl) ?_ _
            exact Right_leaf (hK.out _ _ _ _ _ _ _ _ 1) hor.out
          exact AllReadyIn.nil
        exact AllReadyIn.nil
      exact AllReadyIn.nil
    exact AllReadyIn.nil
  exact AllReadyIn.nil
end Go.Proofs.YtdjeoionafkanaaDoor

namespace Go.Proofs.YtdjeoionafkanaaDoor
open Go.RowKit Go.Shelf
set_option linter.unusedVariables false
attribute [local go_sem] Oper.semAt_some

/-- Between two rounds of Right. -/
def IRight (w : World) (g ps pz pc pb n : Nat) (xs : List Nat) (s : Nat) (k : Nat) (W : World) : Prop :=
  ∃ zs, ∃ d : Nat, RowAt W g zs ∧ zs.length = n ∧ Ws zs ∧ d < 2 ^ s ∧ (∀ j, j < n - k → zs[j]? = xs[j]?) ∧ V (zs.drop (n - k)) * 2 ^ s + d = V (xs.drop (n - k)) ∧
    Wd W ps (.int .i64 (s : Int)) ∧ Wd W pz (.slice (some ⟨g, 0, none⟩) n n) ∧ Wd W pc (.int .u64 (d * 2 ^ (64 - s) : Nat)) ∧ Wd W pb (.slice (some ⟨g, 0, none⟩) n n) ∧ Below w.heap.size w W

theorem IRight_own {w : World} {g ps pz pc pb n : Nat} {xs : List Nat} {s B : Nat} (hB : w.heap.size ≤ B) : OwnFrom B (IRight w g ps pz pc pb n xs s) := by
  rintro k W W' row ⟨zs, d, h1, h2, h3, h4, h5, h6, h7, h8, h9, h10, h11⟩ hg hr
  have hr2 : ∀ j, row = some j → ∃ o : Obj, W.heap[j]? = some o ∧ o.isCells = false := fun j e => (hr j e).2
  exact ⟨zs, d, h1.kept hg hr2, h2, h3, h4, h5, h6, h7.kept hg hr2, h8.kept hg hr2, h9.kept hg hr2, h10.kept hg hr2, h11.grown hg h11.size (fun j e => by have := (hr j e).1; omega)⟩
theorem IRight_reads {w : World} {g ps pz pc pb n : Nat} {xs : List Nat} {s : Nat} (hl : xs.length = n) (k : Nat) (W : World) (h : IRight w g ps pz pc pb n xs s k W) :
    Reads pb (some ⟨g, 0, none⟩) n n (fun k => xs.getD (n - 1 - k) 0) k W := by
  obtain ⟨zs, d, h1, h2, h3, h4, h5, h6, h7, h8, h9, h10, h11⟩ := h
  refine ⟨h10.1, fun hk => ⟨g, 0, rfl, ?_⟩⟩
  rw [Nat.zero_add]
  refine h1.cell ?_
  rw [h5 _ (by omega)]
  show xs[n - 1 - k]? = some (xs.getD (n - 1 - k) 0)
  rw [List.getD_eq_getElem?_getD, List.getElem?_eq_getElem (by omega)]
  rfl
theorem IRight_drewN {w : World} {g ps pz pc pb n : Nat} {xs : List Nat} {s k : Nat} {W : World} (h : IRight w g ps pz pc pb n xs s k W) (m : Nat) : IRight w g ps pz pc pb n xs s k (W.drewN m) := by
  obtain ⟨zs, d, h1, h2, h3, h4, h5, h6, h7, h8, h9, h10, h11⟩ := h
  exact ⟨zs, d, h1, h2, h3, h4, h5, h6, h7, h8, h9, h10, below_drewN h11 m⟩
theorem right_step {B p q x e a b : Nat} (hB : p * q = B) (h2 : a * p + e = b) : (x / p + q * e + B * a) * p + x % p = x + B * b := by
  have h := Nat.div_add_mod x p
  subst hB
  subst h2
  generalize x / p = u at *
  generalize x % p = v at *
  subst h
  grind
theorem right_lt {B p q x e : Nat} (hB : p * q = B) (hx : x < B) (he : e < p) : x / p + q * e < B := by
  have h1 : x / p < q := Nat.div_lt_of_lt_mul (by rw [hB]; exact hx)
  have h2 : q * (e + 1) ≤ q * p := Nat.mul_le_mul_left _ he
  rw [Nat.mul_succ, Nat.mul_comm q p, hB] at h2
  omega
theorem right_or {x e s t : Nat} (hB : 2 ^ s * 2 ^ t = B64) (hx : x < B64) (he : e < 2 ^ s) : bits BinOp.or IntKind.u64 ((x / 2 ^ s : Nat) : Int) ((e * 2 ^ t : Nat) : Int) = ((x / 2 ^ s + 2 ^ t * e : Nat) : Int) := by
  have h1 : x / 2 ^ s < 2 ^ t := Nat.div_lt_of_lt_mul (by rw [hB]; exact hx)
  have hp : 0 < 2 ^ s := Nat.pow_pos (by decide)
  have hq : 0 < 2 ^ t := Nat.pow_pos (by decide)
  have h2 : e * 2 ^ t < B64 := by rw [← hB]; exact Nat.mul_lt_mul_of_pos_right he hq
  have h3 : x / 2 ^ s < B64 := Nat.lt_of_le_of_lt (Nat.div_le_self _ _) hx
  rw [bits_or_u64_nat _ _ h3 h2, Nat.or_comm, Nat.mul_comm e, ← Nat.two_pow_add_eq_or_of_lt h1, Nat.add_comm]
theorem IRight_step {w W : World} {g ps pz pc pb n : Nat} {xs : List Nat} {s k i x e : Nat} {zs : List Nat} (hd : g ≠ ps ∧ g ≠ pz ∧ g ≠ pc ∧ g ≠ pb ∧ ps ≠ pc ∧ pz ≠ pc ∧ pb ≠ pc) (hg0 : w.heap.size ≤ g) (hr0 : w.heap.size ≤ pc) (hl : xs.length = n) (hi : i + 1 + k = n) (hx : xs[i]? = some x) (hs63 : s ≤ 63) (hxB : x < B64) (hz : x / 2 ^ s + 2 ^ (64 - s) * e < B64)
    (h1 : RowAt W g zs) (h2 : zs.length = n) (h3 : Ws zs) (h4 : e < 2 ^ s) (h5 : ∀ j, j < n - k → zs[j]? = xs[j]?) (h6 : V (zs.drop (n - k)) * 2 ^ s + e = V (xs.drop (n - k)))
    (h7 : Wd W ps (.int .i64 (s : Int))) (h8 : Wd W pz (.slice (some ⟨g, 0, none⟩) n n)) (h9 : Wd W pc (.int .u64 (e * 2 ^ (64 - s) : Nat))) (h10 : Wd W pb (.slice (some ⟨g, 0, none⟩) n n)) (h11 : Below w.heap.size w W) :
    IRight w g ps pz pc pb n xs s (k + 1) ((W.setCell ⟨g, i, none⟩ (.int .u64 (x / 2 ^ s + 2 ^ (64 - s) * e : Nat))).setCell ⟨pc, 0, none⟩ (.int .u64 (x % 2 ^ s * 2 ^ (64 - s) : Nat))) := by
  have hp : 0 < 2 ^ s := Nat.pow_pos (by decide)
  refine ⟨zs.set i _, x % 2 ^ s, (h1.set i _).far hd.2.2.1 _, by rw [List.length_set]; exact h2, Ws_set h3 i _ hz, Nat.mod_lt _ hp, fun j hj => ?_, ?_, (h7.far (p := ⟨g, i, none⟩) hd.1.symm _).far (p := ⟨pc, 0, none⟩) hd.2.2.2.2.1 _, (h8.far (p := ⟨g, i, none⟩) hd.2.1.symm _).far (p := ⟨pc, 0, none⟩) hd.2.2.2.2.2.1 _, (h9.far (p := ⟨g, i, none⟩) hd.2.2.1.symm _).set _, (h10.far (p := ⟨g, i, none⟩) hd.2.2.2.1.symm _).far (p := ⟨pc, 0, none⟩) hd.2.2.2.2.2.2 _, (h11.setCell (p := ⟨g, i, none⟩) hg0 _).setCell (p := ⟨pc, 0, none⟩) hr0 _⟩
  · rw [List.getElem?_set_ne (by omega)]
    exact h5 j (by omega)
  · have e1 : n - (k + 1) = i := by omega
    have e2 : n - k = i + 1 := by omega
    rw [e1, V_drop xs i x hx, V_drop (zs.set i _) i _ (by rw [List.getElem?_set_self (by omega)]), drop_set]
    rw [e2] at h6
    exact right_step (pow_split s hs63) h6
theorem Right_end {w W : World} {g D n : Nat} {zs xs : List Nat} {d s B : Nat} (hg : w.heap.size ≤ g) (hgB : g < B) (hn : n ≤ 4096)
    (h : RowAt W g zs ∧ zs.length = n ∧ Ws zs ∧ d < 2 ^ s ∧ V (zs.drop (n - n)) * 2 ^ s + d = V (xs.drop (n - n)) ∧ Below w.heap.size w W ∧ B ≤ D) :
    ∃ v zs, ∃ d' : Nat, Ending.returned (.tuple #[.slice (some ⟨g, 0, none⟩) n n, .int .u64 (d * 2 ^ (64 - s) : Nat), .int .i64 0]) = .returned (.tuple #[v, .int .u64 (d' * 2 ^ (64 - s) : Nat), .int .i64 0]) ∧ d' < 2 ^ s ∧
      V zs * 2 ^ s + d' = V xs ∧ Nw w (W.drew.putObj D (.deferred none)) v n zs ∧ Below w.heap.size w (W.drew.putObj D (.deferred none)) := by
  obtain ⟨h1, h2, h3, h4, h5, h6, h7⟩ := h
  rw [Nat.sub_self, List.drop_zero, List.drop_zero] at h5
  have hrow : RowAt (W.drew.putObj D (.deferred none)) g zs := RowAt.put (W := W.drew) h1 (by omega) _
  have hown := hrow.own hg (by omega)
  rw [h2] at hown
  exact ⟨_, zs, d, rfl, h4, h5, ⟨h2, h3, hown⟩, below_putObj h6.drew (by omega) _⟩

set_option maxHeartbeats 1000000 in
theorem Right_ok (A : Option Addr) (n c : Nat) (xs : List Nat) (s : Nat) (w : World) (hn : n ≤ 4096) (hx : Sl w A n c xs) (hs63 : s ≤ 63) :
    Calls Tryd.prog 82 #[.slice A n c, .int .i64 s] w fun e w' => ∃ v zs, ∃ d : Nat, e = .returned (.tuple #[v, .int .u64 (d * 2 ^ (64 - s) : Nat), .int .i64 0]) ∧ d < 2 ^ s ∧
      V zs * 2 ^ s + d = V xs ∧ Nw w w' v n zs ∧ Below w.heap.size w w' := by
  have Hk := Lib.hid (chk_one n hn)
  have Hx := Lib.hid hx
  clear hx
  refine (callsIn_wide (n := 5)).1 ?_
  refine callsIn_of_wp_marks Tryd.func82 rfl trivial ?_ rfl
  simp only [Tryd.ntmps82, List.size_toArray, List.length_cons, List.length_nil, Nat.reduceAdd, Nat.reduceSub, Array.replicate_succ, Array.replicate_zero, List.push_toArray, List.append_toArray, List.nil_append, List.cons_append]
  have hb2 : Below w.heap.size w (((w.alloc (.cells #[.int .i64 (s : Int)] 3)).alloc (.cells #[.int .i64 (n : Int)] 3)).alloc (.cells #[.int .u64 0] 23)) := (((Below.refl _ _).alloc (Nat.le_refl _) _).alloc (by simp) _).alloc (by simp; omega) _
  have hW0 := Wd.new ((w.alloc (.cells #[.int .i64 (s : Int)] 3)).alloc (.cells #[.int .i64 (n : Int)] 3)) (.int .u64 0) 23
  simp only [World.size_alloc] at hW0
  have H2 := Lib.hid (And.intro hb2 (And.intro (Hx.out.below hb2) (And.intro (((Wd.new w (.int .i64 (s : Int)) 3).alloc (.cells #[.int .i64 (n : Int)] 3)).alloc (.cells #[.int .u64 0] 23)) hW0)))
  clear hb2 hW0
  gi_wp2_with (first
    | (refine ⟨trivial, ?_⟩; gi_at_call 66; refine (callsIn_wide.2 (checkLengths_one n _ _ (by simp))).mono ?_; rintro e w' ⟨rfl, rfl⟩; rw [Hk.out])
    | (refine ⟨trivial, ?_⟩; gi_at_call 154; refine (callsIn_wide.2 (outOfWord_no s hs63 _)).mono ?_; rintro e w' ⟨rfl, rfl⟩)
    | (refine ⟨trivial, ?_⟩; gi_at_call 152; refine (callsIn_wide.2 (copied_ok A n c xs _ hn H2.out.2.1)).mono ?_; rintro e w1 ⟨rfl, hrow, hb1⟩; simp only [World.size_alloc] at hrow hb1; have Hrow := Lib.hid hrow; have Hb1 := Lib.hid hb1; clear hrow hb1)
    | (refine ⟨trivial, ?_⟩; gi_at_call 67; refine (callsIn_wide.2 (fromBack_any (.slice none 0 0) _ _ _ _)).mono ?_; rintro e w' ⟨rfl, rfl⟩))
  have hg1 : w.heap.size + 1 + 1 + 1 < w1.heap.size := Hrow.out.lt
  have hl := Hx.out.1
  have el : ∀ k, k < n → ∃ x, xs[n - 1 - k]? = some x ∧ xs.getD (n - 1 - k) 0 = x ∧ x < B64 := fun k hk => by
    have hlt : n - 1 - k < xs.length := by omega
    exact ⟨xs[n - 1 - k], List.getElem?_eq_getElem hlt, by rw [List.getD_eq_getElem?_getD, List.getElem?_eq_getElem hlt]; rfl, Hx.out.2.2.2.1 _ (List.getElem_mem hlt)⟩
  have hbW : Below w.heap.size w w1 := H2.out.1.trans (Hb1.out.mono (by omega))
  have hI0 : IRight w (w.heap.size + 1 + 1 + 1) w.heap.size w1.heap.size (w.heap.size + 1 + 1) (w1.heap.size + 1) n xs s 0 ((w1.alloc (.cells #[.slice (some ⟨w.heap.size + 1 + 1 + 1, 0, none⟩) n n] 22)).alloc (.cells #[.slice (some ⟨w.heap.size + 1 + 1 + 1, 0, none⟩) n n] 22)) := by
    have q1 := (Wd.new w1 (.slice (some ⟨w.heap.size + 1 + 1 + 1, 0, none⟩) n n) 22).alloc (.cells #[.slice (some ⟨w.heap.size + 1 + 1 + 1, 0, none⟩) n n] 22)
    have q2 := Wd.new (w1.alloc (.cells #[.slice (some ⟨w.heap.size + 1 + 1 + 1, 0, none⟩) n n] 22)) (.slice (some ⟨w.heap.size + 1 + 1 + 1, 0, none⟩) n n) 22
    simp only [World.size_alloc] at q2
    have hW := ((H2.out.2.2.1.below Hb1.out (by omega)).alloc (.cells #[.slice (some ⟨w.heap.size + 1 + 1 + 1, 0, none⟩) n n] 22)).alloc (.cells #[.slice (some ⟨w.heap.size + 1 + 1 + 1, 0, none⟩) n n] 22)
    have hC := ((H2.out.2.2.2.below Hb1.out (by omega)).alloc (.cells #[.slice (some ⟨w.heap.size + 1 + 1 + 1, 0, none⟩) n n] 22)).alloc (.cells #[.slice (some ⟨w.heap.size + 1 + 1 + 1, 0, none⟩) n n] 22)
    refine ⟨xs, 0, (Hrow.out.alloc _).alloc _, hl, Hx.out.2.2.2.1, Nat.pow_pos (by decide), fun _ _ => rfl, ?_, hW, q1, by rw [Nat.zero_mul]; exact hC, q2, (hbW.alloc hbW.size _).alloc (by have := hbW.size; simp; omega) _⟩
    rw [Nat.sub_zero, V_drop_all xs n (by omega), Nat.zero_mul]
  refine wpIn_rounds (F := Fence.wide) (n := 5) rfl (by decide) (gf := 143) (lb := #[.pointer (some ⟨w1.heap.size + 1, 0, none⟩)]) rfl trivial (fun args w => run_callFunc_enter Tryd.func143 (by kernel_rfl) (by kernel_rfl) args w)
    (fromBack_rounds Fence.wide 4 trivial rfl (by decide) (w1.heap.size + 1) (some ⟨w.heap.size + 1 + 1 + 1, 0, none⟩) n n (fun k => xs.getD (n - 1 - k) 0) hn _) (Below.refl _ _) (fun _ => rfl)
    (IRight w (w.heap.size + 1 + 1 + 1) w.heap.size w1.heap.size (w.heap.size + 1 + 1) (w1.heap.size + 1) n xs s) (fun _ _ _ => False) (IRight_own (by have := hbW.size; simp; omega)) (fun _ _ _ _ _ hs _ _ => hs) (IRight_reads hl) hI0
    (fun k => { tmps := #[.slice A n c, .int .i64 (s : Int), undef, .pointer (some ⟨w.heap.size, 0, none⟩), .slice none 0 0, .int .u64 0, .int .i64 0, .int .i64 0, .pointer (some ⟨w.heap.size + 1 + 1, 0, none⟩), .pointer (some ⟨w1.heap.size, 0, none⟩), .int .i64 ((n - 1 - k : Nat) : Int), .int .u64 (xs.getD (n - 1 - k) 0 : Int), .slice A n c, .int .i64 (n : Int), .slice (some ⟨w.heap.size + 1, 0, none⟩) 1 1, .int .i64 0, .int .i64 0, .bool false, undef, .int .i64 (s : Int), .bool false, .slice A n c, .slice (some ⟨w.heap.size + 1 + 1 + 1, 0, none⟩) n n, .slice (some ⟨w.heap.size + 1 + 1 + 1, 0, none⟩) n n, .func (.func 143) #[] #[.pointer (some ⟨w1.heap.size + 1, 0, none⟩)], .int .i64 ((n - 1 - k : Nat) : Int), .int .u64 (xs.getD (n - 1 - k) 0 : Int), undef, undef, undef, undef, undef, undef, undef, undef, undef, undef, undef, undef, undef, undef], defers := [] }) ?assign ?body ?done ?stop
  case assign =>
    intro l k W K hK
    gi_wp2
    exact hK
  case body =>
    rintro l k W ⟨zs, e, h1, h2, h3, h4, h5, h6, h7, h8, h9, h10, h11⟩ hk
    obtain ⟨x, hx1, hx2, hxB⟩ := el k hk
    have hz := right_lt (pow_split s hs63) hxB h4
    rw [hx2]
    have hi : ∃ i, n - 1 - k = i := ⟨_, rfl⟩
    obtain ⟨i, hi⟩ := hi
    rw [hi]
    have hin : (i : Int) < n := by omega
    have hzi : zs[i]? = some x := by rw [h5 i (by omega), ← hi]; exact hx1
    have hne : w.heap.size + 1 + 1 + 1 ≠ w.heap.size + 1 + 1 := by omega
    have c1 := h8.1
    have c2 := h9.1
    have c3 := h7.1
    have c4 := h1.cell hzi
    have f1 := h1.frozen i
    have hor : bits BinOp.or IntKind.u64 ((x : Int) / 2 ^ s) ((e * 2 ^ (64 - s) : Nat) : Int) = ((x / 2 ^ s + 2 ^ (64 - s) * e : Nat) : Int) := by
      rw [show ((x : Int) / 2 ^ s) = ((x / 2 ^ s : Nat) : Int) by simp]
      exact right_or (pow_split s hs63) hxB h4
    have Hst := Lib.hid (IRight_step (w := w) (ps := w.heap.size) (pz := w1.heap.size) (pc := w.heap.size + 1 + 1) (pb := w1.heap.size + 1) (s := s) (i := i) ⟨by omega, by omega, by omega, by omega, by omega, by omega, by omega⟩ (by omega) (by omega) hl (show i + 1 + k = n by omega) (by rw [← hi]; exact hx1) hs63 hxB hz h1 h2 h3 h4 h5 h6 h7 h8 h9 h10 h11)
    have e1 : ∀ u m, ((W.setCell ⟨w.heap.size + 1 + 1 + 1, i, none⟩ u).drewN m).cell? ⟨w.heap.size, 0, none⟩ = some (.int .i64 (s : Int)) := fun u m => (h7.far (p := ⟨w.heap.size + 1 + 1 + 1, i, none⟩) (by show w.heap.size ≠ w.heap.size + 1 + 1 + 1; omega) u).1
    have e2 : ∀ u m, ((W.setCell ⟨w.heap.size + 1 + 1 + 1, i, none⟩ u).drewN m).frozen? ⟨w.heap.size + 1 + 1, 0, none⟩ = false := fun u m => (h9.far (p := ⟨w.heap.size + 1 + 1 + 1, i, none⟩) (by show w.heap.size + 1 + 1 ≠ w.heap.size + 1 + 1 + 1; omega) u).2
    have e3 : ∀ u m, ((W.setCell ⟨w.heap.size + 1 + 1 + 1, i, none⟩ u).drewN m).cell? ⟨w.heap.size + 1 + 1, 0, none⟩ = some (.int .u64 (e * 2 ^ (64 - s) : Nat)) := fun u m => (h9.far (p := ⟨w.heap.size + 1 + 1 + 1, i, none⟩) (by show w.heap.size + 1 + 1 ≠ w.heap.size + 1 + 1 + 1; omega) u).1
    have Hor := Lib.hid hor
    have hshl : IntKind.u64.wrap ((x : Int) * 2 ^ (64 - s)) = ((x % 2 ^ s * 2 ^ (64 - s) : Nat) : Int) := by
      rw [wrap_u64, shl_mod B64 x (2 ^ s) (2 ^ (64 - s)) (by rw [Nat.mul_comm]; exact pow_split s hs63), Nat.mul_comm]
    have Hsh := Lib.hid hshl
    clear h1 h2 h3 h4 h5 h6 h7 h8 h9 h10 h11 hx1 hx2 hzi hi hI0 el hl hz hor hshl hxB
    gi_wp2
    rename_i K hK
    refine Right_round l n i (w.heap.size + 1 + 1 + 1) w1.heap.size (w.heap.size + 1 + 1) w.heap.size W x s _ _ _ hin hs63 c1 c2 c3 c4 f1 Hor _ _ _ _ _ _ _ _ _ _ _ _ _ _ _ _ _ _ _ _ _ _ _ _ _ _ _ _ _ _ _ _ _ _ _ _ (Lib.hid fun _ _ _ _ _ _ _ _ m => ?_)
    refine hK _ _ ?_
    clear hK K
    have e4 := e1 (.int .u64 (x / 2 ^ s + 2 ^ (64 - s) * e : Nat)) m
    have e5 := e2 (.int .u64 (x / 2 ^ s + 2 ^ (64 - s) * e : Nat)) m
    have e6 := e3 (.int .u64 (x / 2 ^ s + 2 ^ (64 - s) * e : Nat)) m
    have Hfin : Hid ((∀ B, KeepsFrom B W (((W.setCell ⟨w.heap.size + 1 + 1 + 1, i, none⟩ (.int .u64 (x / 2 ^ s + 2 ^ (64 - s) * e : Nat))).drewN m).setCell ⟨w.heap.size + 1 + 1, 0, none⟩ (.int .u64 (x % 2 ^ s * 2 ^ (64 - s) : Nat)))) ∧ IRight w (w.heap.size + 1 + 1 + 1) w.heap.size w1.heap.size (w.heap.size + 1 + 1) (w1.heap.size + 1) n xs s (k + 1) (((W.setCell ⟨w.heap.size + 1 + 1 + 1, i, none⟩ (.int .u64 (x / 2 ^ s + 2 ^ (64 - s) * e : Nat))).drewN m).setCell ⟨w.heap.size + 1 + 1, 0, none⟩ (.int .u64 (x % 2 ^ s * 2 ^ (64 - s) : Nat)))) :=
      ⟨fun B => (((KeepsOthers.setCell W _ _).trans (KeepsOthers_drewN _ m)).trans (KeepsOthers.setCell _ _ _)).from B, IRight_drewN Hst.out m⟩
    generalize (W.setCell ⟨w.heap.size + 1 + 1 + 1, i, none⟩ (.int .u64 (x / 2 ^ s + 2 ^ (64 - s) * e : Nat))).drewN m = W2 at *
    clear e1 e2 e3 c1 c2 c3 c4 f1 Hor Hst
    gi_wp2
    rw [Hsh.out]
    exact ⟨Hfin.out.1 _, Hfin.out.2⟩
  case done =>
    rintro D W hD ⟨zs, d, h1, h2, h3, h4, h5, h6, h7, h8, h9, h10, h11⟩ hcol
    have hmix : Tryd.prog.follows Departure.mixedOrders = true := by kernel_rfl
    have c1 := h8.1
    have c2 := h9.1
    have Hf := Lib.hid (And.intro h1 (And.intro h2 (And.intro h3 (And.intro h4 (And.intro h6 (And.intro h11 hD))))))
    clear h1 h2 h3 h4 h5 h6 h7 h8 h9 h10 h11 hI0 hl el
    gi_wp2
    rename_i K hK
    refine region_plain ?_
    gi_region_with_o (fail)
    all_goals refine hK _ _ ?_
    all_goals clear hK K
    all_goals refine wpIn_ret ?_
    all_goals refine leaves_marked3 rfl hcol ?_
    all_goals exact Right_end (by omega) (by simp; omega) hn Hf.out
  case stop =>
    rintro D c k W _ h _
    exact h.elim

set_option maxHeartbeats 400000 in
theorem Right_err (A : Option Addr) (n c : Nat) (s : Int) (w : World) (hn : 4096 < n) :
    Calls Tryd.prog 82 #[.slice A n c, .int .i64 s] w fun e w' => e = .returned (.tuple #[.slice none 0 0, .int .u64 0, .int .i64 2]) ∧ Below w.heap.size w w' := by
  have Hz := Lib.hid (chk_one_big n hn)
  go_enter Tryd.func82, Tryd.ntmps82
  go_wp2_with (go_at_call 66; refine (checkLengths_one n _ _ (by simp)).mono ?_; rintro e w' ⟨rfl, rfl⟩; rw [Hz.out])
  go_ret3
  exact ⟨rfl, ((Below.refl _ _).alloc (Nat.le_refl _) _).alloc (by simp) _⟩
set_option maxHeartbeats 400000 in
theorem Right_arg (A : Option Addr) (n c : Nat) (s : Int) (w : World) (hn : n ≤ 4096) (hs : s < 0 ∨ 63 < s) :
    Calls Tryd.prog 82 #[.slice A n c, .int .i64 s] w fun e w' => e = .returned (.tuple #[.slice none 0 0, .int .u64 0, .int .i64 1]) ∧ Below w.heap.size w w' := by
  have Hz := Lib.hid (chk_one n hn)
  have Hs := Lib.hid hs
  clear hs
  go_enter Tryd.func82, Tryd.ntmps82
  go_wp2_with (first | (go_at_call 66; refine (checkLengths_one n _ _ (by simp)).mono ?_; rintro e w' ⟨rfl, rfl⟩; rw [Hz.out]) | (go_at_call 154; refine (outOfWord_yes s Hs.out _).mono ?_; rintro e w' ⟨rfl, rfl⟩))
  go_ret3
  exact ⟨rfl, ((Below.refl _ _).alloc (Nat.le_refl _) _).alloc (by simp) _⟩
end Go.Proofs.YtdjeoionafkanaaDoor

namespace Go.Proofs.YtdjeoionafkanaaDoor
open Go.RowKit
set_option linter.unusedVariables false
set_option maxRecDepth 10000

theorem pow_lt_B (s : Nat) (h : s ≤ 63) : 2 ^ s < B64 := by
  have : (2 : Nat) ^ s < 2 ^ 64 := Nat.pow_lt_pow_right (by decide) (by omega)
  exact this

set_option maxHeartbeats 1000000 in
theorem RLeft_ok (A : Option Addr) (n c : Nat) (xs : List Nat) (s : Nat) (w : World) (hn : n ≤ 4096) (hx : Sl w A n c xs) (hs : s ≤ 63) :
    Calls Tryd.prog 164 #[.slice A n c, .int .i64 s] w fun e w' => ∃ v zs, ∃ d : Nat, e = .returned (.tuple #[v, .int .u64 d]) ∧ Nw w w' v n zs ∧ V zs + d * B64 ^ n = V xs * 2 ^ s ∧ Below w.heap.size w w' := by
  have hp := pow_lt_B s hs
  have HR := Lib.hid (mul_room (a := 0) (V_below hx.2.2.2.1 hx.1) hp (by decide))
  obtain ⟨p, hpp⟩ : ∃ p : Nat, 2 ^ s = p := ⟨_, rfl⟩
  have hw1 : IntKind.u64.wrap ((1 : Int) * 2 ^ s) = (p : Int) := by
    have := wrap_u64 1 s
    rw [Nat.one_mul, Nat.mod_eq_of_lt hp, hpp] at this
    exact this
  have hw2 : IntKind.u64.wrap ((2 : Int) ^ s) = (p : Int) := by rw [← hw1, Int.one_mul]
  have Hx := Lib.hid (And.intro hx (And.intro (show p < B64 by rw [← hpp]; exact hp) hpp))
  clear hx hp hpp
  go_enter Tryd.func164, Tryd.ntmps164
  go_wp2_with (fail)
  go_region_held3 (fun w' => True) (trivial)
    (first | ((go_at_call 71; refine (Digits_ok _ _ _ xs w.drew (by omega) Hx.out.1).mono ?_; rintro e w1 ⟨v1, ds1, rfl, hn1, hd1, hv1, hb1⟩; obtain ⟨A1, c1, rfl, hs1⟩ := hn1.sl; have H1 := Lib.hid (And.intro hs1 (And.intro hd1 (And.intro hv1 (belowA hb1)))); clear hs1 hd1 hv1 hb1 hn1)) | ((go_at_call 76; refine (Word_ok p _ Hx.out.2.1).mono ?_; rintro e w2 ⟨A2, ds2, rfl, hs2, hd2, hv2, hb2⟩; have H2 := Lib.hid (And.intro (H1.out.1.below hb2) (And.intro hs2 (And.intro hd2 (And.intro hv2 (H1.out.2.2.2.trans (hb2.mono H1.out.2.2.2.size)))))); clear hs2 hd2 hv2 hb2)) | ((go_at_call 75; refine (Times_ok _ _ _ _ _ _ ds1 ds2 _ (by omega) (by omega) H2.out.1 H2.out.2.1 H1.out.2.1 H2.out.2.2.1).mono ?_; rintro e w3 ⟨v3, ds3, rfl, hn3, hd3, hv3, hb3⟩; obtain ⟨A3, c3, rfl, hs3⟩ := hn3.sl; have H3 := Lib.hid (And.intro hs3 (And.intro hd3 (And.intro (show VD ds3 = V xs * p by rw [hv3, H1.out.2.2.1, H2.out.2.2.2.1]) (H2.out.2.2.2.2.trans (hb3.mono H2.out.2.2.2.2.size))))); clear hs3 hd3 hv3 hb3 hn3)) | ((go_at_call 74; refine (Cut_ok _ _ _ n ds3 _ (by omega) (by omega) H3.out.1 H3.out.2.1 (by rw [H3.out.2.2.1, Nat.pow_succ, ← Hx.out.2.2]; have := HR.out; omega)).mono ?_; rintro e w4 ⟨v4, zs, d, rfl, hn4, hd4, hv4, hb4⟩; have H4 := Lib.hid (And.intro hn4 (And.intro hv4 hb4)); clear hn4 hv4 hb4 hd4)))
  go_wp2_with (fail)
  go_ret2
  obtain ⟨h1, h2, h3⟩ := H4.out
  have h4 := H3.out.2.2.2
  rw [H3.out.2.2.1, ← Hx.out.2.2] at h2
  exact ⟨v4, zs, d, rfl, ⟨h1.1, h1.2.1, own_base h1.2.2 h4.size⟩, h2, h4.trans (h3.mono h4.size)⟩
end Go.Proofs.YtdjeoionafkanaaDoor

namespace Go.Proofs.YtdjeoionafkanaaDoor
open Go.RowKit
set_option linter.unusedVariables false
set_option maxRecDepth 10000

/-- What Right's loop keeps, k words from the top done; e is what falls. -/
def RI (w : World) (g n : Nat) (xs : List Nat) (s k e : Nat) (zs : List Nat) (W : World) : Prop :=
  w.heap.size ≤ g ∧ RowAt W g zs ∧ zs.length = n ∧ Ws zs ∧ e < 2 ^ s ∧ V (zs.drop (n - k)) * 2 ^ s + e = V (xs.drop (n - k)) ∧ Below w.heap.size w W
theorem RI.step {w W : World} {g n s k i x e : Nat} {xs zs : List Nat} (h : RI w g n xs s k e zs W) (hs : s ≤ 63) (hl : xs.length = n) (hi : i + 1 + k = n) (hx : xs[i]? = some x) (hxB : x < B64) :
    x / 2 ^ s + 2 ^ (64 - s) * e < B64 ∧ RI w g n xs s (k + 1) (x % 2 ^ s) (zs.set i (x / 2 ^ s + 2 ^ (64 - s) * e)) (W.setCell ⟨g, i, none⟩ (.int .u64 (x / 2 ^ s + 2 ^ (64 - s) * e : Nat))) := by
  obtain ⟨h0, h1, h2, h3, h4, h5, h6⟩ := h
  have hp : 0 < 2 ^ s := Nat.pow_pos (by decide)
  have hz := right_lt (pow_split s hs) hxB h4
  refine ⟨hz, h0, h1.set i _, by rw [List.length_set]; exact h2, Ws_set h3 i _ hz, Nat.mod_lt _ hp, ?_, h6.setCell (p := ⟨g, i, none⟩) h0 _⟩
  have e1 : n - (k + 1) = i := by omega
  have e2 : n - k = i + 1 := by omega
  rw [e1, V_drop xs i x hx, V_drop (zs.set i _) i _ (by rw [List.getElem?_set_self (by omega)]), drop_set]
  rw [e2] at h5
  exact right_step (pow_split s hs) h5

set_option maxHeartbeats 1000000 in
theorem RRight_ok (A : Option Addr) (n c : Nat) (xs : List Nat) (s : Nat) (w : World) (hn : n ≤ 4096) (hx : Sl w A n c xs) (hs : s ≤ 63) :
    Calls Tryd.prog 158 #[.slice A n c, .int .i64 s] w fun e w' => ∃ v zs, ∃ d : Nat, e = .returned (.tuple #[v, .int .u64 (d * 2 ^ (64 - s) : Nat)]) ∧ d < 2 ^ s ∧ Nw w w' v n zs ∧ V zs * 2 ^ s + d = V xs ∧ Below w.heap.size w w' := by
  obtain ⟨i0, hi, hz0, hz1, hz2⟩ := info_parts Tryd.info23
  have Hx := Lib.hid hx
  clear hx
  go_enter Tryd.func158, Tryd.ntmps158
  go_wp2_with (at_make; refine wpList_make_full _ rfl _ _ 22 rfl w.heap.size 23 i0 (.int .u64 0) 1 Tryd.underlying22 hi hz0 hz1 .i64 .i64 _ _ n rfl rfl rfl rfl (by rw [hz2]; omega) (by unfold maxLen; omega) (Nat.le_refl _) ?_)
  intro w1 hown hgrow
  have hb1 := below_of_grown hgrow (Nat.le_refl _)
  have hrow := RowAt_zeros (by simpa using hown)
  have HT : Hid (RI w w.heap.size n xs s 0 0 (List.replicate n 0) w1) := ⟨Nat.le_refl _, hrow, by simp, (Dg_zeros' n).ws, Nat.pow_pos (by decide), by rw [Nat.sub_zero, V_drop_all xs n (by rw [Hx.out.1]; exact Nat.le_refl _), V_drop_all _ n (by simp), Nat.zero_mul], hb1⟩
  clear hown hgrow hb1 hrow
  generalize w.heap.size = g at *
  go_wp2
  go_loopw [7, 8] (fun fv iv wr => ∃ (k f e : Nat) (j : Int) (zs : List Nat), k ≤ n ∧ iv = .int .i64 j ∧ j + 1 + k = n ∧ fv = .int .u64 f ∧ Hid (f = e * 2 ^ (64 - s) ∧ RI w g n xs s k e zs wr)) (fun _ iv _ => (intOf iv + 1).toNat)
  case atStart => exact ⟨0, 0, 0, (n : Int) - 1, _, by omega, rfl, by omega, rfl, by simp, HT.out⟩
  case round =>
    clear HT
    obtain ⟨k, f, e, j, zs, hkn, rfl, hj, rfl, hH⟩ := hrel
    by_cases hlt : k < n
    · obtain ⟨i, rfl⟩ := Int.eq_ofNat_of_zero_le (show 0 ≤ j by omega)
      have hil : i < xs.length := by rw [Hx.out.1]; omega
      have hg := List.getElem?_eq_getElem hil
      have hxB : xs[i] < B64 := Hx.out.2.2.2.1 _ (List.getElem_mem hil)
      obtain ⟨b, o, rfl, hb, hcx⟩ := Hx.out.2.2.2.2.at (uvs_get hg)
      generalize xs[i] = x at *
      have hR := hH.out.2
      have hcx2 := (hR.2.2.2.2.2.2.cell (p := ⟨b, o + i, none⟩) hb).trans hcx
      have hzl : i < zs.length := by rw [hR.2.2.1]; omega
      have hcz := hR.2.1.cell (List.getElem?_eq_getElem hzl)
      have hfz := hR.2.1.frozen i
      obtain ⟨hzB, hst⟩ := hR.step hs Hx.out.1 (show i + 1 + k = n by omega) hg hxB
      obtain ⟨q, hq, hq2⟩ : ∃ q : Nat, (x : Int) / 2 ^ s = (q : Int) ∧ q = x / 2 ^ s := ⟨x / 2 ^ s, by simp, rfl⟩
      have hz1' : f + q = x / 2 ^ s + 2 ^ (64 - s) * e := by rw [hH.out.1, hq2, Nat.mul_comm e, Nat.add_comm]
      obtain ⟨z, hz, hz2⟩ : ∃ z : Nat, (f : Int) + (q : Int) = (z : Int) ∧ z = x / 2 ^ s + 2 ^ (64 - s) * e := ⟨f + q, by omega, hz1'⟩
      rw [← hz2] at hst hzB
      have hzb : (z : Int) < 18446744073709551616 := by have hB : B64 = 18446744073709551616 := rfl; omega
      have hin : (i : Int) < n := by omega
      have hsh : IntKind.u64.wrap ((x : Int) * 2 ^ (64 - s)) = ((x % 2 ^ s * 2 ^ (64 - s) : Nat) : Int) := by
        rw [wrap_u64, shl_mod B64 x (2 ^ s) (2 ^ (64 - s)) (by rw [Nat.mul_comm]; exact pow_split s hs), Nat.mul_comm]
      obtain ⟨f', hf', hf2⟩ : ∃ f' : Nat, ((x % 2 ^ s * 2 ^ (64 - s) : Nat) : Int) = (f' : Int) ∧ f' = x % 2 ^ s * 2 ^ (64 - s) := ⟨_, rfl, rfl⟩
      rw [hf'] at hsh
      have HS := Lib.hid (And.intro hst hf2)
      have Hj := Lib.hid hj
      have hbg : b ≠ g := by have := hR.1; omega
      generalize zs[i] = zi at *
      clear hst hf2 hg hR hH hzl hq2 hz1' hz2 hf' hxB hzB hj hcx
      by_cases hs0 : 0 < s
      · go_wp2
        go_roundw
        case rel => exact ⟨k + 1, f', _, (i : Int) - 1, _, by omega, rfl, by have := Hj.out; omega, rfl, HS.out.2, HS.out.1⟩
        case measure => simp [intOf]
      · have hs00 : s = 0 := by omega
        have hf0 : f' = 0 := by rw [HS.out.2, hs00]; simp [Nat.mod_one]
        have HS2 : Hid (0 = x % 2 ^ s * 2 ^ (64 - s)) := by rw [← HS.out.2]; exact hf0.symm
        clear hf0 hs00
        go_wp2
        go_roundw
        case rel => exact ⟨k + 1, 0, _, (i : Int) - 1, _, by omega, rfl, by have := Hj.out; omega, rfl, HS2.out, HS.out.1⟩
        case measure => simp [intOf]
    · have hkn' : k = n := by omega
      have hneg : j < 0 := by omega
      have Hk := Lib.hid hkn'
      have hfe := hH.out.1
      have Hf := Lib.hid hfe
      clear hj hkn' hfe
      go_wp2
      go_ret2
      have hk := Hk.out
      have hf := Hf.out
      subst hk
      subst hf
      obtain ⟨h0, h1, h2, h3, h4, h5, h6⟩ := hH.out.2
      rw [Nat.sub_self, List.drop_zero, List.drop_zero] at h5
      have hown := h1.own h0 (by omega)
      rw [h2] at hown
      exact ⟨_, zs, e, rfl, h4, ⟨h2, h3, hown⟩, h5, h6⟩
end Go.Proofs.YtdjeoionafkanaaDoor

namespace Go.Proofs.YtdjeoionafkanaaDoor
open Go.RowKit
set_option linter.unusedVariables false

theorem append_ty {P : Program} (w : World) (t t' ty e : TypeId) (args : Array Value) (ht : P.underlying t = some (.slice e)) (ht' : P.underlying t' = some (.slice e)) : (Builtin.append_ #[t, t'] ty args).run P w = (Builtin.append_ #[t, t] ty args).run P w := by
  simp only [Builtin.append_, List.getElem?_toArray, List.getElem?_cons_zero, List.getElem?_cons_succ]
  match h0 : args[0]?, h1 : args[1]? with
  | none, _ => rfl
  | some a, none => rfl
  | some a, some b =>
    cases a with
    | slice A m c =>
      simp only [Sem.run_bind, run_underlying ht, run_underlying ht', Result.andThen_ok]
    | _ => simp only [Sem.run_bind, run_underlying ht, Result.andThen_ok]

theorem wpList_append_ty {P : Program} (w : World) {ops : Array Oper} {rest : List Oper} {o : Oper} {a : Act} {Q : Exit → Act → World → Prop} (hgd : o.guard = none) (s x : Operand) (t t' : TypeId)
    (ho : o.op = .call { callee := .builtin .append, args := #[s, x], argTypes := #[t, t'] })
    (base : Nat) (e : TypeId) (i : TypeInfo) (z : Value) (ht : P.underlying t = some (.slice e)) (ht' : P.underlying t' = some (.slice e)) (hi : P.info? e = some i) (hz : i.zero = some z)
    (hsize : i.size = 1) (hby : i.bytes = 8) (hzs : z.cells.size = 1)
    (v : Value) (n : Nat) (xs : List Value) (hs : a.eval s = v) (hown : w.ownsRow base e 1 v n xs)
    (B : Nat) (A : Option Addr) (m c : Nat) (news : List Value) (hx : a.eval x = .slice A m c) (hm : news.length = m) (hr : Rd w B A news) (h1 : ∀ u ∈ news, u.oneCell' = true)
    (hlen : n + m ≤ 17592186044416) (hbase : base ≤ w.heap.size)
    (h : ∀ v' w', w'.ownsRow base e 1 v' (n + m) (xs ++ news) → w.grownBy w' v.ownBlock → (v'.ownBlock = v.ownBlock ∨ v'.ownBlock = some w.heap.size) → wpList P ops Q rest (a.put o.dst v') w') : wpList P ops Q (o :: rest) a w := by
  refine wpList_plain hgd fun K hK => ?_
  obtain ⟨v', w', hrun, h2, h3, h4⟩ := run_append_rd (P := P) w base t o.type e i z ht hi hz hsize hby hzs v n xs hown B A m c news hm hr h1 hlen hbase
  rw [← append_ty w t t' o.type e _ ht ht'] at hrun
  unfold Oper.wp execOp
  simp only [ho, resolve, invoke, builtin, Sem.run_bind, Sem.run_pure, Result.andThen_ok, List.map_toArray, List.map_cons, List.map_nil, hs, hx, hrun]
  exact hK _ _ (h v' w' h2 h3 h4)
end Go.Proofs.YtdjeoionafkanaaDoor
