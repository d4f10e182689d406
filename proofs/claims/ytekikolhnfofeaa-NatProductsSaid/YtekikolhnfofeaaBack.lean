/- The contracts of words.copied and words.fromBack. -/
import Derived.Test.YtekikolhnfofeaaRange
import Derived.Test.YtekikolhnfofeaaLens
import Derived.Test.YtekikolhnfofeaaVal
import Derived.Shelf.Abstract
import Derived.Shelf.RegionOpen
import Derived.WalkKit
import Derived.OwnWalkIn
import Derived.TacticsInMore
import Derived.LoopNIn
import Derived.LoopIn
import Derived.Laws.CopyOwn
namespace Go.Proofs.Ytekikolhnfofeaa
open Go.RowKit Go.Shelf
set_option linter.unusedVariables false
attribute [local go_sem] Oper.semAt_some

/-- Block g is just the row zs. -/
def RowAt (W : World) (g : Nat) (zs : List Nat) : Prop := W.heap[g]? = some (.cells (uvs zs).toArray 37 (0, 0))

theorem RowAt.own {w W : World} {g : Nat} {zs : List Nat} (h : RowAt W g zs) (hg : w.heap.size ≤ g) (hl : zs.length ≤ 4096) : W.ownsRow w.heap.size 37 1 (.slice (some ⟨g, 0, none⟩) zs.length zs.length) zs.length (uvs zs) :=
  ⟨by rw [uvs_length]; omega, .inr ⟨g, zs.length, _, rfl, hg, h, Nat.le_refl _, by unfold maxLen; omega, by simp [uvs_length], by rw [Nat.mul_one]; exact List.take_of_length_le (by simp [uvs_length])⟩⟩
theorem RowAt.cell {W : World} {g : Nat} {zs : List Nat} (h : RowAt W g zs) {i x : Nat} (hi : zs[i]? = some x) : W.cell? ⟨g, i, none⟩ = some (.int .u64 (x : Int)) := by
  rw [cell_of_row W g i _ _ _ h]
  simpa using uvs_get hi

theorem RowAt.lt {W : World} {g : Nat} {zs : List Nat} (h : RowAt W g zs) : g < W.heap.size := (Array.getElem?_eq_some_iff.1 h).1
theorem RowAt.frozen {W : World} {g : Nat} {zs : List Nat} (h : RowAt W g zs) (i : Nat) : W.frozen? ⟨g, i, none⟩ = false := by
  unfold RowAt at h
  simp [World.frozen?, h]
theorem RowAt.set {W : World} {g : Nat} {zs : List Nat} (h : RowAt W g zs) (i x : Nat) : RowAt (W.setCell ⟨g, i, none⟩ (.int .u64 (x : Int))) g (zs.set i x) := by
  unfold RowAt at h ⊢
  simp [World.setCell, Array.getElem?_modify, h, uvs]
theorem RowAt.far {W : World} {g : Nat} {zs : List Nat} (h : RowAt W g zs) {p : Addr} (hp : g ≠ p.block) (u : Value) : RowAt (W.setCell p u) g zs := (Below.heap_setCell W p u g hp).trans h
theorem RowAt.alloc {W : World} {g : Nat} {zs : List Nat} (h : RowAt W g zs) (o : Obj) : RowAt (W.alloc o) g zs := (Below.heap_alloc W o g h.lt).trans h
theorem RowAt.kept {W W' : World} {row : Option Nat} {g : Nat} {zs : List Nat} (h : RowAt W g zs) (hg : W.grownBy W' row) (hrow : ∀ r, row = some r → ∃ o : Obj, W.heap[r]? = some o ∧ o.isCells = false) : RowAt W' g zs :=
  (hg.block g h.lt (fun e => by
    obtain ⟨o, ho, hc⟩ := hrow g e.symm
    unfold RowAt at h
    rw [h] at ho
    cases ho
    cases hc)).trans h
theorem Wd.kept {W W' : World} {row : Option Nat} {g : Nat} {v : Value} (h : Wd W g v) (hg : W.grownBy W' row) (hrow : ∀ r, row = some r → ∃ o : Obj, W.heap[r]? = some o ∧ o.isCells = false) : Wd W' g v :=
  ⟨cell_kept h.1 hg hrow, (frozen_kept h.1 hg hrow).trans h.2⟩
theorem Wd.far {a : World} {g : Nat} {v : Value} (h : Wd a g v) {p : Addr} (hp : g ≠ p.block) (u : Value) : Wd (a.setCell p u) g v :=
  ⟨(World.cell?_setCell_other a p _ u (fun e => hp (by rw [e]))).trans h.1, by rw [World.frozen?_setCell]; exact h.2⟩
theorem V_drop (xs : List Nat) (i x : Nat) (h : xs[i]? = some x) : V (xs.drop i) = x + B64 * V (xs.drop (i + 1)) := by
  obtain ⟨hi, hx⟩ := List.getElem?_eq_some_iff.1 h
  rw [List.drop_eq_getElem_cons hi, V, hx]
theorem V_drop_all (xs : List Nat) (i : Nat) (h : xs.length ≤ i) : V (xs.drop i) = 0 := by rw [List.drop_of_length_le h]; rfl
theorem drop_set (zs : List Nat) (i x : Nat) : (zs.set i x).drop (i + 1) = zs.drop (i + 1) := by
  rw [List.drop_set]
  simp
theorem Ws_set {zs : List Nat} (h : Ws zs) (i x : Nat) (hx : x < B64) : Ws (zs.set i x) := fun y hy => by
  rcases List.mem_or_eq_of_mem_set hy with h1 | h1
  · exact h y h1
  · rw [h1]; exact hx
theorem Try.size1 : (Try.prog.info? 37).map (·.size) = some 1 := by kernel_rfl
set_option maxHeartbeats 400000 in
theorem copied_ok (A : Option Addr) (n c : Nat) (xs : List Nat) (w : World) (hn : n ≤ 4096) (hx : Sl w A n c xs) :
    Calls Try.prog 110 #[.slice A n c] w fun e w' => e = .returned (.slice (some ⟨w.heap.size, 0, none⟩) n n) ∧ RowAt w' w.heap.size xs ∧ Below w.heap.size w w' := by
  obtain ⟨i0, hi, hz0, hz1, hz2⟩ := info_parts Try.info37
  have Hx := Lib.hid hx
  clear hx
  go_enter Try.func110, Try.ntmps110
  go_wp2_with (at_make; refine wpList_make_full _ rfl _ _ 22 rfl w.heap.size 37 i0 (.int .u64 0) 1 Try.underlying22 hi hz0 hz1 .i64 .i64 _ _ n rfl rfl rfl rfl (by rw [hz2]; omega) (by unfold maxLen; omega) (Nat.le_refl _) ?_)
  intro w1 hown hgrow
  have hb1 := below_of_grown hgrow (Nat.le_refl _)
  obtain ⟨cur, hcur, hlen⟩ : ∃ cur : List Value, w1.heap[w.heap.size]? = some (.cells cur.toArray 37 (0, 0)) ∧ cur.length = n := by
    rcases hown.2 with ⟨hv, h0⟩ | ⟨g, cap, cur, hv, _, hh, _, _, hcs, _⟩
    · injection hv with hv
      cases hv
    · injection hv with h1 h2 h3
      injection h1 with h1
      injection h1 with h1
      subst h1
      subst h3
      exact ⟨cur.toList, by simpa using hh, by simpa using hcs⟩
  have hcs : (uvs xs).length = Nat.min n n := by rw [uvs_length, Hx.out.1]; exact (Nat.min_self n).symm
  have hpos : 0 < (uvs xs).length → (some (⟨w.heap.size, 0, none⟩ : Addr)) = some ⟨w.heap.size, 0, none⟩ ∧ ∃ ad, A = some ad ∧ ∀ j v, (uvs xs)[j]? = some v → w1.cell? (ad.add j) = some v := by
    intro h0
    obtain ⟨b, o, rfl, _, hc⟩ := (Hx.out.2.2.2.2.below hb1) (by intro e; rw [e] at h0; simp at h0)
    exact ⟨rfl, ⟨b, o, none⟩, rfl, fun j v hj => by rw [Addr.add_lit]; exact hc j v hj⟩
  have hfit : 0 + (uvs xs).length ≤ cur.length := by rw [hlen, uvs_length, Hx.out.1]; omega
  have Hsp := Lib.hid (show splice cur 0 (uvs xs) = uvs xs by
    have : (uvs xs).length = cur.length := by rw [hlen, uvs_length, Hx.out.1]
    simp [splice, this])
  have H := Lib.hid (And.intro hcur (And.intro hcs (And.intro hpos (And.intro hfit hb1))))
  clear hcur hcs hpos hfit hb1 hown hgrow hlen
  go_wp2_with (with_reducible refine wpList_copy_splice rfl (.tmp 7) (.tmp 8) 22 22 rfl 37 Try.underlying22 Try.size1 _ _ _ _ _ _ rfl rfl w.heap.size 0 cur 37 H.out.1 (uvs xs) H.out.2.1 H.out.2.2.1 H.out.2.2.2.1 (uvs_one xs) w.heap.size w H.out.2.2.2.2 (Nat.le_refl _) ?_)
  intro w2 hrow hb2
  go_wp2
  go_ret
  refine ⟨rfl, ?_, hb2⟩
  have := hrow.out
  rw [Hsp.out] at this
  exact this


set_option maxHeartbeats 400000 in
theorem fromBack_any (v : Value) (A : Option Addr) (n c : Nat) (w : World) :
    Calls Try.prog 111 #[.slice A n c] w fun e w' => e = .returned (.func (.func 124) #[] #[.pointer (some ⟨w.heap.size, 0, none⟩)]) ∧ w.alloc (.cells #[.slice A n c] 22) = w' := by
  go_enter Try.func111, Try.ntmps111
  go_wp2
  go_ret
  exact ⟨rfl, rfl⟩

/-- What the iterator reads ahead of round k. -/
def Reads (Bn : Nat) (A : Option Addr) (n c : Nat) (el : Nat → Nat) (k : Nat) (W : World) : Prop :=
  W.cell? ⟨Bn, 0, none⟩ = some (.slice A n c) ∧ (k < n → ∃ b o, A = some ⟨b, o, none⟩ ∧ W.cell? ⟨b, o + (n - 1 - k), none⟩ = some (.int .u64 (el k : Int)))
abbrev elems (n : Nat) (el : Nat → Nat) (k : Nat) : Array Value := #[.int .i64 ((n - 1 - k : Nat) : Int), .int .u64 (el k : Int)]

set_option maxHeartbeats 1000000 in
theorem fromBack_rounds (F : Fence) (m : Nat) (hF : F.fn 124) (hro : F.round = none) (hm : 1 ≤ m) (Bn : Nat) (A : Option Addr) (n c : Nat) (el : Nat → Nat) (hn : n ≤ 4096) (w : World) :
    Rounds F m Try.prog 124 #[.pointer (some ⟨Bn, 0, none⟩)] (elems n el) n (Reads Bn A n c el) w := by
  intro l J Jx W hW hJ hJx hR hY h0
  refine callsIn_of_wp Try.func124 rfl hF ?_ hro
  simp only [Try.ntmps124, List.size_toArray, List.length_cons, List.length_nil, Nat.reduceAdd, Nat.reduceSub, Array.replicate_succ, Array.replicate_zero, List.push_toArray, List.append_toArray, List.nil_append, List.cons_append]
  have hc0 := (hR 0 W h0).1
  gi_wp2
  gi_loopw [3] (fun p wr => ∃ (k : Nat) (j : Int), k ≤ n ∧ p = .int .i64 j ∧ j + 1 + k = n ∧ J k wr) (fun p wr => (intOf p + 1).toNat)
  case atStart => exact ⟨0, (n : Int) - 1, by omega, rfl, by omega, h0⟩
  case round =>
    obtain ⟨k, j, hk, rfl, hj, hJk⟩ := hrel
    by_cases hlt : k < n
    · obtain ⟨i, rfl⟩ := Int.eq_ofNat_of_zero_le (show 0 ≤ j by omega)
      obtain ⟨hc1, hc2⟩ := hR k wr hJk
      obtain ⟨b, o, rfl, hcell⟩ := hc2 hlt
      have hi : n - 1 - k = i := by omega
      obtain ⟨fn, tmps, assign, body, hy, hRd⟩ := hY k wr hJk hlt
      rw [elems, hi] at hy
      rw [hi] at hcell
      have hin : (i : Int) < n := by omega
      generalize el k = x at *
      have Hi := Lib.hid hi
      have Hj := Lib.hid hj
      clear hi hj
      gi_wp2
      refine hRd.mono ?_
      rintro e W3 (⟨rfl, hJ3⟩ | ⟨rfl, hJx3⟩)
      · gi_wp2
        go_roundw
        case rel => exact ⟨k + 1, (i : Int) - 1, by omega, rfl, by have := Hj.out; omega, hJ3⟩
        case measure => simp [intOf]
      · gi_wp2
        refine bodyPost_ret (results_none rfl _ _ _) rfl ?_
        exact ⟨⟨_, rfl⟩, .inr ⟨k + 1, hJx3⟩⟩
    · obtain rfl : k = n := by omega
      have hneg : j < 0 := by omega
      clear hj
      gi_wp2
      go_end0
      exact ⟨⟨_, rfl⟩, .inl hJk⟩
end Go.Proofs.Ytekikolhnfofeaa
