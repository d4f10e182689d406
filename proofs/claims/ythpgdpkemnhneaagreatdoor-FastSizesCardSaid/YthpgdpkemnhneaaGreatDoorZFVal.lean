/- The contract of fast.Value, for short lists. -/
import Derived.Test.YthpgdpkemnhneaaGreatDoorZRVal
import Derived.Test.YthpgdpkemnhneaaGreatDoorZFFB
import Derived.Test.YthpgdpkemnhneaaGreatDoorP8
import Derived.Test.YthpgdpkemnhneaaGreatDoorZFThird
import Derived.Test.YthpgdpkemnhneaaGreatDoorZRangeA
import Derived.Test.YthpgdpkemnhneaaGreatDoorZFToI
namespace Go.Proofs.YthpgdpkemnhneaaGreatDoor
open Go.RowKit Go.Shelf
set_option linter.unusedVariables false
set_option linter.unusedSimpArgs false
set_option maxRecDepth 10000
attribute [local go_sem] Oper.semAt_some

theorem zback_any (A : Option Addr) (n c : Nat) (w : World) :
    Calls Tryz.prog 29 #[.slice A n c] w fun e w' => e = .returned (.func (.func 64) #[] #[.pointer (some ⟨w.heap.size, 0, none⟩)]) ∧ w.alloc (.cells #[.slice A n c] 35) = w' := by
  go_enter Tryz.func29, Tryz.ntmps29
  go_wp2
  go_ret
  exact ⟨rfl, rfl⟩
/-- What the iterator reads ahead of round k. -/
def ReadsZ (Bn : Nat) (A : Option Addr) (n c : Nat) (el : Nat → Sn) (k : Nat) (W : World) : Prop :=
  W.cell? ⟨Bn, 0, none⟩ = some (.slice A n c) ∧ (k < n → ∃ b o, A = some ⟨b, o, none⟩ ∧ W.cell? ⟨b, o + (n - 1 - k) * 2, none⟩ = some (.bool (el k).s) ∧ W.cell? ⟨b, o + (n - 1 - k) * 2 + 1, none⟩ = some (.slice (el k).A (el k).n (el k).c))
abbrev elemsZ (n : Nat) (el : Nat → Sn) (k : Nat) : Array Value := #[.int .i64 ((n - 1 - k : Nat) : Int), .agg #[.bool (el k).s, .slice (el k).A (el k).n (el k).c]]

set_option maxHeartbeats 1000000 in
theorem zback_rounds (F : Fence) (m : Nat) (hF : F.fn 64) (hro : F.round = none) (hm : 1 ≤ m) (Bn : Nat) (A : Option Addr) (n c : Nat) (el : Nat → Sn) (hn : n ≤ 4096) (w : World) :
    Rounds F m Tryz.prog 64 #[.pointer (some ⟨Bn, 0, none⟩)] (elemsZ n el) n (ReadsZ Bn A n c el) w := by
  intro l J Jx W hW hJ hJx hR hY h0
  refine callsIn_of_wp Tryz.func64 rfl hF ?_ hro
  simp only [Tryz.ntmps64, List.size_toArray, List.length_cons, List.length_nil, Nat.reduceAdd, Nat.reduceSub, Array.replicate_succ, Array.replicate_zero, List.push_toArray, List.append_toArray, List.nil_append, List.cons_append]
  have hc0 := (hR 0 W h0).1
  have hnw : IntKind.i64.wrap ((n : Int) - 1) = (n : Int) - 1 := IntWalk.i64_in _ (by omega)
  gi_wp2
  gi_loopw [3] (fun p wr => ∃ (k : Nat) (j : Int), k ≤ n ∧ p = .int .i64 j ∧ j + 1 + k = n ∧ J k wr) (fun p wr => (intOf p + 1).toNat)
  case atStart => exact ⟨0, (n : Int) - 1, by omega, rfl, by omega, h0⟩
  case round =>
    obtain ⟨k, j, hk, rfl, hj, hJk⟩ := hrel
    by_cases hlt : k < n
    · obtain ⟨i, rfl⟩ := Int.eq_ofNat_of_zero_le (show 0 ≤ j by omega)
      obtain ⟨hc1, hc2⟩ := hR k wr hJk
      obtain ⟨b, o, rfl, hcell, hcell2⟩ := hc2 hlt
      have hi : n - 1 - k = i := by omega
      obtain ⟨fn, tmps, assign, body, hy, hRd⟩ := hY k wr hJk hlt
      rw [elemsZ, hi] at hy
      rw [hi] at hcell hcell2
      have hin : (i : Int) < n := by omega
      have hiw : IntKind.i64.wrap ((i : Int) - 1) = (i : Int) - 1 := IntWalk.i64_in _ (by omega)
      generalize el k = x at *
      obtain ⟨xs, xA, xn, xc, xx⟩ := x
      simp only at hcell hcell2 hy
      have Hi := Lib.hid hi
      have Hj := Lib.hid hj
      clear hi hj
      gi_wp2
      refine hRd.mono ?_
      rintro e W3 (⟨rfl, hJ3⟩ | ⟨rfl, hJx3⟩)
      · gi_wp2
        go_roundw
        case rel => exact ⟨k + 1, (i : Int) - 1, by omega, rfl, by have := Hj.out; omega, hJ3⟩
        case measure => simp [intOf]
      · gi_wp2
        refine bodyPost_ret (results_none rfl _ _ _) rfl ?_
        exact ⟨⟨_, rfl⟩, .inr ⟨k + 1, hJx3⟩⟩
    · obtain rfl : k = n := by omega
      have hneg : j < 0 := by omega
      clear hj
      gi_wp2
      go_end0
      exact ⟨⟨_, rfl⟩, .inl hJk⟩
/-- Value's boxes: t and the place of the result -/
def VBx (w W : World) (t : Int) : Prop := Wd W w.heap.size (.int .i64 t) ∧ Bk W (w.heap.size + 1) [.bool false, .slice none 0 0] ∧ Below w.heap.size w W ∧ w.heap.size + 1 < W.heap.size
theorem VBx.new (w : World) (t : Int) : VBx w ((w.alloc (.cells #[.int .i64 t] 3)).alloc (.cells #[.bool false, .slice none 0 0] 32)) t := by
  have k0 := (Wd.new w (.int .i64 t) 3).alloc (.cells #[.bool false, .slice none 0 0] 32)
  have k1 := Bk.new (w.alloc (.cells #[.int .i64 t] 3)) [.bool false, .slice none 0 0] 32
  rw [World.size_alloc] at k1
  exact ⟨k0, k1, ((Below.refl _ _).alloc (Nat.le_refl _) _).alloc (by simp) _, by simp⟩
theorem VBx.below {w W W' : World} {t : Int} (h : VBx w W t) (hb : Below W.heap.size W W') : VBx w W' t :=
  ⟨⟨(hb.cell (p := ⟨_, 0, none⟩) (by have := h.2.2.2; show w.heap.size < W.heap.size; omega)).trans h.1.1, (hb.frozen (p := ⟨_, 0, none⟩) (by have := h.2.2.2; show w.heap.size < W.heap.size; omega)).trans h.1.2⟩, h.2.1.below hb h.2.2.2, h.2.2.1.trans (hb.mono h.2.2.1.size), Nat.lt_of_lt_of_le h.2.2.2 hb.size⟩
set_option maxHeartbeats 2000000 in
theorem FValue_arg (al : List Sn) (A : Option Addr) (m c : Nat) (t : Int) (w : World) (hm : m ≤ 100000) (hx : Zl w A m c al) (hn : ∀ a ∈ al, a.n ≤ 4096) (ht : t < -10 ∨ 10 < t ∨ 100 < m) :
    Calls Tryz.prog 7 #[.slice A m c, .int .i64 t] w fun e w' => e = .returned (.tuple #[.agg #[.bool false, .slice none 0 0], .int .i64 1]) ∧ Below w.heap.size w w' := by
  have HC := Lib.hid (chkZ_ok hn)
  have Hx := Lib.hid hx
  have HB := Lib.hid (VBx.new w t)
  clear hx hn
  go_enter Tryz.func7, Tryz.ntmps7
  go_wp2_with (fail)
  refine (checkInts_ok al A m c _ hm (Hx.out.below HB.out.2.2.1)).mono ?_
  rintro e w1 ⟨rfl, hb1⟩
  rw [HC.out]
  have H1 := Lib.hid (HB.out.below hb1)
  clear hb1 HB
  obtain ⟨c0, f0⟩ := H1.out.1
  obtain ⟨p0, q0⟩ := H1.out.2.1 0 _ rfl
  obtain ⟨p1, q1⟩ := H1.out.2.1 1 _ rfl
  have HR := Lib.hid ((H1.out.2.2.1.setCell (p := ⟨w.heap.size + 1, 0, none⟩) (by show w.heap.size ≤ w.heap.size + 1; omega) (.bool false)).setCell (p := ⟨w.heap.size + 1, 1, none⟩) (by show w.heap.size ≤ w.heap.size + 1; omega) (.slice none 0 0))
  clear H1
  by_cases h1 : t < -10
  · clear ht
    go_wp2_with (fail)
    exact bodyPost_ret (v := .tuple #[.agg #[.bool false, .slice none 0 0], .int .i64 1]) (by simp [results, Tryz.results7, go_sem, World.cell?_setCell_same', p0, p1]) rfl ⟨rfl, HR.out⟩
  by_cases h2 : 10 < t
  · clear ht
    go_wp2_with (fail)
    exact bodyPost_ret (v := .tuple #[.agg #[.bool false, .slice none 0 0], .int .i64 1]) (by simp [results, Tryz.results7, go_sem, World.cell?_setCell_same', p0, p1]) rfl ⟨rfl, HR.out⟩
  have h3 : (100 : Int) < (m : Int) := by omega
  clear ht
  go_wp2_with (fail)
  exact bodyPost_ret (v := .tuple #[.agg #[.bool false, .slice none 0 0], .int .i64 1]) (by simp [results, Tryz.results7, go_sem, World.cell?_setCell_same', p0, p1]) rfl ⟨rfl, HR.out⟩
theorem nw_kept {X W W' : World} {v : Value} {n : Nat} {zs : List Nat} {row : Option Nat} (h : Nw X W v n zs) (hg : W.grownBy W' row) (hr : ∀ r, row = some r → ∃ o : Obj, W.heap[r]? = some o ∧ o.isCells = false) : Nw X W' v n zs :=
  ⟨h.1, h.2.1, own_off' h.2.2 hg fun r e hb => by
    obtain ⟨o, ho, hc⟩ := hr r e
    rcases h.2.2.2 with ⟨hv, h0⟩ | ⟨g, cap, cur, hv, _, hh, _⟩
    · rw [hv] at hb
      cases hb
    · rw [hv] at hb
      injection hb with hb
      subst hb
      rw [hh] at ho
      injection ho with ho
      subst ho
      cases hc⟩
/-- between two rounds of Value -/
def IVl (w X : World) (g : Nat) (A : Option Addr) (m c : Nat) (zs : List Int) (t : Int) (k : Nat) (W : World) : Prop :=
  ∃ a : Sn, VBx w W t ∧ Bk W g [.bool a.s, .slice a.A a.n a.c] ∧ Wd W (g + 1) (.slice A m c) ∧ Sg X W a.s a.A a.n a.c a.xs (pvF t (zs.drop (m - k))) ∧ (pvF t (zs.drop (m - k))).natAbs ≤ B64 ^ 8 * 11 ^ k ∧ X.heap.size ≤ W.heap.size
theorem IVl_own {w X : World} {g : Nat} {A : Option Addr} {m c : Nat} {zs : List Int} {t : Int} {B : Nat} (hB : w.heap.size ≤ B) : OwnFrom B (IVl w X g A m c zs t) := by
  rintro k W W' row ⟨a, h1, h2, h3, h4, h5, h6⟩ hg hr
  have hr2 : ∀ j, row = some j → ∃ o : Obj, W.heap[j]? = some o ∧ o.isCells = false := fun j e => (hr j e).2
  have hb := h1.2.2.1.grown hg h1.2.2.1.size (fun j e => by have := (hr j e).1; omega)
  exact ⟨a, ⟨h1.1.kept hg hr2, h1.2.1.kept hg hr2, hb, Nat.lt_of_lt_of_le h1.2.2.2 hg.size⟩, h2.kept hg hr2, h3.kept hg hr2, ⟨nw_kept h4.1 hg hr2, h4.2⟩, h5, Nat.le_trans h6 hg.size⟩

/-- the integer that round k takes -/
def zel (al : List Sn) (m k : Nat) : Sn := al.getD (m - 1 - k) Sn.zero
theorem IVl_reads {w X : World} {g : Nat} {A : Option Addr} {m c : Nat} {al : List Sn} {t : Int} (hz : Zl w A m c al) (k : Nat) (W : World) (h : IVl w X g A m c (al.map Sn.v) t k W) :
    ReadsZ (g + 1) A m c (zel al m) k W := by
  obtain ⟨a, h1, h2, h3, -⟩ := h
  refine ⟨h3.1, fun hk => ?_⟩
  have hl : m - 1 - k < al.length := by rw [hz.1]; omega
  have hg := List.getElem?_eq_getElem hl
  obtain ⟨b, o, e, -, c0, c1⟩ := (hz.below h1.2.2.1).at hg
  refine ⟨b, o, e, ?_, ?_⟩
  · simpa [zel, List.getD_eq_getElem?_getD, hg] using c0
  · simpa [zel, List.getD_eq_getElem?_getD, hg] using c1
theorem sg_can {w W : World} {s : Bool} {A : Option Addr} {n c : Nat} {zs : List Nat} {S : Int} (h : Sg w W s A n c zs S) : s = decide (S < 0) := by
  obtain ⟨-, -, h1, h2⟩ := h
  cases s with
  | false => rw [h1]; simp [sgn]
  | true =>
    have := h2 rfl
    rw [h1]
    simp [sgn]
    omega
theorem zel_facts {w : World} {A : Option Addr} {m c k : Nat} {al : List Sn} (hz : Zl w A m c al) (hn : ∀ a ∈ al, a.n ≤ 8) (hk : k < m) : Sl w (zel al m k).A (zel al m k).n (zel al m k).c (zel al m k).xs ∧ (zel al m k).n ≤ 8 ∧ (al.map Sn.v).drop (m - (k + 1)) = (zel al m k).v :: (al.map Sn.v).drop (m - k) := by
  have hl : m - 1 - k < al.length := by rw [hz.1]; omega
  have he : zel al m k = al[m - 1 - k] := by rw [zel, List.getD_eq_getElem?_getD, List.getElem?_eq_getElem hl]; rfl
  rw [he]
  refine ⟨hz.2.2.2.2 _ (List.getElem_mem hl), hn _ (List.getElem_mem hl), ?_⟩
  rw [show m - (k + 1) = m - 1 - k by omega, List.drop_eq_getElem_cons (by rw [List.length_map]; exact hl), List.getElem_map, show m - 1 - k + 1 = m - k by omega]
theorem belA3 (W : World) (o : Obj) : Below W.heap.size W (W.alloc o) := (Below.refl _ _).alloc (Nat.le_refl _) _
def C5 (W : World) (g1 g0 g : Nat) (x1 x2 x3 x4 x5 : Value) : Prop := W.cell? ⟨g1, 0, none⟩ = some x1 ∧ W.cell? ⟨g1, 1, none⟩ = some x2 ∧ W.cell? ⟨g0, 0, none⟩ = some x3 ∧ W.cell? ⟨g, 0, none⟩ = some x4 ∧ W.cell? ⟨g, 1, none⟩ = some x5
theorem C5.below {W W' : World} {g1 g0 g : Nat} {x1 x2 x3 x4 x5 : Value} (h : C5 W g1 g0 g x1 x2 x3 x4 x5) (hb : Below W.heap.size W W') : C5 W' g1 g0 g x1 x2 x3 x4 x5 := by
  obtain ⟨h1, h2, h3, h4, h5⟩ := h
  have key : ∀ {p : Addr} {u : Value}, W.cell? p = some u → W'.cell? p = some u := fun {p u} h => (hb.cell (World.block_lt_of_cell? _ _ h)).trans h
  exact ⟨key h1, key h2, key h3, key h4, key h5⟩
theorem VBx.put {w W : World} {t : Int} {g : Nat} {u v : Value} (h : VBx w W t) (hg : w.heap.size + 2 ≤ g) : VBx w ((W.setCell ⟨g, 0, none⟩ u).setCell ⟨g, 1, none⟩ v) t :=
  ⟨(h.1.far (by show w.heap.size ≠ g; omega) _).far (by show w.heap.size ≠ g; omega) _, (h.2.1.far (by omega) _ _).far (by omega) _ _, (h.2.2.1.setCell (p := ⟨g, 0, none⟩) (by show w.heap.size ≤ g; omega) _).setCell (p := ⟨g, 1, none⟩) (by show w.heap.size ≤ g; omega) _, by have := h.2.2.2; simp [World.setCell]; omega⟩
/-- the two terms of a round -/
def vts (as_ : Bool) (aA : Option Addr) (an ac : Nat) (ax : List Nat) (xs : Bool) (xA : Option Addr) (k xc : Nat) (zx : List Nat) (t : Int) : List Tm := [⟨as_, aA, an, ac, ax, t, 0⟩, ⟨xs, xA, k, xc, zx, 1, 0⟩]
theorem vts_sum {as_ : Bool} {aA : Option Addr} {an ac : Nat} {ax : List Nat} {xs : Bool} {xA : Option Addr} {k xc : Nat} {zx : List Nat} {t : Int} : tsum (vts as_ aA an ac ax xs xA k xc zx t) = sgn as_ (V ax) * t + sgn xs (V zx) := by
  simp [tsum, vts, tval]
set_option maxHeartbeats 4000000 in
theorem FValue_ok (al : List Sn) (A : Option Addr) (m c : Nat) (t : Int) (w : World) (hm : m ≤ 8) (ht : t.natAbs ≤ 10) (hx : Zl w A m c al) (hn : ∀ a ∈ al, a.n ≤ 8) :
    Calls Tryz.prog 7 #[.slice A m c, .int .i64 t] w fun e w' => ∃ b B n d, e = .returned (.tuple #[.agg #[.bool b, .slice B n d], .int .i64 0]) ∧ Zr w w' (.returned (.agg #[.bool b, .slice B n d])) (pvF t (al.map Sn.v)) := by
  have HC := Lib.hid (chkZ_ok (al := al) (fun a ha => by have := hn a ha; omega))
  have Hx := Lib.hid (And.intro hx hn)
  have hmix : Tryz.prog.follows Departure.mixedOrders = true := by kernel_rfl
  have HB := Lib.hid (VBx.new w t)
  have h1 : ¬ t < -10 := by omega
  have h2 : ¬ 10 < t := by omega
  have h3 : ¬ (100 : Int) < (m : Int) := by omega
  have Ht := Lib.hid ht
  clear hx hn ht
  refine (callsIn_wide (n := 5)).1 ?_
  refine callsIn_of_wp_marks Tryz.func7 rfl trivial ?_ rfl
  simp only [Tryz.ntmps7, List.size_toArray, List.length_cons, List.length_nil, Nat.reduceAdd, Nat.reduceSub, Array.replicate_succ, Array.replicate_zero, List.push_toArray, List.append_toArray, List.nil_append, List.cons_append]
  gi_wp2_with (first
    | (refine ⟨trivial, ?_⟩; gi_at_call 28; refine (callsIn_wide.2 (checkInts_ok al A m c _ (by omega) (Hx.out.1.below HB.out.2.2.1))).mono ?_; rintro e w1 ⟨rfl, hb1⟩; rw [HC.out]; have H1 := Lib.hid (HB.out.below hb1); clear hb1 HB; obtain ⟨c0, f0⟩ := H1.out.1)
    | (refine ⟨trivial, ?_⟩; gi_at_call 29; refine (callsIn_wide.2 (zback_any _ _ _ _)).mono ?_; rintro e w' ⟨rfl, rfl⟩))
  obtain ⟨X, hX⟩ : ∃ X, (w1.alloc (.cells #[.bool false, .slice none 0 0] 59)).alloc (.cells #[.slice A m c] 35) = X := ⟨_, rfl⟩
  have hXs : X.heap.size = w1.heap.size + 2 := by rw [← hX]; simp
  have hXb : Below w1.heap.size w1 X := by rw [← hX]; exact ((Below.refl _ _).alloc (Nat.le_refl _) _).alloc (by simp) _
  have hlen : (al.map Sn.v).length = m := by rw [List.length_map]; exact Hx.out.1.1
  have hI0 : IVl w X w1.heap.size A m c (al.map Sn.v) t 0 X := by
    have g0 := (Bk.new w1 [.bool false, .slice none 0 0] 59).below ((Below.refl _ _).alloc (Nat.le_refl _) (.cells #[.slice A m c] 35)) (by simp)
    have g1 := Wd.new (w1.alloc (.cells #[.bool false, .slice none 0 0] 59)) (.slice A m c) 35
    rw [hX] at g0 g1
    rw [World.size_alloc] at g1
    refine ⟨⟨false, none, 0, 0, []⟩, H1.out.below hXb, g0, g1, ?_, ?_, Nat.le_refl _⟩
    · rw [Nat.sub_zero, List.drop_of_length_le (by rw [hlen]; exact Nat.le_refl _)]
      exact Sg.zero _ _
    · rw [Nat.sub_zero, List.drop_of_length_le (by rw [hlen]; exact Nat.le_refl _)]
      exact Nat.zero_le _
  rw [hX]
  have hw1 : w.heap.size + 1 < w1.heap.size := H1.out.2.2.2
  refine wpIn_rounds_box (F := Fence.wide) (n := 5) rfl (by decide) (gf := 64) (lb := #[.pointer (some ⟨w1.heap.size + 1, 0, none⟩)]) rfl trivial (fun args w => run_callFunc_enter Tryz.func64 (by kernel_rfl) (by kernel_rfl) args w)
    (zback_rounds Fence.wide 4 trivial rfl (by decide) (w1.heap.size + 1) A m c (zel al m) (by omega) _) (Below.refl _ _) (fun _ => rfl)
    (IVl w X w1.heap.size A m c (al.map Sn.v) t) (fun _ _ _ => False) (IVl_own (by omega)) (fun _ _ _ _ _ hs _ _ => hs) (IVl_reads Hx.out.1) hI0
    (fun k => .cells #[.bool (zel al m k).s, .slice (zel al m k).A (zel al m k).n (zel al m k).c] 32)
    (fun k g => { tmps := #[.slice A m c, .int .i64 t, undef, .pointer (some ⟨w.heap.size, 0, none⟩), .pointer (some ⟨w.heap.size + 1, 0, none⟩), .int .i64 0, .int .i64 0, .pointer (some ⟨w1.heap.size, 0, none⟩), undef, .pointer (some ⟨g, 0, none⟩), .slice A m c, .int .i64 0, .int .i64 0, .bool false, undef, undef, .int .i64 t, .bool (decide (t < -10)), .bool (decide (t < -10)), .int .i64 t, .bool (decide (10 < t)), .bool (decide (t < -10) || decide (10 < t)), .bool (decide (t < -10) || decide (10 < t)), .slice A m c, .int .i64 (m : Int), .bool (decide ((100 : Int) < (m : Int))), .bool (decide (t < -10) || decide (10 < t) || decide ((100 : Int) < (m : Int))), undef, .slice A m c, .func (.func 64) #[] #[.pointer (some ⟨w1.heap.size + 1, 0, none⟩)], .int .i64 ((m - 1 - k : Nat) : Int), .agg #[.bool (zel al m k).s, .slice (zel al m k).A (zel al m k).n (zel al m k).c], undef, undef, undef, undef, undef, undef, undef, undef, undef, undef, undef, undef], defers := [] }) ?assign ?body ?done ?stop
  case assign =>
    intro l k W K hK
    gi_wp2
    exact hK
  case body =>
    rintro l k g W ⟨⟨as_, aA, an, ac, ax⟩, e1, e2, e3, e4, e5, e6⟩ hk hg hgb
    obtain ⟨x1, x2, x3⟩ := zel_facts Hx.out.1 Hx.out.2 hk
    generalize zel al m k = x at *
    obtain ⟨xs, xA, xn, xc, xx⟩ := x
    simp only at x1 x2 x3 hg e2 e4
    have hgl : g < W.heap.size := (Array.getElem?_eq_some_iff.1 hg).1
    have HS0 : Hid (C5 W.drew w1.heap.size w.heap.size g (.bool as_) (.slice aA an ac) (.int .i64 t) (.bool xs) (.slice xA xn xc)) := ⟨(e2 0 _ rfl).1, (e2 1 _ rfl).1, e1.1.1, by show W.cell? ⟨g, 0, none⟩ = _; rw [cell_of_row W g 0 _ _ _ hg]; rfl, by show W.cell? ⟨g, 1, none⟩ = _; rw [cell_of_row W g 1 _ _ _ hg]; rfl⟩
    have han : an ≤ 4096 := Nat.le_trans (show an ≤ 20 from sn_len (r := ⟨as_, aA, an, ac, ax⟩) e4.sl (by
      have h8 := pv_big e5 (by omega)
      rw [Sn.v, ← e4.2.2.1]
      exact Nat.lt_of_lt_of_le h8 (Nat.pow_le_pow_right B64_pos (by omega)))) (by omega)
    have HI := Lib.hid (And.intro e1 (And.intro e2 (And.intro e3 (And.intro e4 (And.intro e5 e6)))))
    have HQ := Lib.hid (And.intro (x1.below e1.2.2.1) (And.intro x3 (show (sgn xs (V xx)).natAbs ≤ B64 ^ 8 by rw [sgn_abs]; exact Nat.le_of_lt (Nat.lt_of_lt_of_le x1.lt (Nat.pow_le_pow_right B64_pos x2)))))
    clear e1 e2 e3 e4 e5 e6 x1 x3 hg hI0 c0 f0
    gi_wp2
    refine wpIn_region_M 8 (fun w' => C5 w' w1.heap.size w.heap.size g (.bool as_) (.slice aA an ac) (.int .i64 t) (.bool xs) (.slice xA xn xc)) hmix (by kernel_rfl) (by rintro ⟨a, w, h⟩; exact h) ?_
    refine wpAnyM_take (i := 0) (v := ?_) rfl rfl (by kernel_rfl) (by kernel_rfl) (by kernel_rfl) (by kernel_rfl) (by kernel_rfl) (by kernel_rfl) (fun _ _ _ h => h) HS0.out (Or.inl ⟨by rfl, ?_⟩) ?_
    rotate_left
    · rintro w ⟨q0, q1, q2, q3, q4⟩; go_simp; try with_reducible rfl
    try simp only [Act.put, List.getElem_toArray, List.getElem_cons_zero, List.getElem_cons_succ, List.setIfInBounds_toArray, List.set_cons_zero, List.set_cons_succ]
    refine wpAnyM_take (i := 1) (v := ?_) rfl rfl (by kernel_rfl) (by kernel_rfl) (by kernel_rfl) (by kernel_rfl) (by kernel_rfl) (by kernel_rfl) (fun _ _ _ h => h) HS0.out (Or.inl ⟨by rfl, ?_⟩) ?_
    rotate_left
    · rintro w ⟨q0, q1, q2, q3, q4⟩; go_simp; try with_reducible rfl
    try simp only [Act.put, List.getElem_toArray, List.getElem_cons_zero, List.getElem_cons_succ, List.setIfInBounds_toArray, List.set_cons_zero, List.set_cons_succ]
    refine wpAnyM_take (i := 2) (v := ?_) rfl rfl (by kernel_rfl) (by kernel_rfl) (by kernel_rfl) (by kernel_rfl) (by kernel_rfl) (by kernel_rfl) (fun _ _ _ h => h) HS0.out (Or.inl ⟨by rfl, ?_⟩) ?_
    rotate_left
    · rintro w ⟨q0, q1, q2, q3, q4⟩; go_simp; try with_reducible rfl
    try simp only [Act.put, List.getElem_toArray, List.getElem_cons_zero, List.getElem_cons_succ, List.setIfInBounds_toArray, List.set_cons_zero, List.set_cons_succ]
    refine wpAnyM_take (i := 3) (v := ?_) rfl rfl (by kernel_rfl) (by kernel_rfl) (by kernel_rfl) (by kernel_rfl) (by kernel_rfl) (by kernel_rfl) (fun _ _ _ h => h) HS0.out (Or.inl ⟨by rfl, ?_⟩) ?_
    rotate_left
    · rintro w ⟨q0, q1, q2, q3, q4⟩; go_simp; try with_reducible rfl
    try simp only [Act.put, List.getElem_toArray, List.getElem_cons_zero, List.getElem_cons_succ, List.setIfInBounds_toArray, List.set_cons_zero, List.set_cons_succ]
    refine wpAnyM_one (i := 4) rfl (by kernel_rfl) (fun K hK => ?_)
    go_simp
    refine (fromInt_ok xs xA xn xc xx W.drew (by omega) (show Sl W xA xn xc xx from HQ.out.1)).mono ?_
    rintro e w3 ⟨kk, rfl, hkk, hU, hb3⟩
    have hb3' : Below W.heap.size W w3 := belowA hb3
    have HS1 : Hid (C5 w3 w1.heap.size w.heap.size g (.bool as_) (.slice aA an ac) (.int .i64 t) (.bool xs) (.slice xA xn xc)) := (show C5 W w1.heap.size w.heap.size g (.bool as_) (.slice aA an ac) (.int .i64 t) (.bool xs) (.slice xA xn xc) from HS0.out).below hb3'
    have HU := Lib.hid (And.intro hU.out.1 (And.intro ((HQ.out.1.tk hkk).below hb3') (And.intro (HI.out.2.2.2.1.sl.1.below hb3') hb3')))
    clear hb3 hb3' HS0 hU
    refine hK.out _ _ (fun _ => HS1.out) ?_
    clear hK K
    try simp only [Act.put, List.getElem_toArray, List.getElem_cons_zero, List.getElem_cons_succ, List.setIfInBounds_toArray, List.set_cons_zero, List.set_cons_succ]
    refine wpAnyM_take (i := 5) (v := ?_) rfl rfl (by kernel_rfl) (by kernel_rfl) (by kernel_rfl) (by kernel_rfl) (by kernel_rfl) (by kernel_rfl) (fun _ _ _ h => h) HS1.out (Or.inl ⟨by rfl, ?_⟩) ?_
    rotate_left
    · rintro w ⟨q0, q1, q2, q3, q4⟩; go_simp; try with_reducible rfl
    try simp only [Act.put, List.getElem_toArray, List.getElem_cons_zero, List.getElem_cons_succ, List.setIfInBounds_toArray, List.set_cons_zero, List.set_cons_succ]
    refine wpAnyM_one (i := 6) rfl (by kernel_rfl) (fun K hK => ?_)
    go_simp
    have hal := belA3 w3 (.cells (tvs (vts as_ aA an ac ax xs xA kk xc (xx.take kk) t)).toArray 61)
    have HS2 : Hid (C5 (w3.alloc (.cells (tvs (vts as_ aA an ac ax xs xA kk xc (xx.take kk) t)).toArray 61)) w1.heap.size w.heap.size g (.bool as_) (.slice aA an ac) (.int .i64 t) (.bool xs) (.slice xA xn xc)) := HS1.out.below hal
    refine hK.out _ _ (fun _ => HS2.out) ?_
    clear hK K HS1
    try simp only [Act.put, List.getElem_toArray, List.getElem_cons_zero, List.getElem_cons_succ, List.setIfInBounds_toArray, List.set_cons_zero, List.set_cons_succ]
    refine wpAnyM_one (i := 7) rfl (by kernel_rfl) (fun K hK => ?_)
    go_simp
    refine (fsum_ok (vts as_ aA an ac ax xs xA kk xc (xx.take kk) t) _ 2 2 5000 _ (by omega) (Tl.new (w := w3) rfl (by omega) rfl (fun y hy => by
      simp only [vts, List.mem_cons, List.not_mem_nil, or_false] at hy
      rcases hy with rfl | rfl
      · exact HU.out.2.2.1
      · exact HU.out.2.1)) (fun y hy => by
      simp only [vts, List.mem_cons, List.not_mem_nil, or_false] at hy
      rcases hy with rfl | rfl <;> (simp only; omega)) (by omega) (by
      have := Ht.out
      have h63 : H63 = 9223372036854775808 := rfl
      simp [wsum, vts]
      omega)).mono ?_
    rintro e w4 ⟨s4, A4, n4, c4, z4, rfl, hS, hb4⟩
    have HS4 : Hid (C5 w4 w1.heap.size w.heap.size g (.bool as_) (.slice aA an ac) (.int .i64 t) (.bool xs) (.slice xA xn xc)) := HS2.out.below hb4
    have hb34 := hal.trans (hb4.mono hal.size)
    have hbW := HU.out.2.2.2.trans (hb34.mono HU.out.2.2.2.size)
    have hg1 : w1.heap.size < W.heap.size := by have := HI.out.2.2.2.2.2; omega
    have hval : sgn as_ (V ax) * t + sgn xs (V (xx.take kk)) = pvF t ((al.map Sn.v).drop (m - (k + 1))) := by
      rw [HQ.out.2.1, pvF, HI.out.2.2.2.1.2.2.1, HU.out.1]
      rfl
    rw [vts_sum, hval] at hS
    have k1 := HI.out.2.1.below hbW hg1
    obtain ⟨p0, f0⟩ := k1 0 _ rfl
    obtain ⟨p1, f1⟩ := k1 1 _ rfl
    have HN : Hid (IVl w X w1.heap.size A m c (al.map Sn.v) t (k + 1) ((w4.setCell ⟨w1.heap.size, 0, none⟩ (.bool s4)).setCell ⟨w1.heap.size, 1, none⟩ (.slice A4 n4 c4))) := by
      have hX6 := HI.out.2.2.2.2.2
      have hs4 := hbW.size
      have h3w := HU.out.2.2.2.size
      have k3 : Wd w4 (w1.heap.size + 1) (.slice A m c) := ⟨(hbW.cell (p := ⟨_, 0, none⟩) (by show w1.heap.size + 1 < W.heap.size; omega)).trans HI.out.2.2.1.1, (hbW.frozen (p := ⟨_, 0, none⟩) (by show w1.heap.size + 1 < W.heap.size; omega)).trans HI.out.2.2.1.2⟩
      refine ⟨⟨s4, A4, n4, c4, z4⟩, (HI.out.1.below hbW).put (by omega), k1.put, (k3.far (by show w1.heap.size + 1 ≠ w1.heap.size; omega) _).far (by show w1.heap.size + 1 ≠ w1.heap.size; omega) _, hS.put2 (by simp; omega) (by simp; omega) rfl, ?_, by simp [World.setCell]; omega⟩
      rw [HQ.out.2.1, pvF]
      exact pv_step Ht.out HQ.out.2.2 HI.out.2.2.2.2.1
    have HK := Lib.hid (show KeepsFrom X.heap.size W ((w4.setCell ⟨w1.heap.size, 0, none⟩ (.bool s4)).setCell ⟨w1.heap.size, 1, none⟩ (.slice A4 n4 c4)) from (keepsFrom_below hbW).trans (((KeepsOthers.setCell _ _ _).trans (KeepsOthers.setCell _ _ _)).from _))
    clear hS hb4 hb34 hbW k1 hval hal HU HI HQ
    refine hK.out _ _ (fun _ => HS4.out) ?_
    clear hK K HS2
    try simp only [Act.put, List.getElem_toArray, List.getElem_cons_zero, List.getElem_cons_succ, List.setIfInBounds_toArray, List.set_cons_zero, List.set_cons_succ]
    refine wpAnyM_one (i := 8) rfl (by kernel_rfl) (fun K hK => ?_)
    go_simp
    refine hK.out _ _ (fun h => absurd h (by decide)) ?_
    clear hK K
    refine wpAnyM_done (by kernel_rfl) ?_ _
    clear HS4 p0 p1 f0 f1
    gi_wp2
    exact ⟨HK.out, HN.out⟩
  case done =>
    rintro D W hD ⟨⟨as_, aA, an, ac, ax⟩, e1, e2, e3, e4, e5, e6⟩ hcol
    rw [Nat.sub_self, List.drop_zero] at e4 e5
    simp only at e2 e4
    obtain ⟨p0, f0⟩ := e2 0 _ rfl
    obtain ⟨p1, f1⟩ := e2 1 _ rfl
    have han : an ≤ 20 := sn_len (r := ⟨as_, aA, an, ac, ax⟩) e4.sl (by
      have h8 := pv_big e5 (by omega)
      rw [Sn.v, ← e4.2.2.1]
      exact Nat.lt_of_lt_of_le h8 (Nat.pow_le_pow_right B64_pos (by omega)))
    have hDl : D < W.heap.size := (Array.getElem?_eq_some_iff.1 hcol).1
    have HI := Lib.hid (And.intro e1 (And.intro e4 (And.intro e5 (And.intro e6 (And.intro hcol (And.intro hD hDl))))))
    clear e1 e2 e3 e4 e5 e6 hcol hD hDl hI0 c0
    rename_i K hK
    refine hK _ _ ?_
    clear hK
    refine wpIn_wide.2 ?_
    go_wp2_with (fail)
    refine (toInt_ok X as_ aA an ac ax _ W HI.out.2.1 (by omega)).mono ?_
    rintro z w4 ⟨⟨rfl, hb, hn4⟩ | ⟨-, hb⟩, hb4⟩
    · have h1w := HI.out.1.below hb4
      obtain ⟨r0, g0⟩ := h1w.2.1 0 _ rfl
      obtain ⟨r1, g1⟩ := h1w.2.1 1 _ rfl
      have H4 := Lib.hid (And.intro hb4 (And.intro h1w (HI.out.2.1.later (Nat.le_refl _) hb4)))
      clear hb4 h1w hb
      go_wp2_with (fail)
      have hne : D ≠ w.heap.size + 1 := by have := HI.out.2.2.2.2.2.1; omega
      obtain ⟨V, hV⟩ : ∃ V, ((w4.setCell ⟨w.heap.size + 1, 0, none⟩ (.bool as_)).setCell ⟨w.heap.size + 1, 1, none⟩ (.slice aA an ac)) = V := ⟨_, rfl⟩
      have hcolF : V.heap[D]? = some (.deferred (some [])) := by
        rw [← hV]
        exact (Below.heap_setCell _ _ _ D hne).trans ((Below.heap_setCell _ _ _ D hne).trans ((H4.out.1.block D HI.out.2.2.2.2.2.2).trans HI.out.2.2.2.2.1))
      have hk : Bk V (w.heap.size + 1) [.bool as_, .slice aA an ac] := by rw [← hV]; exact H4.out.2.1.2.1.put
      have hl0 : (V.putObj D (.deferred none)).cell? ⟨w.heap.size + 1, 0, none⟩ = some (.bool as_) := (World.cell?_of_block (a := ⟨w.heap.size + 1, 0, none⟩) (World.putObj_heap_other (by show w.heap.size + 1 ≠ D; omega))).trans (hk 0 _ rfl).1
      have hl1 : (V.putObj D (.deferred none)).cell? ⟨w.heap.size + 1, 1, none⟩ = some (.slice aA an ac) := (World.cell?_of_block (a := ⟨w.heap.size + 1, 1, none⟩) (World.putObj_heap_other (by show w.heap.size + 1 ≠ D; omega))).trans (hk 1 _ rfl).1
      have hsg : Sg X V as_ aA an ac ax (pvF t (al.map Sn.v)) := by rw [← hV]; exact H4.out.2.2.put2 (Nat.le_refl _) (by omega) rfl
      have hbV : Below w.heap.size w V := by rw [← hV]; exact (H4.out.2.1.2.2.1.setCell (p := ⟨w.heap.size + 1, 0, none⟩) (by show w.heap.size ≤ w.heap.size + 1; omega) _).setCell (p := ⟨w.heap.size + 1, 1, none⟩) (by show w.heap.size ≤ w.heap.size + 1; omega) _
      have hown : OwnFrom X.heap.size (fun (_ : Nat) W => Sg X W as_ aA an ac ax (pvF t (al.map Sn.v))) := fun k V V' row hs hg hr => ⟨nw_kept hs.1 hg (fun r e => (hr r e).2), hs.2⟩
      have hF := hown.putObj (s := 0) (.deferred none) hsg HI.out.2.2.2.2.2.1 hcolF rfl
      rw [hV]
      clear hV
      exact ⟨by simp, .inl ⟨_, _, rfl, run_takeDeferred hcolF, .tuple #[.agg #[.bool as_, .slice aA an ac], .int .i64 0], by simp [results, Tryz.f7, go_sem, hl0, hl1], as_, aA, an, ac, rfl,
        aA, an, ac, ax, by rw [show decide (pvF t (al.map Sn.v) < 0) = as_ from (sg_can hsg).symm], ⟨hF.1.1, hF.1.2.1, own_base hF.1.2.2 (by omega)⟩, hF.2.1, by rw [hF.2.2.1, sgn_abs], below_putObj hbV (by have := HI.out.2.2.2.2.2.1; omega) _⟩⟩
    · have h8 := pv_big HI.out.2.2.1 (show m ≤ 9 by omega)
      rw [HI.out.2.1.2.2.1, sgn_abs] at h8
      exact absurd (Nat.lt_of_lt_of_le h8 (show B64 ^ 9 ≤ Big from Nat.pow_le_pow_right B64_pos (show (9 : Nat) ≤ Most from by decide))) (Nat.not_lt.2 hb)
  case stop =>
    rintro D c k W _ h _
    exact h.elim
end Go.Proofs.YthpgdpkemnhneaaGreatDoor
