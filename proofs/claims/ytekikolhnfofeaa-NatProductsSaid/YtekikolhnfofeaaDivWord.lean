/- The contracts of words.Narrow and words.DivWord. -/
import Derived.Test.YtekikolhnfofeaaDWR
namespace Go.Proofs.Ytekikolhnfofeaa
open Go.RowKit Go.Shelf
set_option linter.unusedVariables false
attribute [local go_sem] Oper.semAt_some

/-- Between two rounds of DivWord. -/
def IDiv (w : World) (g pw pq pr pb n : Nat) (xs : List Nat) (wd high : Nat) (k : Nat) (W : World) : Prop :=
  ∃ zs, ∃ r : Nat, RowAt W g zs ∧ zs.length = n ∧ Ws zs ∧ r < wd ∧ (∀ j, j < n - k → zs[j]? = xs[j]?) ∧ V (zs.drop (n - k)) * wd + r = high * B64 ^ k + V (xs.drop (n - k)) ∧
    Wd W pw (.int .u64 (wd : Int)) ∧ Wd W pq (.slice (some ⟨g, 0, none⟩) n n) ∧ Wd W pr (.int .u64 (r : Int)) ∧ Wd W pb (.slice (some ⟨g, 0, none⟩) n n) ∧ Below w.heap.size w W

theorem IDiv_own {w : World} {g pw pq pr pb n : Nat} {xs : List Nat} {wd high B : Nat} (hB : w.heap.size ≤ B) : OwnFrom B (IDiv w g pw pq pr pb n xs wd high) := by
  rintro k W W' row ⟨zs, r, h1, h2, h3, h4, h5, h6, h7, h8, h9, h10, h11⟩ hg hr
  have hr2 : ∀ j, row = some j → ∃ o : Obj, W.heap[j]? = some o ∧ o.isCells = false := fun j e => (hr j e).2
  exact ⟨zs, r, h1.kept hg hr2, h2, h3, h4, h5, h6, h7.kept hg hr2, h8.kept hg hr2, h9.kept hg hr2, h10.kept hg hr2, h11.grown hg h11.size (fun j e => by have := (hr j e).1; omega)⟩
theorem IDiv_reads {w : World} {g pw pq pr pb n : Nat} {xs : List Nat} {wd high : Nat} (hl : xs.length = n) (k : Nat) (W : World) (h : IDiv w g pw pq pr pb n xs wd high k W) :
    Reads pb (some ⟨g, 0, none⟩) n n (fun k => xs.getD (n - 1 - k) 0) k W := by
  obtain ⟨zs, r, h1, h2, h3, h4, h5, h6, h7, h8, h9, h10, h11⟩ := h
  refine ⟨h10.1, fun hk => ⟨g, 0, rfl, ?_⟩⟩
  rw [Nat.zero_add]
  refine h1.cell ?_
  rw [h5 _ (by omega)]
  show xs[n - 1 - k]? = some (xs.getD (n - 1 - k) 0)
  rw [List.getD_eq_getElem?_getD, List.getElem?_eq_getElem (by omega)]
  rfl
theorem IDiv_drewN {w : World} {g pw pq pr pb n : Nat} {xs : List Nat} {wd high k : Nat} {W : World} (h : IDiv w g pw pq pr pb n xs wd high k W) (m : Nat) : IDiv w g pw pq pr pb n xs wd high k (W.drewN m) := by
  obtain ⟨zs, r, h1, h2, h3, h4, h5, h6, h7, h8, h9, h10, h11⟩ := h
  exact ⟨zs, r, h1, h2, h3, h4, h5, h6, h7, h8, h9, h10, below_drewN h11 m⟩
theorem div_step {B k high x q r r' wd a b : Nat} (h1 : r * B + x = q * wd + r') (h2 : a * wd + r = high * B ^ k + b) : (q + B * a) * wd + r' = high * B ^ (k + 1) + (x + B * b) := by
  rw [Nat.pow_succ]
  grind
theorem IDiv_step {w W : World} {g pw pq pr pb n : Nat} {xs : List Nat} {wd high k i x q r r' : Nat} {zs : List Nat} (hd : g ≠ pw ∧ g ≠ pq ∧ g ≠ pr ∧ g ≠ pb ∧ pw ≠ pr ∧ pq ≠ pr ∧ pb ≠ pr) (hg0 : w.heap.size ≤ g) (hr0 : w.heap.size ≤ pr) (hl : xs.length = n) (hi : i + 1 + k = n) (hx : xs[i]? = some x)
    (hdiv : r * B64 + x = q * wd + r' ∧ r' < wd ∧ q < B64)
    (h1 : RowAt W g zs) (h2 : zs.length = n) (h3 : Ws zs) (h5 : ∀ j, j < n - k → zs[j]? = xs[j]?) (h6 : V (zs.drop (n - k)) * wd + r = high * B64 ^ k + V (xs.drop (n - k)))
    (h7 : Wd W pw (.int .u64 (wd : Int))) (h8 : Wd W pq (.slice (some ⟨g, 0, none⟩) n n)) (h9 : Wd W pr (.int .u64 (r : Int))) (h10 : Wd W pb (.slice (some ⟨g, 0, none⟩) n n)) (h11 : Below w.heap.size w W) :
    IDiv w g pw pq pr pb n xs wd high (k + 1) ((W.setCell ⟨g, i, none⟩ (.int .u64 (q : Int))).setCell ⟨pr, 0, none⟩ (.int .u64 (r' : Int))) := by
  refine ⟨zs.set i q, r', (h1.set i q).far hd.2.2.1 _, by rw [List.length_set]; exact h2, Ws_set h3 i q hdiv.2.2, hdiv.2.1, fun j hj => ?_, ?_, (h7.far (p := ⟨g, i, none⟩) hd.1.symm _).far (p := ⟨pr, 0, none⟩) hd.2.2.2.2.1 _, (h8.far (p := ⟨g, i, none⟩) hd.2.1.symm _).far (p := ⟨pr, 0, none⟩) hd.2.2.2.2.2.1 _, (h9.far (p := ⟨g, i, none⟩) hd.2.2.1.symm _).set _, (h10.far (p := ⟨g, i, none⟩) hd.2.2.2.1.symm _).far (p := ⟨pr, 0, none⟩) hd.2.2.2.2.2.2 _, (h11.setCell (p := ⟨g, i, none⟩) hg0 _).setCell (p := ⟨pr, 0, none⟩) hr0 _⟩
  · rw [List.getElem?_set_ne (by omega)]
    exact h5 j (by omega)
  · have e1 : n - (k + 1) = i := by omega
    have e2 : n - k = i + 1 := by omega
    rw [e1, V_drop xs i x hx, V_drop (zs.set i q) i q (by rw [List.getElem?_set_self (by omega)]), drop_set]
    rw [e2] at h6
    exact div_step hdiv.1 h6

theorem DivWord_end {w W : World} {g D n : Nat} {zs xs : List Nat} {r wd high B : Nat} (hg : w.heap.size ≤ g) (hgB : g < B) (hn : n ≤ 4096)
    (h : RowAt W g zs ∧ zs.length = n ∧ Ws zs ∧ r < wd ∧ V (zs.drop (n - n)) * wd + r = high * B64 ^ n + V (xs.drop (n - n)) ∧ Below w.heap.size w W ∧ B ≤ D) :
    ∃ v zs, ∃ r' : Nat, Ending.returned (.tuple #[.slice (some ⟨g, 0, none⟩) n n, .int .u64 (r : Int), .int .i64 0]) = .returned (.tuple #[v, .int .u64 r', .int .i64 0]) ∧ r' < wd ∧
      V zs * wd + r' = high * B64 ^ n + V xs ∧ Nw w (W.drew.putObj D (.deferred none)) v n zs ∧ Below w.heap.size w (W.drew.putObj D (.deferred none)) := by
  obtain ⟨h1, h2, h3, h4, h5, h6, h7⟩ := h
  rw [Nat.sub_self, List.drop_zero, List.drop_zero] at h5
  have hrow : RowAt (W.drew.putObj D (.deferred none)) g zs := RowAt.put (W := W.drew) h1 (by omega) _
  have hown := hrow.own hg (by omega)
  rw [h2] at hown
  exact ⟨_, zs, r, rfl, h4, h5, ⟨h2, h3, hown⟩, below_putObj h6.drew (by omega) _⟩

set_option maxHeartbeats 1000000 in
theorem DivWord_ok (A : Option Addr) (n c : Nat) (xs : List Nat) (wd high : Nat) (w : World) (hn : n ≤ 4096) (hx : Sl w A n c xs) (hwd : wd < B64) (hh : high < wd) :
    Calls Try.prog 78 #[.slice A n c, .int .u64 wd, .int .u64 high] w fun e w' => ∃ v zs, ∃ r : Nat, e = .returned (.tuple #[v, .int .u64 r, .int .i64 0]) ∧ r < wd ∧
      V zs * wd + r = high * B64 ^ n + V xs ∧ Nw w w' v n zs ∧ Below w.heap.size w w' := by
  have Hk := Lib.hid (chk_one n hn)
  have Hx := Lib.hid hx
  have e0 : ((wd : Int) == 0) = false := by simp; omega
  have e1 : (high : Int) < wd := by omega
  clear hx
  refine (callsIn_wide (n := 5)).1 ?_
  refine callsIn_of_wp_marks Try.func78 rfl trivial ?_ rfl
  simp only [Try.ntmps78, List.size_toArray, List.length_cons, List.length_nil, Nat.reduceAdd, Nat.reduceSub, Array.replicate_succ, Array.replicate_zero, List.push_toArray, List.append_toArray, List.nil_append, List.cons_append]
  have hb2 : Below w.heap.size w ((w.alloc (.cells #[.int .u64 (wd : Int)] 37)).alloc (.cells #[.int .i64 (n : Int)] 3)) := ((Below.refl _ _).alloc (Nat.le_refl _) _).alloc (by simp) _
  have H2 := Lib.hid (And.intro hb2 (And.intro (Hx.out.below hb2) ((Wd.new w (.int .u64 (wd : Int)) 37).alloc (.cells #[.int .i64 (n : Int)] 3))))
  clear hb2
  gi_wp2_with (first
    | (refine ⟨trivial, ?_⟩; gi_at_call 92; refine (callsIn_wide.2 (checkLengths_one n _ _ (by simp))).mono ?_; rintro e w' ⟨rfl, rfl⟩; rw [Hk.out])
    | (refine ⟨trivial, ?_⟩; gi_at_call 110; refine (callsIn_wide.2 (copied_ok A n c xs _ hn H2.out.2.1)).mono ?_; rintro e w1 ⟨rfl, hrow, hb1⟩; simp only [World.size_alloc] at hrow hb1; have Hrow := Lib.hid hrow; have Hb1 := Lib.hid hb1; clear hrow hb1)
    | (refine ⟨trivial, ?_⟩; gi_at_call 111; refine (callsIn_wide.2 (fromBack_any (.slice none 0 0) _ _ _ _)).mono ?_; rintro e w' ⟨rfl, rfl⟩))
  have hg1 : w.heap.size + 1 + 1 < w1.heap.size := Hrow.out.lt
  have hl := Hx.out.1
  have el : ∀ k, k < n → ∃ x, xs[n - 1 - k]? = some x ∧ xs.getD (n - 1 - k) 0 = x ∧ x < B64 := fun k hk => by
    have hlt : n - 1 - k < xs.length := by omega
    exact ⟨xs[n - 1 - k], List.getElem?_eq_getElem hlt, by rw [List.getD_eq_getElem?_getD, List.getElem?_eq_getElem hlt]; rfl, Hx.out.2.2.2.1 _ (List.getElem_mem hlt)⟩
  have hbW : Below w.heap.size w w1 := H2.out.1.trans (Hb1.out.mono (by omega))
  have hI0 : IDiv w (w.heap.size + 1 + 1) w.heap.size w1.heap.size (w1.heap.size + 1) (w1.heap.size + 1 + 1) n xs wd high 0 (((w1.alloc (.cells #[.slice (some ⟨w.heap.size + 1 + 1, 0, none⟩) n n] 22)).alloc (.cells #[.int .u64 (high : Int)] 37)).alloc (.cells #[.slice (some ⟨w.heap.size + 1 + 1, 0, none⟩) n n] 22)) := by
    have q1 := ((Wd.new w1 (.slice (some ⟨w.heap.size + 1 + 1, 0, none⟩) n n) 22).alloc (.cells #[.int .u64 (high : Int)] 37)).alloc (.cells #[.slice (some ⟨w.heap.size + 1 + 1, 0, none⟩) n n] 22)
    have q2 := (Wd.new (w1.alloc (.cells #[.slice (some ⟨w.heap.size + 1 + 1, 0, none⟩) n n] 22)) (.int .u64 (high : Int)) 37).alloc (.cells #[.slice (some ⟨w.heap.size + 1 + 1, 0, none⟩) n n] 22)
    have q3 := Wd.new ((w1.alloc (.cells #[.slice (some ⟨w.heap.size + 1 + 1, 0, none⟩) n n] 22)).alloc (.cells #[.int .u64 (high : Int)] 37)) (.slice (some ⟨w.heap.size + 1 + 1, 0, none⟩) n n) 22
    simp only [World.size_alloc] at q2 q3
    have hW := ((H2.out.2.2.below Hb1.out (by omega)).alloc (.cells #[.slice (some ⟨w.heap.size + 1 + 1, 0, none⟩) n n] 22)).alloc (.cells #[.int .u64 (high : Int)] 37) |>.alloc (.cells #[.slice (some ⟨w.heap.size + 1 + 1, 0, none⟩) n n] 22)
    refine ⟨xs, high, ((Hrow.out.alloc _).alloc _).alloc _, hl, Hx.out.2.2.2.1, hh, fun _ _ => rfl, ?_, hW, q1, q2, q3, ((hbW.alloc hbW.size _).alloc (by have := hbW.size; simp; omega) _).alloc (by have := hbW.size; simp; omega) _⟩
    rw [Nat.sub_zero, V_drop_all xs n (by omega), Nat.pow_zero]
    omega
  refine wpIn_rounds (F := Fence.wide) (n := 5) rfl (by decide) (gf := 124) (lb := #[.pointer (some ⟨w1.heap.size + 1 + 1, 0, none⟩)]) rfl trivial (fun args w => run_callFunc_enter Try.func124 (by kernel_rfl) (by kernel_rfl) args w)
    (fromBack_rounds Fence.wide 4 trivial rfl (by decide) (w1.heap.size + 1 + 1) (some ⟨w.heap.size + 1 + 1, 0, none⟩) n n (fun k => xs.getD (n - 1 - k) 0) hn _) (Below.refl _ _) (fun _ => rfl)
    (IDiv w (w.heap.size + 1 + 1) w.heap.size w1.heap.size (w1.heap.size + 1) (w1.heap.size + 1 + 1) n xs wd high) (fun _ _ _ => False) (IDiv_own (by have := hbW.size; simp; omega)) (fun _ _ _ _ _ hs _ _ => hs) (IDiv_reads hl) hI0
    (fun k => { tmps := #[.slice A n c, .int .u64 (wd : Int), .int .u64 (high : Int), undef, .pointer (some ⟨w.heap.size, 0, none⟩), undef, .slice none 0 0, .int .u64 0, .int .i64 0, .int .i64 0, .pointer (some ⟨w1.heap.size, 0, none⟩), .pointer (some ⟨w1.heap.size + 1, 0, none⟩), .int .i64 ((n - 1 - k : Nat) : Int), .int .u64 (xs.getD (n - 1 - k) 0 : Int), .slice A n c, .int .i64 (n : Int), .slice (some ⟨w.heap.size + 1, 0, none⟩) 1 1, .int .i64 0, .int .i64 0, .bool false, undef, .int .u64 (wd : Int), .bool false, .int .u64 (high : Int), .int .u64 (wd : Int), .bool false, .slice A n c, .slice (some ⟨w.heap.size + 1 + 1, 0, none⟩) n n, .int .u64 (high : Int), .slice (some ⟨w.heap.size + 1 + 1, 0, none⟩) n n, .func (.func 124) #[] #[.pointer (some ⟨w1.heap.size + 1 + 1, 0, none⟩)], .int .i64 ((n - 1 - k : Nat) : Int), .int .u64 (xs.getD (n - 1 - k) 0 : Int), undef, undef, undef, undef, undef, undef, undef, undef, undef, undef, undef, undef], defers := [] }) ?assign ?body ?done ?stop
  case assign =>
    intro l k W K hK
    gi_wp2
    exact hK
  case body =>
    rintro l k W ⟨zs, r, h1, h2, h3, h4, h5, h6, h7, h8, h9, h10, h11⟩ hk
    obtain ⟨x, hx1, hx2, hxB⟩ := el k hk
    obtain ⟨q, r', hdiv, hcall⟩ := div64_any r x wd h4 hxB hwd
    rw [hx2]
    have hi : ∃ i, n - 1 - k = i := ⟨_, rfl⟩
    obtain ⟨i, hi⟩ := hi
    rw [hi]
    have hin : (i : Int) < n := by omega
    have hzi : zs[i]? = some x := by rw [h5 i (by omega), ← hi]; exact hx1
    have hne : w.heap.size + 1 + 1 ≠ w1.heap.size + 1 := by omega
    have c1 := h8.1
    have c2 := h9.1
    have c3 := h7.1
    have c4 := h1.cell hzi
    have f1 := h1.frozen i
    have f2 := h9.2
    have c5 : ∀ u, (W.setCell ⟨w.heap.size + 1 + 1, i, none⟩ u).cell? ⟨w1.heap.size + 1, 0, none⟩ = some (.int .u64 (r : Int)) := fun u => (h9.far (p := ⟨w.heap.size + 1 + 1, i, none⟩) hne.symm u).1
    have c6 : ∀ u, (W.setCell ⟨w1.heap.size + 1, 0, none⟩ u).cell? ⟨w.heap.size + 1 + 1, i, none⟩ = some (.int .u64 (x : Int)) := fun u => (h1.far (p := ⟨w1.heap.size + 1, 0, none⟩) hne u).cell hzi
    have Hst := Lib.hid (IDiv_step (w := w) (pw := w.heap.size) (pb := w1.heap.size + 1 + 1) (high := high) (wd := wd) (i := i) ⟨by omega, by omega, by omega, by omega, by omega, by omega, by omega⟩ (by omega) (by have := hbW.size; omega) hl (show i + 1 + k = n by omega) (by rw [← hi]; exact hx1) hdiv h1 h2 h3 h5 h6 h7 h8 h9 h10 h11)
    have Hc := Lib.hid hcall
    clear h1 h2 h3 h4 h5 h6 h7 h8 h9 h10 h11 hx1 hx2 hdiv hcall hzi hi hI0 el hl
    have hmix : Try.prog.follows Departure.mixedOrders = true := by kernel_rfl
    gi_wp2
    refine DivWord_round l n i (w.heap.size + 1 + 1) w1.heap.size (w1.heap.size + 1) w.heap.size W x r q r' wd _ Hc hin hne c1 c2 c3 c4 f1 f2 c5 (Lib.hid fun a m => ?_) _ _ _ _ _ _ _ _ _ _ _ _ _ _ _ _ _ _ _ _ _ _ _ _ _ _ _ _ _ _ _ _ _ _ _ _ _ _ _ _
    exact ⟨(((KeepsOthers.setCell W _ _).trans (KeepsOthers.setCell _ _ _)).trans (KeepsOthers_drewN _ m)).from _, IDiv_drewN Hst.out m⟩
  case done =>
    rintro D W hD ⟨zs, r, h1, h2, h3, h4, h5, h6, h7, h8, h9, h10, h11⟩ hcol
    have hmix : Try.prog.follows Departure.mixedOrders = true := by kernel_rfl
    have c1 := h8.1
    have c2 := h9.1
    have Hf := Lib.hid (And.intro h1 (And.intro h2 (And.intro h3 (And.intro h4 (And.intro h6 (And.intro h11 hD))))))
    clear h1 h2 h3 h4 h5 h6 h7 h8 h9 h10 h11 hI0 hl el
    gi_wp2
    rename_i K hK
    refine region_plain ?_
    gi_region_with_o (fail)
    all_goals refine hK _ _ ?_
    all_goals clear hK K
    all_goals refine wpIn_ret ?_
    all_goals refine leaves_marked3 rfl hcol ?_
    all_goals exact DivWord_end (by omega) (by simp; omega) hn Hf.out
  case stop =>
    rintro D c k W _ h _
    exact h.elim

set_option maxHeartbeats 400000 in
theorem DivWord_err (A : Option Addr) (n c : Nat) (wd high : Nat) (w : World) (hn : 4096 < n) :
    Calls Try.prog 78 #[.slice A n c, .int .u64 wd, .int .u64 high] w fun e w' => e = .returned (.tuple #[.slice none 0 0, .int .u64 0, .int .i64 2]) ∧ Below w.heap.size w w' := by
  have Hz := Lib.hid (chk_one_big n hn)
  go_enter Try.func78, Try.ntmps78
  go_wp2_with (go_at_call 92; refine (checkLengths_one n _ _ (by simp)).mono ?_; rintro e w' ⟨rfl, rfl⟩; rw [Hz.out])
  go_ret3
  exact ⟨rfl, ((Below.refl _ _).alloc (Nat.le_refl _) _).alloc (by simp) _⟩
set_option maxHeartbeats 400000 in
theorem DivWord_zero (A : Option Addr) (n c : Nat) (high : Nat) (w : World) (hn : n ≤ 4096) :
    Calls Try.prog 78 #[.slice A n c, .int .u64 (0 : Nat), .int .u64 high] w fun e w' => e = .returned (.tuple #[.slice none 0 0, .int .u64 0, .int .i64 5]) ∧ Below w.heap.size w w' := by
  have Hz := Lib.hid (chk_one n hn)
  go_enter Try.func78, Try.ntmps78
  go_wp2_with (go_at_call 92; refine (checkLengths_one n _ _ (by simp)).mono ?_; rintro e w' ⟨rfl, rfl⟩; rw [Hz.out])
  go_ret3
  exact ⟨rfl, ((Below.refl _ _).alloc (Nat.le_refl _) _).alloc (by simp) _⟩
set_option maxHeartbeats 400000 in
theorem DivWord_arg (A : Option Addr) (n c : Nat) (wd high : Nat) (w : World) (hn : n ≤ 4096) (h0 : 0 < wd) (hh : wd ≤ high) :
    Calls Try.prog 78 #[.slice A n c, .int .u64 wd, .int .u64 high] w fun e w' => e = .returned (.tuple #[.slice none 0 0, .int .u64 0, .int .i64 1]) ∧ Below w.heap.size w w' := by
  have Hz := Lib.hid (chk_one n hn)
  have e0 : ((wd : Int) == 0) = false := by simp; omega
  have e1 : ¬ (high : Int) < wd := by omega
  go_enter Try.func78, Try.ntmps78
  go_wp2_with (go_at_call 92; refine (checkLengths_one n _ _ (by simp)).mono ?_; rintro e w' ⟨rfl, rfl⟩; rw [Hz.out])
  go_ret3
  exact ⟨rfl, ((Below.refl _ _).alloc (Nat.le_refl _) _).alloc (by simp) _⟩
end Go.Proofs.Ytekikolhnfofeaa
