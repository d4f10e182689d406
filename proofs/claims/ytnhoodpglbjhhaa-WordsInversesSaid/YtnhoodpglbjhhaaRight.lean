/- The contract of words.Right. -/
import Derived.Test.YtnhoodpglbjhhaaRightR
import Derived.Test.YtnhoodpglbjhhaaLeft
namespace Go.Proofs.Ytnhoodpglbjhhaa
open Go.RowKit Go.Shelf
set_option linter.unusedVariables false
attribute [local go_sem] Oper.semAt_some

/-- Between two rounds of Right. -/
def IRight (w : World) (g ps pz pc pb n : Nat) (xs : List Nat) (s : Nat) (k : Nat) (W : World) : Prop :=
  ∃ zs, ∃ d : Nat, RowAt W g zs ∧ zs.length = n ∧ Ws zs ∧ d < 2 ^ s ∧ (∀ j, j < n - k → zs[j]? = xs[j]?) ∧ V (zs.drop (n - k)) * 2 ^ s + d = V (xs.drop (n - k)) ∧
    Wd W ps (.int .i64 (s : Int)) ∧ Wd W pz (.slice (some ⟨g, 0, none⟩) n n) ∧ Wd W pc (.int .u64 (d * 2 ^ (64 - s) : Nat)) ∧ Wd W pb (.slice (some ⟨g, 0, none⟩) n n) ∧ Below w.heap.size w W

theorem IRight_own {w : World} {g ps pz pc pb n : Nat} {xs : List Nat} {s B : Nat} (hB : w.heap.size ≤ B) : OwnFrom B (IRight w g ps pz pc pb n xs s) := by
  rintro k W W' row ⟨zs, d, h1, h2, h3, h4, h5, h6, h7, h8, h9, h10, h11⟩ hg hr
  have hr2 : ∀ j, row = some j → ∃ o : Obj, W.heap[j]? = some o ∧ o.isCells = false := fun j e => (hr j e).2
  exact ⟨zs, d, h1.kept hg hr2, h2, h3, h4, h5, h6, h7.kept hg hr2, h8.kept hg hr2, h9.kept hg hr2, h10.kept hg hr2, h11.grown hg h11.size (fun j e => by have := (hr j e).1; omega)⟩
theorem IRight_reads {w : World} {g ps pz pc pb n : Nat} {xs : List Nat} {s : Nat} (hl : xs.length = n) (k : Nat) (W : World) (h : IRight w g ps pz pc pb n xs s k W) :
    Reads pb (some ⟨g, 0, none⟩) n n (fun k => xs.getD (n - 1 - k) 0) k W := by
  obtain ⟨zs, d, h1, h2, h3, h4, h5, h6, h7, h8, h9, h10, h11⟩ := h
  refine ⟨h10.1, fun hk => ⟨g, 0, rfl, ?_⟩⟩
  rw [Nat.zero_add]
  refine h1.cell ?_
  rw [h5 _ (by omega)]
  show xs[n - 1 - k]? = some (xs.getD (n - 1 - k) 0)
  rw [List.getD_eq_getElem?_getD, List.getElem?_eq_getElem (by omega)]
  rfl
theorem IRight_drewN {w : World} {g ps pz pc pb n : Nat} {xs : List Nat} {s k : Nat} {W : World} (h : IRight w g ps pz pc pb n xs s k W) (m : Nat) : IRight w g ps pz pc pb n xs s k (W.drewN m) := by
  obtain ⟨zs, d, h1, h2, h3, h4, h5, h6, h7, h8, h9, h10, h11⟩ := h
  exact ⟨zs, d, h1, h2, h3, h4, h5, h6, h7, h8, h9, h10, below_drewN h11 m⟩
theorem right_step {B p q x e a b : Nat} (hB : p * q = B) (h2 : a * p + e = b) : (x / p + q * e + B * a) * p + x % p = x + B * b := by
  have h := Nat.div_add_mod x p
  subst hB
  subst h2
  generalize x / p = u at *
  generalize x % p = v at *
  subst h
  grind
theorem right_lt {B p q x e : Nat} (hB : p * q = B) (hx : x < B) (he : e < p) : x / p + q * e < B := by
  have h1 : x / p < q := Nat.div_lt_of_lt_mul (by rw [hB]; exact hx)
  have h2 : q * (e + 1) ≤ q * p := Nat.mul_le_mul_left _ he
  rw [Nat.mul_succ, Nat.mul_comm q p, hB] at h2
  omega
theorem right_or {x e s t : Nat} (hB : 2 ^ s * 2 ^ t = B64) (hx : x < B64) (he : e < 2 ^ s) : bits BinOp.or IntKind.u64 ((x / 2 ^ s : Nat) : Int) ((e * 2 ^ t : Nat) : Int) = ((x / 2 ^ s + 2 ^ t * e : Nat) : Int) := by
  have h1 : x / 2 ^ s < 2 ^ t := Nat.div_lt_of_lt_mul (by rw [hB]; exact hx)
  have hp : 0 < 2 ^ s := Nat.pow_pos (by decide)
  have hq : 0 < 2 ^ t := Nat.pow_pos (by decide)
  have h2 : e * 2 ^ t < B64 := by rw [← hB]; exact Nat.mul_lt_mul_of_pos_right he hq
  have h3 : x / 2 ^ s < B64 := Nat.lt_of_le_of_lt (Nat.div_le_self _ _) hx
  rw [bits_or_u64_nat _ _ h3 h2, Nat.or_comm, Nat.mul_comm e, ← Nat.two_pow_add_eq_or_of_lt h1, Nat.add_comm]
theorem IRight_step {w W : World} {g ps pz pc pb n : Nat} {xs : List Nat} {s k i x e : Nat} {zs : List Nat} (hd : g ≠ ps ∧ g ≠ pz ∧ g ≠ pc ∧ g ≠ pb ∧ ps ≠ pc ∧ pz ≠ pc ∧ pb ≠ pc) (hg0 : w.heap.size ≤ g) (hr0 : w.heap.size ≤ pc) (hl : xs.length = n) (hi : i + 1 + k = n) (hx : xs[i]? = some x) (hs63 : s ≤ 63) (hxB : x < B64) (hz : x / 2 ^ s + 2 ^ (64 - s) * e < B64)
    (h1 : RowAt W g zs) (h2 : zs.length = n) (h3 : Ws zs) (h4 : e < 2 ^ s) (h5 : ∀ j, j < n - k → zs[j]? = xs[j]?) (h6 : V (zs.drop (n - k)) * 2 ^ s + e = V (xs.drop (n - k)))
    (h7 : Wd W ps (.int .i64 (s : Int))) (h8 : Wd W pz (.slice (some ⟨g, 0, none⟩) n n)) (h9 : Wd W pc (.int .u64 (e * 2 ^ (64 - s) : Nat))) (h10 : Wd W pb (.slice (some ⟨g, 0, none⟩) n n)) (h11 : Below w.heap.size w W) :
    IRight w g ps pz pc pb n xs s (k + 1) ((W.setCell ⟨g, i, none⟩ (.int .u64 (x / 2 ^ s + 2 ^ (64 - s) * e : Nat))).setCell ⟨pc, 0, none⟩ (.int .u64 (x % 2 ^ s * 2 ^ (64 - s) : Nat))) := by
  have hp : 0 < 2 ^ s := Nat.pow_pos (by decide)
  refine ⟨zs.set i _, x % 2 ^ s, (h1.set i _).far hd.2.2.1 _, by rw [List.length_set]; exact h2, Ws_set h3 i _ hz, Nat.mod_lt _ hp, fun j hj => ?_, ?_, (h7.far (p := ⟨g, i, none⟩) hd.1.symm _).far (p := ⟨pc, 0, none⟩) hd.2.2.2.2.1 _, (h8.far (p := ⟨g, i, none⟩) hd.2.1.symm _).far (p := ⟨pc, 0, none⟩) hd.2.2.2.2.2.1 _, (h9.far (p := ⟨g, i, none⟩) hd.2.2.1.symm _).set _, (h10.far (p := ⟨g, i, none⟩) hd.2.2.2.1.symm _).far (p := ⟨pc, 0, none⟩) hd.2.2.2.2.2.2 _, (h11.setCell (p := ⟨g, i, none⟩) hg0 _).setCell (p := ⟨pc, 0, none⟩) hr0 _⟩
  · rw [List.getElem?_set_ne (by omega)]
    exact h5 j (by omega)
  · have e1 : n - (k + 1) = i := by omega
    have e2 : n - k = i + 1 := by omega
    rw [e1, V_drop xs i x hx, V_drop (zs.set i _) i _ (by rw [List.getElem?_set_self (by omega)]), drop_set]
    rw [e2] at h6
    exact right_step (pow_split s hs63) h6
theorem Right_end {w W : World} {g D n : Nat} {zs xs : List Nat} {d s B : Nat} (hg : w.heap.size ≤ g) (hgB : g < B) (hn : n ≤ 4096)
    (h : RowAt W g zs ∧ zs.length = n ∧ Ws zs ∧ d < 2 ^ s ∧ V (zs.drop (n - n)) * 2 ^ s + d = V (xs.drop (n - n)) ∧ Below w.heap.size w W ∧ B ≤ D) :
    ∃ v zs, ∃ d' : Nat, Ending.returned (.tuple #[.slice (some ⟨g, 0, none⟩) n n, .int .u64 (d * 2 ^ (64 - s) : Nat), .int .i64 0]) = .returned (.tuple #[v, .int .u64 (d' * 2 ^ (64 - s) : Nat), .int .i64 0]) ∧ d' < 2 ^ s ∧
      V zs * 2 ^ s + d' = V xs ∧ Nw w (W.drew.putObj D (.deferred none)) v n zs ∧ Below w.heap.size w (W.drew.putObj D (.deferred none)) := by
  obtain ⟨h1, h2, h3, h4, h5, h6, h7⟩ := h
  rw [Nat.sub_self, List.drop_zero, List.drop_zero] at h5
  have hrow : RowAt (W.drew.putObj D (.deferred none)) g zs := RowAt.put (W := W.drew) h1 (by omega) _
  have hown := hrow.own hg (by omega)
  rw [h2] at hown
  exact ⟨_, zs, d, rfl, h4, h5, ⟨h2, h3, hown⟩, below_putObj h6.drew (by omega) _⟩

set_option maxHeartbeats 1000000 in
theorem Right_ok (A : Option Addr) (n c : Nat) (xs : List Nat) (s : Nat) (w : World) (hn : n ≤ 4096) (hx : Sl w A n c xs) (hs63 : s ≤ 63) :
    Calls Try.prog 30 #[.slice A n c, .int .i64 s] w fun e w' => ∃ v zs, ∃ d : Nat, e = .returned (.tuple #[v, .int .u64 (d * 2 ^ (64 - s) : Nat), .int .i64 0]) ∧ d < 2 ^ s ∧
      V zs * 2 ^ s + d = V xs ∧ Nw w w' v n zs ∧ Below w.heap.size w w' := by
  have Hk := Lib.hid (chk_one n hn)
  have Hx := Lib.hid hx
  clear hx
  refine (callsIn_wide (n := 5)).1 ?_
  refine callsIn_of_wp_marks Try.func30 rfl trivial ?_ rfl
  simp only [Try.ntmps30, List.size_toArray, List.length_cons, List.length_nil, Nat.reduceAdd, Nat.reduceSub, Array.replicate_succ, Array.replicate_zero, List.push_toArray, List.append_toArray, List.nil_append, List.cons_append]
  have hb2 : Below w.heap.size w (((w.alloc (.cells #[.int .i64 (s : Int)] 3)).alloc (.cells #[.int .i64 (n : Int)] 3)).alloc (.cells #[.int .u64 0] 23)) := (((Below.refl _ _).alloc (Nat.le_refl _) _).alloc (by simp) _).alloc (by simp; omega) _
  have hW0 := Wd.new ((w.alloc (.cells #[.int .i64 (s : Int)] 3)).alloc (.cells #[.int .i64 (n : Int)] 3)) (.int .u64 0) 23
  simp only [World.size_alloc] at hW0
  have H2 := Lib.hid (And.intro hb2 (And.intro (Hx.out.below hb2) (And.intro (((Wd.new w (.int .i64 (s : Int)) 3).alloc (.cells #[.int .i64 (n : Int)] 3)).alloc (.cells #[.int .u64 0] 23)) hW0)))
  clear hb2 hW0
  gi_wp2_with (first
    | (refine ⟨trivial, ?_⟩; gi_at_call 40; refine (callsIn_wide.2 (checkLengths_one n _ _ (by simp))).mono ?_; rintro e w' ⟨rfl, rfl⟩; rw [Hk.out])
    | (refine ⟨trivial, ?_⟩; gi_at_call 63; refine (callsIn_wide.2 (outOfWord_no s hs63 _)).mono ?_; rintro e w' ⟨rfl, rfl⟩)
    | (refine ⟨trivial, ?_⟩; gi_at_call 59; refine (callsIn_wide.2 (copied_ok A n c xs _ hn H2.out.2.1)).mono ?_; rintro e w1 ⟨rfl, hrow, hb1⟩; simp only [World.size_alloc] at hrow hb1; have Hrow := Lib.hid hrow; have Hb1 := Lib.hid hb1; clear hrow hb1)
    | (refine ⟨trivial, ?_⟩; gi_at_call 60; refine (callsIn_wide.2 (fromBack_any (.slice none 0 0) _ _ _ _)).mono ?_; rintro e w' ⟨rfl, rfl⟩))
  have hg1 : w.heap.size + 1 + 1 + 1 < w1.heap.size := Hrow.out.lt
  have hl := Hx.out.1
  have el : ∀ k, k < n → ∃ x, xs[n - 1 - k]? = some x ∧ xs.getD (n - 1 - k) 0 = x ∧ x < B64 := fun k hk => by
    have hlt : n - 1 - k < xs.length := by omega
    exact ⟨xs[n - 1 - k], List.getElem?_eq_getElem hlt, by rw [List.getD_eq_getElem?_getD, List.getElem?_eq_getElem hlt]; rfl, Hx.out.2.2.2.1 _ (List.getElem_mem hlt)⟩
  have hbW : Below w.heap.size w w1 := H2.out.1.trans (Hb1.out.mono (by omega))
  have hI0 : IRight w (w.heap.size + 1 + 1 + 1) w.heap.size w1.heap.size (w.heap.size + 1 + 1) (w1.heap.size + 1) n xs s 0 ((w1.alloc (.cells #[.slice (some ⟨w.heap.size + 1 + 1 + 1, 0, none⟩) n n] 22)).alloc (.cells #[.slice (some ⟨w.heap.size + 1 + 1 + 1, 0, none⟩) n n] 22)) := by
    have q1 := (Wd.new w1 (.slice (some ⟨w.heap.size + 1 + 1 + 1, 0, none⟩) n n) 22).alloc (.cells #[.slice (some ⟨w.heap.size + 1 + 1 + 1, 0, none⟩) n n] 22)
    have q2 := Wd.new (w1.alloc (.cells #[.slice (some ⟨w.heap.size + 1 + 1 + 1, 0, none⟩) n n] 22)) (.slice (some ⟨w.heap.size + 1 + 1 + 1, 0, none⟩) n n) 22
    simp only [World.size_alloc] at q2
    have hW := ((H2.out.2.2.1.below Hb1.out (by omega)).alloc (.cells #[.slice (some ⟨w.heap.size + 1 + 1 + 1, 0, none⟩) n n] 22)).alloc (.cells #[.slice (some ⟨w.heap.size + 1 + 1 + 1, 0, none⟩) n n] 22)
    have hC := ((H2.out.2.2.2.below Hb1.out (by omega)).alloc (.cells #[.slice (some ⟨w.heap.size + 1 + 1 + 1, 0, none⟩) n n] 22)).alloc (.cells #[.slice (some ⟨w.heap.size + 1 + 1 + 1, 0, none⟩) n n] 22)
    refine ⟨xs, 0, (Hrow.out.alloc _).alloc _, hl, Hx.out.2.2.2.1, Nat.pow_pos (by decide), fun _ _ => rfl, ?_, hW, q1, by rw [Nat.zero_mul]; exact hC, q2, (hbW.alloc hbW.size _).alloc (by have := hbW.size; simp; omega) _⟩
    rw [Nat.sub_zero, V_drop_all xs n (by omega), Nat.zero_mul]
  refine wpIn_rounds (F := Fence.wide) (n := 5) rfl (by decide) (gf := 70) (lb := #[.pointer (some ⟨w1.heap.size + 1, 0, none⟩)]) rfl trivial (fun args w => run_callFunc_enter Try.func70 (by kernel_rfl) (by kernel_rfl) args w)
    (fromBack_rounds Fence.wide 4 trivial rfl (by decide) (w1.heap.size + 1) (some ⟨w.heap.size + 1 + 1 + 1, 0, none⟩) n n (fun k => xs.getD (n - 1 - k) 0) hn _) (Below.refl _ _) (fun _ => rfl)
    (IRight w (w.heap.size + 1 + 1 + 1) w.heap.size w1.heap.size (w.heap.size + 1 + 1) (w1.heap.size + 1) n xs s) (fun _ _ _ => False) (IRight_own (by have := hbW.size; simp; omega)) (fun _ _ _ _ _ hs _ _ => hs) (IRight_reads hl) hI0
    (fun k => { tmps := #[.slice A n c, .int .i64 (s : Int), undef, .pointer (some ⟨w.heap.size, 0, none⟩), .slice none 0 0, .int .u64 0, .int .i64 0, .int .i64 0, .pointer (some ⟨w.heap.size + 1 + 1, 0, none⟩), .pointer (some ⟨w1.heap.size, 0, none⟩), .int .i64 ((n - 1 - k : Nat) : Int), .int .u64 (xs.getD (n - 1 - k) 0 : Int), .slice A n c, .int .i64 (n : Int), .slice (some ⟨w.heap.size + 1, 0, none⟩) 1 1, .int .i64 0, .int .i64 0, .bool false, undef, .int .i64 (s : Int), .bool false, .slice A n c, .slice (some ⟨w.heap.size + 1 + 1 + 1, 0, none⟩) n n, .slice (some ⟨w.heap.size + 1 + 1 + 1, 0, none⟩) n n, .func (.func 70) #[] #[.pointer (some ⟨w1.heap.size + 1, 0, none⟩)], .int .i64 ((n - 1 - k : Nat) : Int), .int .u64 (xs.getD (n - 1 - k) 0 : Int), undef, undef, undef, undef, undef, undef, undef, undef, undef, undef, undef, undef, undef, undef], defers := [] }) ?assign ?body ?done ?stop
  case assign =>
    intro l k W K hK
    gi_wp2
    exact hK
  case body =>
    rintro l k W ⟨zs, e, h1, h2, h3, h4, h5, h6, h7, h8, h9, h10, h11⟩ hk
    obtain ⟨x, hx1, hx2, hxB⟩ := el k hk
    have hz := right_lt (pow_split s hs63) hxB h4
    rw [hx2]
    have hi : ∃ i, n - 1 - k = i := ⟨_, rfl⟩
    obtain ⟨i, hi⟩ := hi
    rw [hi]
    have hin : (i : Int) < n := by omega
    have hzi : zs[i]? = some x := by rw [h5 i (by omega), ← hi]; exact hx1
    have hne : w.heap.size + 1 + 1 + 1 ≠ w.heap.size + 1 + 1 := by omega
    have c1 := h8.1
    have c2 := h9.1
    have c3 := h7.1
    have c4 := h1.cell hzi
    have f1 := h1.frozen i
    have hor : bits BinOp.or IntKind.u64 ((x : Int) / 2 ^ s) ((e * 2 ^ (64 - s) : Nat) : Int) = ((x / 2 ^ s + 2 ^ (64 - s) * e : Nat) : Int) := by
      rw [show ((x : Int) / 2 ^ s) = ((x / 2 ^ s : Nat) : Int) by simp]
      exact right_or (pow_split s hs63) hxB h4
    have Hst := Lib.hid (IRight_step (w := w) (ps := w.heap.size) (pz := w1.heap.size) (pc := w.heap.size + 1 + 1) (pb := w1.heap.size + 1) (s := s) (i := i) ⟨by omega, by omega, by omega, by omega, by omega, by omega, by omega⟩ (by omega) (by omega) hl (show i + 1 + k = n by omega) (by rw [← hi]; exact hx1) hs63 hxB hz h1 h2 h3 h4 h5 h6 h7 h8 h9 h10 h11)
    have e1 : ∀ u m, ((W.setCell ⟨w.heap.size + 1 + 1 + 1, i, none⟩ u).drewN m).cell? ⟨w.heap.size, 0, none⟩ = some (.int .i64 (s : Int)) := fun u m => (h7.far (p := ⟨w.heap.size + 1 + 1 + 1, i, none⟩) (by show w.heap.size ≠ w.heap.size + 1 + 1 + 1; omega) u).1
    have e2 : ∀ u m, ((W.setCell ⟨w.heap.size + 1 + 1 + 1, i, none⟩ u).drewN m).frozen? ⟨w.heap.size + 1 + 1, 0, none⟩ = false := fun u m => (h9.far (p := ⟨w.heap.size + 1 + 1 + 1, i, none⟩) (by show w.heap.size + 1 + 1 ≠ w.heap.size + 1 + 1 + 1; omega) u).2
    have e3 : ∀ u m, ((W.setCell ⟨w.heap.size + 1 + 1 + 1, i, none⟩ u).drewN m).cell? ⟨w.heap.size + 1 + 1, 0, none⟩ = some (.int .u64 (e * 2 ^ (64 - s) : Nat)) := fun u m => (h9.far (p := ⟨w.heap.size + 1 + 1 + 1, i, none⟩) (by show w.heap.size + 1 + 1 ≠ w.heap.size + 1 + 1 + 1; omega) u).1
    have Hor := Lib.hid hor
    have hshl : IntKind.u64.wrap ((x : Int) * 2 ^ (64 - s)) = ((x % 2 ^ s * 2 ^ (64 - s) : Nat) : Int) := by
      rw [wrap_u64, shl_mod B64 x (2 ^ s) (2 ^ (64 - s)) (by rw [Nat.mul_comm]; exact pow_split s hs63), Nat.mul_comm]
    have Hsh := Lib.hid hshl
    clear h1 h2 h3 h4 h5 h6 h7 h8 h9 h10 h11 hx1 hx2 hzi hi hI0 el hl hz hor hshl hxB
    gi_wp2
    rename_i K hK
    refine Right_round l n i (w.heap.size + 1 + 1 + 1) w1.heap.size (w.heap.size + 1 + 1) w.heap.size W x s _ _ _ hin hs63 c1 c2 c3 c4 f1 Hor _ _ _ _ _ _ _ _ _ _ _ _ _ _ _ _ _ _ _ _ _ _ _ _ _ _ _ _ _ _ _ _ _ _ _ _ (Lib.hid fun _ _ _ _ _ _ _ _ m => ?_)
    refine hK _ _ ?_
    clear hK K
    have e4 := e1 (.int .u64 (x / 2 ^ s + 2 ^ (64 - s) * e : Nat)) m
    have e5 := e2 (.int .u64 (x / 2 ^ s + 2 ^ (64 - s) * e : Nat)) m
    have e6 := e3 (.int .u64 (x / 2 ^ s + 2 ^ (64 - s) * e : Nat)) m
    have Hfin : Hid ((∀ B, KeepsFrom B W (((W.setCell ⟨w.heap.size + 1 + 1 + 1, i, none⟩ (.int .u64 (x / 2 ^ s + 2 ^ (64 - s) * e : Nat))).drewN m).setCell ⟨w.heap.size + 1 + 1, 0, none⟩ (.int .u64 (x % 2 ^ s * 2 ^ (64 - s) : Nat)))) ∧ IRight w (w.heap.size + 1 + 1 + 1) w.heap.size w1.heap.size (w.heap.size + 1 + 1) (w1.heap.size + 1) n xs s (k + 1) (((W.setCell ⟨w.heap.size + 1 + 1 + 1, i, none⟩ (.int .u64 (x / 2 ^ s + 2 ^ (64 - s) * e : Nat))).drewN m).setCell ⟨w.heap.size + 1 + 1, 0, none⟩ (.int .u64 (x % 2 ^ s * 2 ^ (64 - s) : Nat)))) :=
      ⟨fun B => (((KeepsOthers.setCell W _ _).trans (KeepsOthers_drewN _ m)).trans (KeepsOthers.setCell _ _ _)).from B, IRight_drewN Hst.out m⟩
    generalize (W.setCell ⟨w.heap.size + 1 + 1 + 1, i, none⟩ (.int .u64 (x / 2 ^ s + 2 ^ (64 - s) * e : Nat))).drewN m = W2 at *
    clear e1 e2 e3 c1 c2 c3 c4 f1 Hor Hst
    gi_wp2
    rw [Hsh.out]
    exact ⟨Hfin.out.1 _, Hfin.out.2⟩
  case done =>
    rintro D W hD ⟨zs, d, h1, h2, h3, h4, h5, h6, h7, h8, h9, h10, h11⟩ hcol
    have hmix : Try.prog.follows Departure.mixedOrders = true := by kernel_rfl
    have c1 := h8.1
    have c2 := h9.1
    have Hf := Lib.hid (And.intro h1 (And.intro h2 (And.intro h3 (And.intro h4 (And.intro h6 (And.intro h11 hD))))))
    clear h1 h2 h3 h4 h5 h6 h7 h8 h9 h10 h11 hI0 hl el
    gi_wp2
    rename_i K hK
    refine region_plain ?_
    gi_region_with_o (fail)
    all_goals refine hK _ _ ?_
    all_goals clear hK K
    all_goals refine wpIn_ret ?_
    all_goals refine leaves_marked3 rfl hcol ?_
    all_goals exact Right_end (by omega) (by simp; omega) hn Hf.out
  case stop =>
    rintro D c k W _ h _
    exact h.elim

set_option maxHeartbeats 400000 in
theorem Right_err (A : Option Addr) (n c : Nat) (s : Int) (w : World) (hn : 4096 < n) :
    Calls Try.prog 30 #[.slice A n c, .int .i64 s] w fun e w' => e = .returned (.tuple #[.slice none 0 0, .int .u64 0, .int .i64 2]) ∧ Below w.heap.size w w' := by
  have Hz := Lib.hid (chk_one_big n hn)
  go_enter Try.func30, Try.ntmps30
  go_wp2_with (go_at_call 40; refine (checkLengths_one n _ _ (by simp)).mono ?_; rintro e w' ⟨rfl, rfl⟩; rw [Hz.out])
  go_ret3
  exact ⟨rfl, ((Below.refl _ _).alloc (Nat.le_refl _) _).alloc (by simp) _⟩
set_option maxHeartbeats 400000 in
theorem Right_arg (A : Option Addr) (n c : Nat) (s : Int) (w : World) (hn : n ≤ 4096) (hs : s < 0 ∨ 63 < s) :
    Calls Try.prog 30 #[.slice A n c, .int .i64 s] w fun e w' => e = .returned (.tuple #[.slice none 0 0, .int .u64 0, .int .i64 1]) ∧ Below w.heap.size w w' := by
  have Hz := Lib.hid (chk_one n hn)
  have Hs := Lib.hid hs
  clear hs
  go_enter Try.func30, Try.ntmps30
  go_wp2_with (first | (go_at_call 40; refine (checkLengths_one n _ _ (by simp)).mono ?_; rintro e w' ⟨rfl, rfl⟩; rw [Hz.out]) | (go_at_call 63; refine (outOfWord_yes s Hs.out _).mono ?_; rintro e w' ⟨rfl, rfl⟩))
  go_ret3
  exact ⟨rfl, ((Below.refl _ _).alloc (Nat.le_refl _) _).alloc (by simp) _⟩
end Go.Proofs.Ytnhoodpglbjhhaa
