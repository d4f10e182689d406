/- The contract of fast.Split. -/
import Derived.Test.YthpgdpkemnhneaaGreatDoorZFThird
import Derived.Test.YthpgdpkemnhneaaGreatDoorP9
import Derived.Test.YthpgdpkemnhneaaGreatDoorP1
import Derived.Test.YthpgdpkemnhneaaGreatDoorP2
import Derived.Deep.AppendLies
namespace Go.Proofs.YthpgdpkemnhneaaGreatDoor
open Go.RowKit Go.Shelf
set_option linter.unusedVariables false
set_option linter.unusedSimpArgs false
set_option maxRecDepth 10000
attribute [local go_sem] Oper.semAt_some

theorem own_ne {W : World} {base base' : Nat} {e e' : TypeId} {size size' : Nat} {v v' : Value} {n n' : Nat} {vs vs' : List Value} (h : W.ownsRow base e size v n vs) (h' : W.ownsRow base' e' size' v' n' vs') (hne : e ≠ e') : ∀ g, v.ownBlock = some g → v'.ownBlock ≠ some g := by
  intro g hg hg'
  rcases h.2 with ⟨rfl, _⟩ | ⟨g1, cap, cur, rfl, _, hh, _⟩
  · cases hg
  rcases h'.2 with ⟨rfl, _⟩ | ⟨g2, cap', cur', rfl, _, hh', _⟩
  · cases hg'
  have e1 : g1 = g := by simpa [Value.ownBlock] using hg
  have e2 : g2 = g := by simpa [Value.ownBlock] using hg'
  subst e1 e2
  rw [hh] at hh'
  injection hh' with hh'
  injection hh' with _ ht _
  exact hne ht
theorem own_off' {W W' : World} {row : Option Nat} {base n size : Nat} {e : TypeId} {v : Value} {vs : List Value} (h : W.ownsRow base e size v n vs) (hg : W.grownBy W' row) (hr : ∀ r, row = some r → v.ownBlock ≠ some r) : W'.ownsRow base e size v n vs := by
  refine h.kept hg ?_
  cases hb : v.ownBlock with
  | none => exact .inl rfl
  | some gb => exact .inr fun e => hr gb e.symm (by rw [hb])
theorem Tryz.info23 : (Tryz.prog.info? 23).map (fun i => (i.zero, i.size, i.bytes)) = some (some (.slice none 0 0), 1, 24) := by kernel_rfl
/-- a list of new numbers: number i has the value f i -/
def NsL (w W : World) (ls : List (Option Addr × Nat × Nat)) (f : Nat → Nat) : Prop :=
  ∀ (i : Nat) (s : Option Addr × Nat × Nat), ls[i]? = some s → ∃ zs, Nw w W (.slice s.1 s.2.1 s.2.2) s.2.1 zs ∧ Cn zs ∧ V zs = f i
theorem NsL.below {w W W' : World} {ls : List (Option Addr × Nat × Nat)} {f : Nat → Nat} (h : NsL w W ls f) (hb : Below W.heap.size W W') : NsL w W' ls f := fun i s hi => by
  obtain ⟨zs, h1, h2, h3⟩ := h i s hi
  exact ⟨zs, h1.later (Nat.le_refl _) hb, h2, h3⟩
theorem NsL.grown {w W W' : World} {ls : List (Option Addr × Nat × Nat)} {f : Nat → Nat} {row : Option Nat} (h : NsL w W ls f) (hg : W.grownBy W' row) (hr : ∀ r, row = some r → ∀ base v n vs, W.ownsRow base 44 1 v n vs → v.ownBlock ≠ some r) : NsL w W' ls f := fun i s hi => by
  obtain ⟨zs, h1, h2, h3⟩ := h i s hi
  exact ⟨zs, ⟨h1.1, h1.2.1, own_off h1.2.2 hg (fun r e => hr r e _ _ _ _ h1.2.2)⟩, h2, h3⟩
theorem NsL.add {w W : World} {ls : List (Option Addr × Nat × Nat)} {f : Nat → Nat} {A : Option Addr} {n c k : Nat} {zs : List Nat} (h : NsL w W ls f) (hl : ls.length = k) (hN : Nw w W (.slice A n c) n zs) (hc : Cn zs) (hv : V zs = f k) : NsL w W (ls ++ [(A, n, c)]) f := fun i s hi => by
  rcases Nat.lt_or_ge i k with h1 | h1
  · rw [List.getElem?_append_left (by omega)] at hi
    exact h i s hi
  · have hik : i = k := by
      have := (List.getElem?_eq_some_iff.1 hi).1
      simp at this
      omega
    subst hik
    rw [List.getElem?_append_right (by omega), hl, Nat.sub_self] at hi
    simp at hi
    subst hi
    exact ⟨zs, hN, hc, hv⟩
/-- between two rounds: the list's place, its numbers, what the pieces are taken from -/
def SpI (w : World) (pl : Nat) (Bx Bn : Nat) (A : Option Addr) (L c n : Nat) (xs : List Nat) (k : Nat) (W : World) : Prop :=
  ∃ v ls, Boxed W pl 25 v ∧ W.ownsRow w.heap.size 23 1 v k (svs ls) ∧ ls.length = k ∧ NsL w W ls (fun i => V (pw xs n i)) ∧
    Wd W Bx (.slice A L c) ∧ Wd W Bn (.int .i64 (n : Int)) ∧ w.heap.size ≤ pl ∧ pl < Bx ∧ Bx < Bn ∧ (∀ g, v.ownBlock = some g → g ≠ pl ∧ g ≠ Bx ∧ g ≠ Bn) ∧ Below w.heap.size w W
theorem SpI_own {w : World} {pl Bx Bn : Nat} {A : Option Addr} {L c n B : Nat} {xs : List Nat} (hB : w.heap.size ≤ B) : OwnFrom B (SpI w pl Bx Bn A L c n xs) := by
  rintro k W W' row ⟨v, ls, h1, h2, h3, h4, h5, h6, h7, h8, h9, h10, h11⟩ hg hr
  have hr2 : ∀ j, row = some j → ∃ o : Obj, W.heap[j]? = some o ∧ o.isCells = false := fun j e => (hr j e).2
  have far : ∀ {base : Nat} {e : TypeId} {size : Nat} {v : Value} {n : Nat} {vs : List Value}, W.ownsRow base e size v n vs → ∀ r, row = some r → v.ownBlock ≠ some r := fun {base e size v n vs} h r he hb => by
    obtain ⟨_, o, ho, hc⟩ := hr r he
    rcases h.2 with ⟨rfl, _⟩ | ⟨g, cap, cur, rfl, _, hgb, _⟩
    · cases hb
    · obtain rfl : g = r := by simpa [Value.ownBlock] using hb
      rw [hgb] at ho; cases ho; cases hc
  refine ⟨v, ls, ?_, own_off' h2 hg (far h2), h3, h4.grown hg (fun r e base v n vs ho => far ho r e), h5.kept hg hr2, h6.kept hg hr2, h7, h8, h9, h10, h11.grown hg h11.size (fun j hj => by have := (hr j hj).1; omega)⟩
  refine (hg.block pl h1.lt ?_).trans h1
  intro e
  obtain ⟨_, o, ho, hc⟩ := hr pl e.symm
  rw [show W.heap[pl]? = _ from h1] at ho
  cases ho; cases hc
/-- what Split answers -/
def SplitR (w w' : World) (z : Ending) (L n : Nat) (xs : List Nat) : Prop :=
  ∃ A c ls, ls.length = (L + n - 1) / n ∧ z = .returned (.tuple #[.slice A ls.length c, .int .i64 0]) ∧ w'.ownsRow w.heap.size 23 1 (.slice A ls.length c) ls.length (svs ls) ∧ NsL w w' ls (fun i => V (pw xs n i)) ∧ Below w.heap.size w w'

theorem SpI.next {w W w3 W2 : World} {pl Bx Bn : Nat} {A A3 : Option Addr} {L c n k n3 c3 : Nat} {xs zs : List Nat} {v v' : Value} {ls : List (Option Addr × Nat × Nat)}
    (h1 : Boxed W pl 25 v) (h2 : W.ownsRow w.heap.size 23 1 v k (svs ls)) (h3 : ls.length = k) (h4 : NsL w W ls (fun i => V (pw xs n i))) (h5 : Wd W Bx (.slice A L c)) (h6 : Wd W Bn (.int .i64 (n : Int))) (h7 : w.heap.size ≤ pl) (h8 : pl < Bx) (h9 : Bx < Bn) (hBn : Bn < W.heap.size) (h10 : ∀ g, v.ownBlock = some g → g ≠ pl ∧ g ≠ Bx ∧ g ≠ Bn) (h11 : Below w.heap.size w W)
    (hb : Below W.heap.size W w3) (hN : Nw w w3 (.slice A3 n3 c3) n3 zs) (hc : Cn zs) (hv : V zs = V (pw xs n k))
    (hown : W2.ownsRow w.heap.size 23 1 v' (k + 1) (svs ls ++ [.slice A3 n3 c3])) (hgrow : (w3.alloc (.cells #[.slice A3 n3 c3] 23)).grownBy W2 v.ownBlock) (hblk : v.ownBlock = v'.ownBlock ∨ v'.ownBlock = some (w3.heap.size + 1)) :
    Boxed W2 pl 25 v ∧ SpI w pl Bx Bn A L c n xs (k + 1) (W2.setCell ⟨pl, 0, none⟩ v') ∧ ∀ B, KeepsFrom B W (W2.setCell ⟨pl, 0, none⟩ v') := by
  have e1 : 25 ≠ 23 := by decide
  have e2 : 23 ≠ 44 := by decide
  have e3 : 25 ≠ 44 := by decide
  have hpW := h1.lt
  have h1' : Boxed w3 pl 25 v := (hb.block pl hpW).trans h1
  have h2' := own_below h2 hb (Nat.le_refl _)
  have hw3 : w.heap.size ≤ w3.heap.size := Nat.le_trans h11.size hb.size
  obtain ⟨b1, b2, b3, b4, b5⟩ := h1'.appended e1 h2' hw3 h7 hown hgrow
  have hal : Below w3.heap.size w3 (w3.alloc (.cells #[.slice A3 n3 c3] 23)) := (Below.refl _ _).alloc (Nat.le_refl _) _
  have hn3 := ((h4.below hb).add h3 hN hc hv).below hal
  have hn4 : NsL w W2 (ls ++ [(A3, n3, c3)]) (fun i => V (pw xs n i)) := hn3.grown hgrow (fun r e base v4 n4 vs4 ho => own_ne (own_below h2' hal (Nat.le_refl _)) ho e2 r e)
  have hn5 : NsL w (W2.setCell ⟨pl, 0, none⟩ v') (ls ++ [(A3, n3, c3)]) (fun i => V (pw xs n i)) := hn4.grown (grown_set W2 pl 0 v') (fun r e base v4 n4 vs4 ho => by
    injection e with e
    subst e
    exact (b1.not_row e3 ho).symm)
  have wd : ∀ {B : Nat} {u : Value}, Wd W B u → B < W.heap.size → B ≠ pl → (∀ g, v.ownBlock = some g → g ≠ B) → Wd (W2.setCell ⟨pl, 0, none⟩ v') B u := fun {B u} hwd hB hne hg => by
    have hh : W2.heap[B]? = W.heap[B]? := (hgrow.block B (by have := hb.size; simp; omega) (fun e => hg B e.symm rfl)).trans ((hal.block B (by have := hb.size; omega)).trans (hb.block B hB))
    have hh2 : (W2.setCell ⟨pl, 0, none⟩ v').heap[B]? = W.heap[B]? := (Below.heap_setCell _ _ _ _ (by simpa using hne)).trans hh
    exact ⟨(World.cell?_of_block (a := ⟨B, 0, none⟩) hh2).trans hwd.1, (World.frozen?_of_block (a := ⟨B, 0, none⟩) hh2).trans hwd.2⟩
  refine ⟨b1, ⟨v', ls ++ [(A3, n3, c3)], b2, ?_, by simp [h3], hn5, wd h5 (by omega) (by omega) (fun g e => (h10 g e).2.1), wd h6 hBn (by omega) (fun g e => (h10 g e).2.2), h7, h8, h9, ?_, h11.trans ((hb.mono h11.size).trans b5)⟩, fun B => (keepsFrom_below hb).trans (b4.from _)⟩
  · have : svs (ls ++ [(A3, n3, c3)]) = svs ls ++ [.slice A3 n3 c3] := by simp [svs]
    rw [this]
    exact b3
  · intro g hg
    rcases hblk with h | h
    · exact h10 g (h.trans hg)
    · rw [h] at hg
      injection hg with hg
      have := hb.size
      omega

set_option maxHeartbeats 4000000 in
theorem Split_ok (A : Option Addr) (L c n : Nat) (xs : List Nat) (w : World) (hL : L ≤ 4096) (hn1 : 1 ≤ n) (hn2 : n ≤ 1000) (hx : Sl w A L c xs) :
    Calls Tryz.prog 5 #[.slice A L c, .int .i64 (n : Int)] w fun z w' => ∃ q, q ≤ L ∧ V (xs.take q) = V xs ∧ Cn (xs.take q) ∧ SplitR w w' z q n (xs.take q) := by
  have Hx := Lib.hid hx
  have HC := Lib.hid (chkS_one (A := A) (c := c) hL)
  have hmix : Tryz.prog.follows Departure.mixedOrders = true := by kernel_rfl
  have ho : decide ((n : Int) < 1 ∨ 1000 < (n : Int)) = false := by simp; omega
  have Ho := Lib.hid ho
  clear hx ho
  refine (callsIn_wide (n := 5)).1 ?_
  refine callsIn_of_wp_marks Tryz.func5 rfl trivial ?_ rfl
  simp only [Tryz.ntmps5, List.size_toArray, List.length_cons, List.length_nil, Nat.reduceAdd, Nat.reduceSub, Array.replicate_succ, Array.replicate_zero, List.push_toArray, List.append_toArray, List.nil_append, List.cons_append]
  gi_wp2_with (first
    | (refine ⟨trivial, ?_⟩; gi_at_call 20; refine (callsIn_wide.2 (fcheck_one A L c _ _ _ rfl)).mono ?_; rintro e w1 ⟨rfl, hb1⟩; rw [HC.out])
    | (refine ⟨trivial, ?_⟩; gi_at_call 21; refine (callsIn_wide.2 (outOfPiece_ok _ _)).mono ?_; rintro e w2 ⟨rfl, rfl⟩; rw [Ho.out])
    | (refine ⟨trivial, ?_⟩; gi_at_call 23; refine (callsIn_wide.2 (fused_ok A L c xs _ (by omega) ((Hx.out.below hb1).alloc_ _))).mono ?_; rintro e w3 ⟨q, rfl, hq, hU, rfl⟩)
    | (refine ⟨trivial, ?_⟩; gi_at_call 22; refine (callsIn_wide.2 (pieces_any _ _ _ _ _)).mono ?_; rintro e w4 ⟨rfl, rfl⟩))
  obtain ⟨N, hN⟩ : ∃ N, (q + n - 1) / n = N := ⟨_, rfl⟩
  obtain ⟨i0, hi, hz0, hz1, hz2⟩ := info_parts Tryz.info23
  have hI0 : SpI w w1.heap.size (w1.heap.size + 1) (w1.heap.size + 1 + 1) A q c n (xs.take q) 0 (((w1.alloc (Obj.cells #[.slice none 0 0] 25)).alloc (Obj.cells #[.slice A q c] 23)).alloc (Obj.cells #[.int .i64 (n : Int)] 3)) := by
    have q1 := ((Wd.new (w1.alloc (Obj.cells #[.slice none 0 0] 25)) (.slice A q c) 23)).alloc (Obj.cells #[.int .i64 (n : Int)] 3)
    have q2 := Wd.new ((w1.alloc (Obj.cells #[.slice none 0 0] 25)).alloc (Obj.cells #[.slice A q c] 23)) (.int .i64 (n : Int)) 3
    simp only [World.size_alloc] at q1 q2
    exact ⟨.slice none 0 0, [], ((Boxed.new w1 _ _).alloc _).alloc _, World.ownsRow_nil _ _ _ _, rfl, fun i s h => by simp at h, q1, q2, hb1.size, by omega, by omega, fun g h => by simp [Value.ownBlock] at h, ((hb1.alloc hb1.size _).alloc (by have := hb1.size; simp; omega) _).alloc (by have := hb1.size; simp; omega) _⟩
  have hs1 := hb1.size
  have HX := Lib.hid (And.intro (Hx.out.tk hq) (And.intro hU.out hs1))
  clear hU hb1 HC
  refine wpIn_rounds (F := Fence.wide) (n := 5) rfl (by decide) (gf := 59) (lb := #[.pointer (some ⟨w1.heap.size + 1, 0, none⟩), .pointer (some ⟨w1.heap.size + 1 + 1, 0, none⟩)]) rfl trivial (fun args w => run_callFunc_enter Tryz.func59 (by kernel_rfl) (by kernel_rfl) args w)
    (pieces_rounds 4 (by decide) (w1.heap.size + 1) (w1.heap.size + 1 + 1) A q c n (xs.take q) (by omega) hn1 (by omega) _) (Below.refl _ _) (fun _ => rfl)
    (SpI w w1.heap.size (w1.heap.size + 1) (w1.heap.size + 1 + 1) A q c n (xs.take q)) (fun _ _ _ => False) (SpI_own (by simp; omega)) (fun _ _ _ _ _ hs _ _ => hs) (fun k W h => by obtain ⟨v, ls, h1, h2, h3, h4, h5, h6, h7, h8, h9, h10, h11⟩ := h; exact ⟨h5.1, h6.1, HX.out.1.below h11⟩) hI0
    (fun k => { tmps := #[.slice A L c, .int .i64 (n : Int), undef, undef, .slice none 0 0, .int .i64 0, .int .i64 0, .pointer (some ⟨w1.heap.size, 0, none⟩), undef, .slice (A.map (·.add (k * n))) (ul (pw (xs.take q) n k)) (_root_.Go.Proofs.YthpgdpkemnhneaaGreatDoor.pl q n k), .slice A L c, .slice (some ⟨w.heap.size, 0, none⟩) 1 1, .int .i64 0, .int .i64 0, .bool false, undef, .int .i64 (n : Int), .bool false, .slice A L c, .slice A q c, .int .i64 (n : Int), .func (.func 59) #[] #[.pointer (some ⟨w1.heap.size + 1, 0, none⟩), .pointer (some ⟨w1.heap.size + 1 + 1, 0, none⟩)], .int .i64 (ptI n k), .slice (A.map (·.add (k * n))) (ul (pw (xs.take q) n k)) (_root_.Go.Proofs.YthpgdpkemnhneaaGreatDoor.pl q n k), undef, undef, undef, undef, undef, undef], defers := [] }) ?assign ?body ?done ?stop
  case assign =>
    intro l k W K hK
    gi_wp2
    exact hK
  case body =>
    rintro l k W ⟨v, ls, h1, h2, h3, h4, h5, h6, h7, h8, h9, h10, h11⟩ hk
    rw [hN] at hk
    obtain ⟨hsc, hcn, hcv⟩ := Pc_sc (HX.out.1.below h11) hN hk
    have hv0 : V (Pc A q n (xs.take q) k).xs = V (pw (xs.take q) n k) := by
      have : (Pc A q n (xs.take q) k).v = ((V (Pc A q n (xs.take q) k).xs : Nat) : Int) := by simp [Sn.v, Pc, sgn]
      rw [this] at hcv
      exact_mod_cast hcv
    have hBn : w1.heap.size + 1 + 1 < W.heap.size := World.block_lt_of_cell? _ _ h6.1
    obtain ⟨zs0, hzs0⟩ : ∃ zs0, (Pc A q n (xs.take q) k).xs = zs0 := ⟨_, rfl⟩
    obtain ⟨B, hB⟩ : ∃ B, A.map (·.add (k * n)) = B := ⟨_, rfl⟩
    obtain ⟨u, hu⟩ : ∃ u, ul (pw (xs.take q) n k) = u := ⟨_, rfl⟩
    obtain ⟨r, hr⟩ : ∃ r, _root_.Go.Proofs.YthpgdpkemnhneaaGreatDoor.pl q n k = r := ⟨_, rfl⟩
    have hsl : Sl W B u r zs0 := by
      rw [← hB, ← hu, ← hr, ← hzs0]
      exact hsc.1
    have hu5 : u ≤ 1000 := by
      rw [← hu]; exact Nat.le_trans hcn (by omega)
    rw [hzs0] at hv0
    rw [hB, hu, hr]
    have c1 := h1.cell
    have HS0 : Hid (W.drew.cell? ⟨w1.heap.size, 0, none⟩ = some v) := c1
    have HH := Lib.hid (And.intro hsl (And.intro hv0 (And.intro h1 (And.intro h2 (And.intro h3 (And.intro h4 (And.intro h5 (And.intro h6 (And.intro h7 (And.intro hBn (And.intro h10 h11)))))))))))
    have hkN : k ≤ 10000 := by
      have h12 : N ≤ q + n - 1 := by rw [← hN]; exact Nat.div_le_self _ _
      omega
    clear hsc hcn hcv hv0 hzs0 hB hu hr hsl h1 h2 h3 h4 h5 h6 h7 h8 h9 h10 h11 hBn c1 hI0
    gi_wp2
    refine wpIn_region_M 5 (fun w' => w'.cell? ⟨w1.heap.size, 0, none⟩ = some v) hmix (by kernel_rfl) (by rintro ⟨a, w, h⟩; exact h) ?_
    refine wpAnyM_take (i := 0) (v := ?_) rfl rfl (by kernel_rfl) (by kernel_rfl) (by kernel_rfl) (by kernel_rfl) (by kernel_rfl) (by kernel_rfl) (fun _ _ _ h => h) HS0.out (Or.inl ⟨by rfl, ?_⟩) ?_
    rotate_left
    · rintro w q0; go_simp; try with_reducible rfl
    try simp only [Act.put, List.getElem_toArray, List.getElem_cons_zero, List.getElem_cons_succ, List.setIfInBounds_toArray, List.set_cons_zero, List.set_cons_succ]
    refine wpAnyM_take (i := 1) (v := ?_) rfl rfl (by kernel_rfl) (by kernel_rfl) (by kernel_rfl) (by kernel_rfl) (by kernel_rfl) (by kernel_rfl) (fun _ _ _ h => h) HS0.out (Or.inl ⟨by rfl, ?_⟩) ?_
    rotate_left
    · rintro w q0; go_simp; try with_reducible rfl
    try simp only [Act.put, List.getElem_toArray, List.getElem_cons_zero, List.getElem_cons_succ, List.setIfInBounds_toArray, List.set_cons_zero, List.set_cons_succ]
    refine wpAnyM_one (i := 2) rfl (by kernel_rfl) (fun K hK => ?_)
    go_simp
    refine (NTrim_ok B u r zs0 W.drew (by omega) (show Sl W.drew B u r zs0 from HH.out.1)).mono ?_
    rintro e w3 ⟨v3, rfl, hN3, hb3⟩
    obtain ⟨A3, n3, c3, z3, rfl, s3, hc3, hv3, hw3⟩ := hN3.sl
    have hb3' : Below W.heap.size W w3 := belowA hb3
    have HS1 : Hid (w3.cell? ⟨w1.heap.size, 0, none⟩ = some v) := ((hb3.cell (p := ⟨w1.heap.size, 0, none⟩) (World.block_lt_of_cell? _ _ HS0.out)).trans HS0.out)
    have H3 := Lib.hid (And.intro (show Nw w w3 (.slice A3 n3 c3) n3 z3 from hw3.later HH.out.2.2.2.2.2.2.2.2.2.2.2.size (Below.refl _ _)) (And.intro hc3 (And.intro (hv3.trans HH.out.2.1) (And.intro hb3' (own_below HH.out.2.2.2.1 hb3' (Nat.le_refl _))))))
    clear hN3 hb3 s3 hc3 hv3 hw3 hb3' HS0
    refine hK.out _ _ (fun _ => HS1.out) ?_
    clear hK K
    try simp only [Act.put, List.getElem_toArray, List.getElem_cons_zero, List.getElem_cons_succ, List.setIfInBounds_toArray, List.set_cons_zero, List.set_cons_succ]
    refine wpAnyM_one (i := 3) rfl (by kernel_rfl) (fun K hK => ?_)
    go_simp
    have HS2 : Hid ((w3.alloc (.cells #[.slice A3 n3 c3] 23)).cell? ⟨w1.heap.size, 0, none⟩ = some v) := (World.cell?_of_block (Below.heap_alloc w3 _ _ (World.block_lt_of_cell? _ _ HS1.out))).trans HS1.out
    refine hK.out _ _ (fun _ => HS2.out) ?_
    clear hK K HS1
    try simp only [Act.put, List.getElem_toArray, List.getElem_cons_zero, List.getElem_cons_succ, List.setIfInBounds_toArray, List.set_cons_zero, List.set_cons_succ]
    refine wpAnyM_one (i := 4) rfl (by kernel_rfl) (fun K hK => ?_)
    refine step_append_lies _ (by rfl) _ _ 25 (by rfl) w.heap.size 23 i0 _ 1 24 Tryz.underlying25 hi hz0 hz1 hz2 rfl (by omega) v k (svs ls) (by rfl) (H3.out.2.2.2.2.alloc _) ⟨w3.heap.size, 0, none⟩ 1 1 [.slice A3 n3 c3] (by rfl) (by rfl) (World.news_of_block (cs := #[.slice A3 n3 c3]) (t := 23) (fr := (0, 0)) (heap_alloc_new w3 _)) (by simp [Value.oneCell']) (by omega) (by unfold maxLen; omega) (by omega) (by have := HH.out.2.2.2.2.2.2.2.2.2.2.2.size; have := H3.out.2.2.2.1.size; simp; omega) (w3.heap.size + 1) (by simp) ?_
    intro gg cap w5 hown1 hgrow hat hlt1
    obtain ⟨n1, n2, n3'⟩ := SpI.next HH.out.2.2.1 HH.out.2.2.2.1 HH.out.2.2.2.2.1 HH.out.2.2.2.2.2.1 HH.out.2.2.2.2.2.2.1 HH.out.2.2.2.2.2.2.2.1 HH.out.2.2.2.2.2.2.2.2.1 (by omega) (by omega) HH.out.2.2.2.2.2.2.2.2.2.1 HH.out.2.2.2.2.2.2.2.2.2.2.1 HH.out.2.2.2.2.2.2.2.2.2.2.2 H3.out.2.2.2.1 H3.out.1 H3.out.2.1 H3.out.2.2.1 hown1 hgrow (by rcases hat with h | h; exact .inl h; exact .inr (by rw [h]; rfl))
    have c5 := n1.cell
    have f5 := n1.frozen
    have HN := Lib.hid (And.intro n2 n3')
    have HS5 := Lib.hid c5
    clear n1 n2 n3' hown1 hgrow hat hlt1 HH H3 HS2
    refine hK.out _ _ (fun _ => HS5.out) ?_
    clear hK K
    try simp only [Act.put, List.getElem_toArray, List.getElem_cons_zero, List.getElem_cons_succ, List.setIfInBounds_toArray, List.set_cons_zero, List.set_cons_succ]
    refine wpAnyM_one (i := 5) rfl (by kernel_rfl) (fun K hK => ?_)
    go_simp
    refine hK.out _ _ (fun h => absurd h (by decide)) ?_
    clear hK K HS5
    refine wpAnyM_done (by kernel_rfl) ?_ _
    gi_wp2
    exact ⟨HN.out.2 _, HN.out.1⟩
  case done =>
    rintro D W hD ⟨v, ls, h1, h2, h3, h4, h5, h6, h7, h8, h9, h10, h11⟩ hcol
    rw [hN] at h2 h3
    have c1 := h1.cell
    obtain ⟨Ar, cr, rfl, _⟩ := own_form h2
    have hD2 : w.heap.size ≤ D := by simp at hD; omega
    have Hf := Lib.hid (And.intro h2 (And.intro h3 (And.intro h4 (And.intro h11 HX.out.2.1))))
    clear h1 h2 h3 h4 h5 h6 h7 h8 h9 h10 h11 hI0
    gi_wp2
    refine leaves_marked2 (F := Fence.wide) (n := 5) (fn := Tryz.f5) rfl hcol ?_
    refine ⟨q, hq, Hf.out.2.2.2.2.1, Hf.out.2.2.2.2.2, Ar, cr, ls, Hf.out.2.1.trans hN.symm, by rw [Hf.out.2.1]; rfl, ?_, ?_, below_putObj Hf.out.2.2.2.1 hD2 _⟩
    · rw [Hf.out.2.1]
      exact ownsRow_putObj Hf.out.1 _ hcol rfl
    · intro i s hi
      obtain ⟨zs, e1, e2, e3⟩ := Hf.out.2.2.1 i s hi
      exact ⟨zs, ⟨e1.1, e1.2.1, ownsRow_putObj e1.2.2 _ hcol rfl⟩, e2, e3⟩
  case stop =>
    rintro D c k W _ h _
    exact h.elim
end Go.Proofs.YthpgdpkemnhneaaGreatDoor
