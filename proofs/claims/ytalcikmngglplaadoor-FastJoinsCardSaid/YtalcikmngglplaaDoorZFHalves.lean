/- The contracts of fast.difference and fast.fromHalves. -/
import Derived.Test.YtalcikmngglplaaDoorP8
import Derived.Test.YtalcikmngglplaaDoorP1
import Derived.Test.YtalcikmngglplaaDoorZFSum
namespace Go.Proofs.YtalcikmngglplaaDoor
open Go.RowKit Go.Shelf
set_option linter.unusedVariables false
set_option linter.unusedSimpArgs false
set_option maxRecDepth 10000

theorem Bk.drew {W : World} {r : Nat} {vs : List Value} (h : Bk W r vs) : Bk W.drew r vs := h
/-- the terms of a slice that has just been built -/
theorem Tl.new {w : World} {ts : List Tm} {m : Nat} {cs : Array Value} {t : TypeId} (hm : ts.length = m) (hm2 : m ≤ 9223372036854775807) (hc : cs = (tvs ts).toArray) (h : ∀ t ∈ ts, Sl w t.A t.n t.c t.xs) : Tl (w.alloc (.cells cs t)) (some ⟨w.heap.size, 0, none⟩) m m ts := by
  refine ⟨hm, Nat.le_refl _, hm2, fun _ => ⟨w.heap.size, 0, rfl, by simp, fun j u hj => ?_⟩, fun t ht => (h t ht).alloc_ _⟩
  subst hc
  exact (Bk.new w (tvs ts) t j u hj |> fun h => by rw [Nat.zero_add]; exact h.1)
abbrev tplus (A : Option Addr) (n c : Nat) (xs : List Nat) (p : Nat) : Tm := ⟨false, A, n, c, xs, 1, p⟩
abbrev tminus (s : Bool) (A : Option Addr) (n c : Nat) (xs : List Nat) (p : Nat) : Tm := ⟨s, A, n, c, xs, -1, p⟩
theorem tval_plus {A : Option Addr} {n c : Nat} {xs : List Nat} {p : Nat} : tval (tplus A n c xs p) = ((V xs * B64 ^ p : Nat) : Int) := by simp [tval, sgn]
theorem tval_minus {s : Bool} {A : Option Addr} {n c : Nat} {xs : List Nat} {p : Nat} : tval (tminus s A n c xs p) = -(sgn s (V xs) * ((B64 ^ p : Nat) : Int)) := by
  simp only [tval]
  rw [Int.mul_neg, Int.mul_one, Int.neg_mul]

theorem Sg.base {w w0 X : World} {s : Bool} {A : Option Addr} {n c : Nat} {zs : List Nat} {S : Int} (h : Sg w0 X s A n c zs S) (h0 : w.heap.size ≤ w0.heap.size) : Sg w X s A n c zs S := by
  obtain ⟨⟨h1, h2, h3⟩, h4⟩ := h
  exact ⟨⟨h1, h2, own_base h3 h0⟩, h4⟩
theorem Sg.later {w w0 X Y : World} {s : Bool} {A : Option Addr} {n c : Nat} {zs : List Nat} {S : Int} (h : Sg w0 X s A n c zs S) (h0 : w.heap.size ≤ w0.heap.size) (hb : Below X.heap.size X Y) : Sg w Y s A n c zs S := by
  obtain ⟨h1, h4⟩ := h
  exact ⟨h1.later h0 hb, h4⟩
theorem Sg.sl {w X : World} {s : Bool} {A : Option Addr} {n c : Nat} {zs : List Nat} {S : Int} (h : Sg w X s A n c zs S) : Sc X A n c zs := by
  obtain ⟨A', c', e, hs⟩ := h.1.sl
  injection e with e1 e2 e3
  subst e1 e3
  exact ⟨hs, h.2.1⟩
theorem Sg.put2 {w w0 X : World} {s : Bool} {A : Option Addr} {n c b : Nat} {zs : List Nat} {S S' : Int} {u v : Value} (h : Sg w0 X s A n c zs S) (h0 : w.heap.size ≤ w0.heap.size) (hb : b < w0.heap.size) (he : S = S') : Sg w ((X.setCell ⟨b, 0, none⟩ u).setCell ⟨b, 1, none⟩ v) s A n c zs S' := by
  subst he
  obtain ⟨⟨h1, h2, h3⟩, h4⟩ := h
  have ho : w0.heap.size ≤ w0.heap.size := Nat.le_refl _
  refine ⟨⟨h1, h2, own_base (own_kept (own_kept h3 (grown_set X b 0 u) hb) (grown_set _ b 1 v) hb) h0⟩, h4⟩
theorem diff_done {w w2 X : World} {o : Obj} {s : Bool} {A : Option Addr} {n c : Nat} {zs : List Nat} {S S' : Int} {u v : Value} (h : Sg (w2.alloc o) X s A n c zs S) (hb : Below w.heap.size w X) (h0 : w.heap.size ≤ w2.heap.size) (he : S = S') :
    SumR w ((X.setCell ⟨w.heap.size, 0, none⟩ u).setCell ⟨w.heap.size, 1, none⟩ v) (.returned (sgV s A n c)) S' :=
  ⟨s, A, n, c, zs, rfl, h.put2 (by simp; omega) (by simp; omega) he, (hb.setCell (p := ⟨w.heap.size, 0, none⟩) (Nat.le_refl _) _).setCell (p := ⟨w.heap.size, 1, none⟩) (Nat.le_refl _) _⟩
set_option maxHeartbeats 1000000 in
theorem fdiff_ok (A A' : Option Addr) (n n' c c' : Nat) (xs ys : List Nat) (w : World) (hn : n ≤ 50000) (hn' : n' ≤ 50000) (hx : Sl w A n c xs) (hy : Sl w A' n' c' ys) :
    Calls Tryd.prog 123 #[.slice A n c, .slice A' n' c'] w fun e w' => SumR w w' e ((V xs : Int) - V ys) := by
  have Hx := Lib.hid (And.intro hx hy)
  clear hx hy
  go_enter Tryd.func123, Tryd.ntmps123
  go_wp2_with (fail)
  refine (placed_ok A n c 0 _).mono ?_
  rintro e w1 ⟨rfl, hb1⟩
  have hk1 := (Bk.new w [.bool false, .slice none 0 0] 67).below hb1 (by simp)
  have hb1' : Below w.heap.size w w1 := ((Below.refl _ w).alloc (Nat.le_refl _) _).trans (hb1.mono (by simp))
  have H1 := Lib.hid (And.intro hk1 (And.intro hb1' (show w.heap.size < w1.heap.size by have := hb1.size; simp at this; omega)))
  clear hb1 hk1 hb1'
  go_wp2_with (fail)
  refine (natural_ok A' n' c' _).mono ?_
  rintro e w2 ⟨rfl, hb2⟩
  have H2 := Lib.hid (And.intro (H1.out.1.below hb2 H1.out.2.2) (And.intro (H1.out.2.1.trans (hb2.mono H1.out.2.1.size)) (show w.heap.size < w2.heap.size by have := hb2.size; have := H1.out.2.2; omega)))
  clear hb2 H1
  go_wp2_with (fail)
  refine (fsum_ok [tplus A n c xs 0, tminus false A' n' c' ys 0] _ 2 2 50000 _ (by omega) (Tl.new rfl (by omega) rfl (by
    intro t ht
    rcases List.mem_cons.1 ht with rfl | ht
    · exact Hx.out.1.below H2.out.2.1
    · rw [List.mem_singleton] at ht; subst ht; exact Hx.out.2.below H2.out.2.1)) (by
    intro t ht
    rcases List.mem_cons.1 ht with rfl | ht
    · simp only; omega
    · rw [List.mem_singleton] at ht; subst ht; simp only; omega) (by omega) (by simp only [wsum, List.map_cons, List.map_nil]; decide)).mono ?_
  rintro e w3 ⟨s, A3, n3, c3, zs, rfl, hS, hb3⟩
  have hb3' : Below w2.heap.size w2 w3 := ((Below.refl _ w2).alloc (Nat.le_refl _) _).trans (hb3.mono (by simp))
  have hk := H2.out.1.below hb3' H2.out.2.2
  obtain ⟨p0, f0⟩ := hk 0 _ rfl
  obtain ⟨p1, f1⟩ := hk 1 _ rfl
  have H3 := Lib.hid (And.intro hS (And.intro (H2.out.2.1.trans (hb3'.mono H2.out.2.1.size)) (show w.heap.size ≤ w2.heap.size by have := H2.out.2.2; omega)))
  clear hS hb3 hb3' hk H2
  go_wp2_with (fail)
  exact bodyPost_ret (v := sgV s A3 n3 c3) (by simp [results, Tryd.results123, go_sem, World.cell?_setCell_same', p0, p1]) rfl (diff_done H3.out.1 H3.out.2.1 H3.out.2.2 (by simp [tsum, tval_plus, tval_minus, sgn]; omega))

/-- the box of the difference, and what the calls leave alone -/
def HBx (w W : World) (s : Bool) (A : Option Addr) (n c : Nat) : Prop := Bk W w.heap.size [.bool s, .slice A n c] ∧ Below w.heap.size w W ∧ w.heap.size < W.heap.size
theorem HBx.keep {w W W' : World} {s : Bool} {A : Option Addr} {n c : Nat} (h : HBx w W s A n c) (hb : Below W.heap.size W W') : HBx w W' s A n c :=
  ⟨h.1.below hb h.2.2, h.2.1.trans (hb.mono h.2.1.size), Nat.lt_of_lt_of_le h.2.2 hb.size⟩
/-- what fromHalves answers: the words of a signed number -/
def SumW (w w' : World) (e : Ending) (S : Int) : Prop := ∃ s A n c zs, e = .returned (.slice A n c) ∧ Sg w w' s A n c zs S ∧ Below w.heap.size w w'
def hterms (A A' A2 : Option Addr) (n n' n2 c c' c2 : Nat) (ls hs gs : List Nat) (s : Bool) (h : Nat) : List Tm :=
  [tplus A n c ls 0, tplus A n c ls h, tplus A' n' c' hs h, tminus s A2 n2 c2 gs h, tplus A' n' c' hs (2 * h)]
theorem hterms_sum {A A' A2 : Option Addr} {n n' n2 c c' c2 : Nat} {ls hs gs : List Nat} {s : Bool} {h : Nat} :
    tsum (hterms A A' A2 n n' n2 c c' c2 ls hs gs s h) = (V ls : Int) + ((V ls + V hs : Nat) : Int) * ((B64 ^ h : Nat) : Int) - sgn s (V gs) * ((B64 ^ h : Nat) : Int) + (V hs : Int) * ((B64 ^ (2 * h) : Nat) : Int) := by
  simp only [tsum, hterms, List.map_cons, List.map_nil, List.sum_cons, List.sum_nil, tval_plus, tval_minus, Nat.pow_zero, Nat.mul_one, Int.natCast_mul, Int.natCast_add]
  generalize ((B64 ^ h : Nat) : Int) = p
  generalize ((B64 ^ (2 * h) : Nat) : Int) = q
  grind
theorem hterms_all {w : World} {A A' A2 : Option Addr} {n n' n2 c c' c2 : Nat} {ls hs gs : List Nat} {s : Bool} {h : Nat} (hx : Sl w A n c ls) (hy : Sl w A' n' c' hs) (hz : Sl w A2 n2 c2 gs) :
    ∀ t ∈ hterms A A' A2 n n' n2 c c' c2 ls hs gs s h, Sl w t.A t.n t.c t.xs := by
  intro t ht
  simp only [hterms, List.mem_cons, List.not_mem_nil, or_false] at ht
  rcases ht with rfl | rfl | rfl | rfl | rfl
  · exact hx
  · exact hx
  · exact hy
  · exact hz
  · exact hy
theorem hterms_len {A A' A2 : Option Addr} {n n' n2 c c' c2 : Nat} {ls hs gs : List Nat} {s : Bool} {h : Nat} (hn : n ≤ 10000) (hn' : n' ≤ 10000) (hn2 : n2 ≤ 10000) (hh : h ≤ 10000) :
    ∀ t ∈ hterms A A' A2 n n' n2 c c' c2 ls hs gs s h, t.pl + t.n ≤ 50000 := by
  intro t ht
  simp only [hterms, List.mem_cons, List.not_mem_nil, or_false] at ht
  rcases ht with rfl | rfl | rfl | rfl | rfl <;> (simp only; omega)
set_option maxHeartbeats 2000000 in
theorem fromHalves_ok (A A' A2 : Option Addr) (n n' n2 c c' c2 : Nat) (ls hs gs : List Nat) (s : Bool) (h : Nat) (w : World) (hn : n ≤ 10000) (hn' : n' ≤ 10000) (hn2 : n2 ≤ 10000) (hh : h ≤ 10000) (hx : Sl w A n c ls) (hy : Sl w A' n' c' hs) (hz : Sl w A2 n2 c2 gs) :
    Calls Tryd.prog 125 #[.slice A n c, .slice A' n' c', sgV s A2 n2 c2, .int .i64 h] w fun e w' => SumW w w' e (tsum (hterms A A' A2 n n' n2 c c' c2 ls hs gs s h)) := by
  have Hx := Lib.hid (And.intro hx (And.intro hy hz))
  obtain ⟨H2, hH2⟩ : ∃ H2, H2 = 2 * h := ⟨_, rfl⟩
  have e1 : (2 : Int) * (h : Int) = (H2 : Int) := by omega
  have e2 : IntKind.i64.wrap ((2 : Int) * (h : Int)) = (H2 : Int) := by rw [e1]; exact IntWalk.i64_in _ (by omega)
  have e3 : IntKind.i64.wrap (H2 : Int) = (H2 : Int) := IntWalk.i64_in _ (by omega)
  have HH := Lib.hid hH2
  have hH5 : H2 ≤ 20000 := by omega
  clear hx hy hz hH2
  have hfd := field_words
  go_enter Tryd.func125, Tryd.ntmps125
  go_wp2_with (fail)
  have HB : Hid (HBx w (w.alloc (.cells #[.bool s, .slice A2 n2 c2] 67)).drew s A2 n2 c2) := ⟨Bk.new w [.bool s, .slice A2 n2 c2] 67, ⟨rfl, rfl, rfl, by simp [World.drew], fun i hi => Below.heap_alloc w _ i hi⟩, by simp [World.drew]⟩
  have E0 := (HB.out.1 0 _ rfl).1
  have E1 := (HB.out.1 1 _ rfl).1
  go_region_held3 (fun w' => w'.cell? ⟨w.heap.size, 0, none⟩ = some (.bool s) ∧ w'.cell? ⟨w.heap.size, 1, none⟩ = some (.slice A2 n2 c2)) (first | exact ⟨E0, E1⟩ | exact ⟨(HB.out.1 0 _ rfl).1, (HB.out.1 1 _ rfl).1⟩ | go_keep)
    (first
      | (go_at_call 42; refine (placed_ok _ _ _ _ _).mono ?_; rintro e w1 ⟨rfl, hb1⟩; replace HB := Lib.hid (HB.out.keep hb1); clear hb1)
      | (go_at_call 44; refine (fsum_ok (hterms A A' A2 n n' n2 c c' c2 ls hs gs s h) _ 5 5 50000 _ (by omega) (Tl.new rfl (by omega) (by rw [HH.out]; rfl) (hterms_all (Hx.out.1.below HB.out.2.1) (Hx.out.2.1.below HB.out.2.1) (Hx.out.2.2.below HB.out.2.1))) (hterms_len (by omega) (by omega) (by omega) (by omega)) (by omega) (by simp only [wsum, hterms, List.map_cons, List.map_nil]; decide)).mono ?_; rintro e w3 ⟨s3, A3, n3, c3, zs, rfl, hS, hb3⟩; have HS := Lib.hid (And.intro hS (show w.heap.size ≤ _ from HB.out.2.1.size)); replace HB := Lib.hid ((HB.out.keep ((Below.refl _ _).alloc (Nat.le_refl _) _)).keep hb3); clear hS hb3))
  go_wp2_with (fail)
  go_ret
  refine ⟨s3, A3, n3, c3, zs, rfl, ?_, HB.out.2.1⟩
  exact HS.out.1.base (by simp; have := HS.out.2; omega)
theorem SumW.nat {w w' : World} {e : Ending} {x : Nat} {S : Int} (h : SumW w w' e S) (hS : S = x) : Rv w w' e x := by
  obtain ⟨s, A, n, c, zs, rfl, ⟨h1, h2, h3, h4⟩, h5⟩ := h
  refine ⟨_, rfl, ⟨n, zs, h1, h2, ?_⟩, h5⟩
  cases s with
  | false => simp [sgn] at h3; omega
  | true =>
    have := h4 rfl
    simp [sgn] at h3
    omega
/-- three products make one -/
theorem halves_sum {A A' A2 : Option Addr} {n n' n2 c c' c2 : Nat} {ls hs gs : List Nat} {s : Bool} {h x0 x1 y0 y1 : Nat} (hl : V ls = x0 * y0) (hh : V hs = x1 * y1) (hg : sgn s (V gs) = ((x1 : Int) - x0) * ((y1 : Int) - y0)) :
    tsum (hterms A A' A2 n n' n2 c c' c2 ls hs gs s h) = (((x0 + x1 * B64 ^ h) * (y0 + y1 * B64 ^ h) : Nat) : Int) := by
  rw [hterms_sum, hg, hl, hh, show 2 * h = h + h by omega, Nat.pow_add]
  simp only [Int.natCast_mul, Int.natCast_add]
  generalize ((B64 ^ h : Nat) : Int) = p
  grind
end Go.Proofs.YtalcikmngglplaaDoor
