/- What the walk of the law FastValues needs besides. -/
import Derived.Test.YtalcikmngglplabDoorZFVal
import Derived.Test.YtalcikmngglplabDoorZRFive
import Derived.Test.YtalcikmngglplabDoorZFAwM
import Derived.Test.YtalcikmngglplabDoorZLIg
namespace Go.Proofs.YtalcikmngglplabDoor
open Go.RowKit Go.Shelf
set_option linter.unusedVariables false
set_option linter.unusedSimpArgs false
set_option maxRecDepth 10000

/-- a list of integers of at most 8 words -/
def ZK8 (w W : World) (A : Option Addr) (k d : Nat) (al : List Sn) : Prop := Zl W A k d al ∧ al.length = k ∧ (∀ a ∈ al, a.n ≤ 8) ∧ (∀ a ∈ al, a.v.natAbs < B64 ^ 8) ∧ Below w.heap.size w W
theorem ZK8.below {w W W' : World} {A : Option Addr} {k d : Nat} {al : List Sn} (h : ZK8 w W A k d al) (hb : Below W.heap.size W W') : ZK8 w W' A k d al :=
  ⟨h.1.below hb, h.2.1, h.2.2.1, h.2.2.2.1, h.2.2.2.2.trans (hb.mono h.2.2.2.2.size)⟩
theorem igs8_ok (al : List Sn) (A : Option Addr) (m c many : Nat) (w : World) (hm : many ≤ 100) (hx : Zl w A m c al) :
    Calls Tryd.prog 5 #[.slice A m c, .int .i64 (many : Int), .int .i64 8] w fun e w' => ∃ A' k c' bl, e = .returned (.slice A' k c') ∧ k ≤ many ∧ ZK8 w w' A' k c' bl := by
  refine (integers_ok al A m c many 8 w hm (by omega) hx).mono ?_
  rintro e w' ⟨A', k, c', bl, rfl, hl, hk, -, hz, hp, hb⟩
  have key : ∀ b ∈ bl, Sl w' b.A b.n b.c b.xs ∧ b.n ≤ 8 := fun b hb' => by
    obtain ⟨i, hi⟩ := List.getElem?_of_mem hb'
    obtain ⟨a, -, -, f3, f4⟩ := hp i b hi
    have hs := hz.2.2.2.2 b hb'
    refine ⟨hs, ?_⟩
    rw [← hs.1, f3, List.length_take]
    omega
  exact ⟨A', k, c', bl, rfl, hk, hz, hl, fun b hb' => (key b hb').2, fun b hb' => by
    rw [Sn.v, sgn_abs]
    exact Nat.lt_of_lt_of_le (key b hb').1.lt (Nat.pow_le_pow_right B64_pos (key b hb').2), hb⟩
theorem ZK8.base {w0 w W : World} {A : Option Addr} {k d : Nat} {al : List Sn} (h : ZK8 w W A k d al) (hb : Below w0.heap.size w0 w) : ZK8 w0 W A k d al :=
  ⟨h.1, h.2.1, h.2.2.1, h.2.2.2.1, hb.trans (h.2.2.2.2.mono hb.size)⟩
theorem five_lt {x : List Int} (h : ∀ i, (x.getD i 0).natAbs < B64 ^ 8) (hl : x.length = 5) : ∀ s ∈ fiveS x, s.natAbs < Big := by
  obtain ⟨a, b, c, d, e, rfl⟩ := list5 hl
  have h0 : a.natAbs < B64 ^ 8 := h 0
  have h1 : b.natAbs < B64 ^ 8 := h 1
  have h2 : c.natAbs < B64 ^ 8 := h 2
  have h3 : d.natAbs < B64 ^ 8 := h 3
  have h4 : e.natAbs < B64 ^ 8 := h 4
  have h9 : B64 ^ 8 * 32 < B64 ^ 9 := by decide
  intro s hs
  refine Big_of (k := 9) ?_ (by omega)
  simp only [fiveS, List.mem_cons, List.not_mem_nil, or_false] at hs
  generalize B64 ^ 8 = p at *
  generalize B64 ^ 9 = q at *
  rcases hs with rfl | rfl | rfl | rfl | rfl <;> omega
theorem valZ_lt {al : List Sn} (h : ∀ a ∈ al, a.v.natAbs < B64 ^ 8) (i : Nat) : ((valZ al).getD i 0).natAbs < B64 ^ 8 := by
  have h0 : (0 : Int).natAbs < B64 ^ 8 := Nat.pow_pos B64_pos
  rw [List.getD_eq_getElem?_getD, valZ, List.getElem?_map]
  cases e : (List.range 5)[i]? with
  | none => exact h0
  | some j =>
    simp only [Option.map_some, Option.getD_some]
    cases e2 : al[j]? with
    | none => exact h0
    | some a => exact h a (List.mem_of_getElem? e2)
theorem five_big {al : List Sn} (h : ∀ a ∈ al, a.v.natAbs < B64 ^ 8) : ∀ s ∈ fiveS (valZ al), s.natAbs < Big := five_lt (valZ_lt h) (by simp [valZ])
/-- an array of five that came out of a call: its block -/
theorem fvk_new {w W : World} {a b c d e : Sn} {S : List Int} (h : ZsR w W a b c d e S) (hB : ∀ s ∈ S, s.natAbs < Big) : FvK (W.alloc (.cells (snL a b c d e).toArray 34)) W.heap.size [a, b, c, d, e] S :=
  FvK.of (h.later (Nat.le_refl _) ((Below.refl _ _).alloc (Nat.le_refl _) _)) (Bk.new W _ _) (by simp) hB
theorem Five8 (al : List Sn) (A : Option Addr) (k c : Nat) (w0 w : World) (hk : k ≤ 5) (hz : ZK8 w0 w A k c al) (hT : TabF w) :
    Calls Tryd.prog 9 #[.slice A k c] w fun z w' => ∃ a b c d e : Sn, z = .returned (.tuple #[snV a b c d e, .int .i64 0]) ∧ ZsR w w' a b c d e (fiveS (valZ al)) ∧ Below w.heap.size w w' :=
  FFive_ok al A k c w hk hz.1 (fun a ha => by have := hz.2.2.1 a ha; omega) hT (fun i s hi hs => five_big hz.2.2.2.1 s (List.mem_of_getElem? hs))
set_option maxHeartbeats 2000000 in
theorem FFive_arg (al : List Sn) (A : Option Addr) (m c : Nat) (w : World) (hm : m ≤ 100000) (h5 : 5 < m) (hx : Zl w A m c al) (hn : ∀ a ∈ al, a.n ≤ 4096) :
    Calls Tryd.prog 9 #[.slice A m c] w fun z w' => z = .returned (.tuple #[snV Sn.zero Sn.zero Sn.zero Sn.zero Sn.zero, .int .i64 1]) ∧ Below w.heap.size w w' := by
  have Hx := Lib.hid hx
  have HC := Lib.hid (chkZ_ok hn)
  have hmi : (5 : Int) < (m : Int) := by omega
  clear hx hn
  go_enter Tryd.func9, Tryd.ntmps9
  go_wp2_with (fail)
  have hb0 : Below w.heap.size w (w.alloc (.cells zero10.toArray 34)) := (Below.refl _ _).alloc (Nat.le_refl _) _
  refine (checkInts_ok al A m c _ hm (Hx.out.below hb0)).mono ?_
  rintro e w1 ⟨rfl, hb1⟩
  rw [HC.out]
  have hz1 : Bk w1 w.heap.size zero10 := (Bk.new w zero10 34).below hb1 (by simp)
  have H1 := Lib.hid (And.intro hz1.there (hb0.trans (hb1.mono hb0.size)))
  clear hb0 hb1 hz1
  go_wp2_with (first | (refine wpList_store_mid rfl 34 _ _ rfl w.heap.size 0 zero10.toArray rfl rfl H1.out.1 (by kernel_rfl) (by simp [zero10, Value.oneCell']) ?_))
  have hl := run_loadVar_mid (P := Tryd.prog) (w1.setCells w.heap.size 0 zero10) w.heap.size 0 34 zero10 _ (World.rangeAt_setCells_same _ _ _ _ H1.out.1) Tryd.underlying34 rfl (by kernel_rfl)
  exact bodyPost_ret (v := .tuple #[.agg zero10.toArray, .int .i64 1]) (by simp [results, Tryd.results9, Act.put, asAddr, hl]) rfl ⟨rfl, below_setCells H1.out.2 (Nat.le_refl _) _ _ H1.out.2.size⟩
theorem sn_zero (W : World) : Sl W Sn.zero.A Sn.zero.n Sn.zero.c Sn.zero.xs := (Sc.nil W).1
/-- a list of zeros that make has laid -/
theorem zl_zeros {W : World} {B g n : Nat} {vs : List Value} (h : W.ownsRow B 27 2 (.slice (some ⟨g, 0, none⟩) n n) n vs) (hn : n ≤ 1000) (hv : vs = (List.replicate n Sn.zero).flatMap sncs) : Zl W (some ⟨g, 0, none⟩) n n (List.replicate n Sn.zero) := by
  subst hv
  exact Zl.own h List.length_replicate fun t ht => by rw [List.eq_of_mem_replicate ht]; exact sn_zero W
/-- the array of zeros -/
theorem fvk_zero (W : World) : FvK (W.alloc (.cells zero10.toArray 34)) W.heap.size [Sn.zero, Sn.zero, Sn.zero, Sn.zero, Sn.zero] [0, 0, 0, 0, 0] :=
  fvk_new (w := W) (a := Sn.zero) (b := Sn.zero) (c := Sn.zero) (d := Sn.zero) (e := Sn.zero) ⟨rfl, fun i r s h1 h2 => by
    have e1 : r = Sn.zero := by have := List.mem_of_getElem? h1; simpa using this
    have e2 : s = 0 := by have := List.mem_of_getElem? h2; simpa using this
    subst e1 e2
    exact Sg.zero _ _⟩ (fun s hs => by have : s = 0 := by simpa using hs
                                       subst this; exact Nat.pow_pos B64_pos)
/-- a list of integers in memory that is newer than B -/
def FrZ (B : Nat) (W : World) (A : Option Addr) (k d : Nat) (al : List Sn) : Prop := W.ownsRow B 27 2 (.slice A k d) k (al.flatMap sncs) ∧ al.length = k ∧ ∀ a ∈ al, a.xs.length = a.n ∧ Ws a.xs ∧ W.ownsRow B 68 1 (.slice a.A a.n a.c) a.n (uvs a.xs)
theorem FrZ.below {B : Nat} {W W' : World} {A : Option Addr} {k d : Nat} {al : List Sn} (h : FrZ B W A k d al) (hb : Below W.heap.size W W') : FrZ B W' A k d al :=
  ⟨own_below h.1 hb (Nat.le_refl _), h.2.1, fun a ha => ⟨(h.2.2 a ha).1, (h.2.2 a ha).2.1, own_below (h.2.2 a ha).2.2 hb (Nat.le_refl _)⟩⟩
theorem FrZ.kept {B g : Nat} {W W' : World} {A : Option Addr} {k d : Nat} {al : List Sn} (h : FrZ B W A k d al) (hg : W.grownBy W' (some g)) (hlt : g < B) : FrZ B W' A k d al :=
  ⟨own_kept h.1 hg hlt, h.2.1, fun a ha => ⟨(h.2.2 a ha).1, (h.2.2 a ha).2.1, own_kept (h.2.2 a ha).2.2 hg hlt⟩⟩
theorem FrZ.zl {B : Nat} {W : World} {A : Option Addr} {k d : Nat} {al : List Sn} (h : FrZ B W A k d al) : Zl W A k d al :=
  Zl.own h.1 h.2.1 fun a ha => by
    have h1 := h.2.2 a ha
    obtain ⟨A', c', e, h2, h3, _, h4⟩ := own_form h1.2.2
    injection e with e1 e2 e3
    rw [e1, e3]
    exact ⟨h1.1, h2, by unfold maxLen at h3; exact h3, h1.2.1, h4⟩
theorem igs8_fr (al : List Sn) (A : Option Addr) (m c many : Nat) (w : World) (hm : many ≤ 100) (hx : Zl w A m c al) :
    Calls Tryd.prog 5 #[.slice A m c, .int .i64 (many : Int), .int .i64 8] w fun e w' => ∃ A' k c' bl, e = .returned (.slice A' k c') ∧ k ≤ many ∧ ZK8 w w' A' k c' bl ∧ FrZ w.heap.size w' A' k c' bl := by
  refine (integers_own al A m c many 8 w hm (by omega) hx).mono ?_
  rintro e w' ⟨A', k, c', bl, rfl, hl, hk, -, hz, hp, hb, ho⟩
  have key : ∀ b ∈ bl, Sl w' b.A b.n b.c b.xs ∧ b.n ≤ 8 := fun b hb' => by
    obtain ⟨i, hi⟩ := List.getElem?_of_mem hb'
    obtain ⟨a, -, -, f3, f4⟩ := hp i b hi
    have hs := hz.2.2.2.2 b hb'
    refine ⟨hs, ?_⟩
    rw [← hs.1, f3, List.length_take]
    omega
  exact ⟨A', k, c', bl, rfl, hk, ⟨hz, hl, fun b hb' => (key b hb').2, fun b hb' => by
    rw [Sn.v, sgn_abs]
    exact Nat.lt_of_lt_of_le (key b hb').1.lt (Nat.pow_le_pow_right B64_pos (key b hb').2), hb⟩, ho, hl, fun b hb' => by
    obtain ⟨i, hi⟩ := List.getElem?_of_mem hb'
    obtain ⟨a, -, -, f3, f4⟩ := hp i b hi
    exact f4⟩
/-- an array that is stored over -/
theorem fvk_store {w W : World} {g : Nat} {a b c d e : Sn} {S : List Int} (hk : Bk w g zero10) (hg : g < w.heap.size) (hb : Below w.heap.size w W) (hz : ZsR w W a b c d e S) (hB : ∀ s ∈ S, s.natAbs < Big) : FvK (W.setCells g 0 (snL a b c d e)) g [a, b, c, d, e] S :=
  FvK.of (w := w) ⟨hz.1, fun i r s h1 h2 => (hz.2 i r s h1 h2).setCells hg _ _⟩ ((hk.below hb hg).put_all rfl) (Nat.lt_of_lt_of_le hg (Nat.le_trans hb.size (grown_setCells g _ 0 W).size)) hB
end Go.Proofs.YtalcikmngglplabDoor
