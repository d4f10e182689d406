/- For the law FastBacks: the array of values, what it holds and what becomes of it. -/
import Derived.Test.YtcnambjckmpipaaGreatDoorZFCopy
import Derived.Test.YtcnambjckmpipaaGreatDoorZFBaM
import Derived.Test.YtcnambjckmpipaaGreatDoorZLIg
import Derived.Test.YtcnambjckmpipaaGreatDoorZRFive
import Derived.Test.YtcnambjckmpipaaGreatDoorZRIv
namespace Go.Proofs.YtcnambjckmpipaaGreatDoor
open Go.RowKit Go.Shelf
set_option linter.unusedVariables false
set_option linter.unusedSimpArgs false
set_option maxRecDepth 10000

/-- what integers hands back, of at most 8 words, which lie in new memory -/
def K8 (w W : World) (A : Option Addr) (k d : Nat) (al : List Sn) : Prop := Zl W A k d al ∧ al.length = k ∧ (∀ a ∈ al, a.n ≤ 8) ∧ (∀ a ∈ al, ∀ g, g < w.heap.size → ∀ (o : Nat) (vs : List Value), Sl (W.setCells g o vs) a.A a.n a.c a.xs) ∧ Below w.heap.size w W
theorem igs_new (al : List Sn) (A : Option Addr) (m c : Nat) (w : World) (hx : Zl w A m c al) :
    Calls Tryz.prog 5 #[.slice A m c, .int .i64 5, .int .i64 8] w fun e w' => ∃ A' k c' bl, e = .returned (.slice A' k c') ∧ k ≤ 5 ∧ K8 w w' A' k c' bl := by
  refine (integers_ok al A m c 5 8 w (by omega) (by omega) hx).mono ?_
  rintro e w' ⟨A', k, c', bl, rfl, hl, hk, -, hz, hp, hb⟩
  have key : ∀ b ∈ bl, Nw w w' (.slice b.A b.n b.c) b.n b.xs ∧ b.n ≤ 8 := fun b hb' => by
    obtain ⟨i, hi⟩ := List.getElem?_of_mem hb'
    obtain ⟨a, -, -, f3, f4⟩ := hp i b hi
    have hs := hz.2.2.2.2 b hb'
    refine ⟨f4, ?_⟩
    rw [← hs.1, f3, List.length_take]
    omega
  refine ⟨A', k, c', bl, rfl, hk, hz, hl, fun b hb' => (key b hb').2, fun b hb' g hg o vs => ?_, hb⟩
  have h1 := (key b hb').1
  have h2 : Nw w (w'.setCells g o vs) (.slice b.A b.n b.c) b.n b.xs := ⟨h1.1, h1.2.1, own_kept h1.2.2 (grown_setCells g vs o w') hg⟩
  obtain ⟨A2, c2, e2, h3⟩ := h2.sl
  injection e2 with e3 e4 e5
  subst e3 e5
  exact h3
/-- cells that are stored one behind the other -/
def setl : List Value → Nat → List Value → List Value
  | ls, _, [] => ls
  | ls, o, v :: vs => setl (ls.set o v) (o + 1) vs
theorem Bk.sets {b : Nat} : ∀ (vs : List Value) (o : Nat) (W : World) (ls : List Value), Bk W b ls → Bk (W.setCells b o vs) b (setl ls o vs)
  | [], _, _, _, h => h
  | v :: vs, o, W, ls, h => Bk.sets vs (o + 1) _ _ (h.set1 o v)
/-- the array of the law -/
def VB (w W : World) (b : Nat) (r0 r1 r2 r3 r4 : Sn) : Prop := Bk W b (snL r0 r1 r2 r3 r4) ∧ (∀ s ∈ [r0, r1, r2, r3, r4], Sl W s.A s.n s.c s.xs ∧ s.n ≤ 20) ∧ Below w.heap.size w W ∧ b < W.heap.size
theorem VB.keep {w W W' : World} {b : Nat} {r0 r1 r2 r3 r4 : Sn} (h : VB w W b r0 r1 r2 r3 r4) (hb : Below W.heap.size W W') : VB w W' b r0 r1 r2 r3 r4 :=
  ⟨h.1.below hb h.2.2.2, fun s hs => ⟨(h.2.1 s hs).1.below hb, (h.2.1 s hs).2⟩, h.2.2.1.trans (hb.mono h.2.2.1.size), Nat.lt_of_lt_of_le h.2.2.2 hb.size⟩
theorem VB.iv {w W : World} {b : Nat} {r0 r1 r2 r3 r4 : Sn} (h : VB w W b r0 r1 r2 r3 r4) : ∀ s ∈ [r0, r1, r2, r3, r4], Iv W s.s s.A s.n s.c s.v ∧ s.v.natAbs < B64 ^ 20 := fun s hs => by
  have h1 := h.2.1 s hs
  refine ⟨⟨s.xs, h1.1, rfl, by omega⟩, ?_⟩
  rw [Sn.v, sgn_abs]
  exact Nat.lt_of_lt_of_le h1.1.lt (Nat.pow_le_pow_right B64_pos h1.2)
theorem IB_room : 1000 * B64 ^ 20 ≤ IB := by
  have h1 : 1000 * B64 ^ 20 ≤ B64 ^ 1 * B64 ^ 20 := Nat.mul_le_mul_right _ (by rw [Nat.pow_one]; decide)
  rw [← Nat.pow_add] at h1
  exact Nat.le_trans h1 (Nat.pow_le_pow_right B64_pos (by omega))
/-- the cells of five that begin with a short list -/
theorem copied {al : List Sn} (h : al.length ≤ 5) : ∃ r0 r1 r2 r3 r4, setl zero10 0 (al.flatMap sncs) = snL r0 r1 r2 r3 r4 ∧ ∀ s ∈ [r0, r1, r2, r3, r4], s ∈ al ∨ s = Sn.zero := by
  match al, h with
  | [], _ => exact ⟨.zero, .zero, .zero, .zero, .zero, rfl, by simp⟩
  | [a], _ => exact ⟨a, .zero, .zero, .zero, .zero, rfl, by simp⟩
  | [a, b], _ => exact ⟨a, b, .zero, .zero, .zero, rfl, by simp⟩
  | [a, b, c], _ => exact ⟨a, b, c, .zero, .zero, rfl, by simp⟩
  | [a, b, c, d], _ => exact ⟨a, b, c, d, .zero, rfl, by simp⟩
  | [a, b, c, d, e], _ => exact ⟨a, b, c, d, e, rfl, by simp⟩
/-- the array behind the copy -/
theorem vb_copy {w X W : World} {b k c : Nat} {A : Option Addr} {al : List Sn} (h : K8 X W A k c al) (hk : k ≤ 5) (hb : Bk W b zero10) (hw : w.heap.size ≤ b) (hW : b < W.heap.size) (hbw : b < X.heap.size) (hwX : Below w.heap.size w X) :
    ∃ r0 r1 r2 r3 r4, VB w (W.setCells b 0 (al.flatMap sncs)) b r0 r1 r2 r3 r4 := by
  obtain ⟨r0, r1, r2, r3, r4, he, hm⟩ := copied (al := al) (by have := h.2.1; omega)
  have h1 := hb.sets (al.flatMap sncs) 0
  rw [he] at h1
  refine ⟨r0, r1, r2, r3, r4, h1, fun s hs => ?_, below_setCells (hwX.trans (h.2.2.2.2.mono hwX.size)) hw _ _ (Nat.le_trans hwX.size h.2.2.2.2.size), ?_⟩
  · rcases hm s hs with h2 | rfl
    · exact ⟨h.2.2.2.1 s h2 b hbw _ _, by have := h.2.2.1 s h2; omega⟩
    · exact ⟨⟨rfl, Nat.le_refl _, by simp [Sn.zero], Ws_nil, fun h => absurd rfl h⟩, by simp [Sn.zero]⟩
  · exact Nat.lt_of_lt_of_le hW (grown_setCells b (al.flatMap sncs) 0 W).size
/-- the coefficients are no greater than what is divided -/
theorem qt_lt {va vb vc vd ve : Int} {M : Nat} (ha : va.natAbs < M) (hb : vb.natAbs < M) (hc : vc.natAbs < M) (hd : vd.natAbs < M) (he : ve.natAbs < M) {Q : List Int} (hl : Q.length = 5) (hq : ∀ i, i < 5 → QtI [va, vb, vc, vd, ve] Q i) : ∀ s ∈ Q, s.natAbs ≤ 40 * M := fun s hs => by
  obtain ⟨i, hi, e⟩ := List.getElem_of_mem hs
  obtain ⟨u, h1, -, h2⟩ := hq i (by omega)
  rw [List.getElem?_eq_getElem hi, e] at h2
  injection h2 with h2
  rcases (show i = 0 ∨ i = 1 ∨ i = 2 ∨ i = 3 ∨ i = 4 by omega) with rfl | rfl | rfl | rfl | rfl <;> (simp [wtS] at h1; subst h1; rw [h2]; simp only [dv]; omega)
theorem K8.lt {w W : World} {A : Option Addr} {k d : Nat} {al : List Sn} (h : K8 w W A k d al) : ∀ a ∈ al, a.v.natAbs < B64 ^ 8 := fun a ha => by
  rw [Sn.v, sgn_abs]
  exact Nat.lt_of_lt_of_le (h.1.2.2.2.2 a ha).lt (Nat.pow_le_pow_right B64_pos (h.2.2.1 a ha))
theorem K8.five {w W : World} {A : Option Addr} {k d : Nat} {al : List Sn} (h : K8 w W A k d al) : ∀ s ∈ fiveS (valZ al), s.natAbs < B64 ^ 9 := by
  have h0 : (0 : Int).natAbs < B64 ^ 8 := Nat.pow_pos B64_pos
  have key : ∀ i, ((valZ al).getD i 0).natAbs < B64 ^ 8 := fun i => by
    rw [List.getD_eq_getElem?_getD, valZ, List.getElem?_map]
    cases e : (List.range 5)[i]? with
    | none => exact h0
    | some j =>
      simp only [Option.map_some, Option.getD_some]
      cases e2 : al[j]? with
      | none => exact h0
      | some a => exact h.lt a (List.mem_of_getElem? e2)
  obtain ⟨a, b, c, d, e, he⟩ := list5 (show (valZ al).length = 5 by simp [valZ])
  rw [he] at key ⊢
  have g0 : a.natAbs < B64 ^ 8 := key 0
  have g1 : b.natAbs < B64 ^ 8 := key 1
  have g2 : c.natAbs < B64 ^ 8 := key 2
  have g3 : d.natAbs < B64 ^ 8 := key 3
  have g4 : e.natAbs < B64 ^ 8 := key 4
  have h9 : B64 ^ 8 * 32 < B64 ^ 9 := by decide
  intro s hs
  simp only [fiveS, List.mem_cons, List.not_mem_nil, or_false] at hs
  generalize B64 ^ 8 = p at *
  generalize B64 ^ 9 = q at *
  rcases hs with rfl | rfl | rfl | rfl | rfl <;> omega
/-- the array behind the second round's store -/
theorem vb_five {w w0 W : World} {b : Nat} {r0 r1 r2 r3 r4 s0 s1 s2 s3 s4 : Sn} {S : List Int} (h : VB w W b r0 r1 r2 r3 r4) (hw : w.heap.size ≤ b) (hz : ZsR w0 W s0 s1 s2 s3 s4 S) (hS : ∀ s ∈ S, s.natAbs < B64 ^ 9) (hb : b < w0.heap.size) :
    VB w (W.setCells b 0 (snL s0 s1 s2 s3 s4)) b s0 s1 s2 s3 s4 := by
  have h1 := h.1.sets (snL s0 s1 s2 s3 s4) 0
  refine ⟨h1, fun s hs => ?_, below_setCells h.2.2.1 hw _ _ h.2.2.1.size, Nat.lt_of_lt_of_le h.2.2.2 (grown_setCells b (snL s0 s1 s2 s3 s4) 0 W).size⟩
  obtain ⟨i, hi⟩ := List.getElem?_of_mem hs
  have hi5 : i < 5 := (List.getElem?_eq_some_iff.1 hi).1
  have hg := List.getElem?_eq_getElem (l := S) (i := i) (by rw [hz.1]; exact hi5)
  have h2 := (hz.2 i s _ hi hg)
  have h3 := h2.setCells hb 0 (snL s0 s1 s2 s3 s4)
  obtain ⟨A2, c2, e2, h4⟩ := h3.1.sl
  injection e2 with e3 e4 e5
  subst e3 e5
  refine ⟨h4, ?_⟩
  have h5 := Cn_len h4.2.2.2.1 h3.2.1 9
  have h6 := hS _ (List.mem_of_getElem? hg)
  rw [h2.2.2.1, sgn_abs] at h6
  rw [h4.1] at h5
  omega
/-- what fast.Back answers, in one form -/
def FBx (w w' : World) (s0 s1 s2 s3 s4 : Sn) (ev : Int) (S : List Int) : Prop :=
  (ev = 0 ∧ ∃ Q : List Int, (∀ i, i < 5 → QtI S Q i) ∧ ZsR w w' s0 s1 s2 s3 s4 Q) ∨ (ev = 4 ∧ (∃ (i : Nat) (u : Int), (wtS S)[i]? = some u ∧ ¬ (dv i : Int) ∣ u) ∧ [s0, s1, s2, s3, s4] = [.zero, .zero, .zero, .zero, .zero])
theorem fbx {w w' : World} {z : Ending} {S : List Int} (h : BackZ w w' z S) : ∃ (s0 s1 s2 s3 s4 : Sn) (ev : Int), z = .returned (.tuple #[snV s0 s1 s2 s3 s4, .int .i64 ev]) ∧ FBx w w' s0 s1 s2 s3 s4 ev S ∧ Below w.heap.size w w' := by
  obtain ⟨⟨a, b, c, d, e, Q, rfl, h1, h2⟩ | ⟨h1, rfl⟩, hb⟩ := h
  · exact ⟨a, b, c, d, e, 0, rfl, .inl ⟨rfl, Q, h1, h2⟩, hb⟩
  · exact ⟨.zero, .zero, .zero, .zero, .zero, 4, rfl, .inr ⟨rfl, h1, rfl⟩, hb⟩
end Go.Proofs.YtcnambjckmpipaaGreatDoor
