/- What awake of the law of layer 3 keeps, and its calls at their inputs. -/
import Derived.Test.YthpgdpkemnhneaaGreatDoorZLInts
import Derived.Test.YthpgdpkemnhneaaGreatDoorZFFB
import Derived.Test.YthpgdpkemnhneaaGreatDoorP10
import Derived.Test.YthpgdpkemnhneaaGreatDoorZFKT
namespace Go.Proofs.YthpgdpkemnhneaaGreatDoor
open Go.RowKit Go.Shelf
set_option linter.unusedVariables false
set_option linter.unusedSimpArgs false
set_option maxRecDepth 10000

/-- a list of canonical numbers -/
def NsK (W : World) (A : Option Addr) (ls : List (Option Addr × Nat × Nat)) (f : Nat → Nat) : Prop :=
  Rd W W.heap.size A (svs ls) ∧ ∀ (i : Nat) (s : Option Addr × Nat × Nat), ls[i]? = some s → ∃ zs, Sl W s.1 s.2.1 s.2.2 zs ∧ Cn zs ∧ V zs = f i
theorem NsK.below {W W' : World} {A : Option Addr} {ls : List (Option Addr × Nat × Nat)} {f : Nat → Nat} (h : NsK W A ls f) (hb : Below W.heap.size W W') : NsK W' A ls f :=
  ⟨(h.1.below hb).more hb.size, fun i s hi => by obtain ⟨zs, h1, h2⟩ := h.2 i s hi; exact ⟨zs, h1.below hb, h2⟩⟩
/-- an array of five canonical integers, as a slice -/
def FvK (W : World) (b : Nat) (l : List Sn) (S : List Int) : Prop :=
  Zl W (some ⟨b, 0, none⟩) 5 5 l ∧ (∀ a ∈ l, Sl W a.A a.n a.c a.xs ∧ Cn a.xs ∧ a.n ≤ 4096 ∧ a.s = decide (a.v < 0)) ∧ l.map Sn.v = S
theorem FvK.below {W W' : World} {b : Nat} {l : List Sn} {S : List Int} (h : FvK W b l S) (hb : Below W.heap.size W W') : FvK W' b l S :=
  ⟨h.1.below hb, fun a ha => ⟨(h.2.1 a ha).1.below hb, (h.2.1 a ha).2⟩, h.2.2⟩
theorem Sg.can {w W : World} {s : Bool} {A : Option Addr} {n c : Nat} {zs : List Nat} {S : Int} (h : Sg w W s A n c zs S) : s = decide (S < 0) := by
  obtain ⟨-, -, h1, h2⟩ := h
  cases s with
  | false =>
    rw [h1]; simp [sgn]
  | true =>
    have := h2 rfl
    rw [h1]
    simp [sgn]
    omega
theorem FvK.of {w W : World} {a b c d e : Sn} {S : List Int} {g : Nat} (h : ZsR w W a b c d e S) (hk : Bk W g (snL a b c d e)) (hg : g < W.heap.size) (hB : ∀ s ∈ S, s.natAbs < Big) : FvK W g [a, b, c, d, e] S := by
  have key : ∀ (i : Nat) (r : Sn), [a, b, c, d, e][i]? = some r → ∃ s, S[i]? = some s ∧ Sg w W r.s r.A r.n r.c r.xs s := fun i r hr => by
    have hi : i < 5 := (List.getElem?_eq_some_iff.1 hr).1
    have hs := List.getElem?_eq_getElem (l := S) (i := i) (by rw [h.1]; exact hi)
    exact ⟨_, hs, h.2 i r _ hr hs⟩
  refine ⟨zl_new hk hg fun s hs => ?_, fun r hr => ?_, ?_⟩
  · obtain ⟨i, hi⟩ := List.getElem?_of_mem hs
    obtain ⟨v, h1, h2⟩ := key i s hi
    exact h2.sl.1
  · obtain ⟨i, hi⟩ := List.getElem?_of_mem hr
    obtain ⟨v, h1, h2⟩ := key i r hi
    have hv : r.v = v := h2.2.2.1.symm
    exact ⟨h2.sl.1, h2.2.1, (show r.n ≤ Most from sn_len h2.sl (by rw [hv]; exact hB v (List.mem_of_getElem? h1))), by rw [hv]; exact h2.can⟩
  · refine List.ext_getElem? fun i => ?_
    rw [List.getElem?_map]
    rcases Nat.lt_or_ge i 5 with hi | hi
    · have hr := List.getElem?_eq_getElem (l := [a, b, c, d, e]) (i := i) hi
      obtain ⟨v, h1, h2⟩ := key i _ hr
      rw [hr, h1]
      exact congrArg some h2.2.2.1.symm
    · rw [List.getElem?_eq_none (by simpa using hi), List.getElem?_eq_none (by rw [h.1]; exact hi)]
      rfl
theorem valZ_of {al : List Sn} {zs : List Int} (h : al.map Sn.v = zs) : valZ al = (List.range 5).map fun i => zs.getD i 0 := by
  refine List.map_congr_left fun i _ => ?_
  rw [← h, List.getD_eq_getElem?_getD, List.getElem?_map]
  cases al[i]? <;> rfl
theorem small_big {x : Int} (h : x.natAbs < 1000000000) : x.natAbs < Big := Big_of (k := 1) (by rw [Nat.pow_one]; have : B64 = 18446744073709551616 := rfl; omega) (by omega)

theorem row_words (w : World) (xs : List Nat) (t : TypeId) (hw : Ws xs) (hl : xs.length ≤ 1000) : Sl (w.alloc (.cells (uvs xs).toArray t)) (some ⟨w.heap.size, 0, none⟩) xs.length xs.length xs :=
  ⟨rfl, Nat.le_refl _, by omega, hw, fun _ => ⟨w.heap.size, 0, rfl, by simp, fun j u hj => by
    rw [Nat.zero_add]
    exact (Bk.new w (uvs xs) t j u hj).1⟩⟩
set_option maxHeartbeats 1000000 in
theorem Split_aw (w : World) : Calls Tryz.prog 5 #[.slice (some ⟨w.heap.size, 0, none⟩) 3 3, .int .i64 1] (w.alloc (.cells #[.int .u64 5, .int .u64 0, .int .u64 1] 44)) fun e w' => ∃ A c ls, ls.length = 3 ∧ e = .returned (.tuple #[.slice A 3 c, .int .i64 0]) ∧ NsK w' A ls (fun i => [5, 0, 1].getD i 0) ∧ Below w.heap.size w w' := by
  have hx := row_words w [5, 0, 1] 44 (by intro x hx; simp at hx; rcases hx with rfl | rfl | rfl <;> decide) (by simp)
  have hb : Below w.heap.size w (w.alloc (.cells #[.int .u64 5, .int .u64 0, .int .u64 1] 44)) := (Below.refl _ _).alloc (Nat.le_refl _) _
  refine (Split_ok _ 3 3 1 [5, 0, 1] _ (by omega) (by omega) (by omega) hx).mono ?_
  rintro e w' ⟨q, hq, hv, hc, A, c, ls, hl, rfl, ho, hn, hb2⟩
  have hcx : Cn [5, 0, 1] := fun m hm => by
    have : m = 2 := by simpa using hm.symm
    subst this
    simp
  have he : List.take q [5, 0, 1] = [5, 0, 1] := Cn_inj (Ws_take hx.2.2.2.1 q) hx.2.2.2.1 hc hcx hv
  have hq3 : q = 3 := by
    have := congrArg List.length he
    simp at this
    omega
  subst hq3
  have hl3 : ls.length = 3 := hl
  refine ⟨A, c, ls, hl3, by rw [hl3], ⟨Rd.of_own ho, fun i s hi => ?_⟩, hb.trans (hb2.mono hb.size)⟩
  obtain ⟨zs, h1, h2, h3⟩ := hn i s hi
  refine ⟨zs, (h1.sc h2).1, h2, h3.trans ?_⟩
  have hi3 : i < 3 := by rw [← hl3]; exact (List.getElem?_eq_some_iff.1 hi).1
  rcases (show i = 0 ∨ i = 1 ∨ i = 2 by omega) with rfl | rfl | rfl <;> simp [pw, V]
end Go.Proofs.YthpgdpkemnhneaaGreatDoor
