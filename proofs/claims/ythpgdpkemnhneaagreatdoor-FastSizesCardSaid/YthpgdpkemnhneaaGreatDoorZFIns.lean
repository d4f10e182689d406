/- The contract of fast.fromInts. -/
import Derived.Test.YthpgdpkemnhneaaGreatDoorP9
import Derived.Test.YthpgdpkemnhneaaGreatDoorZFThird
namespace Go.Proofs.YthpgdpkemnhneaaGreatDoor
open Go.RowKit Go.Shelf
set_option linter.unusedVariables false
set_option linter.unusedSimpArgs false
set_option maxRecDepth 10000

/-- an integer without what is not used, and the five of which k are there -/
noncomputable def fz (a : Sn) : Sn := ⟨a.s, a.A, ul a.xs, a.c, a.xs.take (ul a.xs)⟩
noncomputable def fzs (al : List Sn) (k : Nat) : List Sn := (List.range 5).map fun i => if i < k then (match al[i]? with | some a => fz a | none => Sn.zero) else Sn.zero
theorem fzs_succ (al : List Sn) (k : Nat) (a : Sn) (hk : k < 5) (ha : al[k]? = some a) : fzs al (k + 1) = (fzs al k).set k (fz a) := by
  rcases (show k = 0 ∨ k = 1 ∨ k = 2 ∨ k = 3 ∨ k = 4 by omega) with rfl | rfl | rfl | rfl | rfl <;> simp [fzs, List.range_succ_eq_map, ha]
theorem fz_sc {w : World} {a : Sn} (h : Sl w a.A a.n a.c a.xs) : Sc w (fz a).A (fz a).n (fz a).c (fz a).xs ∧ (fz a).n ≤ a.n ∧ (fz a).v = a.v := by
  obtain ⟨h1, h2, h3⟩ := ul_spec h
  exact ⟨⟨h.tk h1, h3⟩, h1, by simp only [Sn.v, fz]; rw [h2]⟩
/-- the values of at most five integers -/
def valZ (al : List Sn) : List Int := (List.range 5).map fun i => match al[i]? with | some a => a.v | none => 0
theorem fzs_ok {w : World} {al : List Sn} {m : Nat} (hl : al.length = m) (h : ∀ a ∈ al, Sl w a.A a.n a.c a.xs ∧ a.n ≤ 4096) : (∀ s ∈ fzs al m, Sc w s.A s.n s.c s.xs ∧ s.n ≤ 4096) ∧ (fzs al m).map Sn.v = valZ al := by
  have key : ∀ i, (Sc w (if i < m then (match al[i]? with | some a => fz a | none => Sn.zero) else Sn.zero).A (if i < m then (match al[i]? with | some a => fz a | none => Sn.zero) else Sn.zero).n (if i < m then (match al[i]? with | some a => fz a | none => Sn.zero) else Sn.zero).c (if i < m then (match al[i]? with | some a => fz a | none => Sn.zero) else Sn.zero).xs ∧ (if i < m then (match al[i]? with | some a => fz a | none => Sn.zero) else Sn.zero).n ≤ 4096) ∧ (if i < m then (match al[i]? with | some a => fz a | none => Sn.zero) else Sn.zero).v = (match al[i]? with | some a => a.v | none => 0) := fun i => by
    have hz : Sn.zero.v = 0 := by simp [Sn.v, Sn.zero, sgn, V]
    by_cases hi : i < m
    · rw [if_pos hi, List.getElem?_eq_getElem (by omega)]
      have hm := List.getElem_mem (l := al) (n := i) (by omega)
      have := fz_sc (h _ hm).1
      exact ⟨⟨this.1, Nat.le_trans this.2.1 (h _ hm).2⟩, this.2.2⟩
    · rw [if_neg hi, List.getElem?_eq_none (by omega)]
      exact ⟨⟨Sc.nil _, by simp [Sn.zero]⟩, hz⟩
  refine ⟨fun s hs => ?_, ?_⟩
  · rw [fzs, List.mem_map] at hs
    obtain ⟨i, -, rfl⟩ := hs
    exact (key i).1
  · rw [fzs, valZ, List.map_map]
    exact List.map_congr_left fun i _ => (key i).2
/-- between two rounds -/
def FiI (w : World) (al : List Sn) (k : Nat) (W : World) : Prop :=
  Bk W (w.heap.size + 1) ((fzs al k).flatMap sncs) ∧ Bk W w.heap.size zero10 ∧ Below w.heap.size w W ∧ w.heap.size + 2 ≤ W.heap.size
theorem fzs_len (al : List Sn) (k : Nat) : (fzs al k).length = 5 := by simp [fzs]
theorem FiI.next {w W W' : World} {al : List Sn} {k : Nat} {a : Sn} (h : FiI w al k W) (hk : k < 5) (ha : al[k]? = some a) (hb : Below W.heap.size W W') :
    FiI w al (k + 1) ((W'.setCell ⟨w.heap.size + 1, 2 * k, none⟩ (.bool a.s)).setCell ⟨w.heap.size + 1, 2 * k + 1, none⟩ (.slice a.A (ul a.xs) a.c)) := by
  obtain ⟨h1, h2, h3, h4⟩ := h
  refine ⟨?_, ((h2.below hb (by omega)).far (by omega) _ _).far (by omega) _ _, ((h3.trans (hb.mono (by omega))).setCell (p := ⟨w.heap.size + 1, 2 * k, none⟩) (by show w.heap.size ≤ w.heap.size + 1; omega) _).setCell (p := ⟨w.heap.size + 1, 2 * k + 1, none⟩) (by show w.heap.size ≤ w.heap.size + 1; omega) _, by have := hb.size; simp [World.setCell]; omega⟩
  rw [fzs_succ al k a hk ha, flat_set _ k _ (by rw [fzs_len]; exact hk)]
  exact ((h1.below hb (by omega)).set1 _ _).set1 _ _
/-- what fromInts answers -/
def InsR (w w' : World) (z : Ending) (al : List Sn) : Prop :=
  ∃ a b c d e : Sn, z = .returned (snV a b c d e) ∧ (∀ s ∈ [a, b, c, d, e], Sc w s.A s.n s.c s.xs ∧ s.n ≤ 4096) ∧ [a.v, b.v, c.v, d.v, e.v] = valZ al ∧ Below w.heap.size w w'

set_option maxHeartbeats 4000000 in
theorem fromInts_ok (al : List Sn) (A : Option Addr) (m c : Nat) (w : World) (hm : m ≤ 5) (hx : Zl w A m c al) (hn : ∀ a ∈ al, a.n ≤ 4096) :
    Calls Tryz.prog 34 #[.slice A m c] w fun e w' => InsR w w' e al := by
  have Hx := Lib.hid (And.intro hx hn)
  clear hx hn
  have hI0 : Hid (FiI w al 0 ((w.alloc (.cells zero10.toArray 72)).alloc (.cells zero10.toArray 72))) := by
    have k0 := (Bk.new w zero10 72).below ((Below.refl _ _).alloc (Nat.le_refl _) (.cells zero10.toArray 72)) (by simp)
    have k1 := Bk.new (w.alloc (.cells zero10.toArray 72)) zero10 72
    rw [World.size_alloc] at k1
    exact ⟨k1, k0, ((Below.refl _ _).alloc (Nat.le_refl _) _).alloc (by simp) _, by simp⟩
  go_enter Tryz.func34, Tryz.ntmps34
  go_wp2
  go_loopw [4, 5, 8] (fun _ _ kv wr => ∃ k : Nat, k ≤ m ∧ kv = .int .i64 k ∧ Hid (FiI w al k wr)) (fun _ _ kv _ => m - (intOf kv).toNat)
  case atStart => exact ⟨0, Nat.zero_le _, rfl, hI0⟩
  case round =>
    clear hI0
    obtain ⟨k, hk, rfl, H⟩ := hrel
    by_cases hlt : k < m
    · have hkl : k < al.length := by rw [Hx.out.1.1]; exact hlt
      have hg := List.getElem?_eq_getElem hkl
      obtain ⟨b, o, rfl, _, c0, c1⟩ := (Hx.out.1.below H.out.2.2.1).at hg
      have hmem := List.getElem_mem hkl
      have hsl := Hx.out.1.2.2.2.2 _ hmem
      have hn4 := Hx.out.2 _ hmem
      have hNx := fun W' hb => H.out.next (W' := W') (by omega) hg hb
      have h2k := sncs_get2' (fzs al k) k (by rw [fzs_len]; omega)
      have hA := fun W' (hb : Below wr.heap.size wr W') => H.out.1.below hb (by have := H.out.2.2.2; omega)
      generalize al[k] = a at *
      obtain ⟨ag, aA, an, ac, axs⟩ := a
      simp only at c0 c1 hsl hn4 hNx
      have hki : (k : Int) < m := by omega
      have hbA : Below wr.heap.size wr (wr.alloc (.cells #[.bool ag, .slice aA an ac] 32)) := (Below.refl _ _).alloc (Nat.le_refl _) _
      obtain ⟨x0, x1, hx0, hx1⟩ := h2k
      have HA := Lib.hid (And.intro hsl (And.intro hNx (And.intro hbA (And.intro hA (And.intro hx0 (And.intro hx1 (H.out.2.2.1)))))))
      have hk5 : (k : Int) < 5 := by omega
      clear hkl hg hmem hsl hNx hbA hA hx0 hx1 H
      go_wp2_with (fail)
      refine (fromInt_ok ag aA an ac axs _ hn4 ((HA.out.1.below HA.out.2.2.2.2.2.2).below HA.out.2.2.1)).mono ?_
      rintro e w3 ⟨k3, rfl, hk3, hU, hb3⟩
      obtain rfl : ul axs = k3 := ul_eq HA.out.1.2.2.2.1 (by rw [HA.out.1.1]; exact hk3) hU.out.1 hU.out.2
      have hbb := HA.out.2.2.1.trans (hb3.mono HA.out.2.2.1.size)
      have hN := HA.out.2.1 w3 hbb
      have hB3 := HA.out.2.2.2.1 w3 hbb
      obtain ⟨p0, f0⟩ := hB3 _ _ HA.out.2.2.2.2.1
      obtain ⟨p1, f1⟩ := hB3 _ _ HA.out.2.2.2.2.2.1
      rw [Nat.mul_comm 2 k] at hN p0 f0 p1 f1
      have HN := Lib.hid hN
      clear hbb hN hB3 hb3 hU HA
      go_wp2_with (fail)
      go_roundw
      case rel => exact ⟨k + 1, by omega, by go_num, HN⟩
      case measure => simp [intOf]; omega
    · have hki : ¬ (k : Int) < m := by omega
      obtain rfl : k = m := by omega
      obtain ⟨r0, r1, r2, r3, r4, hr⟩ := list5 (fzs_len al k)
      have hok := fzs_ok Hx.out.1.1 (fun a ha => ⟨Hx.out.1.2.2.2.2 a ha, Hx.out.2 a ha⟩)
      rw [hr] at hok
      have h1 := H.out.1
      rw [hr] at h1
      have HR := Lib.hid (And.intro h1.range (And.intro H.out.2.1.there (And.intro hok H.out)))
      clear h1 hok H
      go_wp2_with (first | (refine wpList_load_mid rfl 72 _ rfl (w.heap.size + 1) 0 rfl (snL r0 r1 r2 r3 r4) _ HR.out.1 Tryz.underlying72 rfl (by kernel_rfl) ?_) | (refine wpList_store_mid rfl 72 _ _ rfl w.heap.size 0 (snL r0 r1 r2 r3 r4).toArray rfl rfl HR.out.2.1 (by kernel_rfl) (by simp [Value.oneCell']) ?_))
      have hl := run_loadVar_mid (P := Tryz.prog) (wr.setCells w.heap.size 0 (snL r0 r1 r2 r3 r4)) w.heap.size 0 72 (snL r0 r1 r2 r3 r4) _ (World.rangeAt_setCells_same _ _ _ _ HR.out.2.1) Tryz.underlying72 rfl (by kernel_rfl)
      exact bodyPost_ret (v := snV r0 r1 r2 r3 r4) (by simp [results, Tryz.results34, Act.put, asAddr, hl]) rfl ⟨r0, r1, r2, r3, r4, rfl, HR.out.2.2.1.1, HR.out.2.2.1.2, below_setCells HR.out.2.2.2.2.2.1 (Nat.le_refl _) _ _ HR.out.2.2.2.2.2.1.size⟩
end Go.Proofs.YthpgdpkemnhneaaGreatDoor
