/- The contracts of nat's times, (pair).greater and guess. -/
import Derived.Test.YtalcikmngglplaaZKn
import Derived.Test.YtalcikmngglplaaP2
import Derived.Test.YtalcikmngglplaaZNar
import Derived.Test.YtalcikmngglplaaP1
import Derived.Deep.RegionHeld3
namespace Go.Proofs.Ytalcikmngglplaa
open Go.RowKit Go.Shelf
set_option linter.unusedVariables false
set_option linter.unusedSimpArgs false
set_option maxRecDepth 10000

theorem ntimes_any (a b : Nat) (ha : a < B64) (hb : b < B64) : ∃ h l : Nat, (a * b = h * B64 + l ∧ l < B64) ∧
    ∀ w, Calls Try.prog 131 #[.int .u64 a, .int .u64 b] w fun e w' => e = .returned (.agg #[.int .u64 (h : Int), .int .u64 (l : Int)]) ∧ Below w.heap.size w w' := by
  obtain ⟨h, l, hf, hcall⟩ := Wide_ok a b ha hb
  refine ⟨h, l, hf, fun w => ?_⟩
  have Hc := Lib.hid hcall
  clear hf hcall ha hb
  go_enter Try.func131, Try.ntmps131
  go_wp2_with (fail)
  refine (Hc.out _).mono ?_
  rintro e w1 ⟨rfl, hb⟩
  obtain ⟨c1, c2, f1, f2, hlt⟩ := blk2 hb
  have HB := Lib.hid (Below.set2 (((Below.refl _ w).alloc (Nat.le_refl _) _).trans (hb.mono (by simp))) (Nat.le_refl _) (.int .u64 (h : Int)) (.int .u64 (l : Int)))
  clear hb
  have hA : (w1.setCell ⟨w.heap.size, 0, none⟩ (.int .u64 (h : Int))).cell? ⟨w.heap.size, 0, none⟩ = some (.int .u64 (h : Int)) := World.cell?_setCell_same _ _ _ c1
  have hB : ((w1.setCell ⟨w.heap.size, 0, none⟩ (.int .u64 (h : Int))).setCell ⟨w.heap.size, 1, none⟩ (.int .u64 (l : Int))).cell? ⟨w.heap.size, 1, none⟩ = some (.int .u64 (l : Int)) :=
    World.cell?_setCell_same _ _ _ ((World.cell?_setCell_other _ _ _ _ (fun e => by injection e with _ e; omega)).trans c2)
  go_wp2_with (fail)
  exact bodyPost_ret (v := .agg #[.int .u64 (h : Int), .int .u64 (l : Int)]) (by simp [results, Try.results131, go_sem, hA, hB]) rfl ⟨rfl, HB.out⟩
/-- which of two pairs is greater -/
theorem pair_gt {B h l r c : Nat} (hl : l < B) (hc : c < B) : r * B + c < h * B + l ↔ (r < h ∨ (h = r ∧ c < l)) := by
  constructor
  · intro h1
    rcases Nat.lt_trichotomy r h with h2 | h2 | h2
    · exact .inl h2
    · subst h2; exact .inr ⟨rfl, by omega⟩
    · have := Nat.mul_le_mul_right B (show h + 1 ≤ r from h2); rw [Nat.succ_mul] at this; omega
  · rintro (h1 | ⟨rfl, h1⟩)
    · have := Nat.mul_le_mul_right B (show r + 1 ≤ h from h1); rw [Nat.succ_mul] at this; omega
    · omega
set_option maxHeartbeats 1000000 in
theorem greater_any (h l r c : Nat) (hl : l < B64) (hc : c < B64) (w : World) :
    Calls Try.prog 132 #[.agg #[.int .u64 (h : Int), .int .u64 (l : Int)], .agg #[.int .u64 (r : Int), .int .u64 (c : Int)]] w fun e w' => e = .returned (.bool (decide (r * B64 + c < h * B64 + l))) ∧ Below w.heap.size w w' := by
  have hg := pair_gt (h := h) (r := r) hl hc
  have hcs : ((r : Int) < h ∧ r * B64 + c < h * B64 + l) ∨ (¬ (r : Int) < h ∧ ((h : Int) == r) = false ∧ ¬ r * B64 + c < h * B64 + l) ∨ (¬ (r : Int) < h ∧ ((h : Int) == r) = true ∧ (c : Int) < l ∧ r * B64 + c < h * B64 + l) ∨ (¬ (r : Int) < h ∧ ((h : Int) == r) = true ∧ ¬ (c : Int) < l ∧ ¬ r * B64 + c < h * B64 + l) := by
    rcases Nat.lt_trichotomy r h with h1 | h1 | h1
    · exact .inl ⟨by omega, hg.2 (.inl h1)⟩
    · rcases Nat.lt_or_ge c l with h2 | h2
      · exact .inr (.inr (.inl ⟨by omega, by simp; omega, by omega, hg.2 (.inr ⟨h1.symm, h2⟩)⟩))
      · exact .inr (.inr (.inr ⟨by omega, by simp; omega, by omega, fun h3 => by rcases hg.1 h3 with h4 | ⟨_, h4⟩ <;> omega⟩))
    · exact .inr (.inl ⟨by omega, by simp; omega, fun h3 => by rcases hg.1 h3 with h4 | ⟨_, h4⟩ <;> omega⟩)
  clear hg
  obtain ⟨D, hD⟩ : ∃ D, decide (r * B64 + c < h * B64 + l) = D := ⟨_, rfl⟩
  have hcs2 : ((r : Int) < h ∧ D = true) ∨ (¬ (r : Int) < h ∧ ((h : Int) == r) = false ∧ D = false) ∨ (¬ (r : Int) < h ∧ ((h : Int) == r) = true ∧ (c : Int) < l ∧ D = true) ∨ (¬ (r : Int) < h ∧ ((h : Int) == r) = true ∧ ¬ (c : Int) < l ∧ D = false) := by
    rw [← hD]
    simpa using hcs
  rw [hD]
  clear hcs hD hl hc
  rcases hcs2 with ⟨h1, rfl⟩ | ⟨h1, h2, rfl⟩ | ⟨h1, h2, h3, rfl⟩ | ⟨h1, h2, h3, rfl⟩
  all_goals
    go_enter Try.func132, Try.ntmps132
    go_wp2_with (fail)
    go_ret
    exact ⟨rfl, ((Below.refl _ _).alloc (Nat.le_refl _) _).alloc (by simp) _⟩
set_option maxHeartbeats 4000000 in
theorem guess_ok (Au Av : Option Addr) (n N1 cu cv : Nat) (us vs : List Nat) (w : World) (hN1 : N1 = n + 1) (hn2 : 2 ≤ n) (hn : n ≤ 4096) (hu : Sl w Au N1 cu us) (hv : Sl w Av n cv vs) (htop : ∀ f, vs[n - 1]? = some f → B64 ≤ 2 * f) (hlt : V us < V vs * B64) :
    Calls Try.prog 122 #[.slice Au N1 cu, .slice Av n cv] w fun e w' => ∃ g : Nat, e = .returned (.int .u64 (g : Int)) ∧ GuessR (V us) (V vs) g ∧ Below w.heap.size w w' := by
  obtain ⟨m0, m1, hm0, hm1⟩ : ∃ m0 m1, n = m0 + 2 ∧ n = m1 + 1 := ⟨n - 2, n - 1, by omega, by omega⟩
  have hul : us.length = n + 1 := by rw [← hN1]; exact hu.1
  have hvl : vs.length = n := hv.1
  have ga := List.getElem?_eq_getElem (show n < us.length by omega)
  have gb := List.getElem?_eq_getElem (show m1 < us.length by omega)
  have gc := List.getElem?_eq_getElem (show m0 < us.length by omega)
  have gf := List.getElem?_eq_getElem (show m1 < vs.length by omega)
  have gs := List.getElem?_eq_getElem (show m0 < vs.length by omega)
  generalize us[n] = a at *
  generalize us[m1] = b at *
  generalize us[m0] = c at *
  generalize vs[m1] = f at *
  generalize vs[m0] = s at *
  have wu := hu.2.2.2.1
  have wv := hv.2.2.2.1
  have ha := wu a (List.mem_of_getElem? ga)
  have hb := wu b (List.mem_of_getElem? gb)
  have hc := wu c (List.mem_of_getElem? gc)
  have hf := wv f (List.mem_of_getElem? gf)
  have hs := wv s (List.mem_of_getElem? gs)
  have hf2 := htop f (by rw [show n - 1 = m1 by omega]; exact gf)
  obtain ⟨ub, uo, rfl, hub, ca⟩ := hu.2.2.2.2.at (uvs_get ga)
  have cb : w.cell? ⟨ub, uo + m1, none⟩ = some (.int .u64 (b : Int)) := by
    obtain ⟨ub', uo', e1, _, cb⟩ := hu.2.2.2.2.at (uvs_get gb)
    injection e1 with e1; injection e1 with e1 e2; rw [e1, e2]; exact cb
  have cc : w.cell? ⟨ub, uo + m0, none⟩ = some (.int .u64 (c : Int)) := by
    obtain ⟨ub', uo', e1, _, cb⟩ := hu.2.2.2.2.at (uvs_get gc)
    injection e1 with e1; injection e1 with e1 e2; rw [e1, e2]; exact cb
  obtain ⟨vb, vo, rfl, hvb, cf⟩ := hv.2.2.2.2.at (uvs_get gf)
  have cs : w.cell? ⟨vb, vo + m0, none⟩ = some (.int .u64 (s : Int)) := by
    obtain ⟨ub', uo', e1, _, cb⟩ := hv.2.2.2.2.at (uvs_get gs)
    injection e1 with e1; injection e1 with e1 e2; rw [e1, e2]; exact cb
  have hn1 : (n : Int) - 1 = (m1 : Int) := by omega
  have hn2' : (n : Int) - 2 = (m0 : Int) := by omega
  have hw1 : IntKind.i64.wrap (m1 : Int) = (m1 : Int) := IntWalk.i64_in _ (by omega)
  have hw0 : IntKind.i64.wrap (m0 : Int) = (m0 : Int) := IntWalk.i64_in _ (by omega)
  have hi1 : (m1 : Int) < (n : Int) := by omega
  have hi0 : (m0 : Int) < (n : Int) := by omega
  have hj : (n : Int) < (N1 : Int) := by omega
  have hj1 : (m1 : Int) < (N1 : Int) := by omega
  have hj0 : (m0 : Int) < (N1 : Int) := by omega
  have hG1 := Lib.hid (fun h => guess_a (m := m0) (s := s) (a := a) (b := b) (c := c) (f := f) (us := us) (vs := vs) (by omega) (by omega) wu wv (by rw [← hm0]; exact ga) (by rw [show m0 + 1 = m1 by omega]; exact gb) gc (by rw [show m0 + 1 = m1 by omega]; exact gf) gs hf2 hlt h)
  have hG2 := Lib.hid (fun g r h1 h2 h3 => guess_b (m := m0) (s := s) (a := a) (b := b) (c := c) (f := f) (g := g) (r := r) (us := us) (vs := vs) (by omega) (by omega) wu wv (by rw [← hm0]; exact ga) (by rw [show m0 + 1 = m1 by omega]; exact gb) gc (by rw [show m0 + 1 = m1 by omega]; exact gf) gs hf2 h1 h2 h3)
  clear hN1 hu hv htop hlt hul hvl ga gb gc gf gs wu wv hm0 hm1
  rcases Nat.lt_or_ge a f with haf | haf
  · obtain ⟨g, r, hg, hcall⟩ := Narrow_ok a b f haf hb hf
    obtain ⟨p1, p2, p3⟩ := hG2.out g r hg.1 hg.2.1 hg.2.2
    obtain ⟨h', l', ht, htimes⟩ := ntimes_any g s hg.2.2 hs
    have hgr := greater_any h' l' r c ht.2 hc
    rw [← ht.1] at hgr
    obtain ⟨D, hD⟩ : ∃ D, decide (r * B64 + c < g * s) = D := ⟨_, rfl⟩
    rw [hD] at hgr
    have HC := Lib.hid hcall
    have HT := Lib.hid htimes
    have HR := Lib.hid hgr
    have HP := Lib.hid (And.intro p1 (And.intro p2 (And.intro p3 (And.intro hD hg.2.2))))
    clear hcall htimes hgr p1 p2 p3 hg ht hf2 ha hb hc hf hs haf hG1 hG2 hD
    have hgs : D = true → IntKind.u64.wrap ((g : Int) - 1) = ((g - 1 : Nat) : Int) := fun hd => by
      have h1 := HP.out.2.2.1 (by have := HP.out.2.2.2.1; rw [hd] at this; simpa using this)
      have h2 := HP.out.2.2.2.2
      rw [IntKind.wrap_u64]
      have : B64 = 18446744073709551616 := rfl
      omega
    have HD := Lib.hid hgs
    clear hgs
    go_enter Try.func122, Try.ntmps122
    go_wp2_with (fail)
    go_quiet (fail)
    generalize hwq : w.drewN _ = wq
    have hb0 : Below w.heap.size w wq := by rw [← hwq]; exact below_drewN (Below.refl _ _) _
    have ca0 : wq.cell? ⟨ub, uo + n, none⟩ = some (.int .u64 (a : Int)) := by rw [← hwq]; exact ca
    have cb0 : wq.cell? ⟨ub, uo + m1, none⟩ = some (.int .u64 (b : Int)) := by rw [← hwq]; exact cb
    have cc0 : wq.cell? ⟨ub, uo + m0, none⟩ = some (.int .u64 (c : Int)) := by rw [← hwq]; exact cc
    have hubq : ub < wq.heap.size := Nat.lt_of_lt_of_le hub hb0.size
    clear hwq ca cb cc cf cs
    go_wp2_with (fail)
    go_quiet ((go_at_call 130; exact Calls.quiet_of (HC.out _)))
    go_wp2_with (fail)
    generalize hwr : wq.drewN _ = wr
    have hb1 : Below w.heap.size w wr := by rw [← hwr]; exact below_drewN hb0 _
    have cc1 : wr.cell? ⟨ub, uo + m0, none⟩ = some (.int .u64 (c : Int)) := by rw [← hwr]; exact cc0
    have hubr : ub < wr.heap.size := Nat.lt_of_lt_of_le hub hb1.size
    clear hwr ca0 cb0 cc0 hb0 hubq
    go_region_held3 (fun w' => w'.cell? ⟨ub, uo + m0, none⟩ = some (.int .u64 (c : Int)))
      (first | exact cc1 | exact d1 | exact d2 | go_keep)
      (first
        | (go_at_call 131; refine (HT.out _).mono ?_; rintro e w2 ⟨rfl, hb2⟩; have hB1 : Below wr.heap.size wr w2 := belowA hb2; have d1 := (hB1.cell (p := ⟨ub, uo + m0, none⟩) hubr).trans cc1)
        | (go_at_call 132; refine (HR.out _).mono ?_; rintro e w3 ⟨rfl, hb3⟩; have hB2 : Below wr.heap.size wr w3 := hB1.trans (hb3.mono hB1.size); have d2 := (hB2.cell (p := ⟨ub, uo + m0, none⟩) hubr).trans cc1))
    all_goals
      have hbE : Below w.heap.size w w3 := hb1.trans (hB2.mono hb1.size)
      have HE := Lib.hid hbE
      clear hB1 hB2 hb1 d1 d2 cc1 hbE
      cases D
      · go_wp2_with (fail)
        go_ret
        refine ⟨g, rfl, ⟨HP.out.2.2.2.2, HP.out.2.1 ?_, HP.out.1⟩, ?_⟩
        · have h := HP.out.2.2.2.1
          simp at h
          omega
        · first | exact HE.out | exact HE.out.drew | exact below_drewN HE.out _
      · have hgt := HD.out rfl
        go_wp2_with (fail)
        go_ret
        obtain ⟨h1, h2, h3⟩ := HP.out.2.2.1 (by have h := HP.out.2.2.2.1; simpa using h)
        refine ⟨g - 1, rfl, ⟨by have := HP.out.2.2.2.2; omega, h3, by rw [Nat.sub_add_cancel h1]; exact h2⟩, ?_⟩
        first | exact HE.out | exact HE.out.drew | exact below_drewN HE.out _
  · have HG := Lib.hid (hG1.out haf)
    have hcall := Narrow_arg a b f (by have : B64 = 18446744073709551616 := rfl; omega) haf
    have HC := Lib.hid hcall
    clear hcall hG1 hG2 hf2 ha hb hc hf hs haf
    go_enter Try.func122, Try.ntmps122
    go_wp2_with (fail)
    go_quiet (fail)
    generalize hwq : w.drewN _ = wq
    have hb0 : Below w.heap.size w wq := by rw [← hwq]; exact below_drewN (Below.refl _ _) _
    have ca0 : wq.cell? ⟨ub, uo + n, none⟩ = some (.int .u64 (a : Int)) := by rw [← hwq]; exact ca
    have cb0 : wq.cell? ⟨ub, uo + m1, none⟩ = some (.int .u64 (b : Int)) := by rw [← hwq]; exact cb
    have cc0 : wq.cell? ⟨ub, uo + m0, none⟩ = some (.int .u64 (c : Int)) := by rw [← hwq]; exact cc
    have hubq : ub < wq.heap.size := Nat.lt_of_lt_of_le hub hb0.size
    clear hwq ca cb cc cf cs
    go_wp2_with (fail)
    go_quiet ((go_at_call 130; exact Calls.quiet_of_same ((HC.out _).mono fun e w' h => ⟨h.1, h.2.symm⟩)))
    go_wp2_with (fail)
    go_ret
    exact ⟨B64 - 1, rfl, ⟨by decide, HG.out⟩, below_drewN hb0 _⟩
theorem guessC : GuessC := fun Au Av n N1 cu cv us vs w h1 h2 h3 h4 h5 h6 h7 => guess_ok Au Av n N1 cu cv us vs w h1 h2 h3 h4 h5 h6 h7
end Go.Proofs.Ytalcikmngglplaa
