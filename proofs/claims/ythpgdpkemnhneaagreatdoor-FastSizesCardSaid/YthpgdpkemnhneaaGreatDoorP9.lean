/- Pieces of the proofs, together: FSum, FHalves, FWt, FFive, Zm, FDivd, FInt. -/
import Derived.Deep.RegionHeld3
import Derived.Deep.MidRow
import Derived.Test.YthpgdpkemnhneaaGreatDoorP8
import Derived.Test.YthpgdpkemnhneaaGreatDoorP1
import Derived.Test.YthpgdpkemnhneaaGreatDoorP3

namespace Go.Proofs.YthpgdpkemnhneaaGreatDoor
open Go.RowKit Go.Shelf
set_option linter.unusedVariables false
set_option linter.unusedSimpArgs false
set_option maxRecDepth 10000

/-- the world with the result's place -/
def W117 (w : World) : World := w.alloc (.cells #[.bool false, .slice none 0 0] 59)
theorem W117_size (w : World) : (W117 w).heap.size = w.heap.size + 1 := by simp [W117]
theorem W117_below (w : World) : Below w.heap.size w (W117 w) := (Below.refl _ _).alloc (Nat.le_refl _) _

theorem wsum_mem {ts : List Tm} {t : Tm} (h : t ∈ ts) : t.wt.natAbs ≤ wsum ts := by
  induction ts with
  | nil => cases h
  | cons a al ih =>
    rw [show wsum (a :: al) = a.wt.natAbs + wsum al by simp [wsum]]
    rcases List.mem_cons.1 h with h1 | h1
    · rw [h1]; omega
    · have := ih h1; omega
theorem FA.und {w w' : World} {g N : Nat} {zs : List Nat} (h : FA (World.drew w) w' g N zs) : FA w w' g N zs := ⟨h.1, h.2.1, h.2.2.1, ⟨h.2.2.2.os, h.2.2.2.tape, h.2.2.2.output, h.2.2.2.size, h.2.2.2.block⟩⟩
theorem AddR.und {w w' : World} {g N z : Nat} (h : AddR (World.drew w) w' g N z) : AddR w w' g N z := by obtain ⟨zs, q, h1, h2⟩ := h; exact ⟨zs, q, h1.und, h2⟩
theorem SubR.und {w w' : World} {g N y z : Nat} (h : SubR (World.drew w) w' g N y z) : SubR w w' g N y z := by obtain ⟨zs, q, h1, h2⟩ := h; exact ⟨zs, q, h1.und, h2⟩
theorem sl_off {w : World} {A : Option Addr} {n c g : Nat} {xs : List Nat} (h : Sl w A n c xs) (hg : w.heap.size ≤ g) : n ≠ 0 → ∀ p, A = some p → some p.block ≠ some g := by
  intro hn p hp e
  obtain ⟨b, o, e2, hb, _⟩ := h.2.2.2.2 (by intro h0; have := congrArg List.length h0; rw [uvs_length, h.1] at this; exact hn this)
  rw [hp] at e2
  injection e2 with e2
  subst e2
  injection e with e
  simp only at e
  omega
theorem row_off {w : World} {g : Nat} {us : List Nat} {i : Nat} (h : RowAt w g us) : some (⟨w.heap.size, i, none⟩ : Addr).block ≠ some g := by
  have := h.lt
  intro e
  injection e with e
  simp only at e
  omega
theorem res_facts {w wr : World} {o : Obj} (h : Below (W117 w).heap.size (W117 w) wr) :
    (wr.alloc o).cell? ⟨w.heap.size, 0, none⟩ = some (.bool false) ∧ (wr.alloc o).cell? ⟨w.heap.size, 1, none⟩ = some (.slice none 0 0) ∧ (wr.alloc o).frozen? ⟨w.heap.size, 0, none⟩ = false ∧ (wr.alloc o).frozen? ⟨w.heap.size, 1, none⟩ = false := by
  have hb : (wr.alloc o).heap[w.heap.size]? = (W117 w).heap[w.heap.size]? := (Below.heap_alloc wr o _ (by have := h.size; rw [W117_size] at this; omega)).trans (h.block _ (by rw [W117_size]; omega))
  refine ⟨(World.cell?_of_block (a := ⟨w.heap.size, 0, none⟩) hb).trans ?_, (World.cell?_of_block (a := ⟨w.heap.size, 1, none⟩) hb).trans ?_, (World.frozen?_of_block (a := ⟨w.heap.size, 0, none⟩) hb).trans ?_, (World.frozen?_of_block (a := ⟨w.heap.size, 1, none⟩) hb).trans ?_⟩ <;> simp [W117]
theorem RowAt.sl {W : World} {g N : Nat} {us : List Nat} (h : RowAt W g us) (hw : Ws us) (hl : us.length = N) (hN : N ≤ 100000) : Sl W (some ⟨g, 0, none⟩) N N us :=
  ⟨hl, Nat.le_refl _, by omega, hw, fun _ => ⟨g, 0, rfl, h.lt, fun j u hu => by
    obtain ⟨x, hx, rfl⟩ : ∃ x, us[j]? = some x ∧ u = .int .u64 (x : Int) := by
      simp only [uvs, List.getElem?_map, Option.map_eq_some_iff] at hu
      obtain ⟨x, h1, h2⟩ := hu
      exact ⟨x, h1, h2.symm⟩
    rw [Nat.zero_add]
    exact h.cell hx⟩⟩
theorem keep2 {W : World} {b g i j k : Nat} {u v x : Value} (h : W.cell? ⟨g, i, none⟩ = some x) (hb : b < g) : ((W.setCell ⟨b, j, none⟩ u).setCell ⟨b, k, none⟩ v).drew.cell? ⟨g, i, none⟩ = some x := by
  show ((W.setCell ⟨b, j, none⟩ u).setCell ⟨b, k, none⟩ v).cell? ⟨g, i, none⟩ = some x
  rw [World.cell?_setCell_other _ _ _ _ (by intro e; injection e with e; omega), World.cell?_setCell_other _ _ _ _ (by intro e; injection e with e; omega)]
  exact h
theorem res_c {wr : World} {b : Nat} {u x : Value} {o : Obj} (hb : b < wr.heap.size) (h : (wr.alloc o).cell? ⟨b, 1, none⟩ = some x) : ((wr.setCell ⟨b, 0, none⟩ u).alloc o).cell? ⟨b, 1, none⟩ = some x := by
  rw [World.cell?_alloc_lt _ _ _ (by rw [World.setCell]; simpa using hb), World.cell?_setCell_other _ _ _ _ (by simp)]
  rwa [World.cell?_alloc_lt _ _ _ hb] at h
theorem res_f {wr : World} {b : Nat} {u : Value} {o : Obj} (hb : b < wr.heap.size) (h : (wr.alloc o).frozen? ⟨b, 1, none⟩ = false) : ((wr.setCell ⟨b, 0, none⟩ u).alloc o).frozen? ⟨b, 1, none⟩ = false := by
  rw [World.frozen?_of_block (a := ⟨b, 1, none⟩) (Below.heap_alloc _ o b (by rw [World.setCell]; simpa using hb)), World.frozen?_setCell]
  rwa [World.frozen?_of_block (a := ⟨b, 1, none⟩) (Below.heap_alloc _ o b hb)] at h
/-- what lies ahead of the sum's end -/
def FinX (w X : World) (g N sb : Nat) (b : Bool) (vs : List Nat) (S : Int) : Prop :=
  (RowAt X g vs ∧ Ws vs ∧ vs.length = N ∧ S = sgn b (V vs) ∧ (b = true → V vs ≠ 0) ∧ w.heap.size < g ∧ Below w.heap.size w X) ∧
  X.cell? ⟨w.heap.size, 0, none⟩ = some (.bool false) ∧ X.cell? ⟨w.heap.size, 1, none⟩ = some (.slice none 0 0) ∧ X.frozen? ⟨w.heap.size, 0, none⟩ = false ∧ X.frozen? ⟨w.heap.size, 1, none⟩ = false ∧ X.cell? ⟨sb, 0, none⟩ = some (.bool b)
theorem FinX.pos {w w2 wr : World} {o : Obj} {g N : Nat} {us : List Nat} {S : Int} (hS : SumI w2 wr g N us S) (hb : Below (W117 w).heap.size (W117 w) wr) (hv : S = V us)
    (hp : (wr.alloc o).cell? ⟨w.heap.size, 0, none⟩ = some (.bool false) ∧ (wr.alloc o).cell? ⟨w.heap.size, 1, none⟩ = some (.slice none 0 0) ∧ (wr.alloc o).frozen? ⟨w.heap.size, 0, none⟩ = false ∧ (wr.alloc o).frozen? ⟨w.heap.size, 1, none⟩ = false)
    (hq : (wr.alloc o).cell? ⟨wr.heap.size, 0, none⟩ = some (.bool false)) (hg : w.heap.size < g) : FinX w (wr.alloc o) g N wr.heap.size false us S :=
  ⟨⟨hS.1.1.alloc _, hS.1.2.1, hS.1.2.2.1, hv, fun h => absurd h (by decide), hg, ((W117_below w).trans (hb.mono (by rw [W117_size]; omega))).alloc (by have := hb.size; rw [W117_size] at this; omega) _⟩, hp.1, hp.2.1, hp.2.2.1, hp.2.2.2, hq⟩
theorem FinX.neg {w w2 wr X : World} {o : Obj} {g N sb : Nat} {us : List Nat} {S : Int} (hN : NegR (wr.alloc o) X g N (V us)) (hS : SumI w2 wr g N us S) (hb : Below (W117 w).heap.size (W117 w) wr) (hv : S = (V us : Int) - ((B64 ^ N : Nat) : Int) ∧ 0 < V us)
    (hp : (wr.alloc o).cell? ⟨w.heap.size, 0, none⟩ = some (.bool false) ∧ (wr.alloc o).cell? ⟨w.heap.size, 1, none⟩ = some (.slice none 0 0) ∧ (wr.alloc o).frozen? ⟨w.heap.size, 0, none⟩ = false ∧ (wr.alloc o).frozen? ⟨w.heap.size, 1, none⟩ = false)
    (hq : (wr.alloc o).cell? ⟨sb, 0, none⟩ = some (.bool true)) (hsb : w.heap.size < sb) (hg : w.heap.size < g) (hgs : g < sb) : ∃ vs, FinX w X g N sb true vs S := by
  obtain ⟨vs, q, h1, hq1, h2⟩ := hN
  have h3 := V_lt _ hS.1.2.1
  rw [hS.1.2.2.1] at h3
  have hq2 : q = 1 := by
    have : q = 0 ∨ q = 1 := by omega
    rcases this with rfl | rfl
    · rw [Nat.zero_mul] at h2
      omega
    · rfl
  subst hq2
  rw [Nat.one_mul] at h2
  have k : ∀ i, X.cell? ⟨w.heap.size, i, none⟩ = (wr.alloc o).cell? ⟨w.heap.size, i, none⟩ := fun i => World.cell?_of_block (a := ⟨w.heap.size, i, none⟩) (h1.2.2.2.block w.heap.size (by rw [World.size_alloc]; have := hb.size; rw [W117_size] at this; omega) (show some w.heap.size ≠ some g by intro e; injection e with e; omega))
  have kf : ∀ i, X.frozen? ⟨w.heap.size, i, none⟩ = (wr.alloc o).frozen? ⟨w.heap.size, i, none⟩ := fun i => World.frozen?_of_block (a := ⟨w.heap.size, i, none⟩) (h1.2.2.2.block w.heap.size (by rw [World.size_alloc]; have := hb.size; rw [W117_size] at this; omega) (show some w.heap.size ≠ some g by intro e; injection e with e; omega))
  refine ⟨vs, ⟨h1.1, h1.2.1, h1.2.2.1, ?_, fun _ => by omega, hg, ?_⟩, by rw [k]; exact hp.1, by rw [k]; exact hp.2.1, by rw [kf]; exact hp.2.2.1, by rw [kf]; exact hp.2.2.2, h1.2.2.2.cell hq (by show some sb ≠ some g; intro e; injection e with e; omega)⟩
  · rw [hv.1]
    show _ = -((V vs : Nat) : Int)
    omega
  · have hb1 : Below w.heap.size w (wr.alloc o) := ((W117_below w).trans (hb.mono (by rw [W117_size]; omega))).alloc (by have := hb.size; rw [W117_size] at this; omega) _
    exact hb1.grown h1.2.2.2 hb1.size (by intro j hj; injection hj with hj; omega)
theorem RowAt.own_ {w W : World} {g : Nat} {zs : List Nat} (h : RowAt W g zs) (hg : w.heap.size ≤ g) (hl : zs.length ≤ 100000) : W.ownsRow w.heap.size 44 1 (.slice (some ⟨g, 0, none⟩) zs.length zs.length) zs.length (uvs zs) :=
  ⟨by rw [uvs_length]; omega, .inr ⟨g, zs.length, _, rfl, hg, h, Nat.le_refl _, by unfold maxLen; omega, by simp [uvs_length], by rw [Nat.mul_one]; exact List.take_of_length_le (by simp [uvs_length])⟩⟩
theorem sum_done {w X : World} {g N k : Nat} {b : Bool} {u v : Value} {vs : List Nat} {S : Int} (h : RowAt X g vs ∧ Ws vs ∧ vs.length = N ∧ S = sgn b (V vs) ∧ (b = true → V vs ≠ 0) ∧ w.heap.size < g ∧ Below w.heap.size w X) (hU : V (vs.take k) = V vs ∧ Cn (vs.take k)) (hk : k ≤ N) (hN : N ≤ 100000 := by omega) :
    SumR w (((X.setCell ⟨w.heap.size, 0, none⟩ u).setCell ⟨w.heap.size, 1, none⟩ v).drew) (.returned (sgV b (some ⟨g, 0, none⟩) k N)) S := by
  obtain ⟨h1, h2, h3, h4, h5, h6, h7⟩ := h
  have hr : RowAt ((X.setCell ⟨w.heap.size, 0, none⟩ u).setCell ⟨w.heap.size, 1, none⟩ v) g vs := (h1.far (p := ⟨w.heap.size, 0, none⟩) (by show g ≠ w.heap.size; omega) u).far (p := ⟨w.heap.size, 1, none⟩) (by show g ≠ w.heap.size; omega) v
  have ho := hr.own_ (w := w) (by omega) (by omega)
  rw [h3] at ho
  have hb := (h7.setCell (p := ⟨w.heap.size, 0, none⟩) (Nat.le_refl _) u).setCell (p := ⟨w.heap.size, 1, none⟩) (Nat.le_refl _) v
  exact ⟨b, _, k, N, vs.take k, rfl, ⟨Nw.tk ⟨h3, h2, ho⟩ hk, hU.2, by rw [hU.1]; exact h4, fun hb => by rw [hU.1]; exact h5 hb⟩, below_drewN hb 1⟩
theorem row_zeros {w1 : World} {n g B : Nat} (h : w1.ownsRow B 44 1 (.slice (some ⟨g, 0, none⟩) n n) n (madeCells #[Value.int .u64 0] n).toList) : RowAt w1 g (List.replicate n 0) := by
  have hu : (madeCells #[Value.int .u64 0] n).toList = uvs (List.replicate n 0) := by
    refine List.ext_getElem (by simp [madeCells, uvs]) (fun i h1 h2 => ?_)
    simp [madeCells, uvs, Nat.mod_one]
  rw [hu] at h
  exact row_own h

set_option maxHeartbeats 4000000 in
theorem fsum_ok (ts : List Tm) (A : Option Addr) (m c : Nat) (L : Nat) (w : World) (hm : m ≤ 5000) (hx : Tl w A m c ts) (hL : ∀ t ∈ ts, t.pl + t.n ≤ L) (hL5 : L ≤ 50000) (hW : wsum ts < H63) :
    Calls Tryz.prog 27 #[.slice A m c] w fun e w' => SumR w w' e (tsum ts) := by
  obtain ⟨i0, hi, hz0, hz1, hz2⟩ := info_parts Tryz.info44
  have Hx := Lib.hid (And.intro hx (And.intro hL hW))
  clear hx hL hW
  go_enter Tryz.func27, Tryz.ntmps27
  go_wp2
  go_loopw [3, 5, 13] (fun lv _ iv wr => ∃ (k l : Nat), k ≤ m ∧ iv = .int .i64 k ∧ lv = .int .i64 l ∧ l ≤ L ∧ Hid ((∀ t ∈ ts.take k, t.pl + t.n ≤ l) ∧ Below (W117 w).heap.size (W117 w) wr)) (fun _ _ iv _ => m - (intOf iv).toNat)
  case atStart => exact ⟨0, 0, by omega, rfl, rfl, by omega, fun t ht => by simp at ht, Below.refl _ _⟩
  case round =>
    obtain ⟨k, l, hk, rfl, rfl, hl, hH⟩ := hrel
    by_cases hlt : k < m
    · have hkl : k < ts.length := by rw [Hx.out.1.1]; exact hlt
      have hg := List.getElem?_eq_getElem hkl
      have hmem : ts[k] ∈ ts := List.getElem_mem hkl
      obtain ⟨b, o, rfl, _, c0, c1, c2, c3⟩ := (Hx.out.1.below ((W117_below w).trans (hH.out.2.mono (by rw [W117_size]; omega)))).at hg
      have hle := Hx.out.2.1 _ hmem
      have hnx : ts.take (k + 1) = ts.take k ++ [ts[k]] := List.take_succ_eq_append_getElem hkl
      generalize ts[k] = t at *
      have hki : (k : Int) < m := by omega
      obtain ⟨l2, hl2⟩ : ∃ l2, Mx l2 l (t.pl + t.n) := ⟨max l (t.pl + t.n), by unfold Mx; omega⟩
      have HN : Hid ((∀ t ∈ ts.take (k + 1), t.pl + t.n ≤ l2) ∧ Below (W117 w).heap.size (W117 w) (wr.alloc (.cells #[.bool t.neg, .slice t.A t.n t.c, .int .i64 t.wt, .int .i64 (t.pl : Int)] 61))) :=
        ⟨fun s hs => by
          rw [hnx] at hs
          rcases List.mem_append.1 hs with h | h
          · have := hH.out.1 s h; unfold Mx at hl2; omega
          · rw [List.mem_singleton] at h; subst h; unfold Mx at hl2; omega, hH.out.2.alloc hH.out.2.size _⟩
      have hl2L : l2 ≤ L := by unfold Mx at hl2; omega
      have Hl2 := Lib.hid hl2
      clear hkl hg hmem hnx hl2 hH
      go_wp2
      refine ⟨⟨k + 1, l2, by omega, by go_num, congrArg (Value.int .i64) (by have := Hl2.out; unfold Mx at this; omega), hl2L, HN⟩, ?_⟩
      simp [intOf]; omega
    · have hkm : k = m := by omega
      have hki : ¬ (k : Int) < m := by omega
      obtain ⟨N, hN⟩ : ∃ N, N = l + 1 := ⟨_, rfl⟩
      have HNi := Lib.hid (show (l : Int) + 1 = (N : Int) by omega)
      have HNl := Lib.hid hN
      have hN5 : N ≤ 50001 := by omega
      have hall : ∀ t ∈ ts, t.pl + t.n ≤ l := fun t ht => hH.out.1 t (by rw [List.take_of_length_le (by rw [Hx.out.1.1]; omega)]; exact ht)
      have H1 := Lib.hid (And.intro hall hH.out.2)
      clear hall hH hkm hlt hN
      go_wp2_with (at_make; refine wpList_make_full _ rfl _ _ 23 rfl wr.heap.size 44 i0 (.int .u64 0) 1 Tryz.underlying23 hi hz0 hz1 .i64 .i64 _ _ N rfl rfl HNi.out HNi.out (by rw [hz2]; omega) (by unfold maxLen; omega) (Nat.le_refl _) ?_)
      intro w2 hown hgrow
      have hrow : RowAt w2 wr.heap.size (List.replicate N 0) := row_zeros hown
      have hb2 : Below (W117 w).heap.size (W117 w) w2 := H1.out.2.trans ((below_of_grown hgrow (Nat.le_refl _)).mono H1.out.2.size)
      obtain ⟨g, hg⟩ : ∃ g, g = wr.heap.size := ⟨_, rfl⟩
      rw [← hg] at hrow
      have hgs : (W117 w).heap.size ≤ g := by rw [hg]; exact H1.out.2.size
      have H2 := Lib.hid (And.intro H1.out.1 (And.intro hrow (And.intro hb2 hgs)))
      rw [← hg]
      clear hown hgrow hrow hb2 H1 hg hgs
      go_wp2
      go_loopw [8, 9, 32] (fun _ _ iv wr => ∃ (k : Nat), k ≤ m ∧ iv = .int .i64 k ∧ Hid (∃ us, SumI w2 wr g N us (tsum (ts.take k)))) (fun _ _ iv _ => m - (intOf iv).toNat)
      case atStart => exact ⟨0, by omega, rfl, ⟨List.replicate N 0, ⟨H2.out.2.1, fun x hx => by rw [List.eq_of_mem_replicate hx]; exact B64_pos, List.length_replicate, World.grownBy.refl w2 _⟩, 0, by rw [V_zeros']; simp [tsum]⟩⟩
      case round =>
        obtain ⟨k2, hk2, rfl, hHe⟩ := hrel
        obtain ⟨us, hS⟩ := hHe.out
        clear hHe
        by_cases hlt : k2 < m
        · have hkl : k2 < ts.length := by rw [Hx.out.1.1]; exact hlt
          have hgt := List.getElem?_eq_getElem hkl
          have hmem : ts[k2] ∈ ts := List.getElem_mem hkl
          have hbw : Below w.heap.size w wr := (W117_below w).trans ((H2.out.2.2.1.grown hS.1.2.2.2 H2.out.2.2.1.size (by intro j hj; injection hj with hj; rw [← hj]; exact H2.out.2.2.2)).mono (by rw [W117_size]; omega))
          obtain ⟨b, o, rfl, _, c0, c1, c2, c3⟩ := (Hx.out.1.below hbw).at hgt
          have hle := H2.out.1 _ hmem
          have hsl := Hx.out.1.2.2.2.2 _ hmem
          have hwt := wsum_mem hmem
          have hnx := tsum_succ ts k2 hkl
          generalize ts[k2] = t at *
          have hki2 : (k2 : Int) < m := by omega
          obtain ⟨a, ha⟩ : ∃ a, a = t.wt.natAbs := ⟨_, rfl⟩
          have ha63 : a < H63 := Nat.lt_of_le_of_lt (by rw [ha]; exact hwt) Hx.out.2.2
          have hk63 : IntKind.i64.wrap (-t.wt) = -t.wt := by have h63 : H63 = 9223372036854775808 := rfl; exact IntWalk.i64_in _ (by omega)
          have hu63 : IntKind.u64.wrap (a : Int) = (a : Int) := by have h63 : H63 = 9223372036854775808 := rfl; rw [IntKind.wrap_u64]; omega
          have hmx : max t.wt (-t.wt) = (a : Int) := by omega
          have HNl2 := HNl.out
          have hpc : (t.pl : Int) ≤ (N : Int) := by omega
          have hne : ¬ t.pl = N := by omega
          have hne2 : ¬ N = t.pl := by omega
          have H := Lib.hid (And.intro hS (And.intro (hsl.below hbw) (And.intro (show t.n ≠ 0 → ∀ p, t.A = some p → some p.block ≠ some g from sl_off hsl (by have h1 := H2.out.2.2.2; rw [W117_size] at h1; omega)) (And.intro hnx (And.intro ha (And.intro hle ha63))))))
          clear hkl hgt hmem hbw hle hsl hwt hnx ha ha63 hS HNl2
          obtain ⟨tn, tA, tn2, tc, txs, twt, tpl⟩ := t
          simp only at c0 c1 c2 c3 hk63 hmx hpc hne hne2
          by_cases hw : twt < 0
          · cases tn
            · go_wp2_with (fail)
              go_region_held3 (fun w' => w'.cell? ⟨wr.heap.size, 3, none⟩ = some (.int .i64 (tpl : Int)) ∧ w'.cell? ⟨wr.heap.size, 1, none⟩ = some (.slice tA tn2 tc))
                (first | go_keep | exact ⟨E3, E1⟩)
                (first | (go_at_call 62; refine (ftake_ok g tpl (N - tpl) (N - tpl) us tA tn2 tc txs a N _ (show RowAt (World.drew (World.alloc wr _)) g us from RowAt.alloc (W := wr) H.out.1.1.1 _) H.out.1.1.2.1 H.out.1.1.2.2.1 (by omega) (by omega) (Nat.le_refl _) (by omega) (by have h5 : tpl + tn2 ≤ l := H.out.2.2.2.2.2.1; have h6 := HNl.out; omega) (show Sl (World.drew (World.alloc wr _)) tA tn2 tc txs from Sl.alloc_ H.out.2.1 _) H.out.2.2.1 (by have h7 := H.out.2.2.2.2.2.2; rw [B_half]; omega)).mono ?_; rintro e w3 ⟨cy, rfl, -, hA⟩; have HA := Lib.hid hA.r; have E3 := cell_grown HA.out.gr (p := ⟨wr.heap.size, 3, none⟩) (row_off H.out.1.1.1) (new_at3 wr _ _ _ _ _); have E1 := cell_grown HA.out.gr (p := ⟨wr.heap.size, 1, none⟩) (row_off H.out.1.1.1) (new_at1 wr _ _ _ _ _); clear hA))
              have HN : Hid (∃ vs, SumI w2 w3 g N vs (tsum (ts.take (k2 + 1)))) := by
                have h4 := H.out.2.2.2.1
                rw [h4]
                refine SumI.taken (t := ⟨false, tA, tn2, tc, txs, twt, tpl⟩) H.out.1.1 H.out.1.2 (by simp [hw]) (by have h5 : a = twt.natAbs := H.out.2.2.2.2.1; rw [← h5]; exact HA.out.und)
              clear HA H E1 E3
              go_wp2_with (fail)
              refine ⟨⟨k2 + 1, by omega, by go_num, HN⟩, ?_⟩
              simp [intOf]; omega
            · go_wp2_with (fail)
              go_region_held3 (fun w' => w'.cell? ⟨wr.heap.size, 3, none⟩ = some (.int .i64 (tpl : Int)) ∧ w'.cell? ⟨wr.heap.size, 1, none⟩ = some (.slice tA tn2 tc))
                (first | go_keep | exact ⟨E3, E1⟩)
                (first | (go_at_call 61; refine (fadd_ok g tpl (N - tpl) (N - tpl) us tA tn2 tc txs a N _ (show RowAt (World.drew (World.alloc wr _)) g us from RowAt.alloc (W := wr) H.out.1.1.1 _) H.out.1.1.2.1 H.out.1.1.2.2.1 (by omega) (by omega) (Nat.le_refl _) (by omega) (by have h5 : tpl + tn2 ≤ l := H.out.2.2.2.2.2.1; have h6 := HNl.out; omega) (show Sl (World.drew (World.alloc wr _)) tA tn2 tc txs from Sl.alloc_ H.out.2.1 _) H.out.2.2.1 (by have h7 := H.out.2.2.2.2.2.2; rw [B_half]; omega)).mono ?_; rintro e w3 ⟨cy, rfl, -, hA⟩; have HA := Lib.hid hA.r; have E3 := cell_grown HA.out.gr (p := ⟨wr.heap.size, 3, none⟩) (row_off H.out.1.1.1) (new_at3 wr _ _ _ _ _); have E1 := cell_grown HA.out.gr (p := ⟨wr.heap.size, 1, none⟩) (row_off H.out.1.1.1) (new_at1 wr _ _ _ _ _); clear hA))
              have HN : Hid (∃ vs, SumI w2 w3 g N vs (tsum (ts.take (k2 + 1)))) := by
                have h4 := H.out.2.2.2.1
                rw [h4]
                refine SumI.added (t := ⟨true, tA, tn2, tc, txs, twt, tpl⟩) H.out.1.1 H.out.1.2 (by simp [hw]) (by have h5 : a = twt.natAbs := H.out.2.2.2.2.1; rw [← h5]; exact HA.out.und)
              clear HA H E1 E3
              go_wp2_with (fail)
              refine ⟨⟨k2 + 1, by omega, by go_num, HN⟩, ?_⟩
              simp [intOf]; omega
          · have hwf : (0 : Int) ≤ twt := by omega
            cases tn
            · go_wp2_with (fail)
              go_region_held3 (fun w' => w'.cell? ⟨wr.heap.size, 3, none⟩ = some (.int .i64 (tpl : Int)) ∧ w'.cell? ⟨wr.heap.size, 1, none⟩ = some (.slice tA tn2 tc))
                (first | go_keep | exact ⟨E3, E1⟩)
                (first | (go_at_call 61; refine (fadd_ok g tpl (N - tpl) (N - tpl) us tA tn2 tc txs a N _ (show RowAt (World.drew (World.alloc wr _)) g us from RowAt.alloc (W := wr) H.out.1.1.1 _) H.out.1.1.2.1 H.out.1.1.2.2.1 (by omega) (by omega) (Nat.le_refl _) (by omega) (by have h5 : tpl + tn2 ≤ l := H.out.2.2.2.2.2.1; have h6 := HNl.out; omega) (show Sl (World.drew (World.alloc wr _)) tA tn2 tc txs from Sl.alloc_ H.out.2.1 _) H.out.2.2.1 (by have h7 := H.out.2.2.2.2.2.2; rw [B_half]; omega)).mono ?_; rintro e w3 ⟨cy, rfl, -, hA⟩; have HA := Lib.hid hA.r; have E3 := cell_grown HA.out.gr (p := ⟨wr.heap.size, 3, none⟩) (row_off H.out.1.1.1) (new_at3 wr _ _ _ _ _); have E1 := cell_grown HA.out.gr (p := ⟨wr.heap.size, 1, none⟩) (row_off H.out.1.1.1) (new_at1 wr _ _ _ _ _); clear hA))
              have HN : Hid (∃ vs, SumI w2 w3 g N vs (tsum (ts.take (k2 + 1)))) := by
                have h4 := H.out.2.2.2.1
                rw [h4]
                refine SumI.added (t := ⟨false, tA, tn2, tc, txs, twt, tpl⟩) H.out.1.1 H.out.1.2 (by simp [hw]) (by have h5 : a = twt.natAbs := H.out.2.2.2.2.1; rw [← h5]; exact HA.out.und)
              clear HA H E1 E3
              go_wp2_with (fail)
              refine ⟨⟨k2 + 1, by omega, by go_num, HN⟩, ?_⟩
              simp [intOf]; omega
            · go_wp2_with (fail)
              go_region_held3 (fun w' => w'.cell? ⟨wr.heap.size, 3, none⟩ = some (.int .i64 (tpl : Int)) ∧ w'.cell? ⟨wr.heap.size, 1, none⟩ = some (.slice tA tn2 tc))
                (first | go_keep | exact ⟨E3, E1⟩)
                (first | (go_at_call 62; refine (ftake_ok g tpl (N - tpl) (N - tpl) us tA tn2 tc txs a N _ (show RowAt (World.drew (World.alloc wr _)) g us from RowAt.alloc (W := wr) H.out.1.1.1 _) H.out.1.1.2.1 H.out.1.1.2.2.1 (by omega) (by omega) (Nat.le_refl _) (by omega) (by have h5 : tpl + tn2 ≤ l := H.out.2.2.2.2.2.1; have h6 := HNl.out; omega) (show Sl (World.drew (World.alloc wr _)) tA tn2 tc txs from Sl.alloc_ H.out.2.1 _) H.out.2.2.1 (by have h7 := H.out.2.2.2.2.2.2; rw [B_half]; omega)).mono ?_; rintro e w3 ⟨cy, rfl, -, hA⟩; have HA := Lib.hid hA.r; have E3 := cell_grown HA.out.gr (p := ⟨wr.heap.size, 3, none⟩) (row_off H.out.1.1.1) (new_at3 wr _ _ _ _ _); have E1 := cell_grown HA.out.gr (p := ⟨wr.heap.size, 1, none⟩) (row_off H.out.1.1.1) (new_at1 wr _ _ _ _ _); clear hA))
              have HN : Hid (∃ vs, SumI w2 w3 g N vs (tsum (ts.take (k2 + 1)))) := by
                have h4 := H.out.2.2.2.1
                rw [h4]
                refine SumI.taken (t := ⟨true, tA, tn2, tc, txs, twt, tpl⟩) H.out.1.1 H.out.1.2 (by simp [hw]) (by have h5 : a = twt.natAbs := H.out.2.2.2.2.1; rw [← h5]; exact HA.out.und)
              clear HA H E1 E3
              go_wp2_with (fail)
              refine ⟨⟨k2 + 1, by omega, by go_num, HN⟩, ?_⟩
              simp [intOf]; omega
        · have hkm2 : k2 = m := by omega
          have hki3 : ¬ (k2 : Int) < m := by omega
          rw [hkm2, List.take_of_length_le (by rw [Hx.out.1.1]; exact Nat.le_refl _)] at hS
          have hll : l < us.length := by rw [hS.1.2.2.1, HNl.out]; omega
          have hgt := List.getElem?_eq_getElem hll
          have htB : us[l] < B64 := hS.1.2.1 _ (List.getElem_mem hll)
          generalize us[l] = t at *
          have htop := sum_top (W := wsum ts) hS.1.2.1 (by rw [hS.1.2.2.1, HNl.out]) hgt (by rw [← HNl.out]; exact hS.2) (tsum_abs ts l (fun t ht => ⟨(by have h := Hx.out.1.2.2.2.2 t ht; rw [← h.1]; exact V_lt _ h.2.2.2.1), H2.out.1 t ht⟩)) Hx.out.2.2
          have ct := hS.1.1.cell hgt
          have hlN : (l : Int) < (N : Int) := by have := HNl.out; omega
          have hbw : Below (W117 w).heap.size (W117 w) wr := H2.out.2.2.1.grown hS.1.2.2.2 H2.out.2.2.1.size (by intro j hj; injection hj with hj; rw [← hj]; exact H2.out.2.2.2)
          have HE := Lib.hid (And.intro hS (And.intro hbw (And.intro htop (And.intro htB H2.out.2.2.2))))
          clear hS hll hgt htB htop hbw hkm2 hlt
          have HWr := Lib.hid (show w.heap.size < wr.heap.size by have := HE.out.2.1.size; rw [W117_size] at this; omega)
          rcases Bool.eq_false_or_eq_true ((t : Int) / 9223372036854775808 == 1) with hb | hb
          · have hhigh : H63 ≤ t := by have h63 : H63 = 9223372036854775808 := rfl; have h64 : B64 = 18446744073709551616 := rfl; have h5 := HE.out.2.2.2.1; simp at hb; omega
            have HS := Lib.hid (HE.out.2.2.1.2 hhigh)
            have HP := Lib.hid (res_facts (w := w) (o := .cells #[.bool true] 57) HE.out.2.1)
            have HQ := Lib.hid (show (wr.alloc (.cells #[.bool true] 57)).cell? ⟨wr.heap.size, 0, none⟩ = some (.bool true) by simp)
            have HG := Lib.hid (show w.heap.size < g by have := HE.out.2.2.2.2; rw [W117_size] at this; omega)
            clear hhigh
            go_wp2_with (fail)
            clear ct
            refine (fneg_ok g N us N _ (RowAt.alloc (W := wr) HE.out.1.1.1 _) HE.out.1.1.2.1 HE.out.1.1.2.2.1 (by omega) (Nat.le_refl _)).mono ?_
            rintro e X ⟨rfl, hNeg⟩
            have HNeg := Lib.hid hNeg
            obtain ⟨sb, hsb⟩ : ∃ sb, wr.heap.size = sb := ⟨_, rfl⟩
            have HX : Hid (∃ vs, FinX w X g N sb true vs (tsum ts)) := FinX.neg hNeg HE.out.1 HE.out.2.1 (by rw [HNl.out]; exact HS.out) HP.out (by rw [hsb] at HQ; exact HQ.out) (by rw [hsb] at HWr; exact HWr.out) HG.out (by rw [← hsb]; exact HE.out.1.1.1.lt)
            obtain ⟨vs, HX⟩ := HX.out
            replace HX := Lib.hid HX
            rw [hsb] at HWr ⊢
            clear hb hlN hNeg HNeg HE HS HP HQ HG hsb
            go_wp2_with (fail)
            obtain ⟨hX, p0, p1, f0, f1, q0⟩ := HX.out
            have f1' : (X.setCell ⟨w.heap.size, 0, none⟩ (.bool true)).frozen? ⟨w.heap.size, 1, none⟩ = false := by rw [World.frozen?_setCell]; exact f1
            have p1' : (X.setCell ⟨w.heap.size, 0, none⟩ (.bool true)).cell? ⟨w.heap.size, 1, none⟩ = some (.slice none 0 0) := by rw [World.cell?_setCell_other _ _ _ _ (by simp)]; exact p1
            clear hX
            go_region_held3 (fun w' => w'.cell? ⟨sb, 0, none⟩ = some (.bool true)) (first | exact keep2 q0 HWr.out | go_keep)
              (first | (go_at_call 23; refine (fused_ok (some ⟨g, 0, none⟩) N N vs X.drew (by omega) (show Sl X _ N N vs from RowAt.sl HX.out.1.1 HX.out.1.2.1 HX.out.1.2.2.1 (by omega))).mono ?_; rintro e w3 ⟨k3, rfl, hk3, hU, rfl⟩; have HU := Lib.hid hU; clear hU))
            have z0 : ((X.setCell ⟨w.heap.size, 0, none⟩ (.bool true)).setCell ⟨w.heap.size, 1, none⟩ (.slice (some ⟨g, 0, none⟩) k3 N)).cell? ⟨w.heap.size, 0, none⟩ = some (.bool true) := by rw [World.cell?_setCell_other _ _ _ _ (by simp), World.cell?_setCell_same' _ _ _ (by rw [p0]; rfl)]
            have z1 : ((X.setCell ⟨w.heap.size, 0, none⟩ (.bool true)).setCell ⟨w.heap.size, 1, none⟩ (.slice (some ⟨g, 0, none⟩) k3 N)).cell? ⟨w.heap.size, 1, none⟩ = some (.slice (some ⟨g, 0, none⟩) k3 N) := World.cell?_setCell_same' _ _ _ (by rw [p1']; rfl)
            clear p0 p1 f0 f1 q0 f1' p1'
            go_wp2_with (fail)
            exact bodyPost_ret (v := sgV true (some ⟨g, 0, none⟩) k3 N) (by simp [results, Tryz.results27, go_sem, z0, z1]) rfl (sum_done HX.out.1 HU.out.out hk3)
          · have hlow : t < H63 := by have h63 : H63 = 9223372036854775808 := rfl; have h64 : B64 = 18446744073709551616 := rfl; have h5 := HE.out.2.2.2.1; simp at hb; omega
            have HS := Lib.hid (HE.out.2.2.1.1 hlow)
            have HP := Lib.hid (res_facts (w := w) (o := .cells #[.bool false] 57) HE.out.2.1)
            have HQ := Lib.hid (show (wr.alloc (.cells #[.bool false] 57)).cell? ⟨wr.heap.size, 0, none⟩ = some (.bool false) by simp)
            clear hlow
            go_wp2_with (fail)
            clear ct
            obtain ⟨X, hX⟩ : ∃ X, wr.alloc (.cells #[.bool false] 57) = X := ⟨_, rfl⟩
            obtain ⟨sb, hsb⟩ : ∃ sb, wr.heap.size = sb := ⟨_, rfl⟩
            obtain ⟨vs, hvs⟩ : ∃ vs, us = vs := ⟨_, rfl⟩
            have HX : Hid (FinX w X g N sb false vs (tsum ts)) := by rw [← hvs, ← hX, ← hsb]; exact FinX.pos HE.out.1 HE.out.2.1 HS.out HP.out HQ.out (by have := HE.out.2.2.2.2; rw [W117_size] at this; omega)
            rw [hX, hsb]
            rw [hsb] at HWr
            clear hb hlN HE HS HP HQ hX hsb hvs
            obtain ⟨hX, p0, p1, f0, f1, q0⟩ := HX.out
            have f1' : (X.setCell ⟨w.heap.size, 0, none⟩ (.bool false)).frozen? ⟨w.heap.size, 1, none⟩ = false := by rw [World.frozen?_setCell]; exact f1
            have p1' : (X.setCell ⟨w.heap.size, 0, none⟩ (.bool false)).cell? ⟨w.heap.size, 1, none⟩ = some (.slice none 0 0) := by rw [World.cell?_setCell_other _ _ _ _ (by simp)]; exact p1
            clear hX
            go_region_held3 (fun w' => w'.cell? ⟨sb, 0, none⟩ = some (.bool false)) (first | exact keep2 q0 HWr.out | go_keep)
              (first | (go_at_call 23; refine (fused_ok (some ⟨g, 0, none⟩) N N vs X.drew (by omega) (show Sl X _ N N vs from RowAt.sl HX.out.1.1 HX.out.1.2.1 HX.out.1.2.2.1 (by omega))).mono ?_; rintro e w3 ⟨k3, rfl, hk3, hU, rfl⟩; have HU := Lib.hid hU; clear hU))
            have z0 : ((X.setCell ⟨w.heap.size, 0, none⟩ (.bool false)).setCell ⟨w.heap.size, 1, none⟩ (.slice (some ⟨g, 0, none⟩) k3 N)).cell? ⟨w.heap.size, 0, none⟩ = some (.bool false) := by rw [World.cell?_setCell_other _ _ _ _ (by simp), World.cell?_setCell_same' _ _ _ (by rw [p0]; rfl)]
            have z1 : ((X.setCell ⟨w.heap.size, 0, none⟩ (.bool false)).setCell ⟨w.heap.size, 1, none⟩ (.slice (some ⟨g, 0, none⟩) k3 N)).cell? ⟨w.heap.size, 1, none⟩ = some (.slice (some ⟨g, 0, none⟩) k3 N) := World.cell?_setCell_same' _ _ _ (by rw [p1']; rfl)
            clear p0 p1 f0 f1 q0 f1' p1'
            go_wp2_with (fail)
            exact bodyPost_ret (v := sgV false (some ⟨g, 0, none⟩) k3 N) (by simp [results, Tryz.results27, go_sem, z0, z1]) rfl (sum_done HX.out.1 HU.out.out hk3)
end Go.Proofs.YthpgdpkemnhneaaGreatDoor

namespace Go.Proofs.YthpgdpkemnhneaaGreatDoor
open Go.RowKit Go.Shelf
set_option linter.unusedVariables false
set_option linter.unusedSimpArgs false
set_option maxRecDepth 10000

theorem Bk.drew {W : World} {r : Nat} {vs : List Value} (h : Bk W r vs) : Bk W.drew r vs := h
/-- the terms of a slice that has just been built -/
theorem Tl.new {w : World} {ts : List Tm} {m : Nat} {cs : Array Value} {t : TypeId} (hm : ts.length = m) (hm2 : m ≤ 9223372036854775807) (hc : cs = (tvs ts).toArray) (h : ∀ t ∈ ts, Sl w t.A t.n t.c t.xs) : Tl (w.alloc (.cells cs t)) (some ⟨w.heap.size, 0, none⟩) m m ts := by
  refine ⟨hm, Nat.le_refl _, hm2, fun _ => ⟨w.heap.size, 0, rfl, by simp, fun j u hj => ?_⟩, fun t ht => (h t ht).alloc_ _⟩
  subst hc
  exact (Bk.new w (tvs ts) t j u hj |> fun h => by rw [Nat.zero_add]; exact h.1)
abbrev tplus (A : Option Addr) (n c : Nat) (xs : List Nat) (p : Nat) : Tm := ⟨false, A, n, c, xs, 1, p⟩
abbrev tminus (s : Bool) (A : Option Addr) (n c : Nat) (xs : List Nat) (p : Nat) : Tm := ⟨s, A, n, c, xs, -1, p⟩
theorem tval_plus {A : Option Addr} {n c : Nat} {xs : List Nat} {p : Nat} : tval (tplus A n c xs p) = ((V xs * B64 ^ p : Nat) : Int) := by simp [tval, sgn]
theorem tval_minus {s : Bool} {A : Option Addr} {n c : Nat} {xs : List Nat} {p : Nat} : tval (tminus s A n c xs p) = -(sgn s (V xs) * ((B64 ^ p : Nat) : Int)) := by
  simp only [tval]
  rw [Int.mul_neg, Int.mul_one, Int.neg_mul]

theorem Sg.base {w w0 X : World} {s : Bool} {A : Option Addr} {n c : Nat} {zs : List Nat} {S : Int} (h : Sg w0 X s A n c zs S) (h0 : w.heap.size ≤ w0.heap.size) : Sg w X s A n c zs S := by
  obtain ⟨⟨h1, h2, h3⟩, h4⟩ := h
  exact ⟨⟨h1, h2, own_base h3 h0⟩, h4⟩
theorem Sg.later {w w0 X Y : World} {s : Bool} {A : Option Addr} {n c : Nat} {zs : List Nat} {S : Int} (h : Sg w0 X s A n c zs S) (h0 : w.heap.size ≤ w0.heap.size) (hb : Below X.heap.size X Y) : Sg w Y s A n c zs S := by
  obtain ⟨h1, h4⟩ := h
  exact ⟨h1.later h0 hb, h4⟩
theorem Sg.sl {w X : World} {s : Bool} {A : Option Addr} {n c : Nat} {zs : List Nat} {S : Int} (h : Sg w X s A n c zs S) : Sc X A n c zs := by
  obtain ⟨A', c', e, hs⟩ := h.1.sl
  injection e with e1 e2 e3
  subst e1 e3
  exact ⟨hs, h.2.1⟩
theorem Sg.put2 {w w0 X : World} {s : Bool} {A : Option Addr} {n c b : Nat} {zs : List Nat} {S S' : Int} {u v : Value} (h : Sg w0 X s A n c zs S) (h0 : w.heap.size ≤ w0.heap.size) (hb : b < w0.heap.size) (he : S = S') : Sg w ((X.setCell ⟨b, 0, none⟩ u).setCell ⟨b, 1, none⟩ v) s A n c zs S' := by
  subst he
  obtain ⟨⟨h1, h2, h3⟩, h4⟩ := h
  have ho : w0.heap.size ≤ w0.heap.size := Nat.le_refl _
  refine ⟨⟨h1, h2, own_base (own_kept (own_kept h3 (grown_set X b 0 u) hb) (grown_set _ b 1 v) hb) h0⟩, h4⟩
theorem diff_done {w w2 X : World} {o : Obj} {s : Bool} {A : Option Addr} {n c : Nat} {zs : List Nat} {S S' : Int} {u v : Value} (h : Sg (w2.alloc o) X s A n c zs S) (hb : Below w.heap.size w X) (h0 : w.heap.size ≤ w2.heap.size) (he : S = S') :
    SumR w ((X.setCell ⟨w.heap.size, 0, none⟩ u).setCell ⟨w.heap.size, 1, none⟩ v) (.returned (sgV s A n c)) S' :=
  ⟨s, A, n, c, zs, rfl, h.put2 (by simp; omega) (by simp; omega) he, (hb.setCell (p := ⟨w.heap.size, 0, none⟩) (Nat.le_refl _) _).setCell (p := ⟨w.heap.size, 1, none⟩) (Nat.le_refl _) _⟩
set_option maxHeartbeats 1000000 in
theorem fdiff_ok (A A' : Option Addr) (n n' c c' : Nat) (xs ys : List Nat) (w : World) (hn : n ≤ 50000) (hn' : n' ≤ 50000) (hx : Sl w A n c xs) (hy : Sl w A' n' c' ys) :
    Calls Tryz.prog 70 #[.slice A n c, .slice A' n' c'] w fun e w' => SumR w w' e ((V xs : Int) - V ys) := by
  have Hx := Lib.hid (And.intro hx hy)
  clear hx hy
  go_enter Tryz.func70, Tryz.ntmps70
  go_wp2_with (fail)
  refine (placed_ok A n c 0 _).mono ?_
  rintro e w1 ⟨rfl, hb1⟩
  have hk1 := (Bk.new w [.bool false, .slice none 0 0] 59).below hb1 (by simp)
  have hb1' : Below w.heap.size w w1 := ((Below.refl _ w).alloc (Nat.le_refl _) _).trans (hb1.mono (by simp))
  have H1 := Lib.hid (And.intro hk1 (And.intro hb1' (show w.heap.size < w1.heap.size by have := hb1.size; simp at this; omega)))
  clear hb1 hk1 hb1'
  go_wp2_with (fail)
  refine (natural_ok A' n' c' _).mono ?_
  rintro e w2 ⟨rfl, hb2⟩
  have H2 := Lib.hid (And.intro (H1.out.1.below hb2 H1.out.2.2) (And.intro (H1.out.2.1.trans (hb2.mono H1.out.2.1.size)) (show w.heap.size < w2.heap.size by have := hb2.size; have := H1.out.2.2; omega)))
  clear hb2 H1
  go_wp2_with (fail)
  refine (fsum_ok [tplus A n c xs 0, tminus false A' n' c' ys 0] _ 2 2 50000 _ (by omega) (Tl.new rfl (by omega) rfl (by
    intro t ht
    rcases List.mem_cons.1 ht with rfl | ht
    · exact Hx.out.1.below H2.out.2.1
    · rw [List.mem_singleton] at ht; subst ht; exact Hx.out.2.below H2.out.2.1)) (by
    intro t ht
    rcases List.mem_cons.1 ht with rfl | ht
    · simp only; omega
    · rw [List.mem_singleton] at ht; subst ht; simp only; omega) (by omega) (by simp only [wsum, List.map_cons, List.map_nil]; decide)).mono ?_
  rintro e w3 ⟨s, A3, n3, c3, zs, rfl, hS, hb3⟩
  have hb3' : Below w2.heap.size w2 w3 := ((Below.refl _ w2).alloc (Nat.le_refl _) _).trans (hb3.mono (by simp))
  have hk := H2.out.1.below hb3' H2.out.2.2
  obtain ⟨p0, f0⟩ := hk 0 _ rfl
  obtain ⟨p1, f1⟩ := hk 1 _ rfl
  have H3 := Lib.hid (And.intro hS (And.intro (H2.out.2.1.trans (hb3'.mono H2.out.2.1.size)) (show w.heap.size ≤ w2.heap.size by have := H2.out.2.2; omega)))
  clear hS hb3 hb3' hk H2
  go_wp2_with (fail)
  exact bodyPost_ret (v := sgV s A3 n3 c3) (by simp [results, Tryz.results70, go_sem, World.cell?_setCell_same', p0, p1]) rfl (diff_done H3.out.1 H3.out.2.1 H3.out.2.2 (by simp [tsum, tval_plus, tval_minus, sgn]; omega))

/-- the box of the difference, and what the calls leave alone -/
def HBx (w W : World) (s : Bool) (A : Option Addr) (n c : Nat) : Prop := Bk W w.heap.size [.bool s, .slice A n c] ∧ Below w.heap.size w W ∧ w.heap.size < W.heap.size
theorem HBx.keep {w W W' : World} {s : Bool} {A : Option Addr} {n c : Nat} (h : HBx w W s A n c) (hb : Below W.heap.size W W') : HBx w W' s A n c :=
  ⟨h.1.below hb h.2.2, h.2.1.trans (hb.mono h.2.1.size), Nat.lt_of_lt_of_le h.2.2 hb.size⟩
/-- what fromHalves answers: the words of a signed number -/
def SumW (w w' : World) (e : Ending) (S : Int) : Prop := ∃ s A n c zs, e = .returned (.slice A n c) ∧ Sg w w' s A n c zs S ∧ Below w.heap.size w w'
def hterms (A A' A2 : Option Addr) (n n' n2 c c' c2 : Nat) (ls hs gs : List Nat) (s : Bool) (h : Nat) : List Tm :=
  [tplus A n c ls 0, tplus A n c ls h, tplus A' n' c' hs h, tminus s A2 n2 c2 gs h, tplus A' n' c' hs (2 * h)]
theorem hterms_sum {A A' A2 : Option Addr} {n n' n2 c c' c2 : Nat} {ls hs gs : List Nat} {s : Bool} {h : Nat} :
    tsum (hterms A A' A2 n n' n2 c c' c2 ls hs gs s h) = (V ls : Int) + ((V ls + V hs : Nat) : Int) * ((B64 ^ h : Nat) : Int) - sgn s (V gs) * ((B64 ^ h : Nat) : Int) + (V hs : Int) * ((B64 ^ (2 * h) : Nat) : Int) := by
  simp only [tsum, hterms, List.map_cons, List.map_nil, List.sum_cons, List.sum_nil, tval_plus, tval_minus, Nat.pow_zero, Nat.mul_one, Int.natCast_mul, Int.natCast_add]
  generalize ((B64 ^ h : Nat) : Int) = p
  generalize ((B64 ^ (2 * h) : Nat) : Int) = q
  grind
theorem hterms_all {w : World} {A A' A2 : Option Addr} {n n' n2 c c' c2 : Nat} {ls hs gs : List Nat} {s : Bool} {h : Nat} (hx : Sl w A n c ls) (hy : Sl w A' n' c' hs) (hz : Sl w A2 n2 c2 gs) :
    ∀ t ∈ hterms A A' A2 n n' n2 c c' c2 ls hs gs s h, Sl w t.A t.n t.c t.xs := by
  intro t ht
  simp only [hterms, List.mem_cons, List.not_mem_nil, or_false] at ht
  rcases ht with rfl | rfl | rfl | rfl | rfl
  · exact hx
  · exact hx
  · exact hy
  · exact hz
  · exact hy
theorem hterms_len {A A' A2 : Option Addr} {n n' n2 c c' c2 : Nat} {ls hs gs : List Nat} {s : Bool} {h : Nat} (hn : n ≤ 10000) (hn' : n' ≤ 10000) (hn2 : n2 ≤ 10000) (hh : h ≤ 10000) :
    ∀ t ∈ hterms A A' A2 n n' n2 c c' c2 ls hs gs s h, t.pl + t.n ≤ 50000 := by
  intro t ht
  simp only [hterms, List.mem_cons, List.not_mem_nil, or_false] at ht
  rcases ht with rfl | rfl | rfl | rfl | rfl <;> (simp only; omega)
set_option maxHeartbeats 2000000 in
theorem fromHalves_ok (A A' A2 : Option Addr) (n n' n2 c c' c2 : Nat) (ls hs gs : List Nat) (s : Bool) (h : Nat) (w : World) (hn : n ≤ 10000) (hn' : n' ≤ 10000) (hn2 : n2 ≤ 10000) (hh : h ≤ 10000) (hx : Sl w A n c ls) (hy : Sl w A' n' c' hs) (hz : Sl w A2 n2 c2 gs) :
    Calls Tryz.prog 72 #[.slice A n c, .slice A' n' c', sgV s A2 n2 c2, .int .i64 h] w fun e w' => SumW w w' e (tsum (hterms A A' A2 n n' n2 c c' c2 ls hs gs s h)) := by
  have Hx := Lib.hid (And.intro hx (And.intro hy hz))
  obtain ⟨H2, hH2⟩ : ∃ H2, H2 = 2 * h := ⟨_, rfl⟩
  have e1 : (2 : Int) * (h : Int) = (H2 : Int) := by omega
  have e2 : IntKind.i64.wrap ((2 : Int) * (h : Int)) = (H2 : Int) := by rw [e1]; exact IntWalk.i64_in _ (by omega)
  have e3 : IntKind.i64.wrap (H2 : Int) = (H2 : Int) := IntWalk.i64_in _ (by omega)
  have HH := Lib.hid hH2
  have hH5 : H2 ≤ 20000 := by omega
  clear hx hy hz hH2
  have hfd := field_words
  go_enter Tryz.func72, Tryz.ntmps72
  go_wp2_with (fail)
  have HB : Hid (HBx w (w.alloc (.cells #[.bool s, .slice A2 n2 c2] 59)).drew s A2 n2 c2) := ⟨Bk.new w [.bool s, .slice A2 n2 c2] 59, ⟨rfl, rfl, rfl, by simp [World.drew], fun i hi => Below.heap_alloc w _ i hi⟩, by simp [World.drew]⟩
  have E0 := (HB.out.1 0 _ rfl).1
  have E1 := (HB.out.1 1 _ rfl).1
  go_region_held3 (fun w' => w'.cell? ⟨w.heap.size, 0, none⟩ = some (.bool s) ∧ w'.cell? ⟨w.heap.size, 1, none⟩ = some (.slice A2 n2 c2)) (first | exact ⟨E0, E1⟩ | exact ⟨(HB.out.1 0 _ rfl).1, (HB.out.1 1 _ rfl).1⟩ | go_keep)
    (first
      | (go_at_call 25; refine (placed_ok _ _ _ _ _).mono ?_; rintro e w1 ⟨rfl, hb1⟩; replace HB := Lib.hid (HB.out.keep hb1); clear hb1)
      | (go_at_call 27; refine (fsum_ok (hterms A A' A2 n n' n2 c c' c2 ls hs gs s h) _ 5 5 50000 _ (by omega) (Tl.new rfl (by omega) (by rw [HH.out]; rfl) (hterms_all (Hx.out.1.below HB.out.2.1) (Hx.out.2.1.below HB.out.2.1) (Hx.out.2.2.below HB.out.2.1))) (hterms_len (by omega) (by omega) (by omega) (by omega)) (by omega) (by simp only [wsum, hterms, List.map_cons, List.map_nil]; decide)).mono ?_; rintro e w3 ⟨s3, A3, n3, c3, zs, rfl, hS, hb3⟩; have HS := Lib.hid (And.intro hS (show w.heap.size ≤ _ from HB.out.2.1.size)); replace HB := Lib.hid ((HB.out.keep ((Below.refl _ _).alloc (Nat.le_refl _) _)).keep hb3); clear hS hb3))
  go_wp2_with (fail)
  go_ret
  refine ⟨s3, A3, n3, c3, zs, rfl, ?_, HB.out.2.1⟩
  exact HS.out.1.base (by simp; have := HS.out.2; omega)
theorem SumW.nat {w w' : World} {e : Ending} {x : Nat} {S : Int} (h : SumW w w' e S) (hS : S = x) : Rv w w' e x := by
  obtain ⟨s, A, n, c, zs, rfl, ⟨h1, h2, h3, h4⟩, h5⟩ := h
  refine ⟨_, rfl, ⟨n, zs, h1, h2, ?_⟩, h5⟩
  cases s with
  | false => simp [sgn] at h3; omega
  | true =>
    have := h4 rfl
    simp [sgn] at h3
    omega
/-- three products make one -/
theorem halves_sum {A A' A2 : Option Addr} {n n' n2 c c' c2 : Nat} {ls hs gs : List Nat} {s : Bool} {h x0 x1 y0 y1 : Nat} (hl : V ls = x0 * y0) (hh : V hs = x1 * y1) (hg : sgn s (V gs) = ((x1 : Int) - x0) * ((y1 : Int) - y0)) :
    tsum (hterms A A' A2 n n' n2 c c' c2 ls hs gs s h) = (((x0 + x1 * B64 ^ h) * (y0 + y1 * B64 ^ h) : Nat) : Int) := by
  rw [hterms_sum, hg, hl, hh, show 2 * h = h + h by omega, Nat.pow_add]
  simp only [Int.natCast_mul, Int.natCast_add]
  generalize ((B64 ^ h : Nat) : Int) = p
  grind
end Go.Proofs.YthpgdpkemnhneaaGreatDoor

namespace Go.Proofs.YthpgdpkemnhneaaGreatDoor
open Go.RowKit Go.Shelf
set_option linter.unusedVariables false
set_option linter.unusedSimpArgs false
set_option maxRecDepth 10000

/-- an element of an array's value -/
theorem wpList_index {P : Program} {w : World} {ops : Array Oper} {rest : List Oper} {o : Oper} {a : Act} {Q : Exit → Act → World → Prop} {t : TypeId} {x i : Operand} (hg : o.guard = none) (hop : o.op = Op.index t x i) (v : Value)
    (hrun : ∀ w, (Instr.index t (a.eval x) (a.eval i)).run P w = .ok v w) (h : wpList P ops Q rest (a.put o.dst v) w) : wpList P ops Q (o :: rest) a w := by
  refine wpList_plain hg fun K hK => ?_
  unfold Oper.wp
  simp only [execOp, hop, Sem.run_bind, hrun, Result.andThen_ok, Sem.run_pure]
  exact hK _ _ h
/-- a signed number somewhere -/
structure Sn where
  s : Bool
  A : Option Addr
  n : Nat
  c : Nat
  xs : List Nat
/-- its value -/
def Sn.v (a : Sn) : Int := sgn a.s (V a.xs)
/-- it holds a number -/
def Sn.ok (w : World) (a : Sn) : Prop := Sl w a.A a.n a.c a.xs ∧ a.n ≤ 40000
theorem Sn.ok.below {w w' : World} {a : Sn} (h : a.ok w) (hb : Below w.heap.size w w') : a.ok w' := ⟨h.1.below hb, h.2⟩
/-- the cells of five signed numbers -/
abbrev snL (a b c d e : Sn) : List Value := [.bool a.s, .slice a.A a.n a.c, .bool b.s, .slice b.A b.n b.c, .bool c.s, .slice c.A c.n c.c, .bool d.s, .slice d.A d.n d.c, .bool e.s, .slice e.A e.n e.c]
abbrev snV (a b c d e : Sn) : Value := .agg #[.bool a.s, .slice a.A a.n a.c, .bool b.s, .slice b.A b.n b.c, .bool c.s, .slice c.A c.n c.c, .bool d.s, .slice d.A d.n d.c, .bool e.s, .slice e.A e.n e.c]
abbrev wtV (a b c d e : Int) : Value := .agg #[.int .i64 a, .int .i64 b, .int .i64 c, .int .i64 d, .int .i64 e]
theorem Tryz.info61 : (Tryz.prog.info? 61).map (fun i => (i.zero, i.size, i.bytes)) = some (some (.agg #[.bool false, .slice none 0 0, .int .i64 0, .int .i64 0]), 4, 48) := by kernel_rfl
abbrev snT (a : Sn) (w : Int) : Tm := ⟨a.s, a.A, a.n, a.c, a.xs, w, 0⟩
/-- the terms of those whose weight is not 0 -/
def wterms : List Sn → List Int → List Tm
  | a :: al, w :: wl => if w = 0 then wterms al wl else snT a w :: wterms al wl
  | _, _ => []
theorem wterms_succ : ∀ (k : Nat) (al : List Sn) (wl : List Int) (a : Sn) (w : Int), al[k]? = some a → wl[k]? = some w → wterms (al.take (k + 1)) (wl.take (k + 1)) = wterms (al.take k) (wl.take k) ++ (if w = 0 then [] else [snT a w])
  | 0, b :: bl, v :: vl, a, w, h1, h2 => by
    simp at h1 h2
    subst h1 h2
    simp [wterms]
  | k + 1, b :: bl, v :: vl, a, w, h1, h2 => by
    rw [List.getElem?_cons_succ] at h1 h2
    have ih := wterms_succ k bl vl a w h1 h2
    rw [List.take_succ_cons, List.take_succ_cons, List.take_succ_cons, List.take_succ_cons, wterms, wterms, ih]
    split <;> simp
  | _, [], _, a, w, h1, h2 => by simp at h1
  | _, _ :: _, [], a, w, h1, h2 => by simp at h2
theorem tvs_app (ts : List Tm) (t : Tm) : tvs (ts ++ [t]) = tvs ts ++ tcs t := by simp [tvs]
theorem tval_sn (a : Sn) (w : Int) : tval (snT a w) = a.v * w := by simp [tval, Sn.v]
theorem tsum_cons (t : Tm) (ts : List Tm) : tsum (t :: ts) = tval t + tsum ts := by simp [tsum]
theorem wterms_sum : ∀ (al : List Sn) (wl : List Int), tsum (wterms al wl) = ((al.zip wl).map fun p => p.1.v * p.2).sum
  | a :: al, w :: wl => by
    rw [wterms, List.zip_cons_cons, List.map_cons, List.sum_cons]
    split
    · rename_i h
      rw [wterms_sum al wl, h, Int.mul_zero, Int.zero_add]
    · rw [tsum_cons, tval_sn, wterms_sum al wl]
  | [], _ => by simp [wterms, tsum]
  | _ :: _, [] => by simp [wterms, tsum]
theorem wterms_mem : ∀ (al : List Sn) (wl : List Int) (t : Tm), t ∈ wterms al wl → ∃ a ∈ al, ∃ w ∈ wl, t = snT a w
  | a :: al, w :: wl, t, h => by
    rw [wterms] at h
    split at h
    · obtain ⟨b, hb, v, hv, e⟩ := wterms_mem al wl t h
      exact ⟨b, by simp [hb], v, by simp [hv], e⟩
    · rcases List.mem_cons.1 h with e | h
      · exact ⟨a, by simp, w, by simp, e⟩
      · obtain ⟨b, hb, v, hv, e⟩ := wterms_mem al wl t h
        exact ⟨b, by simp [hb], v, by simp [hv], e⟩
  | [], _, t, h => by simp [wterms] at h
  | _ :: _, [], t, h => by simp [wterms] at h
theorem wterms_wsum : ∀ (al : List Sn) (wl : List Int), wsum (wterms al wl) ≤ (wl.map Int.natAbs).sum
  | a :: al, w :: wl => by
    rw [wterms, List.map_cons, List.sum_cons]
    have := wterms_wsum al wl
    split
    · omega
    · rw [show wsum (snT a w :: wterms al wl) = w.natAbs + wsum (wterms al wl) by simp [wsum]]; omega
  | [], _ => by simp [wterms, wsum]
  | _ :: _, [] => by simp [wterms, wsum]
theorem wterms_len : ∀ (al : List Sn) (wl : List Int), (wterms al wl).length ≤ al.length
  | a :: al, w :: wl => by
    rw [wterms]
    have := wterms_len al wl
    split <;> simp <;> omega
  | [], _ => by simp [wterms]
  | _ :: _, [] => by simp [wterms]
/-- an own row of terms is a slice of terms -/
theorem Tl.own {w : World} {base : Nat} {A : Option Addr} {m c : Nat} {ts : List Tm} (h : w.ownsRow base 61 4 (.slice A m c) m (tvs ts)) (hm : ts.length = m) (ht : ∀ t ∈ ts, Sl w t.A t.n t.c t.xs) : Tl w A m c ts := by
  have hl : (tvs ts).length = 4 * ts.length := by
    clear h hm ht
    induction ts with
    | nil => rfl
    | cons a al ih => rw [tvs, List.flatMap_cons, List.length_append, ← tvs, ih, List.length_cons]; simp [tcs]; omega
  rcases h.2 with ⟨hv, h0⟩ | ⟨g, cap, cur, hv, hg, hh, hn, hc, hs, ht2⟩
  · injection hv with e1 e2 e3
    subst e1 e2 e3
    exact ⟨hm, Nat.le_refl _, by omega, by rw [show tvs ts = [] from List.eq_nil_of_length_eq_zero (by rw [hl, hm])]; exact Rd.nil, ht⟩
  · injection hv with e1 e2 e3
    subst e1 e3
    refine ⟨hm, hn, hc, fun _ => ⟨g, 0, rfl, (Array.getElem?_eq_some_iff.1 hh).1, fun j u hu => ?_⟩, ht⟩
    rw [Nat.zero_add, cell_of_row w g j cur _ _ hh]
    rw [← ht2, List.getElem?_take] at hu
    split at hu
    · simpa using hu
    · cases hu

theorem own_slice {w : World} {base : Nat} {e : TypeId} {size : Nat} {v : Value} {n : Nat} {vs : List Value} (h : w.ownsRow base e size v n vs) : ∃ A c, v = .slice A n c := by
  rcases h.2 with ⟨rfl, rfl⟩ | ⟨g, cap, cur, rfl, _⟩
  · exact ⟨none, 0, rfl⟩
  · exact ⟨_, cap, rfl⟩
/-- the boxes of weighed's arguments, and its result's place -/
def WB (w W : World) (a b c d e : Sn) (p q r s t : Int) : Prop := Bk W w.heap.size (snL a b c d e) ∧ Bk W (w.heap.size + 1) [.int .i64 p, .int .i64 q, .int .i64 r, .int .i64 s, .int .i64 t] ∧ Bk W (w.heap.size + 2) [.bool false, .slice none 0 0] ∧ Below w.heap.size w W ∧ w.heap.size + 2 < W.heap.size
theorem WB.grown {w W W' : World} {a b c d e : Sn} {p q r s t : Int} (h : WB w W a b c d e p q r s t) (hb : Below (w.heap.size + 3) W W') : WB w W' a b c d e p q r s t :=
  ⟨h.1.below hb (by omega), h.2.1.below hb (by omega), h.2.2.1.below hb (by omega), h.2.2.2.1.trans (hb.mono (by omega)), Nat.lt_of_lt_of_le h.2.2.2.2 hb.size⟩

/-- the terms of the first k -/
def LT (a b c d e : Sn) (p q r s t : Int) (k : Nat) : List Tm := wterms ([a, b, c, d, e].take k) ([p, q, r, s, t].take k)
theorem LT_succ {a b c d e : Sn} {p q r s t : Int} (k : Nat) (x : Sn) (y : Int) (h1 : [a, b, c, d, e][k]? = some x) (h2 : [p, q, r, s, t][k]? = some y) : LT a b c d e p q r s t (k + 1) = LT a b c d e p q r s t k ++ (if y = 0 then [] else [snT x y]) := wterms_succ k _ _ x y h1 h2
theorem LT_len {a b c d e : Sn} {p q r s t : Int} {k : Nat} : (LT a b c d e p q r s t k).length ≤ 5 := Nat.le_trans (wterms_len _ _) (by rw [List.length_take]; simp; omega)
theorem LT_mem {w W : World} {a b c d e : Sn} {p q r s t : Int} {k : Nat} (hb : Below w.heap.size w W) (h : ∀ x ∈ [a, b, c, d, e], x.ok w) : ∀ x ∈ LT a b c d e p q r s t k, Sl W x.A x.n x.c x.xs ∧ x.pl + x.n ≤ 50000 := by
  intro x hx
  obtain ⟨y, hy, v, _, rfl⟩ := wterms_mem _ _ _ hx
  have h1 := (h y (List.mem_of_mem_take hy)).below hb
  exact ⟨h1.1, by have := h1.2; simp only; omega⟩
theorem WB.start {w w1 : World} {a b c d e : Sn} {p q r s t : Int}
    (h : Below (((w.alloc (.cells (snL a b c d e).toArray 72)).alloc (.cells #[.int .i64 p, .int .i64 q, .int .i64 r, .int .i64 s, .int .i64 t] 101)).alloc (.cells #[.bool false, .slice none 0 0] 59)).heap.size (((w.alloc (.cells (snL a b c d e).toArray 72)).alloc (.cells #[.int .i64 p, .int .i64 q, .int .i64 r, .int .i64 s, .int .i64 t] 101)).alloc (.cells #[.bool false, .slice none 0 0] 59)) w1) : WB w w1 a b c d e p q r s t := by
  simp only [World.size_alloc] at h
  have k1 := ((Bk.new w (snL a b c d e) 72).below ((Below.refl _ _).alloc (Nat.le_refl _) (.cells #[.int .i64 p, .int .i64 q, .int .i64 r, .int .i64 s, .int .i64 t] 101)) (by simp)).below ((Below.refl _ _).alloc (Nat.le_refl _) (.cells #[.bool false, .slice none 0 0] 59)) (by simp; omega)
  have k2 := (Bk.new (w.alloc (.cells (snL a b c d e).toArray 72)) [.int .i64 p, .int .i64 q, .int .i64 r, .int .i64 s, .int .i64 t] 101).below ((Below.refl _ _).alloc (Nat.le_refl _) (.cells #[.bool false, .slice none 0 0] 59)) (by simp)
  have k3 := Bk.new ((w.alloc (.cells (snL a b c d e).toArray 72)).alloc (.cells #[.int .i64 p, .int .i64 q, .int .i64 r, .int .i64 s, .int .i64 t] 101)) [.bool false, .slice none 0 0] 59
  simp only [World.size_alloc] at k2 k3
  exact ⟨k1.below h (by omega), k2.below h (by omega), k3.below h (by omega), ((((Below.refl _ w).alloc (Nat.le_refl _) _).alloc (by simp) _).alloc (by simp; omega) _).trans (h.mono (by omega)), by have := h.size; simp at this; omega⟩
set_option maxHeartbeats 4000000 in
theorem weighed_ok (a b c d e : Sn) (p q r s t : Int) (w : World) (ha : a.ok w) (hb : b.ok w) (hc : c.ok w) (hd : d.ok w) (he : e.ok w) (hw : ([p, q, r, s, t].map Int.natAbs).sum ≤ 1000) :
    Calls Tryz.prog 65 #[snV a b c d e, wtV p q r s t] w fun z w' => SumR w w' z (a.v * p + (b.v * q + (c.v * r + (d.v * s + e.v * t)))) := by
  obtain ⟨i0, hi, hz0, hz1, hz2⟩ := info_parts Tryz.info61
  have Hx := Lib.hid (show ∀ x ∈ [a, b, c, d, e], x.ok w by intro x hx; simp only [List.mem_cons, List.not_mem_nil, or_false] at hx; rcases hx with h | h | h | h | h <;> (rw [h]; assumption))
  have Hw := Lib.hid hw
  clear ha hb hc hd he hw
  go_enter Tryz.func65, Tryz.ntmps65
  go_wp2_with (at_make; refine wpList_make_own _ rfl _ _ 55 rfl (w.heap.size + 3) 61 i0 (.agg #[.bool false, .slice none 0 0, .int .i64 0, .int .i64 0]) 4 Tryz.underlying55 hi hz0 hz1 .i64 .i64 _ 5 rfl rfl rfl (by rw [hz2]; omega) (by unfold maxLen; omega) (by simp only [World.size_alloc]; omega) ?_)
  intro w1 hown hgrow
  have HW : Hid (WB w w1 a b c d e p q r s t) := WB.start (below_of_grown hgrow (Nat.le_refl _))
  have HO := Lib.hid hown
  obtain ⟨g0, -⟩ := HW.out.2.1 0 _ rfl
  obtain ⟨g1, -⟩ := HW.out.2.1 1 _ rfl
  obtain ⟨g2, -⟩ := HW.out.2.1 2 _ rfl
  obtain ⟨g3, -⟩ := HW.out.2.1 3 _ rfl
  obtain ⟨g4, -⟩ := HW.out.2.1 4 _ rfl
  clear hown hgrow
  go_wp2_with (fail)
  clear g0 g1 g2 g3 g4
  go_loopw [5, 6, 7, 10] (fun v _ _ iv wr => ∃ k : Nat, k ≤ 5 ∧ iv = .int .i64 k ∧ Hid (wr.ownsRow (w.heap.size + 3) 61 4 v (LT a b c d e p q r s t k).length (tvs (LT a b c d e p q r s t k)) ∧ WB w wr a b c d e p q r s t)) (fun _ _ _ iv _ => 5 - (intOf iv).toNat)
  case atStart => exact ⟨0, by omega, rfl, HO.out, HW.out⟩
  case round =>
    clear HW HO
    obtain ⟨k, hk, rfl, H⟩ := hrel
    rcases (show k = 0 ∨ k = 1 ∨ k = 2 ∨ k = 3 ∨ k = 4 ∨ k = 5 by omega) with rfl | rfl | rfl | rfl | rfl | rfl
    · -- round 0
      obtain ⟨c0, -⟩ := H.out.2.1 0 _ rfl
      obtain ⟨c1, -⟩ := H.out.2.1 1 _ rfl
      by_cases h0 : p = 0
      · have hb1 : (p != 0) = false := by simp [h0]
        have hb2 : (p == 0) = true := by simp [h0]
        have HN : Hid (wr.ownsRow (w.heap.size + 3) 61 4 u5 (LT a b c d e p q r s t 1).length (tvs (LT a b c d e p q r s t 1)) ∧ WB w wr a b c d e p q r s t) := by
          have e1 : LT a b c d e p q r s t 1 = LT a b c d e p q r s t 0 := by rw [LT_succ 0 a p rfl rfl, if_pos h0, List.append_nil]
          rw [e1]
          exact H.out
        clear h0 H
        go_wp2_with (refine wpList_index rfl rfl (.int .i64 p) (fun w => by kernel_rfl) ?_)
        refine ⟨⟨1, by omega, rfl, HN⟩, ?_⟩
        simp [intOf]
      · have hb1 : (p != 0) = true := by simp [h0]
        have hb2 : (p == 0) = false := by simp [h0]
        have hl5 : (LT a b c d e p q r s t 0).length ≤ 5 := LT_len
        have hws := H.out.2.2.2.2.2
        go_wp2_with (first | (refine wpList_index rfl rfl (.int .i64 p) (fun w => by kernel_rfl) ?_) | (at_builtin; refine wpList_append_own_at _ rfl (.tmp 16) (.tmp 22) 55 rfl (w.heap.size + 3) 61 i0 (.agg #[.bool false, .slice none 0 0, .int .i64 0, .int .i64 0]) 4 48 Tryz.underlying55 hi hz0 hz1 hz2 rfl (by omega) u5 _ _ rfl (H.out.1.alloc _) ⟨wr.heap.size, 0, none⟩ 1 1 (tcs (snT a p)) rfl rfl (World.news_of_block (heap_alloc_new wr _)) (by simp [tcs, Value.oneCell']) (by unfold maxLen; omega) (by omega) (by simp; omega) ?_))
        intro v' w2 hown2 hgrow2 hnil2 hblk2
        have HN : Hid (w2.ownsRow (w.heap.size + 3) 61 4 v' (LT a b c d e p q r s t 1).length (tvs (LT a b c d e p q r s t 1)) ∧ WB w w2 a b c d e p q r s t) := by
          rw [LT_succ 0 a p rfl rfl, if_neg h0, tvs_app, List.length_append, List.length_singleton]
          exact ⟨hown2, H.out.2.grown (((Below.refl _ wr).alloc (by omega) _).grown hgrow2 (by simp; omega) (fun j hj => (H.out.1.lt j hj).1))⟩
        clear h0 H hown2 hgrow2 hnil2 hblk2
        go_wp2_with (fail)
        refine ⟨⟨1, by omega, rfl, HN⟩, ?_⟩
        simp [intOf]
    · -- round 1
      obtain ⟨c0, -⟩ := H.out.2.1 2 _ rfl
      obtain ⟨c1, -⟩ := H.out.2.1 3 _ rfl
      by_cases h0 : q = 0
      · have hb1 : (q != 0) = false := by simp [h0]
        have hb2 : (q == 0) = true := by simp [h0]
        have HN : Hid (wr.ownsRow (w.heap.size + 3) 61 4 u5 (LT a b c d e p q r s t 2).length (tvs (LT a b c d e p q r s t 2)) ∧ WB w wr a b c d e p q r s t) := by
          have e1 : LT a b c d e p q r s t 2 = LT a b c d e p q r s t 1 := by rw [LT_succ 1 b q rfl rfl, if_pos h0, List.append_nil]
          rw [e1]
          exact H.out
        clear h0 H
        go_wp2_with (refine wpList_index rfl rfl (.int .i64 q) (fun w => by kernel_rfl) ?_)
        refine ⟨⟨2, by omega, rfl, HN⟩, ?_⟩
        simp [intOf]
      · have hb1 : (q != 0) = true := by simp [h0]
        have hb2 : (q == 0) = false := by simp [h0]
        have hl5 : (LT a b c d e p q r s t 1).length ≤ 5 := LT_len
        have hws := H.out.2.2.2.2.2
        go_wp2_with (first | (refine wpList_index rfl rfl (.int .i64 q) (fun w => by kernel_rfl) ?_) | (at_builtin; refine wpList_append_own_at _ rfl (.tmp 16) (.tmp 22) 55 rfl (w.heap.size + 3) 61 i0 (.agg #[.bool false, .slice none 0 0, .int .i64 0, .int .i64 0]) 4 48 Tryz.underlying55 hi hz0 hz1 hz2 rfl (by omega) u5 _ _ rfl (H.out.1.alloc _) ⟨wr.heap.size, 0, none⟩ 1 1 (tcs (snT b q)) rfl rfl (World.news_of_block (heap_alloc_new wr _)) (by simp [tcs, Value.oneCell']) (by unfold maxLen; omega) (by omega) (by simp; omega) ?_))
        intro v' w2 hown2 hgrow2 hnil2 hblk2
        have HN : Hid (w2.ownsRow (w.heap.size + 3) 61 4 v' (LT a b c d e p q r s t 2).length (tvs (LT a b c d e p q r s t 2)) ∧ WB w w2 a b c d e p q r s t) := by
          rw [LT_succ 1 b q rfl rfl, if_neg h0, tvs_app, List.length_append, List.length_singleton]
          exact ⟨hown2, H.out.2.grown (((Below.refl _ wr).alloc (by omega) _).grown hgrow2 (by simp; omega) (fun j hj => (H.out.1.lt j hj).1))⟩
        clear h0 H hown2 hgrow2 hnil2 hblk2
        go_wp2_with (fail)
        refine ⟨⟨2, by omega, rfl, HN⟩, ?_⟩
        simp [intOf]
    · -- round 2
      obtain ⟨c0, -⟩ := H.out.2.1 4 _ rfl
      obtain ⟨c1, -⟩ := H.out.2.1 5 _ rfl
      by_cases h0 : r = 0
      · have hb1 : (r != 0) = false := by simp [h0]
        have hb2 : (r == 0) = true := by simp [h0]
        have HN : Hid (wr.ownsRow (w.heap.size + 3) 61 4 u5 (LT a b c d e p q r s t 3).length (tvs (LT a b c d e p q r s t 3)) ∧ WB w wr a b c d e p q r s t) := by
          have e1 : LT a b c d e p q r s t 3 = LT a b c d e p q r s t 2 := by rw [LT_succ 2 c r rfl rfl, if_pos h0, List.append_nil]
          rw [e1]
          exact H.out
        clear h0 H
        go_wp2_with (refine wpList_index rfl rfl (.int .i64 r) (fun w => by kernel_rfl) ?_)
        refine ⟨⟨3, by omega, rfl, HN⟩, ?_⟩
        simp [intOf]
      · have hb1 : (r != 0) = true := by simp [h0]
        have hb2 : (r == 0) = false := by simp [h0]
        have hl5 : (LT a b c d e p q r s t 2).length ≤ 5 := LT_len
        have hws := H.out.2.2.2.2.2
        go_wp2_with (first | (refine wpList_index rfl rfl (.int .i64 r) (fun w => by kernel_rfl) ?_) | (at_builtin; refine wpList_append_own_at _ rfl (.tmp 16) (.tmp 22) 55 rfl (w.heap.size + 3) 61 i0 (.agg #[.bool false, .slice none 0 0, .int .i64 0, .int .i64 0]) 4 48 Tryz.underlying55 hi hz0 hz1 hz2 rfl (by omega) u5 _ _ rfl (H.out.1.alloc _) ⟨wr.heap.size, 0, none⟩ 1 1 (tcs (snT c r)) rfl rfl (World.news_of_block (heap_alloc_new wr _)) (by simp [tcs, Value.oneCell']) (by unfold maxLen; omega) (by omega) (by simp; omega) ?_))
        intro v' w2 hown2 hgrow2 hnil2 hblk2
        have HN : Hid (w2.ownsRow (w.heap.size + 3) 61 4 v' (LT a b c d e p q r s t 3).length (tvs (LT a b c d e p q r s t 3)) ∧ WB w w2 a b c d e p q r s t) := by
          rw [LT_succ 2 c r rfl rfl, if_neg h0, tvs_app, List.length_append, List.length_singleton]
          exact ⟨hown2, H.out.2.grown (((Below.refl _ wr).alloc (by omega) _).grown hgrow2 (by simp; omega) (fun j hj => (H.out.1.lt j hj).1))⟩
        clear h0 H hown2 hgrow2 hnil2 hblk2
        go_wp2_with (fail)
        refine ⟨⟨3, by omega, rfl, HN⟩, ?_⟩
        simp [intOf]
    · -- round 3
      obtain ⟨c0, -⟩ := H.out.2.1 6 _ rfl
      obtain ⟨c1, -⟩ := H.out.2.1 7 _ rfl
      by_cases h0 : s = 0
      · have hb1 : (s != 0) = false := by simp [h0]
        have hb2 : (s == 0) = true := by simp [h0]
        have HN : Hid (wr.ownsRow (w.heap.size + 3) 61 4 u5 (LT a b c d e p q r s t 4).length (tvs (LT a b c d e p q r s t 4)) ∧ WB w wr a b c d e p q r s t) := by
          have e1 : LT a b c d e p q r s t 4 = LT a b c d e p q r s t 3 := by rw [LT_succ 3 d s rfl rfl, if_pos h0, List.append_nil]
          rw [e1]
          exact H.out
        clear h0 H
        go_wp2_with (refine wpList_index rfl rfl (.int .i64 s) (fun w => by kernel_rfl) ?_)
        refine ⟨⟨4, by omega, rfl, HN⟩, ?_⟩
        simp [intOf]
      · have hb1 : (s != 0) = true := by simp [h0]
        have hb2 : (s == 0) = false := by simp [h0]
        have hl5 : (LT a b c d e p q r s t 3).length ≤ 5 := LT_len
        have hws := H.out.2.2.2.2.2
        go_wp2_with (first | (refine wpList_index rfl rfl (.int .i64 s) (fun w => by kernel_rfl) ?_) | (at_builtin; refine wpList_append_own_at _ rfl (.tmp 16) (.tmp 22) 55 rfl (w.heap.size + 3) 61 i0 (.agg #[.bool false, .slice none 0 0, .int .i64 0, .int .i64 0]) 4 48 Tryz.underlying55 hi hz0 hz1 hz2 rfl (by omega) u5 _ _ rfl (H.out.1.alloc _) ⟨wr.heap.size, 0, none⟩ 1 1 (tcs (snT d s)) rfl rfl (World.news_of_block (heap_alloc_new wr _)) (by simp [tcs, Value.oneCell']) (by unfold maxLen; omega) (by omega) (by simp; omega) ?_))
        intro v' w2 hown2 hgrow2 hnil2 hblk2
        have HN : Hid (w2.ownsRow (w.heap.size + 3) 61 4 v' (LT a b c d e p q r s t 4).length (tvs (LT a b c d e p q r s t 4)) ∧ WB w w2 a b c d e p q r s t) := by
          rw [LT_succ 3 d s rfl rfl, if_neg h0, tvs_app, List.length_append, List.length_singleton]
          exact ⟨hown2, H.out.2.grown (((Below.refl _ wr).alloc (by omega) _).grown hgrow2 (by simp; omega) (fun j hj => (H.out.1.lt j hj).1))⟩
        clear h0 H hown2 hgrow2 hnil2 hblk2
        go_wp2_with (fail)
        refine ⟨⟨4, by omega, rfl, HN⟩, ?_⟩
        simp [intOf]
    · -- round 4
      obtain ⟨c0, -⟩ := H.out.2.1 8 _ rfl
      obtain ⟨c1, -⟩ := H.out.2.1 9 _ rfl
      by_cases h0 : t = 0
      · have hb1 : (t != 0) = false := by simp [h0]
        have hb2 : (t == 0) = true := by simp [h0]
        have HN : Hid (wr.ownsRow (w.heap.size + 3) 61 4 u5 (LT a b c d e p q r s t 5).length (tvs (LT a b c d e p q r s t 5)) ∧ WB w wr a b c d e p q r s t) := by
          have e1 : LT a b c d e p q r s t 5 = LT a b c d e p q r s t 4 := by rw [LT_succ 4 e t rfl rfl, if_pos h0, List.append_nil]
          rw [e1]
          exact H.out
        clear h0 H
        go_wp2_with (refine wpList_index rfl rfl (.int .i64 t) (fun w => by kernel_rfl) ?_)
        refine ⟨⟨5, by omega, rfl, HN⟩, ?_⟩
        simp [intOf]
      · have hb1 : (t != 0) = true := by simp [h0]
        have hb2 : (t == 0) = false := by simp [h0]
        have hl5 : (LT a b c d e p q r s t 4).length ≤ 5 := LT_len
        have hws := H.out.2.2.2.2.2
        go_wp2_with (first | (refine wpList_index rfl rfl (.int .i64 t) (fun w => by kernel_rfl) ?_) | (at_builtin; refine wpList_append_own_at _ rfl (.tmp 16) (.tmp 22) 55 rfl (w.heap.size + 3) 61 i0 (.agg #[.bool false, .slice none 0 0, .int .i64 0, .int .i64 0]) 4 48 Tryz.underlying55 hi hz0 hz1 hz2 rfl (by omega) u5 _ _ rfl (H.out.1.alloc _) ⟨wr.heap.size, 0, none⟩ 1 1 (tcs (snT e t)) rfl rfl (World.news_of_block (heap_alloc_new wr _)) (by simp [tcs, Value.oneCell']) (by unfold maxLen; omega) (by omega) (by simp; omega) ?_))
        intro v' w2 hown2 hgrow2 hnil2 hblk2
        have HN : Hid (w2.ownsRow (w.heap.size + 3) 61 4 v' (LT a b c d e p q r s t 5).length (tvs (LT a b c d e p q r s t 5)) ∧ WB w w2 a b c d e p q r s t) := by
          rw [LT_succ 4 e t rfl rfl, if_neg h0, tvs_app, List.length_append, List.length_singleton]
          exact ⟨hown2, H.out.2.grown (((Below.refl _ wr).alloc (by omega) _).grown hgrow2 (by simp; omega) (fun j hj => (H.out.1.lt j hj).1))⟩
        clear h0 H hown2 hgrow2 hnil2 hblk2
        go_wp2_with (fail)
        refine ⟨⟨5, by omega, rfl, HN⟩, ?_⟩
        simp [intOf]
    · obtain ⟨A, c', rfl⟩ := own_slice H.out.1
      obtain ⟨m, hm⟩ : ∃ m, (LT a b c d e p q r s t 5).length = m := ⟨_, rfl⟩
      have hm5 : m ≤ 5 := by rw [← hm]; exact LT_len
      rw [hm] at H ⊢
      have hmem := LT_mem (p := p) (q := q) (r := r) (s := s) (t := t) (k := 5) H.out.2.2.2.2.1 Hx.out
      go_wp2_with (fail)
      refine (fsum_ok (LT a b c d e p q r s t 5) A m c' 50000 _ (by omega) (Tl.own H.out.1 hm (fun x hx => (hmem x hx).1)) (fun x hx => (hmem x hx).2) (by omega) (Nat.lt_of_le_of_lt (Nat.le_trans (wterms_wsum _ _) Hw.out) (by decide))).mono ?_
      rintro e' w3 ⟨s3, A3, n3, c3, zs, rfl, hS, hb3⟩
      have hk := H.out.2.2.2.1.below hb3 H.out.2.2.2.2.2
      obtain ⟨p0, f0⟩ := hk 0 _ rfl
      obtain ⟨p1, f1⟩ := hk 1 _ rfl
      have HS := Lib.hid (And.intro hS (And.intro (H.out.2.2.2.2.1.trans (hb3.mono H.out.2.2.2.2.1.size)) (And.intro H.out.2.2.2.2.1.size H.out.2.2.2.2.2)))
      clear hS hb3 hk hmem H hm
      go_wp2_with (fail)
      exact bodyPost_ret (v := .agg #[.bool s3, .slice A3 n3 c3]) (by simp [results, Tryz.results65, go_sem, World.cell?_setCell_same', p0, p1]) rfl ⟨s3, A3, n3, c3, zs, rfl, HS.out.1.put2 HS.out.2.2.1 HS.out.2.2.2 (by rw [LT, wterms_sum]; simp), (HS.out.2.1.setCell (p := ⟨w.heap.size + 2, 0, none⟩) (by show w.heap.size ≤ w.heap.size + 2; omega) _).setCell (p := ⟨w.heap.size + 2, 1, none⟩) (by show w.heap.size ≤ w.heap.size + 2; omega) _⟩
end Go.Proofs.YthpgdpkemnhneaaGreatDoor

namespace Go.Proofs.YthpgdpkemnhneaaGreatDoor
open Go.RowKit Go.Shelf
set_option linter.unusedVariables false
set_option linter.unusedSimpArgs false
set_option maxRecDepth 10000

def Sn.zero : Sn := ⟨false, none, 0, 0, []⟩
def sncs (a : Sn) : List Value := [.bool a.s, .slice a.A a.n a.c]
/-- block b holds five signed numbers R, made since w0, with the values S -/
def Arr (w0 W : World) (b : Nat) (R : List Sn) (S : List Int) : Prop :=
  Bk W b (R.flatMap sncs) ∧ R.length = 5 ∧ S.length = 5 ∧ b < w0.heap.size ∧ w0.heap.size ≤ W.heap.size ∧ ∀ (i : Nat) (r : Sn) (s : Int), R[i]? = some r → S[i]? = some s → Sg w0 W r.s r.A r.n r.c r.xs s
theorem Arr.below {w0 W W' : World} {b : Nat} {R : List Sn} {S : List Int} (h : Arr w0 W b R S) (hb : Below W.heap.size W W') : Arr w0 W' b R S :=
  ⟨h.1.below hb (Nat.lt_of_lt_of_le h.2.2.2.1 h.2.2.2.2.1), h.2.1, h.2.2.1, h.2.2.2.1, Nat.le_trans h.2.2.2.2.1 hb.size, fun i r s h1 h2 => (h.2.2.2.2.2 i r s h1 h2).later (Nat.le_refl _) hb⟩
theorem Sg.zero (w W : World) : Sg w W false none 0 0 [] 0 := ⟨⟨rfl, Ws_nil, World.ownsRow_nil _ _ _ _⟩, Cn_nil, by simp [sgn, V], fun h => by cases h⟩
theorem flat_set : ∀ (R : List Sn) (k : Nat) (r : Sn), k < R.length → (R.set k r).flatMap sncs = ((R.flatMap sncs).set (2 * k) (.bool r.s)).set (2 * k + 1) (.slice r.A r.n r.c)
  | [], k, r, h => by simp at h
  | a :: R, 0, r, h => by simp [sncs]
  | a :: R, k + 1, r, h => by
    rw [List.set_cons_succ, List.flatMap_cons, flat_set R k r (by simpa using h), List.flatMap_cons]
    simp only [sncs, List.cons_append, List.nil_append, show 2 * (k + 1) = 2 * k + 1 + 1 by omega, show 2 * k + 1 + 1 + 1 = (2 * k + 1) + 1 + 1 by omega, List.set_cons_succ]
theorem Bk.set1 {W : World} {b : Nat} {vs : List Value} (h : Bk W b vs) (k : Nat) (u : Value) : Bk (W.setCell ⟨b, k, none⟩ u) b (vs.set k u) := fun j v hj => by
  rw [World.frozen?_setCell]
  by_cases hk : j = k
  · subst hk
    rw [List.getElem?_set_self'] at hj
    obtain ⟨x, hx, rfl⟩ := Option.map_eq_some_iff.1 hj
    exact ⟨World.cell?_setCell_same' _ _ _ (by rw [(h j x hx).1]; rfl), (h j x hx).2⟩
  · rw [List.getElem?_set_ne (by omega)] at hj
    exact ⟨by rw [World.cell?_setCell_other _ _ _ _ (by intro e; injection e with e1 e2; exact hk e2.symm)]; exact (h j v hj).1, (h j v hj).2⟩
/-- one of them is stored -/
theorem Arr.set {w0 W : World} {b : Nat} {R : List Sn} {S : List Int} (h : Arr w0 W b R S) (k : Nat) (r : Sn) (s : Int) (hk : k < 5) (hr : Sg w0 W r.s r.A r.n r.c r.xs s) :
    Arr w0 ((W.setCell ⟨b, 2 * k, none⟩ (.bool r.s)).setCell ⟨b, 2 * k + 1, none⟩ (.slice r.A r.n r.c)) b (R.set k r) (S.set k s) := by
  obtain ⟨h1, h2, h3, h4, h5, h6⟩ := h
  have keep : ∀ (r : Sn) (s : Int), Sg w0 W r.s r.A r.n r.c r.xs s → Sg w0 ((W.setCell ⟨b, 2 * k, none⟩ (.bool r.s)).setCell ⟨b, 2 * k + 1, none⟩ (.slice r.A r.n r.c)) r.s r.A r.n r.c r.xs s := fun r s h =>
    ⟨⟨h.1.1, h.1.2.1, own_kept (own_kept h.1.2.2 (grown_set W b _ _) h4) (grown_set _ b _ _) h4⟩, h.2⟩
  have keep2 : ∀ (u v : Value) (r : Sn) (s : Int), Sg w0 W r.s r.A r.n r.c r.xs s → Sg w0 ((W.setCell ⟨b, 2 * k, none⟩ u).setCell ⟨b, 2 * k + 1, none⟩ v) r.s r.A r.n r.c r.xs s := fun u v r s h =>
    ⟨⟨h.1.1, h.1.2.1, own_kept (own_kept h.1.2.2 (grown_set W b _ u) h4) (grown_set _ b _ v) h4⟩, h.2⟩
  refine ⟨by rw [flat_set R k r (by omega)]; exact (h1.set1 _ _).set1 _ _, by rw [List.length_set]; exact h2, by rw [List.length_set]; exact h3, h4, by simp [World.setCell]; exact h5, fun i r' s' hi hs => ?_⟩
  by_cases hik : i = k
  · subst hik
    rw [List.getElem?_set_self (by omega)] at hi hs
    injection hi with hi
    injection hs with hs
    subst hi hs
    exact keep2 _ _ r s hr
  · rw [List.getElem?_set_ne (by omega)] at hi hs
    exact keep2 _ _ r' s' (h6 i r' s' hi hs)
theorem Arr.start (w0 W : World) (b : Nat) (h : Bk W b [.bool false, .slice none 0 0, .bool false, .slice none 0 0, .bool false, .slice none 0 0, .bool false, .slice none 0 0, .bool false, .slice none 0 0]) (hb : b < w0.heap.size) (hw : w0.heap.size ≤ W.heap.size) :
    Arr w0 W b [Sn.zero, Sn.zero, Sn.zero, Sn.zero, Sn.zero] [0, 0, 0, 0, 0] := by
  refine ⟨h, rfl, rfl, hb, hw, fun i r s hi hs => ?_⟩
  have h1 : r = Sn.zero := by
    have := List.mem_of_getElem? hi
    simp at this
    exact this
  have h2 : s = 0 := by
    have := List.mem_of_getElem? hs
    simp at this
    exact this
  subst h1 h2
  exact Sg.zero _ _
/-- five of them, read -/
theorem list5 {α : Type} {l : List α} (h : l.length = 5) : ∃ a b c d e, l = [a, b, c, d, e] := by
  match l, h with
  | [a, b, c, d, e], _ => exact ⟨a, b, c, d, e, rfl⟩
/-- the cells of a table -/
def Tb (W : World) (g : Nat) (vs : List Value) : Prop := W.rangeAt g 0 vs
theorem Tb.below {W W' : World} {g : Nat} {vs : List Value} (h : Tb W g vs) (hb : Below W.heap.size W W') : Tb W' g vs := fun j v hj => by
  have h1 := h j v hj
  exact (hb.cell (World.block_lt_of_cell? _ _ h1)).trans h1
def ivs5 (l : List Int) : List Value := l.map fun x => .int .i64 x
def fiveL : List Int := [1, 0, 0, 0, 0, 1, 1, 1, 1, 1, 1, -1, 1, -1, 1, 1, 2, 4, 8, 16, 0, 0, 0, 0, 1]
def backL : List Int := [1, 0, 0, 0, 0, -3, 6, -2, -1, 12, -2, 1, 1, 0, -2, 3, -3, -1, 1, -12, 0, 0, 0, 0, 1]
def divL : List Value := [.int .u64 1, .int .u64 6, .int .u64 2, .int .u64 6, .int .u64 1]
/-- the three tables of package fast -/
def TabF (W : World) : Prop := Tb W 0 (ivs5 fiveL) ∧ Tb W 1 (ivs5 backL) ∧ Tb W 2 divL
theorem TabF.below {W W' : World} (h : TabF W) (hb : Below W.heap.size W W') : TabF W' := ⟨h.1.below hb, h.2.1.below hb, h.2.2.below hb⟩
/-- what a call answers that hands back five signed numbers -/
def FiveR (w w' : World) (z : Ending) (S : List Int) : Prop := ∃ a b c d e : Sn, z = .returned (snV a b c d e) ∧ S.length = 5 ∧ (∀ (i : Nat) (r : Sn) (s : Int), [a, b, c, d, e][i]? = some r → S[i]? = some s → Sg w w' r.s r.A r.n r.c r.xs s) ∧ Below w.heap.size w w'
/-- the five values -/
def fiveS (x : List Int) : List Int := match x with
  | [a, b, c, d, e] => [a, a + b + c + d + e, a - b + c - d + e, a + 2 * b + 4 * c + 8 * d + 16 * e, e]
  | _ => []

theorem flat_len (R : List Sn) : (R.flatMap sncs).length = 2 * R.length := by
  induction R with
  | nil => rfl
  | cons a R ih => rw [List.flatMap_cons, List.length_append, ih, List.length_cons]; simp [sncs]; omega
theorem Bk.range {W : World} {b : Nat} {vs : List Value} (h : Bk W b vs) : W.rangeAt b 0 vs := fun j v hj => by rw [Nat.zero_add]; exact (h j v hj).1
theorem range_alloc {W : World} {b : Nat} {vs : List Value} (h : W.rangeAt b 0 vs) (o : Obj) : (W.alloc o).rangeAt b 0 vs := World.rangeAt_alloc h o
theorem _root_.Go.World.rangeAt.alloc_ {W : World} {b : Nat} {vs : List Value} (h : W.rangeAt b 0 vs) (o : Obj) : (W.alloc o).rangeAt b 0 vs := World.rangeAt_alloc h o
theorem Bk.far {W : World} {b b' : Nat} {vs : List Value} (h : Bk W b vs) (hne : b ≠ b') (j : Nat) (u : Value) : Bk (W.setCell ⟨b', j, none⟩ u) b vs := fun i v hi => by
  rw [World.frozen?_setCell, World.cell?_setCell_other _ _ _ _ (by intro e; injection e with e1 e2; exact hne e1.symm)]
  exact h i v hi
def zero10 : List Value := [.bool false, .slice none 0 0, .bool false, .slice none 0 0, .bool false, .slice none 0 0, .bool false, .slice none 0 0, .bool false, .slice none 0 0]
/-- between two rounds of five: k values are there -/
def FvI (w X W : World) (a b c d e : Sn) (k : Nat) (R : List Sn) (S : List Int) : Prop :=
  Arr X W (w.heap.size + 2) R S ∧ (∀ i, i < k → S[i]? = (fiveS [a.v, b.v, c.v, d.v, e.v])[i]?) ∧ Bk W w.heap.size (snL a b c d e) ∧ Bk W (w.heap.size + 1) zero10 ∧ Below w.heap.size w W ∧ w.heap.size + 3 = X.heap.size
theorem FvI.next {w X W W' : World} {a b c d e : Sn} {k : Nat} {R : List Sn} {S : List Int} {r : Sn} {s : Int} (hk : k < 5) (h : FvI w X W a b c d e k R S) (hb : Below W.heap.size W W') (hr : Sg X W' r.s r.A r.n r.c r.xs s) (hs : (fiveS [a.v, b.v, c.v, d.v, e.v])[k]? = some s) :
    FvI w X ((W'.setCell ⟨w.heap.size + 2, 2 * k, none⟩ (.bool r.s)).setCell ⟨w.heap.size + 2, 2 * k + 1, none⟩ (.slice r.A r.n r.c)) a b c d e (k + 1) (R.set k r) (S.set k s) := by
  obtain ⟨h1, h2, h3, h4, h5, h6⟩ := h
  have hs1 : w.heap.size + 3 ≤ W.heap.size := by rw [h6]; exact h1.2.2.2.2.1
  refine ⟨(h1.below hb).set k r s hk hr, fun i hi => ?_, ((h3.below hb (by omega)).far (by omega) _ _).far (by omega) _ _, ((h4.below hb (by omega)).far (by omega) _ _).far (by omega) _ _, ((h5.trans (hb.mono (by omega))).setCell (p := ⟨w.heap.size + 2, 2 * k, none⟩) (by show w.heap.size ≤ w.heap.size + 2; omega) _).setCell (p := ⟨w.heap.size + 2, 2 * k + 1, none⟩) (by show w.heap.size ≤ w.heap.size + 2; omega) _, h6⟩
  by_cases hik : i = k
  · subst hik
    rw [List.getElem?_set_self (by rw [h1.2.2.1]; exact hk), hs]
  · rw [List.getElem?_set_ne (by omega)]
    exact h2 i (by omega)

theorem Bk.there {W : World} {b : Nat} {vs : List Value} (h : Bk W b vs) : W.there b 0 vs.length := fun j hj => by
  rw [Nat.zero_add]
  have h1 := h j _ (List.getElem?_eq_getElem hj)
  exact ⟨by rw [h1.1]; rfl, h1.2⟩
theorem grown_setCells (b : Nat) : ∀ (vs : List Value) (o : Nat) (W : World), W.grownBy (W.setCells b o vs) (some b)
  | [], _, W => World.grownBy.refl W _
  | v :: vs, o, W => grown_trans (grown_set W b o v) (grown_setCells b vs (o + 1) _)
theorem below_setCells {B : Nat} {w W : World} (h : Below B w W) {b : Nat} (hb : B ≤ b) (vs : List Value) (o : Nat) (hB : B ≤ W.heap.size) : Below B w (W.setCells b o vs) :=
  h.grown (grown_setCells b vs o W) hB (by intro j hj; injection hj with hj; omega)
theorem Sg.setCells {w0 W : World} {s : Bool} {A : Option Addr} {n c b : Nat} {zs : List Nat} {S : Int} (h : Sg w0 W s A n c zs S) (hb : b < w0.heap.size) (o : Nat) (vs : List Value) : Sg w0 (W.setCells b o vs) s A n c zs S :=
  ⟨⟨h.1.1, h.1.2.1, own_kept h.1.2.2 (grown_setCells b vs o W) hb⟩, h.2⟩
theorem five_done {w X W : World} {a b c d e r0 r1 r2 r3 r4 : Sn} {S : List Int} (h : FvI w X W a b c d e 5 [r0, r1, r2, r3, r4] S) :
    FiveR w (W.setCells (w.heap.size + 1) 0 (snL r0 r1 r2 r3 r4)) (.returned (snV r0 r1 r2 r3 r4)) (fiveS [a.v, b.v, c.v, d.v, e.v]) := by
  obtain ⟨h1, h2, h3, h4, h5, h6⟩ := h
  refine ⟨r0, r1, r2, r3, r4, rfl, rfl, fun i r s hi hs => ?_, below_setCells h5 (by omega) _ _ h5.size⟩
  have hi5 : i < 5 := by
    rcases Nat.lt_or_ge i 5 with hlt | hge
    · exact hlt
    · rw [List.getElem?_eq_none (by simpa using hge)] at hi; cases hi
  have := h1.2.2.2.2.2 i r s hi (by rw [h2 i hi5]; exact hs)
  exact (this.setCells (by omega) _ _).base (by omega)
/-- five's world ahead of its rounds -/
def X5 (w : World) (a b c d e : Sn) : World := ((w.alloc (.cells (snL a b c d e).toArray 72)).alloc (.cells zero10.toArray 72)).alloc (.cells zero10.toArray 72)

set_option maxHeartbeats 4000000 in
theorem five_ok (a b c d e : Sn) (w : World) (ha : a.ok w) (hb : b.ok w) (hc : c.ok w) (hd : d.ok w) (he : e.ok w) (hT : TabF w) :
    Calls Tryz.prog 33 #[snV a b c d e] w fun z w' => FiveR w w' z (fiveS [a.v, b.v, c.v, d.v, e.v]) := by
  have Hx := Lib.hid (And.intro ha (And.intro hb (And.intro hc (And.intro hd (And.intro he hT)))))
  clear ha hb hc hd he hT
  have hbX : Below w.heap.size w (X5 w a b c d e) := (((Below.refl _ _).alloc (Nat.le_refl _) _).alloc (by simp) _).alloc (by simp; omega) _
  have HT := Lib.hid (Hx.out.2.2.2.2.2.1.below hbX)
  have H0 : Hid (FvI w (X5 w a b c d e) (X5 w a b c d e) a b c d e 0 [Sn.zero, Sn.zero, Sn.zero, Sn.zero, Sn.zero] [0, 0, 0, 0, 0]) := by
    have k1 := ((Bk.new w (snL a b c d e) 72).below ((Below.refl _ _).alloc (Nat.le_refl _) (.cells zero10.toArray 72)) (by simp)).below ((Below.refl _ _).alloc (Nat.le_refl _) (.cells zero10.toArray 72)) (by simp; omega)
    have k2 := (Bk.new (w.alloc (.cells (snL a b c d e).toArray 72)) zero10 72).below ((Below.refl _ _).alloc (Nat.le_refl _) (.cells zero10.toArray 72)) (by simp)
    have k3 := Bk.new ((w.alloc (.cells (snL a b c d e).toArray 72)).alloc (.cells zero10.toArray 72)) zero10 72
    simp only [World.size_alloc] at k2 k3
    exact ⟨Arr.start _ _ _ k3 (by simp only [X5, World.size_alloc]; omega) (Nat.le_refl _), fun i hi => absurd hi (by omega), k1, k2, hbX, by simp only [X5, World.size_alloc]⟩
  go_enter Tryz.func33, Tryz.ntmps33
  go_wp2_with (refine wpList_load_mid rfl 102 _ rfl 0 0 rfl (ivs5 fiveL) _ HT.out Tryz.underlying102 rfl (by kernel_rfl) ?_)
  clear hbX
  go_loopw [4, 5, 7] (fun _ _ iv wr => ∃ (k : Nat) (R : List Sn) (S : List Int), k ≤ 5 ∧ iv = .int .i64 k ∧ Hid (FvI w (X5 w a b c d e) wr a b c d e k R S)) (fun _ _ iv _ => 5 - (intOf iv).toNat)
  case atStart => exact ⟨0, _, _, by omega, rfl, H0⟩
  case round =>
    clear H0 HT
    obtain ⟨k, R, S, hk, rfl, H⟩ := hrel
    obtain ⟨X, hX⟩ : ∃ X, X5 w a b c d e = X := ⟨_, rfl⟩
    rw [hX] at H ⊢
    rcases (show k = 0 ∨ k = 1 ∨ k = 2 ∨ k = 3 ∨ k = 4 ∨ k = 5 by omega) with rfl | rfl | rfl | rfl | rfl | rfl
    · have hR5 := H.out.1.2.1
      obtain ⟨x0, hx0⟩ : ∃ x0, (R.flatMap sncs)[0]? = some x0 := ⟨_, List.getElem?_eq_getElem (by rw [flat_len, hR5]; omega)⟩
      obtain ⟨x1, hx1⟩ : ∃ x1, (R.flatMap sncs)[1]? = some x1 := ⟨_, List.getElem?_eq_getElem (by rw [flat_len, hR5]; omega)⟩
      clear hR5
      have HX := Lib.hid (And.intro hx0 hx1)
      clear hx0 hx1
      go_wp2_with (first | (refine wpList_index rfl rfl (.agg #[.int .i64 1, .int .i64 0, .int .i64 0, .int .i64 0, .int .i64 0]) (fun w => by kernel_rfl) ?_) | (refine wpList_load_mid rfl 72 _ rfl w.heap.size 0 rfl (snL a b c d e) _ ((H.out.2.2.1.range).alloc_ _) Tryz.underlying72 rfl (by kernel_rfl) ?_))
      refine (weighed_ok a b c d e 1 0 0 0 0 _ (Hx.out.1.below (H.out.2.2.2.2.1.alloc H.out.2.2.2.2.1.size _)) (Hx.out.2.1.below (H.out.2.2.2.2.1.alloc H.out.2.2.2.2.1.size _)) (Hx.out.2.2.1.below (H.out.2.2.2.2.1.alloc H.out.2.2.2.2.1.size _)) (Hx.out.2.2.2.1.below (H.out.2.2.2.2.1.alloc H.out.2.2.2.2.1.size _)) (Hx.out.2.2.2.2.1.below (H.out.2.2.2.2.1.alloc H.out.2.2.2.2.1.size _)) (by decide)).mono ?_
      rintro z w3 ⟨s3, A3, n3, c3, zs, rfl, hS, hb3⟩
      have hb3' : Below wr.heap.size wr w3 := ((Below.refl _ _).alloc (Nat.le_refl _) _).trans (hb3.mono (by simp))
      have hA := H.out.1.below hb3'
      obtain ⟨p0, f0⟩ := hA.1 0 _ HX.out.1
      obtain ⟨p1, f1⟩ := hA.1 1 _ HX.out.2
      have HN : Hid (FvI w X ((w3.setCell ⟨w.heap.size + 2, 0, none⟩ (.bool s3)).setCell ⟨w.heap.size + 2, 1, none⟩ (.slice A3 n3 c3)) a b c d e 1 (R.set 0 ⟨s3, A3, n3, c3, zs⟩) (S.set 0 (a.v * 1 + (b.v * 0 + (c.v * 0 + (d.v * 0 + e.v * 0)))))) :=
        FvI.next (k := 0) (r := ⟨s3, A3, n3, c3, zs⟩) (by omega) H.out hb3' (hS.base (by have := H.out.1.2.2.2.2.1; simp; omega)) (by simp [fiveS]; try omega)
      clear hS hb3 hb3' hA H HX
      go_wp2_with (fail)
      refine ⟨⟨1, _, _, by omega, rfl, HN⟩, ?_⟩
      simp [intOf]
    · have hR5 := H.out.1.2.1
      obtain ⟨x0, hx0⟩ : ∃ x0, (R.flatMap sncs)[2]? = some x0 := ⟨_, List.getElem?_eq_getElem (by rw [flat_len, hR5]; omega)⟩
      obtain ⟨x1, hx1⟩ : ∃ x1, (R.flatMap sncs)[3]? = some x1 := ⟨_, List.getElem?_eq_getElem (by rw [flat_len, hR5]; omega)⟩
      clear hR5
      have HX := Lib.hid (And.intro hx0 hx1)
      clear hx0 hx1
      go_wp2_with (first | (refine wpList_index rfl rfl (.agg #[.int .i64 1, .int .i64 1, .int .i64 1, .int .i64 1, .int .i64 1]) (fun w => by kernel_rfl) ?_) | (refine wpList_load_mid rfl 72 _ rfl w.heap.size 0 rfl (snL a b c d e) _ ((H.out.2.2.1.range).alloc_ _) Tryz.underlying72 rfl (by kernel_rfl) ?_))
      refine (weighed_ok a b c d e 1 1 1 1 1 _ (Hx.out.1.below (H.out.2.2.2.2.1.alloc H.out.2.2.2.2.1.size _)) (Hx.out.2.1.below (H.out.2.2.2.2.1.alloc H.out.2.2.2.2.1.size _)) (Hx.out.2.2.1.below (H.out.2.2.2.2.1.alloc H.out.2.2.2.2.1.size _)) (Hx.out.2.2.2.1.below (H.out.2.2.2.2.1.alloc H.out.2.2.2.2.1.size _)) (Hx.out.2.2.2.2.1.below (H.out.2.2.2.2.1.alloc H.out.2.2.2.2.1.size _)) (by decide)).mono ?_
      rintro z w3 ⟨s3, A3, n3, c3, zs, rfl, hS, hb3⟩
      have hb3' : Below wr.heap.size wr w3 := ((Below.refl _ _).alloc (Nat.le_refl _) _).trans (hb3.mono (by simp))
      have hA := H.out.1.below hb3'
      obtain ⟨p0, f0⟩ := hA.1 2 _ HX.out.1
      obtain ⟨p1, f1⟩ := hA.1 3 _ HX.out.2
      have HN : Hid (FvI w X ((w3.setCell ⟨w.heap.size + 2, 2, none⟩ (.bool s3)).setCell ⟨w.heap.size + 2, 3, none⟩ (.slice A3 n3 c3)) a b c d e 2 (R.set 1 ⟨s3, A3, n3, c3, zs⟩) (S.set 1 (a.v * 1 + (b.v * 1 + (c.v * 1 + (d.v * 1 + e.v * 1)))))) :=
        FvI.next (k := 1) (r := ⟨s3, A3, n3, c3, zs⟩) (by omega) H.out hb3' (hS.base (by have := H.out.1.2.2.2.2.1; simp; omega)) (by simp [fiveS]; try omega)
      clear hS hb3 hb3' hA H HX
      go_wp2_with (fail)
      refine ⟨⟨2, _, _, by omega, rfl, HN⟩, ?_⟩
      simp [intOf]
    · have hR5 := H.out.1.2.1
      obtain ⟨x0, hx0⟩ : ∃ x0, (R.flatMap sncs)[4]? = some x0 := ⟨_, List.getElem?_eq_getElem (by rw [flat_len, hR5]; omega)⟩
      obtain ⟨x1, hx1⟩ : ∃ x1, (R.flatMap sncs)[5]? = some x1 := ⟨_, List.getElem?_eq_getElem (by rw [flat_len, hR5]; omega)⟩
      clear hR5
      have HX := Lib.hid (And.intro hx0 hx1)
      clear hx0 hx1
      go_wp2_with (first | (refine wpList_index rfl rfl (.agg #[.int .i64 1, .int .i64 (-1), .int .i64 1, .int .i64 (-1), .int .i64 1]) (fun w => by kernel_rfl) ?_) | (refine wpList_load_mid rfl 72 _ rfl w.heap.size 0 rfl (snL a b c d e) _ ((H.out.2.2.1.range).alloc_ _) Tryz.underlying72 rfl (by kernel_rfl) ?_))
      refine (weighed_ok a b c d e 1 (-1) 1 (-1) 1 _ (Hx.out.1.below (H.out.2.2.2.2.1.alloc H.out.2.2.2.2.1.size _)) (Hx.out.2.1.below (H.out.2.2.2.2.1.alloc H.out.2.2.2.2.1.size _)) (Hx.out.2.2.1.below (H.out.2.2.2.2.1.alloc H.out.2.2.2.2.1.size _)) (Hx.out.2.2.2.1.below (H.out.2.2.2.2.1.alloc H.out.2.2.2.2.1.size _)) (Hx.out.2.2.2.2.1.below (H.out.2.2.2.2.1.alloc H.out.2.2.2.2.1.size _)) (by decide)).mono ?_
      rintro z w3 ⟨s3, A3, n3, c3, zs, rfl, hS, hb3⟩
      have hb3' : Below wr.heap.size wr w3 := ((Below.refl _ _).alloc (Nat.le_refl _) _).trans (hb3.mono (by simp))
      have hA := H.out.1.below hb3'
      obtain ⟨p0, f0⟩ := hA.1 4 _ HX.out.1
      obtain ⟨p1, f1⟩ := hA.1 5 _ HX.out.2
      have HN : Hid (FvI w X ((w3.setCell ⟨w.heap.size + 2, 4, none⟩ (.bool s3)).setCell ⟨w.heap.size + 2, 5, none⟩ (.slice A3 n3 c3)) a b c d e 3 (R.set 2 ⟨s3, A3, n3, c3, zs⟩) (S.set 2 (a.v * 1 + (b.v * (-1) + (c.v * 1 + (d.v * (-1) + e.v * 1)))))) :=
        FvI.next (k := 2) (r := ⟨s3, A3, n3, c3, zs⟩) (by omega) H.out hb3' (hS.base (by have := H.out.1.2.2.2.2.1; simp; omega)) (by simp [fiveS]; try omega)
      clear hS hb3 hb3' hA H HX
      go_wp2_with (fail)
      refine ⟨⟨3, _, _, by omega, rfl, HN⟩, ?_⟩
      simp [intOf]
    · have hR5 := H.out.1.2.1
      obtain ⟨x0, hx0⟩ : ∃ x0, (R.flatMap sncs)[6]? = some x0 := ⟨_, List.getElem?_eq_getElem (by rw [flat_len, hR5]; omega)⟩
      obtain ⟨x1, hx1⟩ : ∃ x1, (R.flatMap sncs)[7]? = some x1 := ⟨_, List.getElem?_eq_getElem (by rw [flat_len, hR5]; omega)⟩
      clear hR5
      have HX := Lib.hid (And.intro hx0 hx1)
      clear hx0 hx1
      go_wp2_with (first | (refine wpList_index rfl rfl (.agg #[.int .i64 1, .int .i64 2, .int .i64 4, .int .i64 8, .int .i64 16]) (fun w => by kernel_rfl) ?_) | (refine wpList_load_mid rfl 72 _ rfl w.heap.size 0 rfl (snL a b c d e) _ ((H.out.2.2.1.range).alloc_ _) Tryz.underlying72 rfl (by kernel_rfl) ?_))
      refine (weighed_ok a b c d e 1 2 4 8 16 _ (Hx.out.1.below (H.out.2.2.2.2.1.alloc H.out.2.2.2.2.1.size _)) (Hx.out.2.1.below (H.out.2.2.2.2.1.alloc H.out.2.2.2.2.1.size _)) (Hx.out.2.2.1.below (H.out.2.2.2.2.1.alloc H.out.2.2.2.2.1.size _)) (Hx.out.2.2.2.1.below (H.out.2.2.2.2.1.alloc H.out.2.2.2.2.1.size _)) (Hx.out.2.2.2.2.1.below (H.out.2.2.2.2.1.alloc H.out.2.2.2.2.1.size _)) (by decide)).mono ?_
      rintro z w3 ⟨s3, A3, n3, c3, zs, rfl, hS, hb3⟩
      have hb3' : Below wr.heap.size wr w3 := ((Below.refl _ _).alloc (Nat.le_refl _) _).trans (hb3.mono (by simp))
      have hA := H.out.1.below hb3'
      obtain ⟨p0, f0⟩ := hA.1 6 _ HX.out.1
      obtain ⟨p1, f1⟩ := hA.1 7 _ HX.out.2
      have HN : Hid (FvI w X ((w3.setCell ⟨w.heap.size + 2, 6, none⟩ (.bool s3)).setCell ⟨w.heap.size + 2, 7, none⟩ (.slice A3 n3 c3)) a b c d e 4 (R.set 3 ⟨s3, A3, n3, c3, zs⟩) (S.set 3 (a.v * 1 + (b.v * 2 + (c.v * 4 + (d.v * 8 + e.v * 16)))))) :=
        FvI.next (k := 3) (r := ⟨s3, A3, n3, c3, zs⟩) (by omega) H.out hb3' (hS.base (by have := H.out.1.2.2.2.2.1; simp; omega)) (by simp [fiveS]; try omega)
      clear hS hb3 hb3' hA H HX
      go_wp2_with (fail)
      refine ⟨⟨4, _, _, by omega, rfl, HN⟩, ?_⟩
      simp [intOf]
    · have hR5 := H.out.1.2.1
      obtain ⟨x0, hx0⟩ : ∃ x0, (R.flatMap sncs)[8]? = some x0 := ⟨_, List.getElem?_eq_getElem (by rw [flat_len, hR5]; omega)⟩
      obtain ⟨x1, hx1⟩ : ∃ x1, (R.flatMap sncs)[9]? = some x1 := ⟨_, List.getElem?_eq_getElem (by rw [flat_len, hR5]; omega)⟩
      clear hR5
      have HX := Lib.hid (And.intro hx0 hx1)
      clear hx0 hx1
      go_wp2_with (first | (refine wpList_index rfl rfl (.agg #[.int .i64 0, .int .i64 0, .int .i64 0, .int .i64 0, .int .i64 1]) (fun w => by kernel_rfl) ?_) | (refine wpList_load_mid rfl 72 _ rfl w.heap.size 0 rfl (snL a b c d e) _ ((H.out.2.2.1.range).alloc_ _) Tryz.underlying72 rfl (by kernel_rfl) ?_))
      refine (weighed_ok a b c d e 0 0 0 0 1 _ (Hx.out.1.below (H.out.2.2.2.2.1.alloc H.out.2.2.2.2.1.size _)) (Hx.out.2.1.below (H.out.2.2.2.2.1.alloc H.out.2.2.2.2.1.size _)) (Hx.out.2.2.1.below (H.out.2.2.2.2.1.alloc H.out.2.2.2.2.1.size _)) (Hx.out.2.2.2.1.below (H.out.2.2.2.2.1.alloc H.out.2.2.2.2.1.size _)) (Hx.out.2.2.2.2.1.below (H.out.2.2.2.2.1.alloc H.out.2.2.2.2.1.size _)) (by decide)).mono ?_
      rintro z w3 ⟨s3, A3, n3, c3, zs, rfl, hS, hb3⟩
      have hb3' : Below wr.heap.size wr w3 := ((Below.refl _ _).alloc (Nat.le_refl _) _).trans (hb3.mono (by simp))
      have hA := H.out.1.below hb3'
      obtain ⟨p0, f0⟩ := hA.1 8 _ HX.out.1
      obtain ⟨p1, f1⟩ := hA.1 9 _ HX.out.2
      have HN : Hid (FvI w X ((w3.setCell ⟨w.heap.size + 2, 8, none⟩ (.bool s3)).setCell ⟨w.heap.size + 2, 9, none⟩ (.slice A3 n3 c3)) a b c d e 5 (R.set 4 ⟨s3, A3, n3, c3, zs⟩) (S.set 4 (a.v * 0 + (b.v * 0 + (c.v * 0 + (d.v * 0 + e.v * 1)))))) :=
        FvI.next (k := 4) (r := ⟨s3, A3, n3, c3, zs⟩) (by omega) H.out hb3' (hS.base (by have := H.out.1.2.2.2.2.1; simp; omega)) (by simp [fiveS]; try omega)
      clear hS hb3 hb3' hA H HX
      go_wp2_with (fail)
      refine ⟨⟨5, _, _, by omega, rfl, HN⟩, ?_⟩
      simp [intOf]
    · obtain ⟨r0, r1, r2, r3, r4, rfl⟩ := list5 H.out.1.2.1
      have hrg : wr.rangeAt (w.heap.size + 2) 0 (snL r0 r1 r2 r3 r4) := H.out.1.1.range
      have hth := H.out.2.2.2.1.there
      have HP := Lib.hid (And.intro hrg hth)
      clear hrg hth
      go_wp2_with (first | (refine wpList_load_mid rfl 72 _ rfl (w.heap.size + 2) 0 rfl (snL r0 r1 r2 r3 r4) _ HP.out.1 Tryz.underlying72 rfl (by kernel_rfl) ?_) | (refine wpList_store_mid rfl 72 _ _ rfl (w.heap.size + 1) 0 (snL r0 r1 r2 r3 r4).toArray rfl rfl HP.out.2 (by kernel_rfl) (by simp [Value.oneCell']) ?_))
      have hl := run_loadVar_mid (P := Tryz.prog) (wr.setCells (w.heap.size + 1) 0 (snL r0 r1 r2 r3 r4)) (w.heap.size + 1) 0 72 (snL r0 r1 r2 r3 r4) _ (World.rangeAt_setCells_same _ _ _ _ HP.out.2) Tryz.underlying72 rfl (by kernel_rfl)
      exact bodyPost_ret (v := snV r0 r1 r2 r3 r4) (by simp [results, Tryz.results33, Act.put, asAddr, hl]) rfl (five_done H.out)
end Go.Proofs.YthpgdpkemnhneaaGreatDoor

namespace Go.Proofs.YthpgdpkemnhneaaGreatDoor
open Go.RowKit Go.Shelf
set_option linter.unusedVariables false
set_option linter.unusedSimpArgs false
set_option maxRecDepth 10000

/-- what a call answers that hands back the canonical integer z -/
def Zr (w w' : World) (e : Ending) (z : Int) : Prop := ∃ A n c zs, e = .returned (.agg #[.bool (decide (z < 0)), .slice A n c]) ∧ Nw w w' (.slice A n c) n zs ∧ Cn zs ∧ V zs = z.natAbs ∧ Below w.heap.size w w'
theorem Zr.open {w w' : World} {e : Ending} {z : Int} (h : Zr w w' e z) (hz : z.natAbs < Big) : ∃ A n c zs, e = .returned (.agg #[.bool (decide (z < 0)), .slice A n c]) ∧ Nu w w' A n c zs z.natAbs := by
  obtain ⟨A, n, c, zs, rfl, h1, h2, h3, h4⟩ := h
  obtain ⟨A', n', c', zs', e, h5⟩ := Nu.of (v := .slice A n c) ⟨n, zs, h1, h2, h3⟩ h4 hz
  injection e with e1 e2 e3
  subst e1 e2 e3
  exact ⟨A, n, c, zs', rfl, h5⟩
theorem Zr.from {w w0 w' : World} {e : Ending} {z : Int} (h : Zr w w' e z) (hb : Below w0.heap.size w0 w) : Zr w0 w' e z := by
  obtain ⟨A, n, c, zs, h0, h1, h2, h3, h4⟩ := h
  exact ⟨A, n, c, zs, h0, h1.later hb.size (Below.refl _ _), h2, h3, hb.trans (h4.mono hb.size)⟩
theorem Zr.of {w w' : World} {A : Option Addr} {n c x : Nat} {zs : List Nat} {g : Bool} {z : Int} (h : Nu w w' A n c zs x) (hg : (g && decide (0 < n)) = decide (z < 0)) (hx : x = z.natAbs) : Zr w w' (.returned (.agg #[.bool (g && decide (0 < n)), .slice A n c])) z := by
  obtain ⟨n', zs', h1, h2, h3⟩ := h.2.2.2.2.1
  obtain ⟨A', c', e, -⟩ := h1.sl
  injection e with e1 e2 e3
  subst e1 e2 e3
  rw [hg]
  exact ⟨_, _, _, zs', rfl, h1, h2, by rw [h3, hx], h.bel⟩
/-- a canonical number has words just if it is not 0 -/
theorem words_pos {w w' : World} {A : Option Addr} {n c x : Nat} {zs : List Nat} (h : Nu w w' A n c zs x) : 0 < n ↔ 0 < x := by
  have h1 := Cn_len h.1.2.2.2.1 h.2.1 0
  rw [h.1.1, h.2.2.1, Nat.pow_zero] at h1
  omega
theorem mk_sign {w w' : World} {A : Option Addr} {n c x : Nat} {zs : List Nat} {g : Bool} (h : Nu w w' A n c zs x) : (g && decide (0 < n)) = decide (sgn g x < 0) := by
  have h1 := words_pos h
  cases g with
  | false =>
    have : ¬ sgn false x < 0 := by simp [sgn]
    simp [this]
  | true =>
    rw [Bool.true_and]
    refine decide_eq_decide.2 ?_
    simp only [sgn, if_pos]
    omega
theorem sgn_nat (g : Bool) (x : Nat) : x = (sgn g x).natAbs := (sgn_abs g x).symm
theorem sgn_can (z : Int) : sgn (decide (z < 0)) z.natAbs = z := by
  by_cases h : z < 0
  · rw [decide_eq_true h]; simp only [sgn, if_pos]; omega
  · rw [decide_eq_false h]; simp only [sgn]; rw [if_neg (by decide)]; omega
theorem sgn_neg (g : Bool) (x : Nat) : sgn (!g) x = -sgn g x := by cases g <;> simp [sgn]
theorem sgn_prod (s t : Bool) (x y : Nat) : sgn (s != t) (x * y) = sgn s x * sgn t y := by
  cases s <;> cases t <;> simp [sgn, Int.neg_mul, Int.mul_neg]
theorem sgn_same {s : Bool} {x y : Nat} : sgn s (x + y) = sgn s x + sgn s y := by cases s <;> simp [sgn] <;> omega
theorem sgn_big {s t : Bool} {x y : Nat} (h : s ≠ t) (hl : y ≤ x) : sgn s (x - y) = sgn s x + sgn t y := by
  cases s <;> cases t <;> simp [sgn] at h ⊢ <;> omega
theorem sgn_small {s t : Bool} {x y : Nat} (h : s ≠ t) (hl : x ≤ y) : sgn t (y - x) = sgn s x + sgn t y := by
  cases s <;> cases t <;> simp [sgn] at h ⊢ <;> omega
/-- a slice of integers -/
def Zl (w : World) (A : Option Addr) (m c : Nat) (al : List Sn) : Prop :=
  al.length = m ∧ m ≤ c ∧ c ≤ 9223372036854775807 ∧ Rd w w.heap.size A (al.flatMap sncs) ∧ ∀ a ∈ al, Sl w a.A a.n a.c a.xs
theorem Zl.below {w w' : World} {A : Option Addr} {m c : Nat} {al : List Sn} (h : Zl w A m c al) (hb : Below w.heap.size w w') : Zl w' A m c al :=
  ⟨h.1, h.2.1, h.2.2.1, (h.2.2.2.1.below hb).more hb.size, fun t ht => (h.2.2.2.2 t ht).below hb⟩
theorem sncs_get : ∀ (al : List Sn) (i j : Nat) (a : Sn) (u : Value), al[i]? = some a → (sncs a)[j]? = some u → (al.flatMap sncs)[2 * i + j]? = some u
  | [], i, j, a, u, hi, hj => by simp at hi
  | b :: bl, 0, j, a, u, hi, hj => by
    simp at hi
    subst hi
    have hj2 : j < (sncs b).length := (List.getElem?_eq_some_iff.1 hj).1
    rw [List.flatMap_cons, Nat.mul_zero, Nat.zero_add, List.getElem?_append_left hj2]
    exact hj
  | b :: bl, i + 1, j, a, u, hi, hj => by
    rw [List.getElem?_cons_succ] at hi
    have hl : (sncs b).length = 2 := rfl
    rw [List.flatMap_cons, List.getElem?_append_right (by rw [hl]; omega), hl, show 2 * (i + 1) + j - 2 = 2 * i + j by omega]
    exact sncs_get bl i j a u hi hj
/-- the two cells of integer i -/
theorem Zl.at {w : World} {A : Option Addr} {m c : Nat} {al : List Sn} (h : Zl w A m c al) {i : Nat} {a : Sn} (hi : al[i]? = some a) :
    ∃ b o, A = some ⟨b, o, none⟩ ∧ b < w.heap.size ∧ w.cell? ⟨b, o + i * 2, none⟩ = some (.bool a.s) ∧ w.cell? ⟨b, o + i * 2 + 1, none⟩ = some (.slice a.A a.n a.c) := by
  have h0 := sncs_get al i 0 a (.bool a.s) hi rfl
  have h1 := sncs_get al i 1 a (.slice a.A a.n a.c) hi rfl
  obtain ⟨b, o, e, hb, hc⟩ := h.2.2.2.1 (by intro h; rw [h] at h0; simp at h0)
  exact ⟨b, o, e, hb, by rw [show o + i * 2 = o + (2 * i + 0) by omega]; exact hc _ _ h0, by rw [show o + i * 2 + 1 = o + (2 * i + 1) by omega]; exact hc _ _ h1⟩
/-- whether one of them is too large -/
def chkZ (al : List Sn) : Int := if al.any (fun a => decide (4096 < a.n)) = true then 2 else 0
theorem sncs_get2 : ∀ (R : List Sn) (k : Nat) {r : Sn}, R[k]? = some r → (R.flatMap sncs)[2 * k]? = some (.bool r.s) ∧ (R.flatMap sncs)[2 * k + 1]? = some (.slice r.A r.n r.c)
  | [], k, r, h => by simp at h
  | b :: bl, 0, r, h => by
    simp at h
    subst h
    exact ⟨rfl, rfl⟩
  | b :: bl, k + 1, r, h => by
    rw [List.getElem?_cons_succ] at h
    have hl : (sncs b).length = 2 := rfl
    have ih := sncs_get2 bl k h
    rw [List.flatMap_cons, List.getElem?_append_right (by rw [hl]; omega), List.getElem?_append_right (by rw [hl]; omega), hl, show 2 * (k + 1) - 2 = 2 * k by omega, show 2 * (k + 1) + 1 - 2 = 2 * k + 1 by omega]
    exact ih
theorem sncs_get2' (R : List Sn) (k : Nat) (hk : k < R.length) : ∃ x y, (R.flatMap sncs)[2 * k]? = some x ∧ (R.flatMap sncs)[2 * k + 1]? = some y := by
  have h := sncs_get2 R k (List.getElem?_eq_getElem hk)
  exact ⟨_, _, h.1, h.2⟩
end Go.Proofs.YthpgdpkemnhneaaGreatDoor

namespace Go.Proofs.YthpgdpkemnhneaaGreatDoor
open Go.RowKit Go.Shelf
set_option linter.unusedVariables false
set_option linter.unusedSimpArgs false
set_option maxRecDepth 10000

/-- block g begins with the words zs -/
def OwT (W : World) (g c : Nat) (zs : List Nat) : Prop := ∃ cur : Array Value, W.heap[g]? = some (.cells cur 44 (0, 0)) ∧ cur.size = c ∧ zs.length ≤ c ∧ cur.toList.take zs.length = uvs zs
theorem OwT.lt {W : World} {g c : Nat} {zs : List Nat} (h : OwT W g c zs) : g < W.heap.size := by obtain ⟨_, h, _⟩ := h; exact (Array.getElem?_eq_some_iff.1 h).1
theorem OwT.cell {W : World} {g c : Nat} {zs : List Nat} (h : OwT W g c zs) {i x : Nat} (hi : zs[i]? = some x) : W.cell? ⟨g, i, none⟩ = some (.int .u64 (x : Int)) := by
  obtain ⟨cur, h1, h2, h3, h4⟩ := h
  rw [cell_of_row W g i _ _ _ h1]
  have h5 := uvs_get hi
  have hl : i < zs.length := (List.getElem?_eq_some_iff.1 hi).1
  rw [← h4, List.getElem?_take, if_pos hl] at h5
  simpa using h5
theorem OwT.frozen {W : World} {g c : Nat} {zs : List Nat} (h : OwT W g c zs) (i : Nat) : W.frozen? ⟨g, i, none⟩ = false := by
  obtain ⟨cur, h1, _⟩ := h
  simp [World.frozen?, h1]
theorem OwT.set {W : World} {g c : Nat} {zs : List Nat} (h : OwT W g c zs) (i x : Nat) : OwT (W.setCell ⟨g, i, none⟩ (.int .u64 (x : Int))) g c (zs.set i x) := by
  obtain ⟨cur, h1, h2, h3, h4⟩ := h
  refine ⟨cur.setIfInBounds i (.int .u64 (x : Int)), by simp [World.setCell, Array.getElem?_modify, h1], by simpa using h2, by rw [List.length_set]; exact h3, ?_⟩
  rw [List.length_set, Array.toList_setIfInBounds, List.take_set, h4]
  simp [uvs]
theorem OwT.other {W W' : World} {g c : Nat} {zs : List Nat} (h : OwT W g c zs) (hb : W'.heap[g]? = W.heap[g]?) : OwT W' g c zs := by
  obtain ⟨cur, h1, h2⟩ := h
  exact ⟨cur, hb.trans h1, h2⟩
theorem OwT.own {W : World} {g c base : Nat} {zs : List Nat} (h : OwT W g c zs) (hg : base ≤ g) (hc : c ≤ maxLen) : W.ownsRow base 44 1 (.slice (some ⟨g, 0, none⟩) zs.length c) zs.length (uvs zs) := by
  obtain ⟨cur, h1, h2, h3, h4⟩ := h
  exact ⟨by rw [uvs_length]; omega, .inr ⟨g, c, cur, rfl, hg, h1, h3, hc, by omega, by rw [Nat.mul_one]; exact h4⟩⟩
theorem Nw.owt {w W : World} {A : Option Addr} {n c : Nat} {zs : List Nat} (h : Nw w W (.slice A n c) n zs) (hn : n ≠ 0) : ∃ g, A = some ⟨g, 0, none⟩ ∧ w.heap.size ≤ g ∧ OwT W g c zs ∧ c ≤ maxLen := by
  rcases h.2.2.2 with ⟨hv, h0⟩ | ⟨g, cap, cur, hv, hg, hh, h1, h2, h3, h4⟩
  · exact absurd h0 hn
  · injection hv with e1 e2 e3
    subst e1 e3
    exact ⟨g, rfl, hg, ⟨cur, hh, by omega, by rw [h.1]; exact h1, by rw [h.1]; rw [Nat.mul_one] at h4; exact h4⟩, h2⟩
/-- one word more is divided -/
theorem dv_step {zs z0 : List Nat} {i x q r r' d : Nat} (hx : z0[i]? = some x) (hz : zs[i]? = some x) (e : r * B64 + x = q * d + r') (hI : V (zs.drop (i + 1)) * d + r = V (z0.drop (i + 1))) : V ((zs.set i q).drop i) * d + r' = V (z0.drop i) := by
  have hl : i < zs.length := (List.getElem?_eq_some_iff.1 hz).1
  rw [V_drop z0 i x hx, V_drop (zs.set i q) i q (by rw [List.getElem?_set_self hl]), drop_set]
  generalize V (zs.drop (i + 1)) = a at *
  generalize V (z0.drop (i + 1)) = b at *
  generalize B64 = B at *
  grind
/-- what divided answers -/
def DivR (w0 w w' : World) (z : Ending) (s : Bool) (x d : Nat) (A : Option Addr) : Prop :=
  ∃ A' k c us, z = .returned (.tuple #[.agg #[.bool s, .slice A' k c], .bool (decide (x % d = 0))]) ∧ Nw w0 w' (.slice A' k c) k us ∧ Cn us ∧ V us = x / d ∧ ∀ B, B ≤ w.heap.size → (∀ a, A = some a → B ≤ a.block) → Below B w w'

set_option maxHeartbeats 1000000 in
theorem divided_one (w0 : World) (s : Bool) (A : Option Addr) (n c : Nat) (zs : List Nat) (w : World) (hx : Nw w0 w (.slice A n c) n zs) (hc : Cn zs) :
    Calls Tryz.prog 66 #[.agg #[.bool s, .slice A n c], .int .u64 1] w fun z w' => DivR w0 w w' z s (V zs) 1 A := by
  have Hx := Lib.hid (And.intro hx hc)
  clear hx hc
  go_enter Tryz.func66, Tryz.ntmps66
  go_wp2_with (fail)
  refine bodyPost_ret (v := .tuple #[.agg #[.bool s, .slice A n c], .bool true]) (by simp [results, Tryz.results66, go_sem]) rfl ⟨A, n, c, zs, by rw [Nat.mod_one]; rfl, ⟨Hx.out.1.later (Nat.le_refl _) ?_, Hx.out.2, (Nat.div_one _).symm, fun B hB _ => ?_⟩⟩
  · exact ((Below.refl _ _).alloc (Nat.le_refl _) _).alloc (by simp) _
  · exact (((Below.refl _ _).alloc (Nat.le_refl _) _).alloc (by simp) _).mono hB
/-- divided's own two blocks -/
def DvB (w w0 W : World) (s : Bool) (A : Option Addr) (n c : Nat) : Prop :=
  W.cell? ⟨w.heap.size, 1, none⟩ = some (.slice A n c) ∧ W.cell? ⟨w.heap.size, 0, none⟩ = some (.bool s) ∧ Bk W (w.heap.size + 1) [.bool false, .slice none 0 0] ∧ (∀ B, B ≤ w.heap.size → (∀ a, A = some a → B ≤ a.block) → Below B w W) ∧ (∀ a, n ≠ 0 → A = some a → a.block < w.heap.size) ∧ (n = 0 → Below w.heap.size w W)
/-- the row that is divided -/
def DvI (w0 W : World) (A : Option Addr) (n c : Nat) (us : List Nat) : Prop := us.length = n ∧ Ws us ∧ (n ≠ 0 → ∃ g, A = some ⟨g, 0, none⟩ ∧ w0.heap.size ≤ g ∧ OwT W g c us ∧ c ≤ maxLen)
theorem below_dr_ {B : Nat} {X W : World} (h : Below B X W) : Below B X W.drew := ⟨h.os, h.tape, h.output, h.size, h.block⟩
theorem DvB.start {w w0 : World} {s : Bool} {A : Option Addr} {n c : Nat} {zs : List Nat} (hx : Nw w0 w (.slice A n c) n zs) : DvB w w0 ((w.alloc (.cells #[.bool s, .slice A n c] 59)).alloc (.cells #[.bool false, .slice none 0 0] 59)) s A n c := by
  have k1 := (Bk.new w [.bool s, .slice A n c] 59).below ((Below.refl _ _).alloc (Nat.le_refl _) (.cells #[.bool false, .slice none 0 0] 59)) (by simp)
  have k2 := Bk.new (w.alloc (.cells #[.bool s, .slice A n c] 59)) [.bool false, .slice none 0 0] 59
  simp only [World.size_alloc] at k2
  refine ⟨(k1 1 _ rfl).1, (k1 0 _ rfl).1, k2, fun B hB _ => (((Below.refl _ _).alloc (Nat.le_refl _) _).alloc (by simp) _).mono hB, fun a hn ha => ?_, fun _ => (((Below.refl _ _).alloc (Nat.le_refl _) _).alloc (by simp) _)⟩
  obtain ⟨g, e, _, ho, _⟩ := hx.owt hn
  rw [ha] at e
  injection e with e
  subst e
  exact ho.lt
theorem DvI.sl {w w0 W : World} {A : Option Addr} {n c : Nat} {us zs : List Nat} (h : DvI w0 W A n c us) (hx : Nw w0 w (.slice A n c) n zs) : Sl W A n c us := by
  obtain ⟨A', c', e, hs⟩ := hx.sl
  injection e with e1 e2 e3
  subst e1 e3
  refine ⟨h.1, hs.2.1, hs.2.2.1, h.2.1, fun hne => ?_⟩
  have hn : n ≠ 0 := by
    intro h0
    have := h.1
    rw [h0] at this
    exact hne (by rw [List.eq_nil_of_length_eq_zero this]; rfl)
  obtain ⟨g, e, _, ho, _⟩ := h.2.2 hn
  refine ⟨g, 0, e, ho.lt, fun j u hu => ?_⟩
  simp only [uvs, List.getElem?_map, Option.map_eq_some_iff] at hu
  obtain ⟨x, hx1, rfl⟩ := hu
  rw [Nat.zero_add]
  exact ho.cell hx1
theorem keep2b {W : World} {b i j k : Nat} {u v x : Value} (h : W.cell? ⟨b, i, none⟩ = some x) : ((W.setCell ⟨b + 1, j, none⟩ u).setCell ⟨b + 1, k, none⟩ v).drew.cell? ⟨b, i, none⟩ = some x := by
  show ((W.setCell ⟨b + 1, j, none⟩ u).setCell ⟨b + 1, k, none⟩ v).cell? ⟨b, i, none⟩ = some x
  rw [World.cell?_setCell_other _ _ _ _ (by intro e; injection e with e; omega), World.cell?_setCell_other _ _ _ _ (by intro e; injection e with e; omega)]
  exact h
theorem dv_done {w w0 W : World} {s : Bool} {A : Option Addr} {n c d r k : Nat} {us zs : List Nat} {u v : Value} (hx : Nw w0 w (.slice A n c) n zs) (hB : DvB w w0 W s A n c) (hI : DvI w0 W A n c us) (hr : r < d) (hv : V us * d + r = V zs) (hU : V (us.take k) = V us ∧ Cn (us.take k)) (hk : k ≤ n) :
    DivR w0 w (((W.setCell ⟨w.heap.size + 1, 0, none⟩ u).setCell ⟨w.heap.size + 1, 1, none⟩ v).drew) (.returned (.tuple #[.agg #[.bool s, .slice A k c], .bool ((r : Int) == 0)])) s (V zs) d A := by
  have hq : V zs / d = V us ∧ V zs % d = r := by
    rw [← hv, Nat.mul_comm]
    exact ⟨by rw [Nat.mul_add_div (by omega), Nat.div_eq_of_lt hr, Nat.add_zero], by rw [Nat.mul_add_mod, Nat.mod_eq_of_lt hr]⟩
  have hst : ∀ B, B ≤ w.heap.size → (∀ a, A = some a → B ≤ a.block) → Below B w (((W.setCell ⟨w.heap.size + 1, 0, none⟩ u).setCell ⟨w.heap.size + 1, 1, none⟩ v).drew) := fun B h1 h2 => below_dr_ (((hB.2.2.2.1 B h1 h2).setCell (p := ⟨w.heap.size + 1, 0, none⟩) (by show B ≤ w.heap.size + 1; omega) _).setCell (p := ⟨w.heap.size + 1, 1, none⟩) (by show B ≤ w.heap.size + 1; omega) _)
  refine ⟨A, k, c, us.take k, ?_, ?_, hU.2, by rw [hU.1, hq.1], hst⟩
  · rw [hq.2, show ((r : Int) == 0) = decide (r = 0) by rw [Bool.eq_iff_iff]; simp]
  · refine Nw.tk (n := n) ?_ hk
    rcases Nat.eq_zero_or_pos n with h0 | h0
    · have hb := ((hB.2.2.2.2.2 h0).setCell (p := ⟨w.heap.size + 1, 0, none⟩) (by show w.heap.size ≤ w.heap.size + 1; omega) u).setCell (p := ⟨w.heap.size + 1, 1, none⟩) (by show w.heap.size ≤ w.heap.size + 1; omega) v
      have e1 : us = [] := List.eq_nil_of_length_eq_zero (by rw [hI.1, h0])
      have e2 : zs = [] := List.eq_nil_of_length_eq_zero (by rw [hx.1, h0])
      have h := hx.later (Nat.le_refl _) (below_dr_ hb)
      rw [e2] at h
      rw [e1]
      exact h
    · obtain ⟨g, rfl, hg, ho, hc⟩ := hI.2.2 (by omega)
      have hgw := hB.2.2.2.2.1 ⟨g, 0, none⟩ (by omega) rfl
      simp only at hgw
      have ho2 : OwT (((W.setCell ⟨w.heap.size + 1, 0, none⟩ u).setCell ⟨w.heap.size + 1, 1, none⟩ v).drew) g c us := ho.other ((Below.heap_setCell _ ⟨w.heap.size + 1, 1, none⟩ v g (by show g ≠ w.heap.size + 1; omega)).trans (Below.heap_setCell _ ⟨w.heap.size + 1, 0, none⟩ u g (by show g ≠ w.heap.size + 1; omega)))
      have h := ho2.own hg hc
      rw [hI.1] at h
      exact ⟨hI.1, hI.2.1, h⟩
theorem DvI.start {w w0 : World} {o o' : Obj} {A : Option Addr} {n c : Nat} {zs : List Nat} (hx : Nw w0 w (.slice A n c) n zs) : DvI w0 ((w.alloc o).alloc o') A n c zs := ⟨hx.1, hx.2.1, fun hn => by
  obtain ⟨g, e, h1, ho, h2⟩ := hx.owt hn
  have hb : Below w.heap.size w ((w.alloc o).alloc o') := ((Below.refl _ _).alloc (Nat.le_refl _) _).alloc (by simp) _
  exact ⟨g, e, h1, ho.other (hb.block g ho.lt), h2⟩⟩

set_option maxHeartbeats 4000000 in
theorem divided_ok (w0 : World) (s : Bool) (A : Option Addr) (n c d : Nat) (zs : List Nat) (w : World) (hn : n ≤ 50000) (hd1 : 1 < d) (hd : d < 1000) (hx : Nw w0 w (.slice A n c) n zs) (hc : Cn zs) (hw0 : w0.heap.size ≤ w.heap.size) :
    Calls Tryz.prog 66 #[.agg #[.bool s, .slice A n c], .int .u64 d] w fun z w' => DivR w0 w w' z s (V zs) d A := by
  have Hx := Lib.hid (And.intro hx (And.intro hc hw0))
  have hdb : ((d : Int) == 1) = false := by simp; omega
  have hmix : Tryz.prog.follows Departure.mixedOrders = true := by kernel_rfl
  have H0 : Hid (DvB w w0 ((w.alloc (.cells #[.bool s, .slice A n c] 59)).alloc (.cells #[.bool false, .slice none 0 0] 59)) s A n c) := DvB.start hx
  have hl := hx.1
  clear hx hc hw0
  go_enter Tryz.func66, Tryz.ntmps66
  go_wp2_with (fail)
  go_loopw [6, 7] (fun rv iv wr => ∃ (i : Int) (j r : Nat) (us : List Nat), i + 1 = j ∧ j ≤ n ∧ iv = .int .i64 i ∧ rv = .int .u64 r ∧ Hid (r < d ∧ DvB w w0 wr s A n c ∧ DvI w0 wr A n c us ∧ (∀ k, k < j → us[k]? = zs[k]?) ∧ V (us.drop j) * d + r = V (zs.drop j))) (fun _ iv _ => (intOf iv + 1).toNat)
  case atStart => exact ⟨(n : Int) - 1, n, 0, zs, by omega, by omega, rfl, rfl, by omega, H0.out, DvI.start Hx.out.1, fun _ _ => rfl, by rw [V_drop_all zs n (by omega)]; simp⟩
  case round =>
    clear H0
    obtain ⟨i, j, r, us, hij, hj, rfl, rfl, hH⟩ := hrel
    rcases Nat.eq_zero_or_pos j with rfl | hj0
    · obtain rfl : i = -1 := by omega
      have hsl : Sl wr A n c us := DvI.sl hH.out.2.2.1 Hx.out.1
      have hrr := hH.out.2.2.2.2
      rw [List.drop_zero, List.drop_zero] at hrr
      have HR := Lib.hid (And.intro hH.out.1 (And.intro hsl (And.intro hrr (And.intro hH.out.2.1 hH.out.2.2.1))))
      have p0 := hH.out.2.1.2.1
      have p1 := hH.out.2.1.1
      obtain ⟨q0, f0⟩ := hH.out.2.1.2.2.1 0 _ rfl
      obtain ⟨q1, f1⟩ := hH.out.2.1.2.2.1 1 _ rfl
      clear hsl hrr hH
      go_wp2_with (fail)
      go_region_held3 (fun w' => w'.cell? ⟨w.heap.size, 0, none⟩ = some (.bool s) ∧ w'.cell? ⟨w.heap.size, 1, none⟩ = some (.slice A n c)) (first | exact ⟨p0, p1⟩ | exact ⟨keep2b p0, keep2b p1⟩ | go_keep)
        (first | (go_at_call 23; refine (fused_ok A n c us wr.drew (by omega) (show Sl wr A n c us from HR.out.2.1)).mono ?_; rintro e w3 ⟨k3, rfl, hk3, hU, rfl⟩; have HU := Lib.hid hU; clear hU))
      go_wp2_with (fail)
      exact bodyPost_ret (v := .tuple #[.agg #[.bool s, .slice A k3 c], .bool ((r : Int) == 0)]) (by simp [results, Tryz.results66, go_sem, World.cell?_setCell_same', q0, q1]) rfl (dv_done Hx.out.1 HR.out.2.2.2.1 HR.out.2.2.2.2 HR.out.1 HR.out.2.2.1 HU.out.out hk3)
    · obtain ⟨k, rfl⟩ := Int.eq_ofNat_of_zero_le (show 0 ≤ i by omega)
      obtain rfl : j = k + 1 := by omega
      have hkn : (k : Int) < (n : Int) := by omega
      have hzl : k < zs.length := by omega
      have hg := List.getElem?_eq_getElem hzl
      have hxB : zs[k] < B64 := Hx.out.1.2.1 _ (List.getElem_mem hzl)
      generalize zs[k] = x at *
      obtain ⟨q, r', hdv, hcall⟩ := div64_any r x d hH.out.1 hxB (by have : B64 = 18446744073709551616 := rfl; omega)
      obtain ⟨g, rfl, hg0, ho, hcm⟩ := hH.out.2.2.1.2.2 (by omega)
      have huk : us[k]? = some x := by rw [hH.out.2.2.2.1 k (by omega)]; exact hg
      have p0 := hH.out.2.1.1
      have cx := ho.cell huk
      have fx := ho.frozen k
      have HN : ∀ m1 : Nat, Hid (r' < d ∧ (DvB w w0 ((wr.drewN m1).setCell ⟨g, k, none⟩ (.int .u64 (q : Int))) s (some ⟨g, 0, none⟩) n c) ∧ DvI w0 ((wr.drewN m1).setCell ⟨g, k, none⟩ (.int .u64 (q : Int))) (some ⟨g, 0, none⟩) n c (us.set k q) ∧ (∀ m, m < k → (us.set k q)[m]? = zs[m]?) ∧ V ((us.set k q).drop k) * d + r' = V (zs.drop k)) := by
        intro m1
        have hne1 : g ≠ w.heap.size := by have := hH.out.2.1.2.2.2.2.1 ⟨g, 0, none⟩ (by omega) rfl; simp only at this; omega
        have hne2 : g ≠ w.heap.size + 1 := by have := hH.out.2.1.2.2.2.2.1 ⟨g, 0, none⟩ (by omega) rfl; simp only at this; omega
        obtain ⟨e1, e2, e3, e4, e5, e6⟩ := hH.out.2.1
        have hqB : q < B64 := hdv.2.2
        refine ⟨hdv.2.1, ⟨?_, ?_, Bk.far (show Bk (wr.drewN m1) _ _ from e3) (by omega) _ _, fun B hB hA => (below_drewN (e4 B hB hA) m1).setCell (p := ⟨g, k, none⟩) (hA ⟨g, 0, none⟩ rfl) _, e5, fun h0 => by omega⟩, ⟨by rw [List.length_set]; exact hH.out.2.2.1.1, Ws_set hH.out.2.2.1.2.1 k q hqB, fun _ => ⟨g, rfl, hg0, OwT.set (show OwT (wr.drewN m1) g c us from ho) k q, hcm⟩⟩, fun m hm => by rw [List.getElem?_set_ne (by omega)]; exact hH.out.2.2.2.1 m (by omega), dv_step hg huk hdv.1 hH.out.2.2.2.2⟩
        · rw [World.cell?_setCell_other _ _ _ _ (by intro e; injection e with e; exact hne1 e)]; exact e1
        · rw [World.cell?_setCell_other _ _ _ _ (by intro e; injection e with e; exact hne1 e)]; exact e2
      have Hc := Lib.hid hcall
      have HS0 := Lib.hid (show (fun w' : World => w'.cell? ⟨w.heap.size, 1, none⟩ = some (.slice (some ⟨g, 0, none⟩) n c) ∧ w'.cell? ⟨g, k, none⟩ = some (.int .u64 (x : Int))) wr.drew from ⟨p0, cx⟩)
      clear hzl hg hxB hdv hcall huk ho hg0 hcm hH
      go_wp2_with (fail)
      refine wp_region_M 15 (fun w' => w'.cell? ⟨w.heap.size, 1, none⟩ = some (.slice (some ⟨g, 0, none⟩) n c) ∧ w'.cell? ⟨g, k, none⟩ = some (.int .u64 (x : Int))) hmix ?_
      refine wpAnyM_take (i := 0) (v := ?_) rfl rfl (by kernel_rfl) (by kernel_rfl) (by kernel_rfl) (by kernel_rfl) (by kernel_rfl) (by kernel_rfl) (fun _ _ _ h => h) HS0.out (Or.inl ⟨by rfl, ?_⟩) ?_
      rotate_left
      · rintro w ⟨q0, q1⟩; go_simp; try with_reducible rfl
      try simp only [Act.put, List.setIfInBounds_toArray, List.set_cons_zero, List.set_cons_succ]
      refine wpAnyM_take (i := 1) (v := ?_) rfl rfl (by kernel_rfl) (by kernel_rfl) (by kernel_rfl) (by kernel_rfl) (by kernel_rfl) (by kernel_rfl) (fun _ _ _ h => h) HS0.out (Or.inl ⟨by rfl, ?_⟩) ?_
      rotate_left
      · rintro w ⟨q0, q1⟩; go_simp; try with_reducible rfl
      try simp only [Act.put, List.setIfInBounds_toArray, List.set_cons_zero, List.set_cons_succ]
      refine wpAnyM_take (i := 2) (v := ?_) rfl rfl (by kernel_rfl) (by kernel_rfl) (by kernel_rfl) (by kernel_rfl) (by kernel_rfl) (by kernel_rfl) (fun _ _ _ h => h) HS0.out (Or.inl ⟨by rfl, ?_⟩) ?_
      rotate_left
      · rintro w ⟨q0, q1⟩; go_simp; try with_reducible rfl
      try simp only [Act.put, List.setIfInBounds_toArray, List.set_cons_zero, List.set_cons_succ]
      refine wpAnyM_take (i := 3) (v := ?_) rfl rfl (by kernel_rfl) (by kernel_rfl) (by kernel_rfl) (by kernel_rfl) (by kernel_rfl) (by kernel_rfl) (fun _ _ _ h => h) HS0.out (Or.inl ⟨by rfl, ?_⟩) ?_
      rotate_left
      · rintro w ⟨q0, q1⟩; go_simp; try with_reducible rfl
      try simp only [Act.put, List.setIfInBounds_toArray, List.set_cons_zero, List.set_cons_succ]
      refine wpAnyM_take (i := 4) (v := ?_) rfl rfl (by kernel_rfl) (by kernel_rfl) (by kernel_rfl) (by kernel_rfl) (by kernel_rfl) (by kernel_rfl) (fun _ _ _ h => h) HS0.out (Or.inl ⟨by rfl, ?_⟩) ?_
      rotate_left
      · rintro w ⟨q0, q1⟩; go_simp; try with_reducible rfl
      try simp only [Act.put, List.setIfInBounds_toArray, List.set_cons_zero, List.set_cons_succ]
      refine wpAnyM_take (i := 5) (v := ?_) rfl rfl (by kernel_rfl) (by kernel_rfl) (by kernel_rfl) (by kernel_rfl) (by kernel_rfl) (by kernel_rfl) (fun _ _ _ h => h) HS0.out (Or.inl ⟨by rfl, ?_⟩) ?_
      rotate_left
      · rintro w ⟨q0, q1⟩; go_simp; try with_reducible rfl
      try simp only [Act.put, List.setIfInBounds_toArray, List.set_cons_zero, List.set_cons_succ]
      refine wpAnyM_take (i := 6) (v := ?_) rfl rfl (by kernel_rfl) (by kernel_rfl) (by kernel_rfl) (by kernel_rfl) (by kernel_rfl) (by kernel_rfl) (fun _ _ _ h => h) HS0.out (Or.inl ⟨by rfl, ?_⟩) ?_
      rotate_left
      · rintro w ⟨q0, q1⟩; go_simp; try with_reducible rfl
      try simp only [Act.put, List.setIfInBounds_toArray, List.set_cons_zero, List.set_cons_succ]
      refine wpAnyM_take (i := 7) (v := ?_) rfl rfl (by kernel_rfl) (by kernel_rfl) (by kernel_rfl) (by kernel_rfl) (by kernel_rfl) (by kernel_rfl) (fun _ _ _ h => h) HS0.out (Or.inl ⟨by rfl, ?_⟩) ?_
      rotate_left
      · rintro w ⟨q0, q1⟩; go_simp; try with_reducible rfl
      try simp only [Act.put, List.setIfInBounds_toArray, List.set_cons_zero, List.set_cons_succ]
      refine wpAnyM_take (i := 8) (v := ?_) rfl rfl (by kernel_rfl) (by kernel_rfl) (by kernel_rfl) (by kernel_rfl) (by kernel_rfl) (by kernel_rfl) (fun _ _ _ h => h) HS0.out (Or.inl ⟨by rfl, ?_⟩) ?_
      rotate_left
      · rintro w ⟨q0, q1⟩; go_simp; try with_reducible rfl
      try simp only [Act.put, List.setIfInBounds_toArray, List.set_cons_zero, List.set_cons_succ]
      refine wpAnyM_take (i := 9) (v := ?_) rfl rfl (by kernel_rfl) (by kernel_rfl) (by kernel_rfl) (by kernel_rfl) (by kernel_rfl) (by kernel_rfl) (fun _ _ _ h => h) HS0.out (Or.inl ⟨by rfl, ?_⟩) ?_
      rotate_left
      · rintro w ⟨q0, q1⟩; go_simp; try with_reducible rfl
      try simp only [Act.put, List.setIfInBounds_toArray, List.set_cons_zero, List.set_cons_succ]

      refine wpAnyM_one (i := 10) rfl (by kernel_rfl) (fun K hK => ?_)
      go_simp
      refine (Hc.out _).mono ?_
      rintro e w1 ⟨rfl, m1, rfl⟩
      refine hK.out _ _ (fun _ => HS0.out) ?_
      clear hK K
      try simp only [Act.put, List.setIfInBounds_toArray, List.set_cons_zero, List.set_cons_succ]
      refine wpAnyM_take (i := 11) (v := ?_) rfl rfl (by kernel_rfl) (by kernel_rfl) (by kernel_rfl) (by kernel_rfl) (by kernel_rfl) (by kernel_rfl) (fun _ _ _ h => h) HS0.out (Or.inl ⟨by rfl, ?_⟩) ?_
      rotate_left
      · rintro w ⟨q0, q1⟩; go_simp; try with_reducible rfl
      try simp only [Act.put, List.setIfInBounds_toArray, List.set_cons_zero, List.set_cons_succ]
      refine wpAnyM_take (i := 12) (v := ?_) rfl rfl (by kernel_rfl) (by kernel_rfl) (by kernel_rfl) (by kernel_rfl) (by kernel_rfl) (by kernel_rfl) (fun _ _ _ h => h) HS0.out (Or.inl ⟨by rfl, ?_⟩) ?_
      rotate_left
      · rintro w ⟨q0, q1⟩; go_simp; try with_reducible rfl
      try simp only [Act.put, List.setIfInBounds_toArray, List.set_cons_zero, List.set_cons_succ]
      refine wpAnyM_take (i := 14) (v := ?_) rfl rfl (by kernel_rfl) (by kernel_rfl) (by kernel_rfl) (by kernel_rfl) (by kernel_rfl) (by kernel_rfl) (fun _ _ _ h => h) HS0.out (Or.inl ⟨by rfl, ?_⟩) ?_
      rotate_left
      · rintro w ⟨q0, q1⟩; go_simp; try with_reducible rfl
      try simp only [Act.put, List.setIfInBounds_toArray, List.set_cons_zero, List.set_cons_succ]

      refine wpAnyM_ready [13, 15] (by kernel_rfl) (by simp) ?_
      intro i hi
      simp only [List.mem_cons, List.not_mem_nil, or_false] at hi
      rcases hi with rfl | rfl
      · refine ⟨_, rfl, fun K hK => ?_⟩
        go_simp
        refine hK.out _ _ (fun _ => HS0.out) ?_
        clear hK K
        try simp only [Act.put, List.setIfInBounds_toArray, List.set_cons_zero, List.set_cons_succ]
        refine wpAnyM_one (i := 15) rfl (by kernel_rfl) (fun K hK => ?_)
        go_simp
        refine hK.out _ _ (fun h => absurd h (by decide)) ?_
        clear hK K
        try simp only [Act.put, List.setIfInBounds_toArray, List.set_cons_zero, List.set_cons_succ]
        refine wpAnyM_one (i := 16) rfl (by kernel_rfl) (fun K hK => ?_)
        go_simp
        refine hK.out _ _ (fun h => absurd h (by decide)) ?_
        clear hK K
        try simp only [Act.put, List.setIfInBounds_toArray, List.set_cons_zero, List.set_cons_succ]
        refine wpAnyM_done (by kernel_rfl) ?_ _
        clear HS0
        go_wp2_with (fail)
        go_roundw
        case rel => exact ⟨(k : Int) - 1, k, r', us.set k q, by omega, by omega, rfl, rfl, HN (1 + m1)⟩
        case measure => (simp [intOf]; try omega)
      · refine ⟨_, rfl, fun K hK => ?_⟩
        go_simp
        refine hK.out _ _ (fun h => absurd h (by decide)) ?_
        clear hK K
        try simp only [Act.put, List.setIfInBounds_toArray, List.set_cons_zero, List.set_cons_succ]
        refine wpAnyM_one (i := 13) rfl (by kernel_rfl) (fun K hK => ?_)
        go_simp
        refine hK.out _ _ (fun h => absurd h (by decide)) ?_
        clear hK K
        try simp only [Act.put, List.setIfInBounds_toArray, List.set_cons_zero, List.set_cons_succ]
        refine wpAnyM_one (i := 16) rfl (by kernel_rfl) (fun K hK => ?_)
        go_simp
        refine hK.out _ _ (fun h => absurd h (by decide)) ?_
        clear hK K
        try simp only [Act.put, List.setIfInBounds_toArray, List.set_cons_zero, List.set_cons_succ]
        refine wpAnyM_done (by kernel_rfl) ?_ _
        clear HS0
        go_wp2_with (fail)
        go_roundw
        case rel => exact ⟨(k : Int) - 1, k, r', us.set k q, by omega, by omega, rfl, rfl, HN (1 + m1)⟩
        case measure => (simp [intOf]; try omega)
end Go.Proofs.YthpgdpkemnhneaaGreatDoor

namespace Go.Proofs.YthpgdpkemnhneaaGreatDoor
open Go.RowKit Go.Shelf
set_option linter.unusedVariables false
set_option linter.unusedSimpArgs false
set_option maxRecDepth 10000

theorem outOfPiece_ok (n : Int) (w : World) : Calls Tryz.prog 21 #[.int .i64 n] w fun e w' => e = .returned (.bool (decide (n < 1 ∨ 1000 < n))) ∧ w = w' := by
  by_cases h1 : n < 1
  · go_enter Tryz.func21, Tryz.ntmps21
    go_wp2
    go_ret
    simp [h1]
  · by_cases h2 : n > 1000
    · go_enter Tryz.func21, Tryz.ntmps21
      go_wp2
      go_ret
      simp [h1, show 1000 < n from h2]
    · go_enter Tryz.func21, Tryz.ntmps21
      go_wp2
      go_ret
      simp [h1]; omega

set_option maxHeartbeats 2000000 in
theorem fromInt_ok (g : Bool) (A : Option Addr) (n c : Nat) (xs : List Nat) (w : World) (hn : n ≤ 4096) (hx : Sl w A n c xs) :
    Calls Tryz.prog 30 #[.agg #[.bool g, .slice A n c]] w fun e w' => ∃ k, e = .returned (.agg #[.bool g, .slice A k c]) ∧ k ≤ n ∧ Hid (V (xs.take k) = V xs ∧ Cn (xs.take k)) ∧ Below w.heap.size w w' := by
  have Hx := Lib.hid hx
  clear hx
  go_enter Tryz.func30, Tryz.ntmps30
  go_wp2_with (fail)
  obtain ⟨X, hX⟩ : ∃ X, (w.alloc (.cells #[.bool g, .slice A n c] 32)).alloc (.cells #[.bool false, .slice none 0 0] 59) = X := ⟨_, rfl⟩
  have hb : Below w.heap.size w X := by rw [← hX]; exact ((Below.refl _ _).alloc (Nat.le_refl _) _).alloc (by simp) _
  have k0 : Bk X w.heap.size [.bool g, .slice A n c] := by
    rw [← hX]; exact (Bk.new w _ _).below ((Below.refl _ _).alloc (Nat.le_refl _) _) (by simp)
  have k1 : Bk X (w.heap.size + 1) [.bool false, .slice none 0 0] := by
    have := Bk.new (w.alloc (.cells #[.bool g, .slice A n c] 32)) [.bool false, .slice none 0 0] 59
    rw [World.size_alloc] at this
    rw [← hX]; exact this
  obtain ⟨p0, -⟩ := k0 0 _ rfl
  obtain ⟨p1, -⟩ := k0 1 _ rfl
  obtain ⟨q0, f0⟩ := k1 0 _ rfl
  obtain ⟨q1, f1⟩ := k1 1 _ rfl
  have HX := Lib.hid hb
  rw [hX]
  clear hX hb k0 k1
  go_region_held3 (fun w' => w'.cell? ⟨w.heap.size, 0, none⟩ = some (.bool g) ∧ w'.cell? ⟨w.heap.size, 1, none⟩ = some (.slice A n c)) (first | exact ⟨p0, p1⟩ | exact ⟨keep2b p0, keep2b p1⟩ | go_keep)
    (first | (go_at_call 23; refine (fused_ok A n c xs X.drew (by omega) (show Sl X A n c xs from Hx.out.below HX.out)).mono ?_; rintro e w3 ⟨k3, rfl, hk3, hU, rfl⟩; have HU := Lib.hid hU; clear hU))
  go_wp2_with (fail)
  exact bodyPost_ret (v := .agg #[.bool g, .slice A k3 c]) (by simp [results, Tryz.results30, go_sem, World.cell?_setCell_same', q0, q1]) rfl ⟨k3, rfl, hk3, HU.out, ((show Below w.heap.size w X.drew from below_drewN HX.out 1).setCell (p := ⟨w.heap.size + 1, 0, none⟩) (by show w.heap.size ≤ w.heap.size + 1; omega) _).setCell (p := ⟨w.heap.size + 1, 1, none⟩) (by show w.heap.size ≤ w.heap.size + 1; omega) _⟩

set_option maxHeartbeats 2000000 in
theorem toInt_ok (w0 : World) (s : Bool) (A : Option Addr) (n c : Nat) (xs : List Nat) (S : Int) (w : World) (hx : Sg w0 w s A n c xs S) (hn : n ≤ 9223372036854775807) :
    Calls Tryz.prog 31 #[.agg #[.bool s, .slice A n c]] w fun e w' => ((e = .returned (.tuple #[.agg #[.bool s, .slice A n c], .int .i64 0]) ∧ V xs < Big ∧ n ≤ 4096) ∨ (e = .returned (.tuple #[.agg #[.bool false, .slice none 0 0], .int .i64 2]) ∧ Big ≤ V xs)) ∧ Below w.heap.size w w' := by
  have Hx := Lib.hid hx
  clear hx
  go_enter Tryz.func31, Tryz.ntmps31
  go_wp2_with (fail)
  have hb0 : Below w.heap.size w ((w.alloc (.cells #[.bool s, .slice A n c] 59)).alloc (.cells #[.bool false, .slice none 0 0] 32)) := ((Below.refl _ _).alloc (Nat.le_refl _) _).alloc (by simp) _
  refine (fresult_ok w0 A n c xs _ (Hx.out.1.later (Nat.le_refl _) hb0) Hx.out.2.1 hn).mono ?_
  rintro z w3 ⟨hz, hb3⟩
  have k0 := ((Bk.new w [.bool s, .slice A n c] 59).below ((Below.refl _ _).alloc (Nat.le_refl _) (.cells #[.bool false, .slice none 0 0] 32)) (by simp)).below hb3 (by simp; omega)
  have k1 : Bk w3 (w.heap.size + 1) [.bool false, .slice none 0 0] := by
    have := Bk.new (w.alloc (.cells #[.bool s, .slice A n c] 59)) [.bool false, .slice none 0 0] 32
    rw [World.size_alloc] at this
    exact this.below hb3 (by simp)
  obtain ⟨p0, -⟩ := k0 0 _ rfl
  obtain ⟨p1, -⟩ := k0 1 _ rfl
  obtain ⟨q0, f0⟩ := k1 0 _ rfl
  obtain ⟨q1, f1⟩ := k1 1 _ rfl
  have HB := Lib.hid (hb0.trans (hb3.mono hb0.size))
  clear hb0 hb3 k0 k1
  rcases hz with ⟨rfl, -, hz⟩ | ⟨rfl, hz⟩
  · have Hz := Lib.hid hz
    clear hz
    go_wp2_with (fail)
    exact bodyPost_ret (v := .tuple #[.agg #[.bool s, .slice A n c], .int .i64 0]) (by simp [results, Tryz.results31, go_sem, World.cell?_setCell_same', q0, q1]) rfl ⟨Or.inl ⟨rfl, Hz.out⟩, (HB.out.setCell (p := ⟨w.heap.size + 1, 0, none⟩) (by show w.heap.size ≤ w.heap.size + 1; omega) _).setCell (p := ⟨w.heap.size + 1, 1, none⟩) (by show w.heap.size ≤ w.heap.size + 1; omega) _⟩
  · have Hz := Lib.hid hz
    clear hz
    go_wp2_with (fail)
    exact bodyPost_ret (v := .tuple #[.agg #[.bool false, .slice none 0 0], .int .i64 2]) (by simp [results, Tryz.results31, go_sem, World.cell?_setCell_same', q0, q1]) rfl ⟨Or.inr ⟨rfl, Hz.out⟩, (HB.out.setCell (p := ⟨w.heap.size + 1, 0, none⟩) (by show w.heap.size ≤ w.heap.size + 1; omega) _).setCell (p := ⟨w.heap.size + 1, 1, none⟩) (by show w.heap.size ≤ w.heap.size + 1; omega) _⟩
end Go.Proofs.YthpgdpkemnhneaaGreatDoor
