/- The contract of fast.sum. -/
import Derived.Test.YtalcikmngglplaaDoorP8
import Derived.Deep.RegionHeld3
namespace Go.Proofs.YtalcikmngglplaaDoor
open Go.RowKit Go.Shelf
set_option linter.unusedVariables false
set_option linter.unusedSimpArgs false
set_option maxRecDepth 10000

/-- the world with the result's place -/
def W117 (w : World) : World := w.alloc (.cells #[.bool false, .slice none 0 0] 67)
theorem W117_size (w : World) : (W117 w).heap.size = w.heap.size + 1 := by simp [W117]
theorem W117_below (w : World) : Below w.heap.size w (W117 w) := (Below.refl _ _).alloc (Nat.le_refl _) _

theorem wsum_mem {ts : List Tm} {t : Tm} (h : t ∈ ts) : t.wt.natAbs ≤ wsum ts := by
  induction ts with
  | nil => cases h
  | cons a al ih =>
    rw [show wsum (a :: al) = a.wt.natAbs + wsum al by simp [wsum]]
    rcases List.mem_cons.1 h with h1 | h1
    · rw [h1]; omega
    · have := ih h1; omega
theorem FA.und {w w' : World} {g N : Nat} {zs : List Nat} (h : FA (World.drew w) w' g N zs) : FA w w' g N zs := ⟨h.1, h.2.1, h.2.2.1, ⟨h.2.2.2.os, h.2.2.2.tape, h.2.2.2.output, h.2.2.2.size, h.2.2.2.block⟩⟩
theorem AddR.und {w w' : World} {g N z : Nat} (h : AddR (World.drew w) w' g N z) : AddR w w' g N z := by obtain ⟨zs, q, h1, h2⟩ := h; exact ⟨zs, q, h1.und, h2⟩
theorem SubR.und {w w' : World} {g N y z : Nat} (h : SubR (World.drew w) w' g N y z) : SubR w w' g N y z := by obtain ⟨zs, q, h1, h2⟩ := h; exact ⟨zs, q, h1.und, h2⟩
theorem sl_off {w : World} {A : Option Addr} {n c g : Nat} {xs : List Nat} (h : Sl w A n c xs) (hg : w.heap.size ≤ g) : n ≠ 0 → ∀ p, A = some p → some p.block ≠ some g := by
  intro hn p hp e
  obtain ⟨b, o, e2, hb, _⟩ := h.2.2.2.2 (by intro h0; have := congrArg List.length h0; rw [uvs_length, h.1] at this; exact hn this)
  rw [hp] at e2
  injection e2 with e2
  subst e2
  injection e with e
  simp only at e
  omega
theorem row_off {w : World} {g : Nat} {us : List Nat} {i : Nat} (h : RowAt w g us) : some (⟨w.heap.size, i, none⟩ : Addr).block ≠ some g := by
  have := h.lt
  intro e
  injection e with e
  simp only at e
  omega
theorem res_facts {w wr : World} {o : Obj} (h : Below (W117 w).heap.size (W117 w) wr) :
    (wr.alloc o).cell? ⟨w.heap.size, 0, none⟩ = some (.bool false) ∧ (wr.alloc o).cell? ⟨w.heap.size, 1, none⟩ = some (.slice none 0 0) ∧ (wr.alloc o).frozen? ⟨w.heap.size, 0, none⟩ = false ∧ (wr.alloc o).frozen? ⟨w.heap.size, 1, none⟩ = false := by
  have hb : (wr.alloc o).heap[w.heap.size]? = (W117 w).heap[w.heap.size]? := (Below.heap_alloc wr o _ (by have := h.size; rw [W117_size] at this; omega)).trans (h.block _ (by rw [W117_size]; omega))
  refine ⟨(World.cell?_of_block (a := ⟨w.heap.size, 0, none⟩) hb).trans ?_, (World.cell?_of_block (a := ⟨w.heap.size, 1, none⟩) hb).trans ?_, (World.frozen?_of_block (a := ⟨w.heap.size, 0, none⟩) hb).trans ?_, (World.frozen?_of_block (a := ⟨w.heap.size, 1, none⟩) hb).trans ?_⟩ <;> simp [W117]
theorem RowAt.sl {W : World} {g N : Nat} {us : List Nat} (h : RowAt W g us) (hw : Ws us) (hl : us.length = N) (hN : N ≤ 100000) : Sl W (some ⟨g, 0, none⟩) N N us :=
  ⟨hl, Nat.le_refl _, by omega, hw, fun _ => ⟨g, 0, rfl, h.lt, fun j u hu => by
    obtain ⟨x, hx, rfl⟩ : ∃ x, us[j]? = some x ∧ u = .int .u64 (x : Int) := by
      simp only [uvs, List.getElem?_map, Option.map_eq_some_iff] at hu
      obtain ⟨x, h1, h2⟩ := hu
      exact ⟨x, h1, h2.symm⟩
    rw [Nat.zero_add]
    exact h.cell hx⟩⟩
theorem keep2 {W : World} {b g i j k : Nat} {u v x : Value} (h : W.cell? ⟨g, i, none⟩ = some x) (hb : b < g) : ((W.setCell ⟨b, j, none⟩ u).setCell ⟨b, k, none⟩ v).drew.cell? ⟨g, i, none⟩ = some x := by
  show ((W.setCell ⟨b, j, none⟩ u).setCell ⟨b, k, none⟩ v).cell? ⟨g, i, none⟩ = some x
  rw [World.cell?_setCell_other _ _ _ _ (by intro e; injection e with e; omega), World.cell?_setCell_other _ _ _ _ (by intro e; injection e with e; omega)]
  exact h
theorem res_c {wr : World} {b : Nat} {u x : Value} {o : Obj} (hb : b < wr.heap.size) (h : (wr.alloc o).cell? ⟨b, 1, none⟩ = some x) : ((wr.setCell ⟨b, 0, none⟩ u).alloc o).cell? ⟨b, 1, none⟩ = some x := by
  rw [World.cell?_alloc_lt _ _ _ (by rw [World.setCell]; simpa using hb), World.cell?_setCell_other _ _ _ _ (by simp)]
  rwa [World.cell?_alloc_lt _ _ _ hb] at h
theorem res_f {wr : World} {b : Nat} {u : Value} {o : Obj} (hb : b < wr.heap.size) (h : (wr.alloc o).frozen? ⟨b, 1, none⟩ = false) : ((wr.setCell ⟨b, 0, none⟩ u).alloc o).frozen? ⟨b, 1, none⟩ = false := by
  rw [World.frozen?_of_block (a := ⟨b, 1, none⟩) (Below.heap_alloc _ o b (by rw [World.setCell]; simpa using hb)), World.frozen?_setCell]
  rwa [World.frozen?_of_block (a := ⟨b, 1, none⟩) (Below.heap_alloc _ o b hb)] at h
/-- what lies ahead of the sum's end -/
def FinX (w X : World) (g N sb : Nat) (b : Bool) (vs : List Nat) (S : Int) : Prop :=
  (RowAt X g vs ∧ Ws vs ∧ vs.length = N ∧ S = sgn b (V vs) ∧ (b = true → V vs ≠ 0) ∧ w.heap.size < g ∧ Below w.heap.size w X) ∧
  X.cell? ⟨w.heap.size, 0, none⟩ = some (.bool false) ∧ X.cell? ⟨w.heap.size, 1, none⟩ = some (.slice none 0 0) ∧ X.frozen? ⟨w.heap.size, 0, none⟩ = false ∧ X.frozen? ⟨w.heap.size, 1, none⟩ = false ∧ X.cell? ⟨sb, 0, none⟩ = some (.bool b)
theorem FinX.pos {w w2 wr : World} {o : Obj} {g N : Nat} {us : List Nat} {S : Int} (hS : SumI w2 wr g N us S) (hb : Below (W117 w).heap.size (W117 w) wr) (hv : S = V us)
    (hp : (wr.alloc o).cell? ⟨w.heap.size, 0, none⟩ = some (.bool false) ∧ (wr.alloc o).cell? ⟨w.heap.size, 1, none⟩ = some (.slice none 0 0) ∧ (wr.alloc o).frozen? ⟨w.heap.size, 0, none⟩ = false ∧ (wr.alloc o).frozen? ⟨w.heap.size, 1, none⟩ = false)
    (hq : (wr.alloc o).cell? ⟨wr.heap.size, 0, none⟩ = some (.bool false)) (hg : w.heap.size < g) : FinX w (wr.alloc o) g N wr.heap.size false us S :=
  ⟨⟨hS.1.1.alloc _, hS.1.2.1, hS.1.2.2.1, hv, fun h => absurd h (by decide), hg, ((W117_below w).trans (hb.mono (by rw [W117_size]; omega))).alloc (by have := hb.size; rw [W117_size] at this; omega) _⟩, hp.1, hp.2.1, hp.2.2.1, hp.2.2.2, hq⟩
theorem FinX.neg {w w2 wr X : World} {o : Obj} {g N sb : Nat} {us : List Nat} {S : Int} (hN : NegR (wr.alloc o) X g N (V us)) (hS : SumI w2 wr g N us S) (hb : Below (W117 w).heap.size (W117 w) wr) (hv : S = (V us : Int) - ((B64 ^ N : Nat) : Int) ∧ 0 < V us)
    (hp : (wr.alloc o).cell? ⟨w.heap.size, 0, none⟩ = some (.bool false) ∧ (wr.alloc o).cell? ⟨w.heap.size, 1, none⟩ = some (.slice none 0 0) ∧ (wr.alloc o).frozen? ⟨w.heap.size, 0, none⟩ = false ∧ (wr.alloc o).frozen? ⟨w.heap.size, 1, none⟩ = false)
    (hq : (wr.alloc o).cell? ⟨sb, 0, none⟩ = some (.bool true)) (hsb : w.heap.size < sb) (hg : w.heap.size < g) (hgs : g < sb) : ∃ vs, FinX w X g N sb true vs S := by
  obtain ⟨vs, q, h1, hq1, h2⟩ := hN
  have h3 := V_lt _ hS.1.2.1
  rw [hS.1.2.2.1] at h3
  have hq2 : q = 1 := by
    have : q = 0 ∨ q = 1 := by omega
    rcases this with rfl | rfl
    · rw [Nat.zero_mul] at h2
      omega
    · rfl
  subst hq2
  rw [Nat.one_mul] at h2
  have k : ∀ i, X.cell? ⟨w.heap.size, i, none⟩ = (wr.alloc o).cell? ⟨w.heap.size, i, none⟩ := fun i => World.cell?_of_block (a := ⟨w.heap.size, i, none⟩) (h1.2.2.2.block w.heap.size (by rw [World.size_alloc]; have := hb.size; rw [W117_size] at this; omega) (show some w.heap.size ≠ some g by intro e; injection e with e; omega))
  have kf : ∀ i, X.frozen? ⟨w.heap.size, i, none⟩ = (wr.alloc o).frozen? ⟨w.heap.size, i, none⟩ := fun i => World.frozen?_of_block (a := ⟨w.heap.size, i, none⟩) (h1.2.2.2.block w.heap.size (by rw [World.size_alloc]; have := hb.size; rw [W117_size] at this; omega) (show some w.heap.size ≠ some g by intro e; injection e with e; omega))
  refine ⟨vs, ⟨h1.1, h1.2.1, h1.2.2.1, ?_, fun _ => by omega, hg, ?_⟩, by rw [k]; exact hp.1, by rw [k]; exact hp.2.1, by rw [kf]; exact hp.2.2.1, by rw [kf]; exact hp.2.2.2, h1.2.2.2.cell hq (by show some sb ≠ some g; intro e; injection e with e; omega)⟩
  · rw [hv.1]
    show _ = -((V vs : Nat) : Int)
    omega
  · have hb1 : Below w.heap.size w (wr.alloc o) := ((W117_below w).trans (hb.mono (by rw [W117_size]; omega))).alloc (by have := hb.size; rw [W117_size] at this; omega) _
    exact hb1.grown h1.2.2.2 hb1.size (by intro j hj; injection hj with hj; omega)
theorem RowAt.own_ {w W : World} {g : Nat} {zs : List Nat} (h : RowAt W g zs) (hg : w.heap.size ≤ g) (hl : zs.length ≤ 100000) : W.ownsRow w.heap.size 24 1 (.slice (some ⟨g, 0, none⟩) zs.length zs.length) zs.length (uvs zs) :=
  ⟨by rw [uvs_length]; omega, .inr ⟨g, zs.length, _, rfl, hg, h, Nat.le_refl _, by unfold maxLen; omega, by simp [uvs_length], by rw [Nat.mul_one]; exact List.take_of_length_le (by simp [uvs_length])⟩⟩
theorem sum_done {w X : World} {g N k : Nat} {b : Bool} {u v : Value} {vs : List Nat} {S : Int} (h : RowAt X g vs ∧ Ws vs ∧ vs.length = N ∧ S = sgn b (V vs) ∧ (b = true → V vs ≠ 0) ∧ w.heap.size < g ∧ Below w.heap.size w X) (hU : V (vs.take k) = V vs ∧ Cn (vs.take k)) (hk : k ≤ N) (hN : N ≤ 100000 := by omega) :
    SumR w (((X.setCell ⟨w.heap.size, 0, none⟩ u).setCell ⟨w.heap.size, 1, none⟩ v).drew) (.returned (sgV b (some ⟨g, 0, none⟩) k N)) S := by
  obtain ⟨h1, h2, h3, h4, h5, h6, h7⟩ := h
  have hr : RowAt ((X.setCell ⟨w.heap.size, 0, none⟩ u).setCell ⟨w.heap.size, 1, none⟩ v) g vs := (h1.far (p := ⟨w.heap.size, 0, none⟩) (by show g ≠ w.heap.size; omega) u).far (p := ⟨w.heap.size, 1, none⟩) (by show g ≠ w.heap.size; omega) v
  have ho := hr.own_ (w := w) (by omega) (by omega)
  rw [h3] at ho
  have hb := (h7.setCell (p := ⟨w.heap.size, 0, none⟩) (Nat.le_refl _) u).setCell (p := ⟨w.heap.size, 1, none⟩) (Nat.le_refl _) v
  exact ⟨b, _, k, N, vs.take k, rfl, ⟨Nw.tk ⟨h3, h2, ho⟩ hk, hU.2, by rw [hU.1]; exact h4, fun hb => by rw [hU.1]; exact h5 hb⟩, below_drewN hb 1⟩
theorem row_zeros {w1 : World} {n g B : Nat} (h : w1.ownsRow B 24 1 (.slice (some ⟨g, 0, none⟩) n n) n (madeCells #[Value.int .u64 0] n).toList) : RowAt w1 g (List.replicate n 0) := by
  have hu : (madeCells #[Value.int .u64 0] n).toList = uvs (List.replicate n 0) := by
    refine List.ext_getElem (by simp [madeCells, uvs]) (fun i h1 h2 => ?_)
    simp [madeCells, uvs, Nat.mod_one]
  rw [hu] at h
  exact row_own h

set_option maxHeartbeats 4000000 in
theorem fsum_ok (ts : List Tm) (A : Option Addr) (m c : Nat) (L : Nat) (w : World) (hm : m ≤ 5000) (hx : Tl w A m c ts) (hL : ∀ t ∈ ts, t.pl + t.n ≤ L) (hL5 : L ≤ 50000) (hW : wsum ts < H63) :
    Calls Tryd.prog 44 #[.slice A m c] w fun e w' => SumR w w' e (tsum ts) := by
  obtain ⟨i0, hi, hz0, hz1, hz2⟩ := info_parts Tryd.info24
  have Hx := Lib.hid (And.intro hx (And.intro hL hW))
  clear hx hL hW
  go_enter Tryd.func44, Tryd.ntmps44
  go_wp2
  go_loopw [3, 5, 13] (fun lv _ iv wr => ∃ (k l : Nat), k ≤ m ∧ iv = .int .i64 k ∧ lv = .int .i64 l ∧ l ≤ L ∧ Hid ((∀ t ∈ ts.take k, t.pl + t.n ≤ l) ∧ Below (W117 w).heap.size (W117 w) wr)) (fun _ _ iv _ => m - (intOf iv).toNat)
  case atStart => exact ⟨0, 0, by omega, rfl, rfl, by omega, fun t ht => by simp at ht, Below.refl _ _⟩
  case round =>
    obtain ⟨k, l, hk, rfl, rfl, hl, hH⟩ := hrel
    by_cases hlt : k < m
    · have hkl : k < ts.length := by rw [Hx.out.1.1]; exact hlt
      have hg := List.getElem?_eq_getElem hkl
      have hmem : ts[k] ∈ ts := List.getElem_mem hkl
      obtain ⟨b, o, rfl, _, c0, c1, c2, c3⟩ := (Hx.out.1.below ((W117_below w).trans (hH.out.2.mono (by rw [W117_size]; omega)))).at hg
      have hle := Hx.out.2.1 _ hmem
      have hnx : ts.take (k + 1) = ts.take k ++ [ts[k]] := List.take_succ_eq_append_getElem hkl
      generalize ts[k] = t at *
      have hki : (k : Int) < m := by omega
      obtain ⟨l2, hl2⟩ : ∃ l2, Mx l2 l (t.pl + t.n) := ⟨max l (t.pl + t.n), by unfold Mx; omega⟩
      have HN : Hid ((∀ t ∈ ts.take (k + 1), t.pl + t.n ≤ l2) ∧ Below (W117 w).heap.size (W117 w) (wr.alloc (.cells #[.bool t.neg, .slice t.A t.n t.c, .int .i64 t.wt, .int .i64 (t.pl : Int)] 69))) :=
        ⟨fun s hs => by
          rw [hnx] at hs
          rcases List.mem_append.1 hs with h | h
          · have := hH.out.1 s h; unfold Mx at hl2; omega
          · rw [List.mem_singleton] at h; subst h; unfold Mx at hl2; omega, hH.out.2.alloc hH.out.2.size _⟩
      have hl2L : l2 ≤ L := by unfold Mx at hl2; omega
      have Hl2 := Lib.hid hl2
      clear hkl hg hmem hnx hl2 hH
      go_wp2
      refine ⟨⟨k + 1, l2, by omega, by go_num, congrArg (Value.int .i64) (by have := Hl2.out; unfold Mx at this; omega), hl2L, HN⟩, ?_⟩
      simp [intOf]; omega
    · have hkm : k = m := by omega
      have hki : ¬ (k : Int) < m := by omega
      obtain ⟨N, hN⟩ : ∃ N, N = l + 1 := ⟨_, rfl⟩
      have HNi := Lib.hid (show (l : Int) + 1 = (N : Int) by omega)
      have HNl := Lib.hid hN
      have hN5 : N ≤ 50001 := by omega
      have hall : ∀ t ∈ ts, t.pl + t.n ≤ l := fun t ht => hH.out.1 t (by rw [List.take_of_length_le (by rw [Hx.out.1.1]; omega)]; exact ht)
      have H1 := Lib.hid (And.intro hall hH.out.2)
      clear hall hH hkm hlt hN
      go_wp2_with (at_make; refine wpList_make_full _ rfl _ _ 23 rfl wr.heap.size 24 i0 (.int .u64 0) 1 Tryd.underlying23 hi hz0 hz1 .i64 .i64 _ _ N rfl rfl HNi.out HNi.out (by rw [hz2]; omega) (by unfold maxLen; omega) (Nat.le_refl _) ?_)
      intro w2 hown hgrow
      have hrow : RowAt w2 wr.heap.size (List.replicate N 0) := row_zeros hown
      have hb2 : Below (W117 w).heap.size (W117 w) w2 := H1.out.2.trans ((below_of_grown hgrow (Nat.le_refl _)).mono H1.out.2.size)
      obtain ⟨g, hg⟩ : ∃ g, g = wr.heap.size := ⟨_, rfl⟩
      rw [← hg] at hrow
      have hgs : (W117 w).heap.size ≤ g := by rw [hg]; exact H1.out.2.size
      have H2 := Lib.hid (And.intro H1.out.1 (And.intro hrow (And.intro hb2 hgs)))
      rw [← hg]
      clear hown hgrow hrow hb2 H1 hg hgs
      go_wp2
      go_loopw [8, 9, 32] (fun _ _ iv wr => ∃ (k : Nat), k ≤ m ∧ iv = .int .i64 k ∧ Hid (∃ us, SumI w2 wr g N us (tsum (ts.take k)))) (fun _ _ iv _ => m - (intOf iv).toNat)
      case atStart => exact ⟨0, by omega, rfl, ⟨List.replicate N 0, ⟨H2.out.2.1, fun x hx => by rw [List.eq_of_mem_replicate hx]; exact B64_pos, List.length_replicate, World.grownBy.refl w2 _⟩, 0, by rw [V_zeros']; simp [tsum]⟩⟩
      case round =>
        obtain ⟨k2, hk2, rfl, hHe⟩ := hrel
        obtain ⟨us, hS⟩ := hHe.out
        clear hHe
        by_cases hlt : k2 < m
        · have hkl : k2 < ts.length := by rw [Hx.out.1.1]; exact hlt
          have hgt := List.getElem?_eq_getElem hkl
          have hmem : ts[k2] ∈ ts := List.getElem_mem hkl
          have hbw : Below w.heap.size w wr := (W117_below w).trans ((H2.out.2.2.1.grown hS.1.2.2.2 H2.out.2.2.1.size (by intro j hj; injection hj with hj; rw [← hj]; exact H2.out.2.2.2)).mono (by rw [W117_size]; omega))
          obtain ⟨b, o, rfl, _, c0, c1, c2, c3⟩ := (Hx.out.1.below hbw).at hgt
          have hle := H2.out.1 _ hmem
          have hsl := Hx.out.1.2.2.2.2 _ hmem
          have hwt := wsum_mem hmem
          have hnx := tsum_succ ts k2 hkl
          generalize ts[k2] = t at *
          have hki2 : (k2 : Int) < m := by omega
          obtain ⟨a, ha⟩ : ∃ a, a = t.wt.natAbs := ⟨_, rfl⟩
          have ha63 : a < H63 := Nat.lt_of_le_of_lt (by rw [ha]; exact hwt) Hx.out.2.2
          have hk63 : IntKind.i64.wrap (-t.wt) = -t.wt := by have h63 : H63 = 9223372036854775808 := rfl; exact IntWalk.i64_in _ (by omega)
          have hu63 : IntKind.u64.wrap (a : Int) = (a : Int) := by have h63 : H63 = 9223372036854775808 := rfl; rw [IntKind.wrap_u64]; omega
          have hmx : max t.wt (-t.wt) = (a : Int) := by omega
          have HNl2 := HNl.out
          have hpc : (t.pl : Int) ≤ (N : Int) := by omega
          have hne : ¬ t.pl = N := by omega
          have hne2 : ¬ N = t.pl := by omega
          have H := Lib.hid (And.intro hS (And.intro (hsl.below hbw) (And.intro (show t.n ≠ 0 → ∀ p, t.A = some p → some p.block ≠ some g from sl_off hsl (by have h1 := H2.out.2.2.2; rw [W117_size] at h1; omega)) (And.intro hnx (And.intro ha (And.intro hle ha63))))))
          clear hkl hgt hmem hbw hle hsl hwt hnx ha ha63 hS HNl2
          obtain ⟨tn, tA, tn2, tc, txs, twt, tpl⟩ := t
          simp only at c0 c1 c2 c3 hk63 hmx hpc hne hne2
          by_cases hw : twt < 0
          · cases tn
            · go_wp2_with (fail)
              go_region_held3 (fun w' => w'.cell? ⟨wr.heap.size, 3, none⟩ = some (.int .i64 (tpl : Int)) ∧ w'.cell? ⟨wr.heap.size, 1, none⟩ = some (.slice tA tn2 tc))
                (first | go_keep | exact ⟨E3, E1⟩)
                (first | (go_at_call 75; refine (ftake_ok g tpl (N - tpl) (N - tpl) us tA tn2 tc txs a N _ (show RowAt (World.drew (World.alloc wr _)) g us from RowAt.alloc (W := wr) H.out.1.1.1 _) H.out.1.1.2.1 H.out.1.1.2.2.1 (by omega) (by omega) (Nat.le_refl _) (by omega) (by have h5 : tpl + tn2 ≤ l := H.out.2.2.2.2.2.1; have h6 := HNl.out; omega) (show Sl (World.drew (World.alloc wr _)) tA tn2 tc txs from Sl.alloc_ H.out.2.1 _) H.out.2.2.1 (by have h7 := H.out.2.2.2.2.2.2; rw [B_half]; omega)).mono ?_; rintro e w3 ⟨cy, rfl, -, hA⟩; have HA := Lib.hid hA.r; have E3 := cell_grown HA.out.gr (p := ⟨wr.heap.size, 3, none⟩) (row_off H.out.1.1.1) (new_at3 wr _ _ _ _ _); have E1 := cell_grown HA.out.gr (p := ⟨wr.heap.size, 1, none⟩) (row_off H.out.1.1.1) (new_at1 wr _ _ _ _ _); clear hA))
              have HN : Hid (∃ vs, SumI w2 w3 g N vs (tsum (ts.take (k2 + 1)))) := by
                have h4 := H.out.2.2.2.1
                rw [h4]
                refine SumI.taken (t := ⟨false, tA, tn2, tc, txs, twt, tpl⟩) H.out.1.1 H.out.1.2 (by simp [hw]) (by have h5 : a = twt.natAbs := H.out.2.2.2.2.1; rw [← h5]; exact HA.out.und)
              clear HA H E1 E3
              go_wp2_with (fail)
              refine ⟨⟨k2 + 1, by omega, by go_num, HN⟩, ?_⟩
              simp [intOf]; omega
            · go_wp2_with (fail)
              go_region_held3 (fun w' => w'.cell? ⟨wr.heap.size, 3, none⟩ = some (.int .i64 (tpl : Int)) ∧ w'.cell? ⟨wr.heap.size, 1, none⟩ = some (.slice tA tn2 tc))
                (first | go_keep | exact ⟨E3, E1⟩)
                (first | (go_at_call 74; refine (fadd_ok g tpl (N - tpl) (N - tpl) us tA tn2 tc txs a N _ (show RowAt (World.drew (World.alloc wr _)) g us from RowAt.alloc (W := wr) H.out.1.1.1 _) H.out.1.1.2.1 H.out.1.1.2.2.1 (by omega) (by omega) (Nat.le_refl _) (by omega) (by have h5 : tpl + tn2 ≤ l := H.out.2.2.2.2.2.1; have h6 := HNl.out; omega) (show Sl (World.drew (World.alloc wr _)) tA tn2 tc txs from Sl.alloc_ H.out.2.1 _) H.out.2.2.1 (by have h7 := H.out.2.2.2.2.2.2; rw [B_half]; omega)).mono ?_; rintro e w3 ⟨cy, rfl, -, hA⟩; have HA := Lib.hid hA.r; have E3 := cell_grown HA.out.gr (p := ⟨wr.heap.size, 3, none⟩) (row_off H.out.1.1.1) (new_at3 wr _ _ _ _ _); have E1 := cell_grown HA.out.gr (p := ⟨wr.heap.size, 1, none⟩) (row_off H.out.1.1.1) (new_at1 wr _ _ _ _ _); clear hA))
              have HN : Hid (∃ vs, SumI w2 w3 g N vs (tsum (ts.take (k2 + 1)))) := by
                have h4 := H.out.2.2.2.1
                rw [h4]
                refine SumI.added (t := ⟨true, tA, tn2, tc, txs, twt, tpl⟩) H.out.1.1 H.out.1.2 (by simp [hw]) (by have h5 : a = twt.natAbs := H.out.2.2.2.2.1; rw [← h5]; exact HA.out.und)
              clear HA H E1 E3
              go_wp2_with (fail)
              refine ⟨⟨k2 + 1, by omega, by go_num, HN⟩, ?_⟩
              simp [intOf]; omega
          · have hwf : (0 : Int) ≤ twt := by omega
            cases tn
            · go_wp2_with (fail)
              go_region_held3 (fun w' => w'.cell? ⟨wr.heap.size, 3, none⟩ = some (.int .i64 (tpl : Int)) ∧ w'.cell? ⟨wr.heap.size, 1, none⟩ = some (.slice tA tn2 tc))
                (first | go_keep | exact ⟨E3, E1⟩)
                (first | (go_at_call 74; refine (fadd_ok g tpl (N - tpl) (N - tpl) us tA tn2 tc txs a N _ (show RowAt (World.drew (World.alloc wr _)) g us from RowAt.alloc (W := wr) H.out.1.1.1 _) H.out.1.1.2.1 H.out.1.1.2.2.1 (by omega) (by omega) (Nat.le_refl _) (by omega) (by have h5 : tpl + tn2 ≤ l := H.out.2.2.2.2.2.1; have h6 := HNl.out; omega) (show Sl (World.drew (World.alloc wr _)) tA tn2 tc txs from Sl.alloc_ H.out.2.1 _) H.out.2.2.1 (by have h7 := H.out.2.2.2.2.2.2; rw [B_half]; omega)).mono ?_; rintro e w3 ⟨cy, rfl, -, hA⟩; have HA := Lib.hid hA.r; have E3 := cell_grown HA.out.gr (p := ⟨wr.heap.size, 3, none⟩) (row_off H.out.1.1.1) (new_at3 wr _ _ _ _ _); have E1 := cell_grown HA.out.gr (p := ⟨wr.heap.size, 1, none⟩) (row_off H.out.1.1.1) (new_at1 wr _ _ _ _ _); clear hA))
              have HN : Hid (∃ vs, SumI w2 w3 g N vs (tsum (ts.take (k2 + 1)))) := by
                have h4 := H.out.2.2.2.1
                rw [h4]
                refine SumI.added (t := ⟨false, tA, tn2, tc, txs, twt, tpl⟩) H.out.1.1 H.out.1.2 (by simp [hw]) (by have h5 : a = twt.natAbs := H.out.2.2.2.2.1; rw [← h5]; exact HA.out.und)
              clear HA H E1 E3
              go_wp2_with (fail)
              refine ⟨⟨k2 + 1, by omega, by go_num, HN⟩, ?_⟩
              simp [intOf]; omega
            · go_wp2_with (fail)
              go_region_held3 (fun w' => w'.cell? ⟨wr.heap.size, 3, none⟩ = some (.int .i64 (tpl : Int)) ∧ w'.cell? ⟨wr.heap.size, 1, none⟩ = some (.slice tA tn2 tc))
                (first | go_keep | exact ⟨E3, E1⟩)
                (first | (go_at_call 75; refine (ftake_ok g tpl (N - tpl) (N - tpl) us tA tn2 tc txs a N _ (show RowAt (World.drew (World.alloc wr _)) g us from RowAt.alloc (W := wr) H.out.1.1.1 _) H.out.1.1.2.1 H.out.1.1.2.2.1 (by omega) (by omega) (Nat.le_refl _) (by omega) (by have h5 : tpl + tn2 ≤ l := H.out.2.2.2.2.2.1; have h6 := HNl.out; omega) (show Sl (World.drew (World.alloc wr _)) tA tn2 tc txs from Sl.alloc_ H.out.2.1 _) H.out.2.2.1 (by have h7 := H.out.2.2.2.2.2.2; rw [B_half]; omega)).mono ?_; rintro e w3 ⟨cy, rfl, -, hA⟩; have HA := Lib.hid hA.r; have E3 := cell_grown HA.out.gr (p := ⟨wr.heap.size, 3, none⟩) (row_off H.out.1.1.1) (new_at3 wr _ _ _ _ _); have E1 := cell_grown HA.out.gr (p := ⟨wr.heap.size, 1, none⟩) (row_off H.out.1.1.1) (new_at1 wr _ _ _ _ _); clear hA))
              have HN : Hid (∃ vs, SumI w2 w3 g N vs (tsum (ts.take (k2 + 1)))) := by
                have h4 := H.out.2.2.2.1
                rw [h4]
                refine SumI.taken (t := ⟨true, tA, tn2, tc, txs, twt, tpl⟩) H.out.1.1 H.out.1.2 (by simp [hw]) (by have h5 : a = twt.natAbs := H.out.2.2.2.2.1; rw [← h5]; exact HA.out.und)
              clear HA H E1 E3
              go_wp2_with (fail)
              refine ⟨⟨k2 + 1, by omega, by go_num, HN⟩, ?_⟩
              simp [intOf]; omega
        · have hkm2 : k2 = m := by omega
          have hki3 : ¬ (k2 : Int) < m := by omega
          rw [hkm2, List.take_of_length_le (by rw [Hx.out.1.1]; exact Nat.le_refl _)] at hS
          have hll : l < us.length := by rw [hS.1.2.2.1, HNl.out]; omega
          have hgt := List.getElem?_eq_getElem hll
          have htB : us[l] < B64 := hS.1.2.1 _ (List.getElem_mem hll)
          generalize us[l] = t at *
          have htop := sum_top (W := wsum ts) hS.1.2.1 (by rw [hS.1.2.2.1, HNl.out]) hgt (by rw [← HNl.out]; exact hS.2) (tsum_abs ts l (fun t ht => ⟨(by have h := Hx.out.1.2.2.2.2 t ht; rw [← h.1]; exact V_lt _ h.2.2.2.1), H2.out.1 t ht⟩)) Hx.out.2.2
          have ct := hS.1.1.cell hgt
          have hlN : (l : Int) < (N : Int) := by have := HNl.out; omega
          have hbw : Below (W117 w).heap.size (W117 w) wr := H2.out.2.2.1.grown hS.1.2.2.2 H2.out.2.2.1.size (by intro j hj; injection hj with hj; rw [← hj]; exact H2.out.2.2.2)
          have HE := Lib.hid (And.intro hS (And.intro hbw (And.intro htop (And.intro htB H2.out.2.2.2))))
          clear hS hll hgt htB htop hbw hkm2 hlt
          have HWr := Lib.hid (show w.heap.size < wr.heap.size by have := HE.out.2.1.size; rw [W117_size] at this; omega)
          rcases Bool.eq_false_or_eq_true ((t : Int) / 9223372036854775808 == 1) with hb | hb
          · have hhigh : H63 ≤ t := by have h63 : H63 = 9223372036854775808 := rfl; have h64 : B64 = 18446744073709551616 := rfl; have h5 := HE.out.2.2.2.1; simp at hb; omega
            have HS := Lib.hid (HE.out.2.2.1.2 hhigh)
            have HP := Lib.hid (res_facts (w := w) (o := .cells #[.bool true] 65) HE.out.2.1)
            have HQ := Lib.hid (show (wr.alloc (.cells #[.bool true] 65)).cell? ⟨wr.heap.size, 0, none⟩ = some (.bool true) by simp)
            have HG := Lib.hid (show w.heap.size < g by have := HE.out.2.2.2.2; rw [W117_size] at this; omega)
            clear hhigh
            go_wp2_with (fail)
            clear ct
            refine (fneg_ok g N us N _ (RowAt.alloc (W := wr) HE.out.1.1.1 _) HE.out.1.1.2.1 HE.out.1.1.2.2.1 (by omega) (Nat.le_refl _)).mono ?_
            rintro e X ⟨rfl, hNeg⟩
            have HNeg := Lib.hid hNeg
            obtain ⟨sb, hsb⟩ : ∃ sb, wr.heap.size = sb := ⟨_, rfl⟩
            have HX : Hid (∃ vs, FinX w X g N sb true vs (tsum ts)) := FinX.neg hNeg HE.out.1 HE.out.2.1 (by rw [HNl.out]; exact HS.out) HP.out (by rw [hsb] at HQ; exact HQ.out) (by rw [hsb] at HWr; exact HWr.out) HG.out (by rw [← hsb]; exact HE.out.1.1.1.lt)
            obtain ⟨vs, HX⟩ := HX.out
            replace HX := Lib.hid HX
            rw [hsb] at HWr ⊢
            clear hb hlN hNeg HNeg HE HS HP HQ HG hsb
            go_wp2_with (fail)
            obtain ⟨hX, p0, p1, f0, f1, q0⟩ := HX.out
            have f1' : (X.setCell ⟨w.heap.size, 0, none⟩ (.bool true)).frozen? ⟨w.heap.size, 1, none⟩ = false := by rw [World.frozen?_setCell]; exact f1
            have p1' : (X.setCell ⟨w.heap.size, 0, none⟩ (.bool true)).cell? ⟨w.heap.size, 1, none⟩ = some (.slice none 0 0) := by rw [World.cell?_setCell_other _ _ _ _ (by simp)]; exact p1
            clear hX
            go_region_held3 (fun w' => w'.cell? ⟨sb, 0, none⟩ = some (.bool true)) (first | exact keep2 q0 HWr.out | go_keep)
              (first | (go_at_call 23; refine (fused_ok (some ⟨g, 0, none⟩) N N vs X.drew (by omega) (show Sl X _ N N vs from RowAt.sl HX.out.1.1 HX.out.1.2.1 HX.out.1.2.2.1 (by omega))).mono ?_; rintro e w3 ⟨k3, rfl, hk3, hU, rfl⟩; have HU := Lib.hid hU; clear hU))
            have z0 : ((X.setCell ⟨w.heap.size, 0, none⟩ (.bool true)).setCell ⟨w.heap.size, 1, none⟩ (.slice (some ⟨g, 0, none⟩) k3 N)).cell? ⟨w.heap.size, 0, none⟩ = some (.bool true) := by rw [World.cell?_setCell_other _ _ _ _ (by simp), World.cell?_setCell_same' _ _ _ (by rw [p0]; rfl)]
            have z1 : ((X.setCell ⟨w.heap.size, 0, none⟩ (.bool true)).setCell ⟨w.heap.size, 1, none⟩ (.slice (some ⟨g, 0, none⟩) k3 N)).cell? ⟨w.heap.size, 1, none⟩ = some (.slice (some ⟨g, 0, none⟩) k3 N) := World.cell?_setCell_same' _ _ _ (by rw [p1']; rfl)
            clear p0 p1 f0 f1 q0 f1' p1'
            go_wp2_with (fail)
            exact bodyPost_ret (v := sgV true (some ⟨g, 0, none⟩) k3 N) (by simp [results, Tryd.results44, go_sem, z0, z1]) rfl (sum_done HX.out.1 HU.out.out hk3)
          · have hlow : t < H63 := by have h63 : H63 = 9223372036854775808 := rfl; have h64 : B64 = 18446744073709551616 := rfl; have h5 := HE.out.2.2.2.1; simp at hb; omega
            have HS := Lib.hid (HE.out.2.2.1.1 hlow)
            have HP := Lib.hid (res_facts (w := w) (o := .cells #[.bool false] 65) HE.out.2.1)
            have HQ := Lib.hid (show (wr.alloc (.cells #[.bool false] 65)).cell? ⟨wr.heap.size, 0, none⟩ = some (.bool false) by simp)
            clear hlow
            go_wp2_with (fail)
            clear ct
            obtain ⟨X, hX⟩ : ∃ X, wr.alloc (.cells #[.bool false] 65) = X := ⟨_, rfl⟩
            obtain ⟨sb, hsb⟩ : ∃ sb, wr.heap.size = sb := ⟨_, rfl⟩
            obtain ⟨vs, hvs⟩ : ∃ vs, us = vs := ⟨_, rfl⟩
            have HX : Hid (FinX w X g N sb false vs (tsum ts)) := by rw [← hvs, ← hX, ← hsb]; exact FinX.pos HE.out.1 HE.out.2.1 HS.out HP.out HQ.out (by have := HE.out.2.2.2.2; rw [W117_size] at this; omega)
            rw [hX, hsb]
            rw [hsb] at HWr
            clear hb hlN HE HS HP HQ hX hsb hvs
            obtain ⟨hX, p0, p1, f0, f1, q0⟩ := HX.out
            have f1' : (X.setCell ⟨w.heap.size, 0, none⟩ (.bool false)).frozen? ⟨w.heap.size, 1, none⟩ = false := by rw [World.frozen?_setCell]; exact f1
            have p1' : (X.setCell ⟨w.heap.size, 0, none⟩ (.bool false)).cell? ⟨w.heap.size, 1, none⟩ = some (.slice none 0 0) := by rw [World.cell?_setCell_other _ _ _ _ (by simp)]; exact p1
            clear hX
            go_region_held3 (fun w' => w'.cell? ⟨sb, 0, none⟩ = some (.bool false)) (first | exact keep2 q0 HWr.out | go_keep)
              (first | (go_at_call 23; refine (fused_ok (some ⟨g, 0, none⟩) N N vs X.drew (by omega) (show Sl X _ N N vs from RowAt.sl HX.out.1.1 HX.out.1.2.1 HX.out.1.2.2.1 (by omega))).mono ?_; rintro e w3 ⟨k3, rfl, hk3, hU, rfl⟩; have HU := Lib.hid hU; clear hU))
            have z0 : ((X.setCell ⟨w.heap.size, 0, none⟩ (.bool false)).setCell ⟨w.heap.size, 1, none⟩ (.slice (some ⟨g, 0, none⟩) k3 N)).cell? ⟨w.heap.size, 0, none⟩ = some (.bool false) := by rw [World.cell?_setCell_other _ _ _ _ (by simp), World.cell?_setCell_same' _ _ _ (by rw [p0]; rfl)]
            have z1 : ((X.setCell ⟨w.heap.size, 0, none⟩ (.bool false)).setCell ⟨w.heap.size, 1, none⟩ (.slice (some ⟨g, 0, none⟩) k3 N)).cell? ⟨w.heap.size, 1, none⟩ = some (.slice (some ⟨g, 0, none⟩) k3 N) := World.cell?_setCell_same' _ _ _ (by rw [p1']; rfl)
            clear p0 p1 f0 f1 q0 f1' p1'
            go_wp2_with (fail)
            exact bodyPost_ret (v := sgV false (some ⟨g, 0, none⟩) k3 N) (by simp [results, Tryd.results44, go_sem, z0, z1]) rfl (sum_done HX.out.1 HU.out.out hk3)
end Go.Proofs.YtalcikmngglplaaDoor
