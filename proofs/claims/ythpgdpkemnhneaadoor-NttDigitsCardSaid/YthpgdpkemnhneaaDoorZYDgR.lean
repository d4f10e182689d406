/- The contracts of reckonerref04.Digits and Join. -/
import Derived.Test.YthpgdpkemnhneaaDoorZYDJ
import Derived.Test.YthpgdpkemnhneaaDoorP12
import Derived.Test.YthpgdpkemnhneaaDoorP4
import Derived.Deep.AppendLies
import Derived.Deep.RegionHeld3
namespace Go.Proofs.YthpgdpkemnhneaaDoor
open Go.RowKit Go.Shelf
set_option linter.unusedVariables false
set_option linter.unusedSimpArgs false
set_option maxRecDepth 10000

/-- the length of a slice -/
def svLen : Value → Nat
  | .slice _ n _ => n
  | _ => 0
theorem Nu.nil_ (w : World) : Nu w w none 0 0 [] 0 := ⟨⟨rfl, by omega, by omega, Ws_nil, Rd.nil⟩, Cn_nil, rfl, by omega, Nt.nil _ _, Below.refl _ _⟩
theorem dg_first {zs : List Nat} {z0 sz : Nat} (h : zs[0]? = some z0) (hs : sz ≤ 64) : z0 % 2 ^ sz = V zs % 2 ^ sz := by
  match zs, h with
  | z :: t, h =>
    simp at h
    subst h
    have e : B64 = 2 ^ sz * 2 ^ (64 - sz) := by rw [← Nat.pow_add, show sz + (64 - sz) = 64 by omega]; rfl
    rw [V, e, Nat.mul_assoc, Nat.add_mul_mod_self_left]
theorem dg_next (X sz k : Nat) : X / 2 ^ (sz * k) / 2 ^ sz = X / 2 ^ (sz * (k + 1)) := by
  rw [Nat.div_div_eq_div_mul, ← Nat.pow_add, Nat.mul_succ]
theorem dg_len {X L sz m : Nat} (hsz : sz = 8 ∨ sz = 16 ∨ sz = 32) (hL : BL X L) (h1 : X < 2 ^ (sz * m)) (h2 : 0 < m → 2 ^ (sz * (m - 1)) ≤ X) : (L + sz - 1) / sz = m := by
  obtain ⟨b1, b2, b3⟩ := hL
  rcases Nat.eq_zero_or_pos X with h0 | h0
  · have hL0 := b3 h0
    have hm : m = 0 := by
      rcases Nat.eq_zero_or_pos m with h | h
      · exact h
      · have := h2 h
        have := Nat.pow_pos (n := sz * (m - 1)) (show 0 < 2 by decide)
        omega
    subst hL0 hm
    rcases hsz with rfl | rfl | rfl <;> rfl
  · obtain ⟨c1, c2⟩ := b2 h0
    have h3 : L - 1 < sz * m := (Nat.pow_lt_pow_iff_right (a := 2) (by decide)).1 (Nat.lt_of_le_of_lt c2 h1)
    have hm : 0 < m := by
      rcases Nat.eq_zero_or_pos m with h | h
      · subst h; simp at h1; omega
      · exact h
    have h4 : sz * (m - 1) < L := (Nat.pow_lt_pow_iff_right (a := 2) (by decide)).1 (Nat.lt_of_le_of_lt (h2 hm) b1)
    rcases hsz with rfl | rfl | rfl <;> omega
theorem cell_app1 {wr w1 : World} {row : Option Nat} {o : Obj} {b i : Nat} {u : Value} (hg : ((wr.alloc o).drew).grownBy w1 row) (hne : some b ≠ row) (hc : wr.cell? ⟨b, i, none⟩ = some u) : w1.cell? ⟨b, i, none⟩ = some u := by
  refine hg.cell ?_ hne
  show (wr.alloc o).cell? _ = _
  rw [World.cell?_alloc_lt wr o _ (World.block_lt_of_cell? _ _ hc)]
  exact hc
/-- between two rounds of Digits -/
def DgI (w wr : World) (X sz k : Nat) (A : Option Addr) (n c : Nat) (B : Option Addr) (d : Nat) (wx : World) (zs : List Nat) : Prop :=
  Nu wx wr A n c zs (X / 2 ^ (sz * k)) ∧ (∀ j, (Value.slice B k d).ownBlock = some j → j < wx.heap.size) ∧ wr.ownsRow w.heap.size 43 1 (.slice B k d) k (uvs (tb k (dgt sz X))) ∧ (0 < k → 2 ^ (sz * (k - 1)) ≤ X) ∧ Below w.heap.size w wx
theorem Nu.nw_ {w w' : World} {A : Option Addr} {n c x : Nat} {zs : List Nat} (h : Nu w w' A n c zs x) : Nw w w' (.slice A n c) n zs ∧ ∀ a, A = some a → w.heap.size ≤ a.block := by
  obtain ⟨n', zs', h1, h2, h3⟩ := h.2.2.2.2.1
  obtain ⟨A', c', he, hs⟩ := h1.sl
  injection he with e1 e2 e3
  subst e1 e2 e3
  refine ⟨⟨h.1.1, h.1.2.2.2.1, ?_⟩, fun a e => (h1.2.2.lt a.block (by rw [e]; rfl)).1⟩
  have : zs' = zs := V_inj _ _ hs.2.2.2.1 h.1.2.2.2.1 (by rw [hs.1, h.1.1]) (by rw [h3, h.2.2.1])
  rw [← this]
  exact h1.2.2
theorem Sl.grown_ {w w' : World} {row : Option Nat} {A : Option Addr} {n c : Nat} {xs : List Nat} (h : Sl w A n c xs) (hg : w.grownBy w' row) (hne : ∀ a, A = some a → some a.block ≠ row) : Sl w' A n c xs :=
  ⟨h.1, h.2.1, h.2.2.1, h.2.2.2.1, fun hx => by
    obtain ⟨b, o, e, hb, hc⟩ := h.2.2.2.2 hx
    exact ⟨b, o, e, Nat.lt_of_lt_of_le hb hg.size, fun j u hu => hg.cell (hc j u hu) (show some b ≠ row from hne ⟨b, o, none⟩ e)⟩⟩
theorem Sl.al_ {w : World} {A : Option Addr} {n c : Nat} {xs : List Nat} (h : Sl w A n c xs) (o : Obj) : Sl (w.alloc o) A n c xs := h.below ((Below.refl _ w).alloc (Nat.le_refl _) o)
theorem belAL_ {X W : World} {o : Obj} (h : Below (X.alloc o).heap.size (X.alloc o) W) : Below X.heap.size X W :=
  ((Below.refl _ X).alloc (Nat.le_refl _) o).trans (h.mono (by simp))
theorem dg_short {X sz k n : Nat} (hsz : sz = 8 ∨ sz = 16 ∨ sz = 32) (hn : n ≤ 20) (hX : X < 2 ^ (64 * n)) (h : 0 < X / 2 ^ (sz * k)) : k < 160 ∧ 2 ^ (sz * k) ≤ X := by
  have h1 : 2 ^ (sz * k) ≤ X := by
    have := Nat.div_pos_iff.1 h
    exact this.2
  have h2 := (Nat.pow_lt_pow_iff_right (a := 2) (by decide)).1 (Nat.lt_of_le_of_lt h1 hX)
  exact ⟨by rcases hsz with rfl | rfl | rfl <;> omega, h1⟩
set_option maxHeartbeats 1000000 in
theorem R4Digits_ok (A : Option Addr) (n c sz : Nat) (xs : List Nat) (w : World) (hsz : sz = 8 ∨ sz = 16 ∨ sz = 32) (hn : n ≤ 20) (hx : Sl w A n c xs) :
    Calls Tryd.prog 28 #[.slice A n c, .int .i64 sz] w fun e w' => ∃ m B d, e = .returned (.slice B m d) ∧ m ≤ 160 ∧ Sl w' B m d (tb m (dgt sz (V xs))) ∧ (V xs < 2 ^ (sz * m) ∧ (0 < m → 2 ^ (sz * (m - 1)) ≤ V xs)) ∧ Below w.heap.size w w' := by
  obtain ⟨i0, hi, hz0, hz1, hz2⟩ := info_parts Tryd.info43
  have hXb : V xs < Big := Big_of hx.lt (by omega)
  have hX2 : V xs < 2 ^ (64 * n) := by rw [← B64_two]; exact hx.lt
  have hT := RTrim_ok A n c xs w (by omega) hx
  obtain ⟨X, hX⟩ : ∃ X, V xs = X := ⟨_, rfl⟩
  rw [hX] at hT hXb hX2 ⊢
  have hs0 : (0 : Int) ≤ (sz : Int) := by omega
  have hs64 : (sz : Int) ≤ 64 := by omega
  obtain ⟨M, hM, hM0, hM5⟩ : ∃ M : Nat, 2 ^ sz = M ∧ 0 < M ∧ M ≤ 4294967296 := ⟨2 ^ sz, rfl, Nat.pow_pos (by decide), by rcases hsz with rfl | rfl | rfl <;> decide⟩
  have hMi : IntKind.u64.wrap (2 ^ sz) = (M : Int) := by
    rw [show ((2 : Int) ^ sz) = ((2 ^ sz : Nat) : Int) by push_cast; rfl, hM]
    exact wrap_nat M (by have : B64 = 18446744073709551616 := rfl; omega)
  have hMn : ¬ (M : Int) = 0 := by omega
  have hMn2 : ¬ M = 0 := by omega
  have HM := Lib.hid hM
  have HT := Lib.hid (And.intro hT (And.intro hXb (And.intro hX2 hsz)))
  clear hX hT hXb hX2 hsz hx hM
  go_enter Tryd.func28, Tryd.ntmps28
  go_wp2_with (fail)
  refine HT.out.1.mono ?_
  rintro e w0 hR
  obtain ⟨A0, n0, c0, zs0, rfl, h0⟩ := hR.open HT.out.2.1
  have H0 := Lib.hid h0
  clear hR h0
  go_wp2_with (fail)
  go_loopw [0, 5] (fun xv ov wr => ∃ (k n2 : Nat) (A2 : Option Addr) (c2 : Nat) (B : Option Addr) (d : Nat), k ≤ 160 ∧ n2 ≤ 4096 ∧ xv = .slice A2 n2 c2 ∧ ov = .slice B k d ∧ Hid (∃ wx zs, DgI w wr X sz k A2 n2 c2 B d wx zs)) (fun _ ov _ => 161 - svLen ov)
  case atStart => exact ⟨0, n0, A0, c0, none, 0, by omega, H0.out.2.2.2.1, rfl, rfl, Lib.hid ⟨w, zs0, by have := H0.out; rwa [Nat.mul_zero, Nat.pow_zero, Nat.div_one], fun j hj => by simp [Value.ownBlock] at hj, World.ownsRow_nil _ _ _ _, fun h => by omega, Below.refl _ _⟩⟩
  case round =>
    obtain ⟨k, n2, A2, c2, B, d, hk, hn2, rfl, rfl, hH⟩ := hrel
    obtain ⟨wx, zs, hI⟩ := hH.out
    have HI := Lib.hid hI
    have hown := hI.2.2.1
    have hsz2 : w.heap.size ≤ wr.heap.size := (hI.2.2.2.2.trans (hI.1.bel.mono hI.2.2.2.2.size)).size
    clear hH hI
    rcases Nat.eq_zero_or_pos n2 with rfl | hpos
    · have h0 : X / 2 ^ (sz * k) = 0 := by
        have h1 := HI.out.1
        have h2 := h1.1.1
        rw [← h1.2.2.1, List.eq_nil_of_length_eq_zero h2]; rfl
      have H0 := Lib.hid (Nat.lt_of_div_eq_zero (Nat.pow_pos (by decide)) h0)
      clear h0
      go_wp2_with (fail)
      go_ret
      have hnw : Nw w wr (.slice B k d) k (tb k (dgt sz X)) := ⟨tb_length _ _, tb_ws (fun i _ => Nat.lt_of_lt_of_le (dgt_lt sz X i) (by rw [HM.out]; have : B64 = 18446744073709551616 := rfl; omega)), hown⟩
      obtain ⟨B', d', he, hs⟩ := hnw.sl
      injection he with e1 e2 e3
      subst e1 e3
      exact ⟨k, B, d, rfl, hk, hs, ⟨H0.out, HI.out.2.2.2.1⟩, HI.out.2.2.2.2.trans (HI.out.1.bel.mono HI.out.2.2.2.2.size)⟩
    · have hpi : (0 : Int) < (n2 : Int) := by omega
      have hzl : 0 < zs.length := by rw [HI.out.1.1.1]; exact hpos
      have hg := List.getElem?_eq_getElem hzl
      obtain ⟨b, o, rfl, hbw, hcx⟩ := HI.out.1.1.2.2.2.2.at (uvs_get hg)
      rw [Nat.add_zero] at hcx
      have hzB : zs[0] < B64 := HI.out.1.1.2.2.2.1 _ (List.getElem_mem hzl)
      have hV0 : 0 < V zs := by
        have h1 := V_ge (m := n2 - 1) HI.out.1.2.1 (by rw [HI.out.1.1.1]; omega)
        exact Nat.lt_of_lt_of_le (Nat.pow_pos B64_pos) h1
      generalize zs[0] = z at *
      have hzm := dg_first (sz := sz) hg (by omega)
      obtain ⟨y, hy⟩ : ∃ y, z % M = y := ⟨_, rfl⟩
      have hyB : y < B64 := by rw [← hy]; exact Nat.lt_of_le_of_lt (Nat.mod_le _ _) hzB
      have hy3 : (z : Int).tmod (M : Int) = (y : Int) := by rw [← hy, Int.tmod_eq_emod_of_nonneg (by omega)]; simp
      have hy4 : (z : Int) % (M : Int) = (y : Int) := by rw [← hy]; simp
      have hy6 : IntKind.u64.wrap (y : Int) = (y : Int) := wrap_nat y hyB
      rw [HI.out.1.2.2.1] at hV0
      obtain ⟨hk2, hXk⟩ := dg_short HT.out.2.2.2 hn HT.out.2.2.1 hV0
      have hbn : wx.heap.size ≤ b := HI.out.1.nw_.2 ⟨b, o, none⟩ rfl
      have hne : some b ≠ (Value.slice B k d).ownBlock := fun h => by have := HI.out.2.1 b h.symm; omega
      have HY := Lib.hid (And.intro (show y = dgt sz X k by rw [← hy, ← HM.out, hzm, HI.out.1.2.2.1]; rfl) (And.intro hXk (And.intro hbn hne)))
      clear hV0 hzm hy hyB hXk hg hzl hbn hne hzB
      go_wp2_with (fail)
      go_region_held3 (fun w' => w'.cell? ⟨b, o, none⟩ = some (.int .u64 (z : Int)))
        (first | go_keep | exact cell_app1 hgrow HY.out.2.2.2 hcx)
        ((refine step_append_lies _ (by rfl) _ _ 22 (by rfl) w.heap.size 43 i0 _ 1 8 Tryd.underlying22 hi hz0 hz1 hz2 rfl (by omega) (.slice B k d) k (uvs (tb k (dgt sz X))) (by rfl) ((hown.alloc _).drew) ⟨wr.heap.size, 0, none⟩ 1 1 [.int .u64 (y : Int)] (by rfl) (by rfl) (World.news_of_block (cs := #[.int .u64 (y : Int)]) (t := 43) (fr := (0, 0)) (heap_alloc_new wr _)) (by simp [Value.oneCell']) (by omega) (by unfold maxLen; omega) (by omega) (by simp; omega) (wr.heap.size + 1) (by simp) ?_; intro gg cap w1 hown1 hgrow hat hlt1))
      have hb1 : Below w.heap.size w w1 := (((HI.out.2.2.2.2.trans (HI.out.1.bel.mono HI.out.2.2.2.2.size)).alloc hsz2 _).drew).grown hgrow (by simp; omega) (fun j hj => (hown.lt j hj).1)
      have hs1 : Sl w1 (some ⟨b, o, none⟩) n2 c2 zs := (show Sl ((wr.alloc _).drew) (some ⟨b, o, none⟩) n2 c2 zs from HI.out.1.1.al_ _).grown_ hgrow (fun a ha => by injection ha with ha; rw [← ha]; exact HY.out.2.2.2)
      have hown2 : w1.ownsRow w.heap.size 43 1 (.slice (some ⟨gg, 0, none⟩) (k + 1) cap) (k + 1) (uvs (tb (k + 1) (dgt sz X))) := by
        rw [tb_succ, uvs_append, ← HY.out.1]
        exact hown1
      have H1 := Lib.hid (And.intro hb1 (And.intro hs1 (And.intro hown2 hlt1)))
      clear hb1 hs1 hown2 hlt1 hown hown1 hgrow hat hcx
      go_wp2_with (fail)
      refine (R2Right_ok (some ⟨b, o, none⟩) n2 c2 zs sz _ (by omega) (by omega) H1.out.2.1).mono ?_
      rintro e w2 hR
      rw [HI.out.1.2.2.1, dg_next] at hR
      obtain ⟨A5, n5, c5, zs5, rfl, h5⟩ := hR.open (Nat.lt_of_le_of_lt (Nat.div_le_self _ _) HT.out.2.1)
      have hn5 := h5.2.2.2.1
      have HN : Hid (∃ wx zs, DgI w w2 X sz (k + 1) A5 n5 c5 (some ⟨gg, 0, none⟩) cap wx zs) := Lib.hid ⟨w1, zs5, h5, fun j hj => by
          simp [Value.ownBlock] at hj
          subst hj
          exact H1.out.2.2.2, own_below H1.out.2.2.1 h5.bel (Nat.le_refl _), fun _ => by rw [Nat.add_sub_cancel]; exact HY.out.2.1, H1.out.1⟩
      clear hR h5 H1 HI
      go_wp2_with (fail)
      go_roundw
      case rel => exact ⟨k + 1, n5, A5, c5, some ⟨gg, 0, none⟩, cap, by omega, hn5, rfl, rfl, HN⟩
      case measure => simp [svLen]; omega

/-- the digits from j on -/
def jv (sz : Nat) (f : Nat → Nat) (m j : Nat) : Nat := Sm (m - j) (fun t => f (j + t) * 2 ^ (t * sz))
theorem jv_end (sz : Nat) (f : Nat → Nat) (m : Nat) : jv sz f m m = 0 := by unfold jv; rw [Nat.sub_self]; rfl
theorem jv_step {sz : Nat} {f : Nat → Nat} {m j : Nat} (h : j < m) : jv sz f m (j + 1) * 2 ^ sz + f j = jv sz f m j := by
  unfold jv
  rw [show m - j = 1 + (m - (j + 1)) by omega, Sm_split, ← Sm_mulr, show Sm 1 (fun t => f (j + t) * 2 ^ (t * sz)) = f j by simp [Sm], Nat.add_comm]
  congr 1
  refine Sm_congr fun i _ => ?_
  rw [Nat.mul_assoc, ← Nat.pow_add, show j + 1 + i = j + (1 + i) by omega, Nat.add_mul, Nat.one_mul, Nat.add_comm (i * sz)]
theorem jv_all (sz : Nat) (f : Nat → Nat) (m : Nat) : jv sz f m 0 = dsum sz m f := by
  unfold jv dsum
  rw [Nat.sub_zero]
  exact Sm_congr fun i _ => by rw [Nat.zero_add]
theorem jv_lt {sz : Nat} {f : Nat → Nat} (hs : sz ≤ 32) (hf : ∀ i, f i < B64) (m : Nat) : ∀ d j, j + d = m → jv sz f m j < B64 ^ d
  | 0, j, h => by
    rw [show j = m by omega, jv_end]; decide
  | d + 1, j, h => by
    have ih := jv_lt hs hf m d (j + 1) (by omega)
    rw [← jv_step (show j < m by omega)]
    have h1 := hf j
    have h2 : 2 ^ sz ≤ 2 ^ 32 := Nat.pow_le_pow_right (by decide) hs
    have h3 : jv sz f m (j + 1) * 2 ^ sz ≤ (B64 ^ d - 1) * 2 ^ 32 := Nat.mul_le_mul (by omega) h2
    rw [Nat.pow_succ]
    rcases Nat.eq_zero_or_pos d with h0 | h0
    · subst h0
      simp at h3 ⊢
      omega
    · have h4 : B64 ≤ B64 ^ d := by
        have := Nat.pow_le_pow_right B64_pos h0
        rwa [Nat.pow_one] at this
      have hB : B64 = 18446744073709551616 := rfl
      generalize B64 ^ d = q at *
      rw [hB] at h1 h4 ⊢
      omega
theorem cell_al_ {W : World} {o : Obj} {a : Addr} {u : Value} (h : W.cell? a = some u) : (W.alloc o).cell? a = some u :=
  (((Below.refl _ W).alloc (Nat.le_refl _) o).cell (World.block_lt_of_cell? _ _ h)).trans h
set_option maxHeartbeats 1000000 in
theorem R4Join_ok (A : Option Addr) (m c sz : Nat) (xs : List Nat) (w : World) (hsz : sz = 8 ∨ sz = 16 ∨ sz = 32) (hm : m ≤ 1000) (hx : Sl w A m c xs) :
    Calls Tryd.prog 30 #[.slice A m c, .int .i64 sz] w fun e w' => Rv w w' e (dsum sz m (yx xs)) := by
  have hmw : IntKind.i64.wrap ((m : Int) - 1) = (m : Int) - 1 := IntWalk.i64_in _ (by omega)
  have hs6 : sz ≤ 262144 := by omega
  have hb := fun j (hj : j ≤ m) => Big_of (jv_lt (sz := sz) (f := yx xs) (by omega) (fun i => yx_lt hx.2.2.2.1 i) m (m - j) j (by omega)) (by omega)
  have Hx := Lib.hid (And.intro hx hb)
  clear hx hb hsz
  go_enter Tryd.func30, Tryd.ntmps30
  go_wp2_with (fail)
  go_loopw [5, 6] (fun ov iv wr => ∃ (j : Nat) (r : Int) (A2 : Option Addr) (n2 c2 : Nat), j ≤ m ∧ r = (j : Int) - 1 ∧ iv = .int .i64 r ∧ ov = .slice A2 n2 c2 ∧ Hid (∃ zs, Nu w wr A2 n2 c2 zs (jv sz (yx xs) m j))) (fun _ iv _ => (intOf iv + 1).toNat)
  case atStart => exact ⟨m, _, none, 0, 0, Nat.le_refl _, rfl, rfl, rfl, Lib.hid ⟨[], by rw [jv_end]; exact Nu.nil_ w⟩⟩
  case round =>
    obtain ⟨k, r, A2, n2, c2, hk, hr, rfl, rfl, HE⟩ := hrel
    obtain ⟨zs, hI⟩ := HE.out
    have HI := Lib.hid hI
    clear HE hI
    by_cases hlt : 0 ≤ r
    · obtain ⟨j, rfl⟩ := Int.eq_ofNat_of_zero_le hlt
      obtain rfl : k = j + 1 := by omega
      obtain ⟨b, o, rfl, hbw, hcx⟩ := (Hx.out.1.below HI.out.bel).rd (i := j) (by omega)
      obtain ⟨x, hxv⟩ : ∃ x, yx xs j = x := ⟨_, rfl⟩
      have hxB : x < B64 := by rw [← hxv]; exact yx_lt Hx.out.1.2.2.2.1 j
      rw [hxv] at hcx
      have hv := jv_step (sz := sz) (f := yx xs) (m := m) (j := j) (by omega)
      have hb1 := Hx.out.2 j (by omega)
      rw [← hv, hxv] at hb1
      rw [hxv] at hv
      have HV := Lib.hid (And.intro hxB (And.intro hv (And.intro hb1 (Nat.lt_of_le_of_lt (Nat.le_add_right _ _) hb1))))
      have hjm : (j : Int) < (m : Int) := by omega
      have hj0 : (0 : Int) ≤ (j : Int) := by omega
      have hjw : IntKind.i64.wrap ((j : Int) - 1) = (j : Int) - 1 := IntWalk.i64_in _ (by omega)
      have HC := Lib.hid (And.intro hcx (World.block_lt_of_cell? _ _ hcx))
      clear hxB hv hb1 hxv hr
      go_wp2_with (fail)
      go_region_held3 (fun w' => w'.cell? ⟨b, o + j, none⟩ = some (.int .u64 (x : Int)))
        (first | exact hcx | exact S2.out | exact S1.out | exact cell_al_ S1.out | go_keep)
        (first
          | (go_at_call 61; refine (R2Left_ok A2 n2 c2 zs sz _ HI.out.2.2.2.1 hs6 (by first | exact HI.out.1 | exact HI.out.1.al_ _)).mono ?_; rintro e w3 hR; rw [HI.out.2.2.1] at hR; obtain ⟨A3, n3, c3, z3, hEq, h3⟩ := hR.open HV.out.2.2.2; subst hEq; have HB3 := Lib.hid (show Below wr.heap.size wr w3 from (by first | exact belowA h3.bel | exact belowB h3.bel)); have S1 := Lib.hid ((HB3.out.cell HC.out.2).trans HC.out.1); have H3 := Lib.hid (And.intro h3.1 (And.intro h3.2.2.2.1 (And.intro h3.2.2.1 (HI.out.bel.trans (HB3.out.mono HI.out.bel.size))))); (first | (have HA := Lib.hid ((sl_one _ HV.out.1).below (belowA h3.bel))) | skip); clear hR h3)
          | (go_at_call 60; refine (RNAdd_ok A3 _ n3 1 c3 1 z3 [x] _ H3.out.2.1 (by omega) (by first | exact H3.out.1 | exact H3.out.1.al_ _) (by first | exact HA.out | exact sl_one _ HV.out.1)).mono ?_; rintro e w4 hR; rw [V_one, H3.out.2.2.1] at hR; obtain ⟨A4, n4, c4, z4, hEq, h4⟩ := hR.open HV.out.2.2.1; subst hEq; have S2 := Lib.hid (((HB3.out.trans ((show Below w3.heap.size w3 w4 from (by first | exact h4.bel | exact belAL_ h4.bel)).mono HB3.out.size)).cell HC.out.2).trans HC.out.1); have H4 := Lib.hid (h4.from (by first | exact H3.out.2.2.2 | exact H3.out.2.2.2.alloc H3.out.2.2.2.size _)); clear hR h4))
      all_goals
        have HN : Hid (∃ zs, Nu w w4 A4 n4 c4 zs (jv sz (yx xs) m j)) := Lib.hid ⟨z4, by rw [← HV.out.2.1]; exact H4.out⟩
        clear H4 H3 S1 S2 HB3 HI HC hcx
        go_wp2_with (fail)
        go_roundw
        case rel => exact ⟨j, _, A4, n4, c4, by omega, rfl, rfl, rfl, HN⟩
        case measure => simp [intOf]
    · obtain rfl : k = 0 := by omega
      have hri : ¬ (0 : Int) ≤ r := hlt
      go_wp2_with (fail)
      go_ret
      exact ⟨_, rfl, by rw [← jv_all]; exact HI.out.2.2.2.2.1, HI.out.bel⟩
end Go.Proofs.YthpgdpkemnhneaaDoor
