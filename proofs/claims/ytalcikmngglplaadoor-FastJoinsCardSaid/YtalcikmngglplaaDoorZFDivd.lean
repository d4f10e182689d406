/- The contract of fast.divided. -/
import Derived.Test.YtalcikmngglplaaDoorZFFive
import Derived.Test.YtalcikmngglplaaDoorP8
import Derived.Test.YtalcikmngglplaaDoorP3
import Derived.Deep.RegionHeld3
namespace Go.Proofs.YtalcikmngglplaaDoor
open Go.RowKit Go.Shelf
set_option linter.unusedVariables false
set_option linter.unusedSimpArgs false
set_option maxRecDepth 10000

/-- block g begins with the words zs -/
def OwT (W : World) (g c : Nat) (zs : List Nat) : Prop := ∃ cur : Array Value, W.heap[g]? = some (.cells cur 24 (0, 0)) ∧ cur.size = c ∧ zs.length ≤ c ∧ cur.toList.take zs.length = uvs zs
theorem OwT.lt {W : World} {g c : Nat} {zs : List Nat} (h : OwT W g c zs) : g < W.heap.size := by obtain ⟨_, h, _⟩ := h; exact (Array.getElem?_eq_some_iff.1 h).1
theorem OwT.cell {W : World} {g c : Nat} {zs : List Nat} (h : OwT W g c zs) {i x : Nat} (hi : zs[i]? = some x) : W.cell? ⟨g, i, none⟩ = some (.int .u64 (x : Int)) := by
  obtain ⟨cur, h1, h2, h3, h4⟩ := h
  rw [cell_of_row W g i _ _ _ h1]
  have h5 := uvs_get hi
  have hl : i < zs.length := (List.getElem?_eq_some_iff.1 hi).1
  rw [← h4, List.getElem?_take, if_pos hl] at h5
  simpa using h5
theorem OwT.frozen {W : World} {g c : Nat} {zs : List Nat} (h : OwT W g c zs) (i : Nat) : W.frozen? ⟨g, i, none⟩ = false := by
  obtain ⟨cur, h1, _⟩ := h
  simp [World.frozen?, h1]
theorem OwT.set {W : World} {g c : Nat} {zs : List Nat} (h : OwT W g c zs) (i x : Nat) : OwT (W.setCell ⟨g, i, none⟩ (.int .u64 (x : Int))) g c (zs.set i x) := by
  obtain ⟨cur, h1, h2, h3, h4⟩ := h
  refine ⟨cur.setIfInBounds i (.int .u64 (x : Int)), by simp [World.setCell, Array.getElem?_modify, h1], by simpa using h2, by rw [List.length_set]; exact h3, ?_⟩
  rw [List.length_set, Array.toList_setIfInBounds, List.take_set, h4]
  simp [uvs]
theorem OwT.other {W W' : World} {g c : Nat} {zs : List Nat} (h : OwT W g c zs) (hb : W'.heap[g]? = W.heap[g]?) : OwT W' g c zs := by
  obtain ⟨cur, h1, h2⟩ := h
  exact ⟨cur, hb.trans h1, h2⟩
theorem OwT.own {W : World} {g c base : Nat} {zs : List Nat} (h : OwT W g c zs) (hg : base ≤ g) (hc : c ≤ maxLen) : W.ownsRow base 24 1 (.slice (some ⟨g, 0, none⟩) zs.length c) zs.length (uvs zs) := by
  obtain ⟨cur, h1, h2, h3, h4⟩ := h
  exact ⟨by rw [uvs_length]; omega, .inr ⟨g, c, cur, rfl, hg, h1, h3, hc, by omega, by rw [Nat.mul_one]; exact h4⟩⟩
theorem Nw.owt {w W : World} {A : Option Addr} {n c : Nat} {zs : List Nat} (h : Nw w W (.slice A n c) n zs) (hn : n ≠ 0) : ∃ g, A = some ⟨g, 0, none⟩ ∧ w.heap.size ≤ g ∧ OwT W g c zs ∧ c ≤ maxLen := by
  rcases h.2.2.2 with ⟨hv, h0⟩ | ⟨g, cap, cur, hv, hg, hh, h1, h2, h3, h4⟩
  · exact absurd h0 hn
  · injection hv with e1 e2 e3
    subst e1 e3
    exact ⟨g, rfl, hg, ⟨cur, hh, by omega, by rw [h.1]; exact h1, by rw [h.1]; rw [Nat.mul_one] at h4; exact h4⟩, h2⟩
/-- one word more is divided -/
theorem dv_step {zs z0 : List Nat} {i x q r r' d : Nat} (hx : z0[i]? = some x) (hz : zs[i]? = some x) (e : r * B64 + x = q * d + r') (hI : V (zs.drop (i + 1)) * d + r = V (z0.drop (i + 1))) : V ((zs.set i q).drop i) * d + r' = V (z0.drop i) := by
  have hl : i < zs.length := (List.getElem?_eq_some_iff.1 hz).1
  rw [V_drop z0 i x hx, V_drop (zs.set i q) i q (by rw [List.getElem?_set_self hl]), drop_set]
  generalize V (zs.drop (i + 1)) = a at *
  generalize V (z0.drop (i + 1)) = b at *
  generalize B64 = B at *
  grind
/-- what divided answers -/
def DivR (w0 w w' : World) (z : Ending) (s : Bool) (x d : Nat) (A : Option Addr) : Prop :=
  ∃ A' k c us, z = .returned (.tuple #[.agg #[.bool s, .slice A' k c], .bool (decide (x % d = 0))]) ∧ Nw w0 w' (.slice A' k c) k us ∧ Cn us ∧ V us = x / d ∧ ∀ B, B ≤ w.heap.size → (∀ a, A = some a → B ≤ a.block) → Below B w w'

set_option maxHeartbeats 1000000 in
theorem divided_one (w0 : World) (s : Bool) (A : Option Addr) (n c : Nat) (zs : List Nat) (w : World) (hx : Nw w0 w (.slice A n c) n zs) (hc : Cn zs) :
    Calls Tryd.prog 119 #[.agg #[.bool s, .slice A n c], .int .u64 1] w fun z w' => DivR w0 w w' z s (V zs) 1 A := by
  have Hx := Lib.hid (And.intro hx hc)
  clear hx hc
  go_enter Tryd.func119, Tryd.ntmps119
  go_wp2_with (fail)
  refine bodyPost_ret (v := .tuple #[.agg #[.bool s, .slice A n c], .bool true]) (by simp [results, Tryd.results119, go_sem]) rfl ⟨A, n, c, zs, by rw [Nat.mod_one]; rfl, ⟨Hx.out.1.later (Nat.le_refl _) ?_, Hx.out.2, (Nat.div_one _).symm, fun B hB _ => ?_⟩⟩
  · exact ((Below.refl _ _).alloc (Nat.le_refl _) _).alloc (by simp) _
  · exact (((Below.refl _ _).alloc (Nat.le_refl _) _).alloc (by simp) _).mono hB
/-- divided's own two blocks -/
def DvB (w w0 W : World) (s : Bool) (A : Option Addr) (n c : Nat) : Prop :=
  W.cell? ⟨w.heap.size, 1, none⟩ = some (.slice A n c) ∧ W.cell? ⟨w.heap.size, 0, none⟩ = some (.bool s) ∧ Bk W (w.heap.size + 1) [.bool false, .slice none 0 0] ∧ (∀ B, B ≤ w.heap.size → (∀ a, A = some a → B ≤ a.block) → Below B w W) ∧ (∀ a, n ≠ 0 → A = some a → a.block < w.heap.size) ∧ (n = 0 → Below w.heap.size w W)
/-- the row that is divided -/
def DvI (w0 W : World) (A : Option Addr) (n c : Nat) (us : List Nat) : Prop := us.length = n ∧ Ws us ∧ (n ≠ 0 → ∃ g, A = some ⟨g, 0, none⟩ ∧ w0.heap.size ≤ g ∧ OwT W g c us ∧ c ≤ maxLen)
theorem below_dr_ {B : Nat} {X W : World} (h : Below B X W) : Below B X W.drew := ⟨h.os, h.tape, h.output, h.size, h.block⟩
theorem DvB.start {w w0 : World} {s : Bool} {A : Option Addr} {n c : Nat} {zs : List Nat} (hx : Nw w0 w (.slice A n c) n zs) : DvB w w0 ((w.alloc (.cells #[.bool s, .slice A n c] 67)).alloc (.cells #[.bool false, .slice none 0 0] 67)) s A n c := by
  have k1 := (Bk.new w [.bool s, .slice A n c] 67).below ((Below.refl _ _).alloc (Nat.le_refl _) (.cells #[.bool false, .slice none 0 0] 67)) (by simp)
  have k2 := Bk.new (w.alloc (.cells #[.bool s, .slice A n c] 67)) [.bool false, .slice none 0 0] 67
  simp only [World.size_alloc] at k2
  refine ⟨(k1 1 _ rfl).1, (k1 0 _ rfl).1, k2, fun B hB _ => (((Below.refl _ _).alloc (Nat.le_refl _) _).alloc (by simp) _).mono hB, fun a hn ha => ?_, fun _ => (((Below.refl _ _).alloc (Nat.le_refl _) _).alloc (by simp) _)⟩
  obtain ⟨g, e, _, ho, _⟩ := hx.owt hn
  rw [ha] at e
  injection e with e
  subst e
  exact ho.lt
theorem DvI.sl {w w0 W : World} {A : Option Addr} {n c : Nat} {us zs : List Nat} (h : DvI w0 W A n c us) (hx : Nw w0 w (.slice A n c) n zs) : Sl W A n c us := by
  obtain ⟨A', c', e, hs⟩ := hx.sl
  injection e with e1 e2 e3
  subst e1 e3
  refine ⟨h.1, hs.2.1, hs.2.2.1, h.2.1, fun hne => ?_⟩
  have hn : n ≠ 0 := by
    intro h0
    have := h.1
    rw [h0] at this
    exact hne (by rw [List.eq_nil_of_length_eq_zero this]; rfl)
  obtain ⟨g, e, _, ho, _⟩ := h.2.2 hn
  refine ⟨g, 0, e, ho.lt, fun j u hu => ?_⟩
  simp only [uvs, List.getElem?_map, Option.map_eq_some_iff] at hu
  obtain ⟨x, hx1, rfl⟩ := hu
  rw [Nat.zero_add]
  exact ho.cell hx1
theorem keep2b {W : World} {b i j k : Nat} {u v x : Value} (h : W.cell? ⟨b, i, none⟩ = some x) : ((W.setCell ⟨b + 1, j, none⟩ u).setCell ⟨b + 1, k, none⟩ v).drew.cell? ⟨b, i, none⟩ = some x := by
  show ((W.setCell ⟨b + 1, j, none⟩ u).setCell ⟨b + 1, k, none⟩ v).cell? ⟨b, i, none⟩ = some x
  rw [World.cell?_setCell_other _ _ _ _ (by intro e; injection e with e; omega), World.cell?_setCell_other _ _ _ _ (by intro e; injection e with e; omega)]
  exact h
theorem dv_done {w w0 W : World} {s : Bool} {A : Option Addr} {n c d r k : Nat} {us zs : List Nat} {u v : Value} (hx : Nw w0 w (.slice A n c) n zs) (hB : DvB w w0 W s A n c) (hI : DvI w0 W A n c us) (hr : r < d) (hv : V us * d + r = V zs) (hU : V (us.take k) = V us ∧ Cn (us.take k)) (hk : k ≤ n) :
    DivR w0 w (((W.setCell ⟨w.heap.size + 1, 0, none⟩ u).setCell ⟨w.heap.size + 1, 1, none⟩ v).drew) (.returned (.tuple #[.agg #[.bool s, .slice A k c], .bool ((r : Int) == 0)])) s (V zs) d A := by
  have hq : V zs / d = V us ∧ V zs % d = r := by
    rw [← hv, Nat.mul_comm]
    exact ⟨by rw [Nat.mul_add_div (by omega), Nat.div_eq_of_lt hr, Nat.add_zero], by rw [Nat.mul_add_mod, Nat.mod_eq_of_lt hr]⟩
  have hst : ∀ B, B ≤ w.heap.size → (∀ a, A = some a → B ≤ a.block) → Below B w (((W.setCell ⟨w.heap.size + 1, 0, none⟩ u).setCell ⟨w.heap.size + 1, 1, none⟩ v).drew) := fun B h1 h2 => below_dr_ (((hB.2.2.2.1 B h1 h2).setCell (p := ⟨w.heap.size + 1, 0, none⟩) (by show B ≤ w.heap.size + 1; omega) _).setCell (p := ⟨w.heap.size + 1, 1, none⟩) (by show B ≤ w.heap.size + 1; omega) _)
  refine ⟨A, k, c, us.take k, ?_, ?_, hU.2, by rw [hU.1, hq.1], hst⟩
  · rw [hq.2, show ((r : Int) == 0) = decide (r = 0) by rw [Bool.eq_iff_iff]; simp]
  · refine Nw.tk (n := n) ?_ hk
    rcases Nat.eq_zero_or_pos n with h0 | h0
    · have hb := ((hB.2.2.2.2.2 h0).setCell (p := ⟨w.heap.size + 1, 0, none⟩) (by show w.heap.size ≤ w.heap.size + 1; omega) u).setCell (p := ⟨w.heap.size + 1, 1, none⟩) (by show w.heap.size ≤ w.heap.size + 1; omega) v
      have e1 : us = [] := List.eq_nil_of_length_eq_zero (by rw [hI.1, h0])
      have e2 : zs = [] := List.eq_nil_of_length_eq_zero (by rw [hx.1, h0])
      have h := hx.later (Nat.le_refl _) (below_dr_ hb)
      rw [e2] at h
      rw [e1]
      exact h
    · obtain ⟨g, rfl, hg, ho, hc⟩ := hI.2.2 (by omega)
      have hgw := hB.2.2.2.2.1 ⟨g, 0, none⟩ (by omega) rfl
      simp only at hgw
      have ho2 : OwT (((W.setCell ⟨w.heap.size + 1, 0, none⟩ u).setCell ⟨w.heap.size + 1, 1, none⟩ v).drew) g c us := ho.other ((Below.heap_setCell _ ⟨w.heap.size + 1, 1, none⟩ v g (by show g ≠ w.heap.size + 1; omega)).trans (Below.heap_setCell _ ⟨w.heap.size + 1, 0, none⟩ u g (by show g ≠ w.heap.size + 1; omega)))
      have h := ho2.own hg hc
      rw [hI.1] at h
      exact ⟨hI.1, hI.2.1, h⟩
theorem DvI.start {w w0 : World} {o o' : Obj} {A : Option Addr} {n c : Nat} {zs : List Nat} (hx : Nw w0 w (.slice A n c) n zs) : DvI w0 ((w.alloc o).alloc o') A n c zs := ⟨hx.1, hx.2.1, fun hn => by
  obtain ⟨g, e, h1, ho, h2⟩ := hx.owt hn
  have hb : Below w.heap.size w ((w.alloc o).alloc o') := ((Below.refl _ _).alloc (Nat.le_refl _) _).alloc (by simp) _
  exact ⟨g, e, h1, ho.other (hb.block g ho.lt), h2⟩⟩

set_option maxHeartbeats 4000000 in
theorem divided_ok (w0 : World) (s : Bool) (A : Option Addr) (n c d : Nat) (zs : List Nat) (w : World) (hn : n ≤ 50000) (hd1 : 1 < d) (hd : d < 1000) (hx : Nw w0 w (.slice A n c) n zs) (hc : Cn zs) (hw0 : w0.heap.size ≤ w.heap.size) :
    Calls Tryd.prog 119 #[.agg #[.bool s, .slice A n c], .int .u64 d] w fun z w' => DivR w0 w w' z s (V zs) d A := by
  have Hx := Lib.hid (And.intro hx (And.intro hc hw0))
  have hdb : ((d : Int) == 1) = false := by simp; omega
  have hmix : Tryd.prog.follows Departure.mixedOrders = true := by kernel_rfl
  have H0 : Hid (DvB w w0 ((w.alloc (.cells #[.bool s, .slice A n c] 67)).alloc (.cells #[.bool false, .slice none 0 0] 67)) s A n c) := DvB.start hx
  have hl := hx.1
  clear hx hc hw0
  go_enter Tryd.func119, Tryd.ntmps119
  go_wp2_with (fail)
  go_loopw [6, 7] (fun rv iv wr => ∃ (i : Int) (j r : Nat) (us : List Nat), i + 1 = j ∧ j ≤ n ∧ iv = .int .i64 i ∧ rv = .int .u64 r ∧ Hid (r < d ∧ DvB w w0 wr s A n c ∧ DvI w0 wr A n c us ∧ (∀ k, k < j → us[k]? = zs[k]?) ∧ V (us.drop j) * d + r = V (zs.drop j))) (fun _ iv _ => (intOf iv + 1).toNat)
  case atStart => exact ⟨(n : Int) - 1, n, 0, zs, by omega, by omega, rfl, rfl, by omega, H0.out, DvI.start Hx.out.1, fun _ _ => rfl, by rw [V_drop_all zs n (by omega)]; simp⟩
  case round =>
    clear H0
    obtain ⟨i, j, r, us, hij, hj, rfl, rfl, hH⟩ := hrel
    rcases Nat.eq_zero_or_pos j with rfl | hj0
    · obtain rfl : i = -1 := by omega
      have hsl : Sl wr A n c us := DvI.sl hH.out.2.2.1 Hx.out.1
      have hrr := hH.out.2.2.2.2
      rw [List.drop_zero, List.drop_zero] at hrr
      have HR := Lib.hid (And.intro hH.out.1 (And.intro hsl (And.intro hrr (And.intro hH.out.2.1 hH.out.2.2.1))))
      have p0 := hH.out.2.1.2.1
      have p1 := hH.out.2.1.1
      obtain ⟨q0, f0⟩ := hH.out.2.1.2.2.1 0 _ rfl
      obtain ⟨q1, f1⟩ := hH.out.2.1.2.2.1 1 _ rfl
      clear hsl hrr hH
      go_wp2_with (fail)
      go_region_held3 (fun w' => w'.cell? ⟨w.heap.size, 0, none⟩ = some (.bool s) ∧ w'.cell? ⟨w.heap.size, 1, none⟩ = some (.slice A n c)) (first | exact ⟨p0, p1⟩ | exact ⟨keep2b p0, keep2b p1⟩ | go_keep)
        (first | (go_at_call 23; refine (fused_ok A n c us wr.drew (by omega) (show Sl wr A n c us from HR.out.2.1)).mono ?_; rintro e w3 ⟨k3, rfl, hk3, hU, rfl⟩; have HU := Lib.hid hU; clear hU))
      go_wp2_with (fail)
      exact bodyPost_ret (v := .tuple #[.agg #[.bool s, .slice A k3 c], .bool ((r : Int) == 0)]) (by simp [results, Tryd.results119, go_sem, World.cell?_setCell_same', q0, q1]) rfl (dv_done Hx.out.1 HR.out.2.2.2.1 HR.out.2.2.2.2 HR.out.1 HR.out.2.2.1 HU.out.out hk3)
    · obtain ⟨k, rfl⟩ := Int.eq_ofNat_of_zero_le (show 0 ≤ i by omega)
      obtain rfl : j = k + 1 := by omega
      have hkn : (k : Int) < (n : Int) := by omega
      have hzl : k < zs.length := by omega
      have hg := List.getElem?_eq_getElem hzl
      have hxB : zs[k] < B64 := Hx.out.1.2.1 _ (List.getElem_mem hzl)
      generalize zs[k] = x at *
      obtain ⟨q, r', hdv, hcall⟩ := div64_any r x d hH.out.1 hxB (by have : B64 = 18446744073709551616 := rfl; omega)
      obtain ⟨g, rfl, hg0, ho, hcm⟩ := hH.out.2.2.1.2.2 (by omega)
      have huk : us[k]? = some x := by rw [hH.out.2.2.2.1 k (by omega)]; exact hg
      have p0 := hH.out.2.1.1
      have cx := ho.cell huk
      have fx := ho.frozen k
      have HN : ∀ m1 : Nat, Hid (r' < d ∧ (DvB w w0 ((wr.drewN m1).setCell ⟨g, k, none⟩ (.int .u64 (q : Int))) s (some ⟨g, 0, none⟩) n c) ∧ DvI w0 ((wr.drewN m1).setCell ⟨g, k, none⟩ (.int .u64 (q : Int))) (some ⟨g, 0, none⟩) n c (us.set k q) ∧ (∀ m, m < k → (us.set k q)[m]? = zs[m]?) ∧ V ((us.set k q).drop k) * d + r' = V (zs.drop k)) := by
        intro m1
        have hne1 : g ≠ w.heap.size := by have := hH.out.2.1.2.2.2.2.1 ⟨g, 0, none⟩ (by omega) rfl; simp only at this; omega
        have hne2 : g ≠ w.heap.size + 1 := by have := hH.out.2.1.2.2.2.2.1 ⟨g, 0, none⟩ (by omega) rfl; simp only at this; omega
        obtain ⟨e1, e2, e3, e4, e5, e6⟩ := hH.out.2.1
        have hqB : q < B64 := hdv.2.2
        refine ⟨hdv.2.1, ⟨?_, ?_, Bk.far (show Bk (wr.drewN m1) _ _ from e3) (by omega) _ _, fun B hB hA => (below_drewN (e4 B hB hA) m1).setCell (p := ⟨g, k, none⟩) (hA ⟨g, 0, none⟩ rfl) _, e5, fun h0 => by omega⟩, ⟨by rw [List.length_set]; exact hH.out.2.2.1.1, Ws_set hH.out.2.2.1.2.1 k q hqB, fun _ => ⟨g, rfl, hg0, OwT.set (show OwT (wr.drewN m1) g c us from ho) k q, hcm⟩⟩, fun m hm => by rw [List.getElem?_set_ne (by omega)]; exact hH.out.2.2.2.1 m (by omega), dv_step hg huk hdv.1 hH.out.2.2.2.2⟩
        · rw [World.cell?_setCell_other _ _ _ _ (by intro e; injection e with e; exact hne1 e)]; exact e1
        · rw [World.cell?_setCell_other _ _ _ _ (by intro e; injection e with e; exact hne1 e)]; exact e2
      have Hc := Lib.hid hcall
      have HS0 := Lib.hid (show (fun w' : World => w'.cell? ⟨w.heap.size, 1, none⟩ = some (.slice (some ⟨g, 0, none⟩) n c) ∧ w'.cell? ⟨g, k, none⟩ = some (.int .u64 (x : Int))) wr.drew from ⟨p0, cx⟩)
      clear hzl hg hxB hdv hcall huk ho hg0 hcm hH
      go_wp2_with (fail)
      refine wp_region_M 15 (fun w' => w'.cell? ⟨w.heap.size, 1, none⟩ = some (.slice (some ⟨g, 0, none⟩) n c) ∧ w'.cell? ⟨g, k, none⟩ = some (.int .u64 (x : Int))) hmix ?_
      refine wpAnyM_take (i := 0) (v := ?_) rfl rfl (by kernel_rfl) (by kernel_rfl) (by kernel_rfl) (by kernel_rfl) (by kernel_rfl) (by kernel_rfl) (fun _ _ _ h => h) HS0.out (Or.inl ⟨by rfl, ?_⟩) ?_
      rotate_left
      · rintro w ⟨q0, q1⟩; go_simp; try with_reducible rfl
      try simp only [Act.put, List.setIfInBounds_toArray, List.set_cons_zero, List.set_cons_succ]
      refine wpAnyM_take (i := 1) (v := ?_) rfl rfl (by kernel_rfl) (by kernel_rfl) (by kernel_rfl) (by kernel_rfl) (by kernel_rfl) (by kernel_rfl) (fun _ _ _ h => h) HS0.out (Or.inl ⟨by rfl, ?_⟩) ?_
      rotate_left
      · rintro w ⟨q0, q1⟩; go_simp; try with_reducible rfl
      try simp only [Act.put, List.setIfInBounds_toArray, List.set_cons_zero, List.set_cons_succ]
      refine wpAnyM_take (i := 2) (v := ?_) rfl rfl (by kernel_rfl) (by kernel_rfl) (by kernel_rfl) (by kernel_rfl) (by kernel_rfl) (by kernel_rfl) (fun _ _ _ h => h) HS0.out (Or.inl ⟨by rfl, ?_⟩) ?_
      rotate_left
      · rintro w ⟨q0, q1⟩; go_simp; try with_reducible rfl
      try simp only [Act.put, List.setIfInBounds_toArray, List.set_cons_zero, List.set_cons_succ]
      refine wpAnyM_take (i := 3) (v := ?_) rfl rfl (by kernel_rfl) (by kernel_rfl) (by kernel_rfl) (by kernel_rfl) (by kernel_rfl) (by kernel_rfl) (fun _ _ _ h => h) HS0.out (Or.inl ⟨by rfl, ?_⟩) ?_
      rotate_left
      · rintro w ⟨q0, q1⟩; go_simp; try with_reducible rfl
      try simp only [Act.put, List.setIfInBounds_toArray, List.set_cons_zero, List.set_cons_succ]
      refine wpAnyM_take (i := 4) (v := ?_) rfl rfl (by kernel_rfl) (by kernel_rfl) (by kernel_rfl) (by kernel_rfl) (by kernel_rfl) (by kernel_rfl) (fun _ _ _ h => h) HS0.out (Or.inl ⟨by rfl, ?_⟩) ?_
      rotate_left
      · rintro w ⟨q0, q1⟩; go_simp; try with_reducible rfl
      try simp only [Act.put, List.setIfInBounds_toArray, List.set_cons_zero, List.set_cons_succ]
      refine wpAnyM_take (i := 5) (v := ?_) rfl rfl (by kernel_rfl) (by kernel_rfl) (by kernel_rfl) (by kernel_rfl) (by kernel_rfl) (by kernel_rfl) (fun _ _ _ h => h) HS0.out (Or.inl ⟨by rfl, ?_⟩) ?_
      rotate_left
      · rintro w ⟨q0, q1⟩; go_simp; try with_reducible rfl
      try simp only [Act.put, List.setIfInBounds_toArray, List.set_cons_zero, List.set_cons_succ]
      refine wpAnyM_take (i := 6) (v := ?_) rfl rfl (by kernel_rfl) (by kernel_rfl) (by kernel_rfl) (by kernel_rfl) (by kernel_rfl) (by kernel_rfl) (fun _ _ _ h => h) HS0.out (Or.inl ⟨by rfl, ?_⟩) ?_
      rotate_left
      · rintro w ⟨q0, q1⟩; go_simp; try with_reducible rfl
      try simp only [Act.put, List.setIfInBounds_toArray, List.set_cons_zero, List.set_cons_succ]
      refine wpAnyM_take (i := 7) (v := ?_) rfl rfl (by kernel_rfl) (by kernel_rfl) (by kernel_rfl) (by kernel_rfl) (by kernel_rfl) (by kernel_rfl) (fun _ _ _ h => h) HS0.out (Or.inl ⟨by rfl, ?_⟩) ?_
      rotate_left
      · rintro w ⟨q0, q1⟩; go_simp; try with_reducible rfl
      try simp only [Act.put, List.setIfInBounds_toArray, List.set_cons_zero, List.set_cons_succ]
      refine wpAnyM_take (i := 8) (v := ?_) rfl rfl (by kernel_rfl) (by kernel_rfl) (by kernel_rfl) (by kernel_rfl) (by kernel_rfl) (by kernel_rfl) (fun _ _ _ h => h) HS0.out (Or.inl ⟨by rfl, ?_⟩) ?_
      rotate_left
      · rintro w ⟨q0, q1⟩; go_simp; try with_reducible rfl
      try simp only [Act.put, List.setIfInBounds_toArray, List.set_cons_zero, List.set_cons_succ]
      refine wpAnyM_take (i := 9) (v := ?_) rfl rfl (by kernel_rfl) (by kernel_rfl) (by kernel_rfl) (by kernel_rfl) (by kernel_rfl) (by kernel_rfl) (fun _ _ _ h => h) HS0.out (Or.inl ⟨by rfl, ?_⟩) ?_
      rotate_left
      · rintro w ⟨q0, q1⟩; go_simp; try with_reducible rfl
      try simp only [Act.put, List.setIfInBounds_toArray, List.set_cons_zero, List.set_cons_succ]

      refine wpAnyM_one (i := 10) rfl (by kernel_rfl) (fun K hK => ?_)
      go_simp
      refine (Hc.out _).mono ?_
      rintro e w1 ⟨rfl, m1, rfl⟩
      refine hK.out _ _ (fun _ => HS0.out) ?_
      clear hK K
      try simp only [Act.put, List.setIfInBounds_toArray, List.set_cons_zero, List.set_cons_succ]
      refine wpAnyM_take (i := 11) (v := ?_) rfl rfl (by kernel_rfl) (by kernel_rfl) (by kernel_rfl) (by kernel_rfl) (by kernel_rfl) (by kernel_rfl) (fun _ _ _ h => h) HS0.out (Or.inl ⟨by rfl, ?_⟩) ?_
      rotate_left
      · rintro w ⟨q0, q1⟩; go_simp; try with_reducible rfl
      try simp only [Act.put, List.setIfInBounds_toArray, List.set_cons_zero, List.set_cons_succ]
      refine wpAnyM_take (i := 12) (v := ?_) rfl rfl (by kernel_rfl) (by kernel_rfl) (by kernel_rfl) (by kernel_rfl) (by kernel_rfl) (by kernel_rfl) (fun _ _ _ h => h) HS0.out (Or.inl ⟨by rfl, ?_⟩) ?_
      rotate_left
      · rintro w ⟨q0, q1⟩; go_simp; try with_reducible rfl
      try simp only [Act.put, List.setIfInBounds_toArray, List.set_cons_zero, List.set_cons_succ]
      refine wpAnyM_take (i := 14) (v := ?_) rfl rfl (by kernel_rfl) (by kernel_rfl) (by kernel_rfl) (by kernel_rfl) (by kernel_rfl) (by kernel_rfl) (fun _ _ _ h => h) HS0.out (Or.inl ⟨by rfl, ?_⟩) ?_
      rotate_left
      · rintro w ⟨q0, q1⟩; go_simp; try with_reducible rfl
      try simp only [Act.put, List.setIfInBounds_toArray, List.set_cons_zero, List.set_cons_succ]

      refine wpAnyM_ready [13, 15] (by kernel_rfl) (by simp) ?_
      intro i hi
      simp only [List.mem_cons, List.not_mem_nil, or_false] at hi
      rcases hi with rfl | rfl
      · refine ⟨_, rfl, fun K hK => ?_⟩
        go_simp
        refine hK.out _ _ (fun _ => HS0.out) ?_
        clear hK K
        try simp only [Act.put, List.setIfInBounds_toArray, List.set_cons_zero, List.set_cons_succ]
        refine wpAnyM_one (i := 15) rfl (by kernel_rfl) (fun K hK => ?_)
        go_simp
        refine hK.out _ _ (fun h => absurd h (by decide)) ?_
        clear hK K
        try simp only [Act.put, List.setIfInBounds_toArray, List.set_cons_zero, List.set_cons_succ]
        refine wpAnyM_one (i := 16) rfl (by kernel_rfl) (fun K hK => ?_)
        go_simp
        refine hK.out _ _ (fun h => absurd h (by decide)) ?_
        clear hK K
        try simp only [Act.put, List.setIfInBounds_toArray, List.set_cons_zero, List.set_cons_succ]
        refine wpAnyM_done (by kernel_rfl) ?_ _
        clear HS0
        go_wp2_with (fail)
        go_roundw
        case rel => exact ⟨(k : Int) - 1, k, r', us.set k q, by omega, by omega, rfl, rfl, HN (1 + m1)⟩
        case measure => (simp [intOf]; try omega)
      · refine ⟨_, rfl, fun K hK => ?_⟩
        go_simp
        refine hK.out _ _ (fun h => absurd h (by decide)) ?_
        clear hK K
        try simp only [Act.put, List.setIfInBounds_toArray, List.set_cons_zero, List.set_cons_succ]
        refine wpAnyM_one (i := 13) rfl (by kernel_rfl) (fun K hK => ?_)
        go_simp
        refine hK.out _ _ (fun h => absurd h (by decide)) ?_
        clear hK K
        try simp only [Act.put, List.setIfInBounds_toArray, List.set_cons_zero, List.set_cons_succ]
        refine wpAnyM_one (i := 16) rfl (by kernel_rfl) (fun K hK => ?_)
        go_simp
        refine hK.out _ _ (fun h => absurd h (by decide)) ?_
        clear hK K
        try simp only [Act.put, List.setIfInBounds_toArray, List.set_cons_zero, List.set_cons_succ]
        refine wpAnyM_done (by kernel_rfl) ?_ _
        clear HS0
        go_wp2_with (fail)
        go_roundw
        case rel => exact ⟨(k : Int) - 1, k, r', us.set k q, by omega, by omega, rfl, rfl, HN (1 + m1)⟩
        case measure => (simp [intOf]; try omega)
end Go.Proofs.YtalcikmngglplaaDoor
