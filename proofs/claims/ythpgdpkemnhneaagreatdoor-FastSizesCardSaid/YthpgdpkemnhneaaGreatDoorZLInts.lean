/- The contracts of the law's ints, nats, same. -/
import Derived.Test.YthpgdpkemnhneaaGreatDoorZRZ
import Derived.Test.YthpgdpkemnhneaaGreatDoorZFSplit
namespace Go.Proofs.YthpgdpkemnhneaaGreatDoor
open Go.RowKit Go.Shelf
set_option linter.unusedVariables false
set_option linter.unusedSimpArgs false
set_option maxRecDepth 10000

theorem Zl.own {w : World} {base : Nat} {A : Option Addr} {m c : Nat} {al : List Sn} (h : w.ownsRow base 32 2 (.slice A m c) m (al.flatMap sncs)) (hm : al.length = m) (ht : ∀ t ∈ al, Sl w t.A t.n t.c t.xs) : Zl w A m c al := by
  have hl := flat_len al
  rcases h.2 with ⟨hv, h0⟩ | ⟨g, cap, cur, hv, hg, hh, hn, hc, hs, ht2⟩
  · injection hv with e1 e2 e3
    subst e1 e2 e3
    exact ⟨hm, Nat.le_refl _, by omega, by rw [show al.flatMap sncs = [] from List.eq_nil_of_length_eq_zero (by rw [hl, hm])]; exact Rd.nil, ht⟩
  · injection hv with e1 e2 e3
    subst e1 e3
    refine ⟨hm, hn, hc, fun _ => ⟨g, 0, rfl, (Array.getElem?_eq_some_iff.1 hh).1, fun j u hu => ?_⟩, ht⟩
    rw [Nat.zero_add, cell_of_row w g j cur _ _ hh]
    rw [← ht2, List.getElem?_take] at hu
    split at hu
    · simpa using hu
    · cases hu
theorem Tryz.info32 : (Tryz.prog.info? 32).map (fun i => (i.zero, i.size, i.bytes)) = some (some (.agg #[.bool false, .slice none 0 0]), 2, 32) := by kernel_rfl
/-- canonical integers that are new -/
def Zn (w W : World) (al : List Sn) : Prop := ∀ a ∈ al, Nw w W (.slice a.A a.n a.c) a.n a.xs ∧ Cn a.xs ∧ a.s = decide (a.v < 0)
theorem Zn.below {w w0 W W' : World} {al : List Sn} (h : Zn w W al) (h0 : w0.heap.size ≤ w.heap.size) (hb : Below W.heap.size W W') : Zn w0 W' al := fun a ha => ⟨(h a ha).1.later h0 hb, (h a ha).2⟩
theorem Zn.grown {w W W' : World} {al : List Sn} {row : Option Nat} (h : Zn w W al) (hg : W.grownBy W' row) (hr : ∀ r, row = some r → ∀ base v n vs, W.ownsRow base 44 1 v n vs → v.ownBlock ≠ some r) : Zn w W' al := fun a ha =>
  ⟨⟨(h a ha).1.1, (h a ha).1.2.1, own_off (h a ha).1.2.2 hg (fun r e => hr r e _ _ _ _ (h a ha).1.2.2)⟩, (h a ha).2⟩
theorem Zn.sl {w W : World} {al : List Sn} (h : Zn w W al) : ∀ a ∈ al, Sl W a.A a.n a.c a.xs := fun a ha => ((h a ha).1.sc (h a ha).2.1).1
/-- an integer that a call has handed back -/
theorem Zr.sn {w w' : World} {e : Ending} {z : Int} (h : Zr w w' e z) : ∃ a : Sn, e = .returned (.agg #[.bool a.s, .slice a.A a.n a.c]) ∧ a.v = z ∧ Zn w w' [a] ∧ Below w.heap.size w w' := by
  obtain ⟨A, n, c, zs, e, h1, h2, h3, h4⟩ := h
  have hv : (⟨decide (z < 0), A, n, c, zs⟩ : Sn).v = z := by simp only [Sn.v]; rw [h3]; exact sgn_can z
  refine ⟨⟨decide (z < 0), A, n, c, zs⟩, e, hv, fun a ha => ?_, h4⟩
  rw [List.mem_singleton] at ha
  subst ha
  exact ⟨h1, h2, by rw [hv]⟩
/-- between two rounds of ints -/
def IzA (w : World) (zs : List Int) (k : Nat) (v : Value) (al : List Sn) (W : World) : Prop :=
  W.ownsRow w.heap.size 32 2 v k (al.flatMap sncs) ∧ al.length = k ∧ Zn w W al ∧ al.map Sn.v = zs.take k ∧ Below w.heap.size w W
def IzI (w : World) (zs : List Int) (k : Nat) (v : Value) (W : World) : Prop := ∃ al : List Sn, IzA w zs k v al W
theorem IzA.next {w W w3 W2 : World} {zs : List Int} {k : Nat} {v v' : Value} {a : Sn} {al : List Sn} {z : Int} (h : IzA w zs k v al W) (hk : zs[k]? = some z) (hb : Below W.heap.size W w3) (hz : Zn W w3 [a]) (hv : a.v = z)
    (hown : W2.ownsRow w.heap.size 32 2 v' (k + 1) (al.flatMap sncs ++ sncs a))
    (hgrow : (w3.alloc (.cells (sncs a).toArray 32)).grownBy W2 v.ownBlock) : IzI w zs (k + 1) v' W2 := by
  obtain ⟨h1, h2, h3, h4, h5⟩ := h
  have h1' := own_below h1 hb (Nat.le_refl _)
  have hal : Below w3.heap.size w3 (w3.alloc (.cells (sncs a).toArray 32)) := (Below.refl _ _).alloc (Nat.le_refl _) _
  have e2 : 32 ≠ 44 := by decide
  have hb3 : Below w.heap.size w w3 := h5.trans (hb.mono h5.size)
  have hzn : Zn w w3 (al ++ [a]) := fun b hm => by
    rcases List.mem_append.1 hm with h | h
    · exact (h3.below (Nat.le_refl _) hb) b h
    · exact (hz.below h5.size (Below.refl _ _)) b h
  obtain ⟨hkl, hke⟩ := List.getElem?_eq_some_iff.1 hk
  refine ⟨al ++ [a], ?_, by simp [h2], (hzn.below (Nat.le_refl _) hal).grown hgrow (fun r e base v4 n4 vs4 ho => own_ne (own_below h1' hal (Nat.le_refl _)) ho e2 r e), ?_, ?_⟩
  · rwa [List.flatMap_append, show [a].flatMap sncs = sncs a by simp]
  · rw [List.map_append, h4, List.take_succ_eq_append_getElem hkl, hke]
    simp [hv]
  · exact (hb3.trans (hal.mono hb3.size)).grown hgrow (by have := hb3.size; have := hal.size; omega) (fun j hj => (h1.lt j hj).1)
/-- what ints answers -/
def IntsR (w w' : World) (e : Ending) (zs : List Int) : Prop := ∃ A c al, e = .returned (.slice A zs.length c) ∧ Zl w' A zs.length c al ∧ Zn w w' al ∧ al.map Sn.v = zs ∧ Below w.heap.size w w'

set_option maxHeartbeats 2000000 in
theorem ints_ok (zs : List Int) (A : Option Addr) (m c : Nat) (w : World) (hl : zs.length = m) (hm : m ≤ 100) (hr : Rd w w.heap.size A (zs.map fun z => .int .i64 z)) (hz : ∀ z ∈ zs, -1000000 ≤ z ∧ z ≤ 1000000) :
    Calls Tryz.prog 53 #[.slice A m c] w fun e w' => IntsR w w' e zs := by
  obtain ⟨i0, hi, hz0, hz1, hz2⟩ := info_parts Tryz.info32
  have Hx := Lib.hid (And.intro hl (And.intro hr hz))
  clear hl hr hz
  go_enter Tryz.func53, Tryz.ntmps53
  go_wp2
  go_loopw [3, 4] (fun v kv wr => ∃ k : Nat, k ≤ m ∧ kv = .int .i64 k ∧ Hid (IzI w zs k v wr)) (fun _ kv _ => m - (intOf kv).toNat)
  case atStart => exact ⟨0, Nat.zero_le _, rfl, [], World.ownsRow_nil _ _ _ _, rfl, fun a ha => by simp at ha, rfl, Below.refl _ _⟩
  case round =>
    obtain ⟨k, hk, rfl, H⟩ := hrel
    have hbw : Below w.heap.size w wr := by obtain ⟨_, _, _, _, _, h⟩ := H.out; exact h
    by_cases hlt : k < m
    · have hkl : k < zs.length := by rw [Hx.out.1]; exact hlt
      have hg := List.getElem?_eq_getElem hkl
      have hb5 := Hx.out.2.2 _ (List.getElem_mem hkl)
      obtain ⟨b, o, rfl, _, c0⟩ := (Hx.out.2.1.below hbw).at (show (zs.map fun z => Value.int .i64 z)[k]? = some (.int .i64 zs[k]) by rw [List.getElem?_map, hg]; rfl)
      obtain ⟨z, hzk⟩ : ∃ z, zs[k] = z := ⟨_, rfl⟩
      rw [hzk] at c0 hb5
      rw [hzk] at hg
      have HK := Lib.hid (And.intro hg (And.intro True.intro hbw))
      have hki : (k : Int) < (m : Int) := by omega
      clear hg hkl hzk hbw
      go_wp2_with (fail)
      refine (RFrom_ok z _ hb5.1 hb5.2).mono ?_
      rintro e w3 hR
      obtain ⟨a, rfl, hv, hzn, hb3⟩ := hR.sn
      have H3 := Lib.hid (And.intro hv (And.intro hzn hb3))
      clear hR hv hzn hb3
      have hs3 : w.heap.size ≤ w3.heap.size := Nat.le_trans HK.out.2.2.size H3.out.2.2.size
      obtain ⟨al, hA⟩ := H.out
      have HA := Lib.hid hA
      have h1' := own_below hA.1 H3.out.2.2 (Nat.le_refl _)
      have Hn := Lib.hid (World.news_of_block (heap_alloc_new w3 (.cells (sncs a).toArray 32)))
      have HO := Lib.hid h1'
      clear hA h1' H
      go_wp2_with (at_builtin; refine wpList_append_own_at _ rfl (.tmp 11) (.tmp 17) 35 rfl w.heap.size 32 i0 (.agg #[.bool false, .slice none 0 0]) 2 32 Tryz.underlying35 hi hz0 hz1 hz2 rfl (by omega) u3 k _ rfl (HO.out.alloc _) ⟨w3.heap.size, 0, none⟩ 1 1 (sncs a) rfl rfl Hn.out (by simp [sncs, Value.oneCell']) (by unfold maxLen; omega) (by omega) (by simp; omega) ?_)
      intro v' w4 hown4 hgrow4 hnil4 hblk4
      have HN : Hid (IzI w zs (k + 1) v' w4) := HA.out.next HK.out.1 H3.out.2.2 H3.out.2.1 H3.out.1 hown4 hgrow4
      clear HA H3 HO hown4 hgrow4 hnil4 hblk4 Hn
      go_wp2_with (fail)
      go_roundw
      case rel => exact ⟨k + 1, by omega, by go_num, HN⟩
      case measure => simp [intOf]; omega
    · obtain rfl : k = m := by omega
      have hki : ¬ (k : Int) < (k : Int) := by omega
      obtain ⟨al, h1, h2, h3, h4, h5⟩ := H.out
      obtain ⟨A', c', rfl⟩ := own_slice h1
      have HF := Lib.hid (And.intro h1 (And.intro h2 (And.intro h3 (And.intro h4 h5))))
      clear h1 h2 h3 h4 h5 hbw H
      go_wp2_with (fail)
      go_ret
      have hl := Hx.out.1
      refine ⟨A', c', al, by rw [hl]; rfl, by rw [hl]; exact Zl.own HF.out.1 HF.out.2.1 HF.out.2.2.1.sl, HF.out.2.2.1, ?_, HF.out.2.2.2.2⟩
      rw [HF.out.2.2.2.1, List.take_of_length_le (by rw [hl]; exact Nat.le_refl _)]

/-- two lists of numbers, the first canonical, with the same values -/
def Pair (w : World) (ls ls' : List (Option Addr × Nat × Nat)) : Prop := ls.length = ls'.length ∧ ∀ (i : Nat) (s s' : Option Addr × Nat × Nat), ls[i]? = some s → ls'[i]? = some s' → ∃ xs ys, Sl w s.1 s.2.1 s.2.2 xs ∧ Cn xs ∧ s.2.1 ≤ 4096 ∧ Sl w s'.1 s'.2.1 s'.2.2 ys ∧ s'.2.1 ≤ 4096 ∧ V xs = V ys
set_option maxHeartbeats 2000000 in
theorem nats_ok (ls ls' : List (Option Addr × Nat × Nat)) (A A' : Option Addr) (m c c' : Nat) (w : World) (hl : ls.length = m) (hm : m ≤ 100000) (hr : Rd w w.heap.size A (svs ls)) (hr' : Rd w w.heap.size A' (svs ls')) (hp : Pair w ls ls') :
    Calls Tryz.prog 56 #[.slice A m c, .slice A' m c'] w fun e w' => e = .returned (.bool true) ∧ Below w.heap.size w w' := by
  have Hx := Lib.hid (And.intro hl (And.intro hr (And.intro hr' hp)))
  clear hl hr hr' hp
  go_enter Tryz.func56, Tryz.ntmps56
  go_wp2
  go_loopw [5] (fun kv wr => ∃ k : Nat, k ≤ m ∧ kv = .int .i64 k ∧ Hid (Below w.heap.size w wr)) (fun kv _ => m - (intOf kv).toNat)
  case atStart => exact ⟨0, Nat.zero_le _, rfl, Below.refl _ _⟩
  case round =>
    obtain ⟨k, hk, rfl, H⟩ := hrel
    by_cases hlt : k < m
    · have hkl : k < ls.length := by rw [Hx.out.1]; exact hlt
      have hkl' : k < ls'.length := by rw [← Hx.out.2.2.2.1, Hx.out.1]; exact hlt
      obtain ⟨b, o, rfl, hb1, hc1⟩ := (Hx.out.2.1.below H.out).at (svs_get (List.getElem?_eq_getElem hkl))
      obtain ⟨b', o', rfl, hb2, hc2⟩ := (Hx.out.2.2.1.below H.out).at (svs_get (List.getElem?_eq_getElem hkl'))
      obtain ⟨xs, ys, e1, e2, e3, e4, e5, e6⟩ := Hx.out.2.2.2.2 k _ _ (List.getElem?_eq_getElem hkl) (List.getElem?_eq_getElem hkl')
      generalize ls[k] = z at *
      generalize ls'[k] = z' at *
      obtain ⟨za, zn, zc⟩ := z
      obtain ⟨za', zn', zc'⟩ := z'
      have HQ := Lib.hid (And.intro (e1.below H.out) (And.intro e2 (And.intro e3 (And.intro (e4.below H.out) (And.intro e5 e6)))))
      simp only at hc1 hc2
      have hki : (k : Int) < (m : Int) := by omega
      clear hkl hkl' e1 e2 e3 e4 e5 e6
      go_wp2_with (fail)
      go_region_held3 (fun w' => w'.cell? ⟨b, o + k, none⟩ = some (.slice za zn zc) ∧ w'.cell? ⟨b', o' + k, none⟩ = some (.slice za' zn' zc')) (first | exact ⟨hc1, hc2⟩ | exact S1.out | go_keep)
        (first | (go_at_call 18; refine (Is_ok za za' zn zn' zc zc' xs ys wr.drew HQ.out.2.2.1 HQ.out.2.2.2.2.1 (show Sl wr za zn zc xs from HQ.out.1) (show Sl wr za' zn' zc' ys from HQ.out.2.2.2.1) HQ.out.2.1 HQ.out.2.2.2.2.2).mono ?_; rintro e w3 ⟨rfl, hb3⟩; have HB3 := Lib.hid (show Below wr.heap.size wr w3 from belowA hb3); have S1 := Lib.hid (show w3.cell? ⟨b, o + k, none⟩ = some (.slice za zn zc) ∧ w3.cell? ⟨b', o' + k, none⟩ = some (.slice za' zn' zc') from ⟨(HB3.out.cell (World.block_lt_of_cell? _ _ hc1)).trans hc1, (HB3.out.cell (World.block_lt_of_cell? _ _ hc2)).trans hc2⟩); clear hb3))
      all_goals
        have HN := Lib.hid (H.out.trans (HB3.out.mono H.out.size))
        clear H HQ S1 HB3
        go_wp2_with (fail)
        go_roundw
        case rel => exact ⟨k + 1, by omega, by go_num, HN⟩
        case measure => simp [intOf]; omega
    · have hki : ¬ (k : Int) < (m : Int) := by omega
      go_wp2_with (fail)
      go_ret
      exact ⟨rfl, H.out⟩
/-- two lists of integers, the first canonical, with the same values -/
def PairZ (w : World) (al bl : List Sn) : Prop := (∀ a ∈ al, Sl w a.A a.n a.c a.xs ∧ Cn a.xs ∧ a.n ≤ 4096 ∧ a.s = decide (a.v < 0)) ∧ (∀ a ∈ bl, Sl w a.A a.n a.c a.xs ∧ a.n ≤ 4096) ∧ al.map Sn.v = bl.map Sn.v
set_option maxHeartbeats 2000000 in
theorem same_ok (al bl : List Sn) (A A' : Option Addr) (m c c' : Nat) (w : World) (hm : m ≤ 100000) (hr : Zl w A m c al) (hr' : Zl w A' m c' bl) (hp : PairZ w al bl) :
    Calls Tryz.prog 57 #[.slice A m c, .slice A' m c'] w fun e w' => e = .returned (.bool true) ∧ Below w.heap.size w w' := by
  have Hx := Lib.hid (And.intro hr (And.intro hr' hp))
  clear hr hr' hp
  go_enter Tryz.func57, Tryz.ntmps57
  go_wp2
  go_loopw [5] (fun kv wr => ∃ k : Nat, k ≤ m ∧ kv = .int .i64 k ∧ Hid (Below w.heap.size w wr)) (fun kv _ => m - (intOf kv).toNat)
  case atStart => exact ⟨0, Nat.zero_le _, rfl, Below.refl _ _⟩
  case round =>
    obtain ⟨k, hk, rfl, H⟩ := hrel
    by_cases hlt : k < m
    · have hkl : k < al.length := by rw [Hx.out.1.1]; exact hlt
      have hkl' : k < bl.length := by rw [Hx.out.2.1.1]; exact hlt
      obtain ⟨b, o, rfl, hb1, hc0, hc1⟩ := (Hx.out.1.below H.out).at (List.getElem?_eq_getElem hkl)
      obtain ⟨b', o', rfl, hb2, hd0, hd1⟩ := (Hx.out.2.1.below H.out).at (List.getElem?_eq_getElem hkl')
      have e1 := Hx.out.2.2.1 _ (List.getElem_mem hkl)
      have e2 := Hx.out.2.2.2.1 _ (List.getElem_mem hkl')
      have e3 : al[k].v = bl[k].v := by
        have h := congrArg (fun l => l[k]?) Hx.out.2.2.2.2
        simp only [List.getElem?_map, List.getElem?_eq_getElem hkl, List.getElem?_eq_getElem hkl', Option.map_some] at h
        injection h
      generalize al[k] = z at *
      generalize bl[k] = z' at *
      obtain ⟨zs, za, zn, zc, zx⟩ := z
      obtain ⟨zs', za', zn', zc', zx'⟩ := z'
      have HQ := Lib.hid (And.intro (e1.1.below H.out) (And.intro e1.2 (And.intro (e2.1.below H.out) (And.intro e2.2 e3))))
      simp only at hc0 hc1 hd0 hd1
      have hki : (k : Int) < (m : Int) := by omega
      clear hkl hkl' e1 e2 e3
      go_wp2_with (fail)
      go_region_held3 (fun w' => w'.cell? ⟨b, o + k * 2, none⟩ = some (.bool zs) ∧ w'.cell? ⟨b, o + k * 2 + 1, none⟩ = some (.slice za zn zc) ∧ w'.cell? ⟨b', o' + k * 2, none⟩ = some (.bool zs') ∧ w'.cell? ⟨b', o' + k * 2 + 1, none⟩ = some (.slice za' zn' zc')) (first | exact ⟨hc0, hc1, hd0, hd1⟩ | exact S1.out | go_keep)
        (first | (go_at_call 89; refine (RIsZ_ok zs zs' za za' zn zn' zc zc' zx zx' wr.drew HQ.out.2.1.2.1 HQ.out.2.2.2.1 (show Sl wr za zn zc zx from HQ.out.1) (show Sl wr za' zn' zc' zx' from HQ.out.2.2.1) HQ.out.2.1.1 HQ.out.2.1.2.2 HQ.out.2.2.2.2).mono ?_; rintro e w3 ⟨rfl, hb3⟩; have HB3 := Lib.hid (show Below wr.heap.size wr w3 from belowA hb3); have S1 := Lib.hid (show w3.cell? ⟨b, o + k * 2, none⟩ = some (.bool zs) ∧ w3.cell? ⟨b, o + k * 2 + 1, none⟩ = some (.slice za zn zc) ∧ w3.cell? ⟨b', o' + k * 2, none⟩ = some (.bool zs') ∧ w3.cell? ⟨b', o' + k * 2 + 1, none⟩ = some (.slice za' zn' zc') from ⟨(HB3.out.cell (World.block_lt_of_cell? _ _ hc0)).trans hc0, (HB3.out.cell (World.block_lt_of_cell? _ _ hc1)).trans hc1, (HB3.out.cell (World.block_lt_of_cell? _ _ hd0)).trans hd0, (HB3.out.cell (World.block_lt_of_cell? _ _ hd1)).trans hd1⟩); clear hb3))
      all_goals
        have HN := Lib.hid (H.out.trans (HB3.out.mono H.out.size))
        clear H HQ S1 HB3
        go_wp2_with (fail)
        go_roundw
        case rel => exact ⟨k + 1, by omega, by go_num, HN⟩
        case measure => simp [intOf]; omega
    · have hki : ¬ (k : Int) < (m : Int) := by omega
      go_wp2_with (fail)
      go_ret
      exact ⟨rfl, H.out⟩
end Go.Proofs.YthpgdpkemnhneaaGreatDoor
