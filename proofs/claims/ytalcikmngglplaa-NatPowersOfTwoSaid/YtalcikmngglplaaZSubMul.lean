/- The contract of words.SubMul. -/
import Derived.Test.YtalcikmngglplaaP1
import Derived.Test.YtalcikmngglplaaZPlusP
namespace Go.Proofs.Ytalcikmngglplaa
open Go.RowKit
set_option linter.unusedVariables false
set_option linter.unusedSimpArgs false

theorem SubMul_keep {w w' : World} {p1 p2 p3 g b o b' o' : Nat} {v1 v2 v3 v4 v5 v6 : Value} (h1 : p1 < w.heap.size) (h2 : p2 < w.heap.size) (h3 : p3 < w.heap.size) (h4 : g < w.heap.size) (h5 : b < w.heap.size) (h6 : b' < w.heap.size)
    (c1 : w.cell? ⟨p1, 0, none⟩ = some v1) (c2 : w.cell? ⟨p2, 0, none⟩ = some v2) (c3 : w.cell? ⟨p3, 0, none⟩ = some v3) (c4 : w.cell? ⟨g, 0, none⟩ = some v4) (c5 : w.cell? ⟨b, o, none⟩ = some v5) (c6 : w.cell? ⟨b', o', none⟩ = some v6) (hf : w.frozen? ⟨g, 0, none⟩ = false) (hb : Below w.heap.size w w') :
    (w'.cell? ⟨p1, 0, none⟩ = some v1 ∧ w'.cell? ⟨p2, 0, none⟩ = some v2 ∧ w'.cell? ⟨p3, 0, none⟩ = some v3 ∧ w'.cell? ⟨g, 0, none⟩ = some v4 ∧ w'.cell? ⟨b, o, none⟩ = some v5 ∧ w'.cell? ⟨b', o', none⟩ = some v6) ∧ w'.frozen? ⟨g, 0, none⟩ = false ∧ Below w.heap.size w w' ∧
    p1 < w'.heap.size ∧ p2 < w'.heap.size ∧ p3 < w'.heap.size ∧ g < w'.heap.size ∧ b < w'.heap.size ∧ b' < w'.heap.size :=
  ⟨⟨(hb.cell (p := ⟨p1, 0, none⟩) h1).trans c1, (hb.cell (p := ⟨p2, 0, none⟩) h2).trans c2, (hb.cell (p := ⟨p3, 0, none⟩) h3).trans c3, (hb.cell (p := ⟨g, 0, none⟩) h4).trans c4, (hb.cell (p := ⟨b, o, none⟩) h5).trans c5, (hb.cell (p := ⟨b', o', none⟩) h6).trans c6⟩, (hb.frozen (p := ⟨g, 0, none⟩) h4).trans hf, hb,
    Nat.lt_of_lt_of_le h1 hb.size, Nat.lt_of_lt_of_le h2 hb.size, Nat.lt_of_lt_of_le h3 hb.size, Nat.lt_of_lt_of_le h4 hb.size, Nat.lt_of_lt_of_le h5 hb.size, Nat.lt_of_lt_of_le h6 hb.size⟩

set_option maxHeartbeats 800000 in
theorem SubMul1_any (x wd zz : Nat) (k : Nat) (p1 p2 p3 g : Nat) (n c c' : Nat) (carry : Nat) (b o b' o' : Nat) (w : World) (hk : k < n) (hn : n ≤ 4096) (hx : x < B64) (hw : wd < B64) (hz : zz < B64) (hc : carry < B64)
    (h1 : Wd w p1 (.slice (some ⟨b, o, none⟩) n c)) (h2 : Wd w p2 (.int .u64 (wd : Int))) (h3 : Wd w p3 (.slice (some ⟨b', o', none⟩) n c')) (h4 : Wd w g (.int .u64 (carry : Int)))
    (hx1 : w.cell? ⟨b, o + k, none⟩ = some (.int .u64 x)) (hz1 : w.cell? ⟨b', o' + k, none⟩ = some (.int .u64 zz)) (hb : b < w.heap.size) (hb' : b' < w.heap.size) :
    Calls Try.prog 133 #[.int .i64 k, .pointer (some ⟨p1, 0, none⟩), .pointer (some ⟨p2, 0, none⟩), .pointer (some ⟨g, 0, none⟩), .pointer (some ⟨p3, 0, none⟩)] w fun e w' => ∃ s d : Nat, (zz + d * B64 = s + (x * wd + carry) ∧ s < B64 ∧ d < B64) ∧ e = .returned (.int .u64 s) ∧
      Wd w' g (.int .u64 (d : Int)) ∧ w.grownBy w' (some g) := by
  obtain ⟨h, l, hf1, hcall1⟩ := times_any x wd hx hw
  obtain ⟨h2', l2, hf2, hcall2⟩ := plus_any h l carry (by rw [← hf1.1]; exact prod_room1 _ _ _ _ hx hw hc) hf1.2.1 hc
  obtain ⟨s, d, hf3, hsub⟩ := sub64_zero zz l2 hz hf2.2.1
  have hsum : x * wd + carry = h2' * B64 + l2 := by rw [hf1.1]; exact hf2.1
  have hlt : h2' + d < B64 := sub_room B64 x wd carry h2' l2 d zz s hx hw hc hsum hf3.1 hf3.2.1 hf3.2.2 hz
  have Hf : Hid (zz + (h2' + d) * B64 = s + (x * wd + carry) ∧ s < B64 ∧ h2' + d < B64) := ⟨by rw [hsum, Nat.add_mul]; have := hf3.1; omega, hf3.2.1, hlt⟩
  have hle : (h2' : Int) + d ≤ 18446744073709551615 := by have : B64 = 18446744073709551616 := rfl; omega
  have E1 : Hid (((h2' + d : Nat) : Int) = (h2' : Int) + d) := show _ = _ by omega
  have hki : (k : Int) < n := by omega
  have H1 := Lib.hid hcall1
  have H2 := Lib.hid hcall2
  have hc1 := h1.1
  have hc2 := h2.1
  have hc3 := h3.1
  have hc4 := h4.1
  have hfz := h4.2
  have hlt1 := h1.lt
  have hlt2 := h2.lt
  have hlt3 := h3.lt
  have hlt4 := h4.lt
  have Hw := Lib.hid h4
  clear hf2 hf1 hf3 hx hc hcall1 hcall2 h1 h2 h3 h4 hw hz hsum hlt
  go_enter Try.func133, Try.ntmps133
  go_wp2
  go_region_held3 (fun w' => w'.cell? ⟨p1, 0, none⟩ = some (.slice (some ⟨b, o, none⟩) n c) ∧ w'.cell? ⟨p2, 0, none⟩ = some (.int .u64 (wd : Int)) ∧ w'.cell? ⟨p3, 0, none⟩ = some (.slice (some ⟨b', o', none⟩) n c') ∧ w'.cell? ⟨g, 0, none⟩ = some (.int .u64 (carry : Int)) ∧ w'.cell? ⟨b, o + k, none⟩ = some (.int .u64 (x : Int)) ∧ w'.cell? ⟨b', o' + k, none⟩ = some (.int .u64 (zz : Int)))
    (first | exact ⟨hc1, hc2, hc3, hc4, hx1, hz1⟩ | exact d1 | exact d2 | exact (SubMul_keep hlt1 hlt2 hlt3 hlt4 hb hb' hc1 hc2 hc3 hc4 hx1 hz1 hfz (Below.set2 hB2 hB1.size _ _)).1 | exact (SubMul_keep hlt1 hlt2 hlt3 hlt4 hb hb' hc1 hc2 hc3 hc4 hx1 hz1 hfz (Below.set2 hB2 (Nat.le_refl _) _ _)).1 | exact (SubMul_keep hlt1 hlt2 hlt3 hlt4 hb hb' hc1 hc2 hc3 hc4 hx1 hz1 hfz (hB2.alloc hB2.size _)).1 | go_keep)
    (first
      | (go_at_call 129; refine (H1.out _).mono ?_; rintro e w' ⟨rfl, hb1⟩; obtain ⟨d1, f1, hB1, z1, z2, z3, z4, z5, z6⟩ := SubMul_keep hlt1 hlt2 hlt3 hlt4 hb hb' hc1 hc2 hc3 hc4 hx1 hz1 hfz (by first | exact belowA hb1 | exact belowB hb1); (first | (refine use_ (blk2d hb1) ?_; rintro ⟨r1, r2, r3, r4, r5⟩) | skip))
      | (go_at_call 134; ((with_reducible refine (H2.out _).mono ?_); rintro e w2 ⟨rfl, hb2⟩; obtain ⟨d2, f2, hB2, y1, y2, y3, y4, y5, y6⟩ := SubMul_keep hlt1 hlt2 hlt3 hlt4 hb hb' hc1 hc2 hc3 hc4 hx1 hz1 hfz (by first | exact hB1.trans (hb2.mono hB1.size) | exact belowC hB1 hb2); (first | (refine use_ (blk2 hb2) ?_; rintro ⟨s1, s2, s3, s4, s5⟩) | (refine use_ (blk2c r1 r2 r3 r4 r5 hb2) ?_; rintro ⟨s1, s2, s3, s4, s5⟩) | skip))))
  all_goals go_wp2
  all_goals go_quiet (fail)
  all_goals go_wp2
  all_goals go_ret
  · exact ⟨s, h2' + d, Hf.out, rfl, by rw [E1.out]; exact fin_word Hw.out hlt4 (below_drewN (hB2.alloc hB2.size _) _) _⟩
  · exact ⟨s, h2' + d, Hf.out, rfl, by rw [E1.out]; exact fin_word Hw.out hlt4 (below_drewN (Below.set2 hB2 hB1.size _ _) _) _⟩
  · exact ⟨s, h2' + d, Hf.out, rfl, by rw [E1.out]; exact fin_word Hw.out hlt4 (below_drewN (Below.set2 hB2 (Nat.le_refl _) _ _) _) _⟩

/-- What SubMul's closure keeps. -/
def JSubMul (B0 p1 p2 p3 g : Nat) (A A' : Option Addr) (n c c' : Nat) (xs ya : List Nat) (wd : Nat) (zs : List Nat) (a : World) : Prop :=
  Ws zs ∧ Cap a B0 p1 A n c xs ∧ Wd a p2 (.int .u64 (wd : Int)) ∧ Cap a B0 p3 A' n c' ya ∧ ∃ d : Nat, d < B64 ∧ Wd a g (.int .u64 (d : Int)) ∧ V (ya.take zs.length) + d * B64 ^ zs.length = V zs + V (xs.take zs.length) * wd
theorem JSubMul_step {B0 p1 p2 p3 g : Nat} {A A' : Option Addr} {n c c' : Nat} {xs ya : List Nat} {wd : Nat} {zs : List Nat} {a : World} (hn : n ≤ 4096) (hwd : wd < B64) (hg1 : p1 ≠ g) (hg2 : p2 ≠ g) (hg3 : p3 ≠ g) (h0 : B0 ≤ g)
    (hl : zs.length < n) (h : JSubMul B0 p1 p2 p3 g A A' n c c' xs ya wd zs a) :
    Calls Try.prog 133 #[.int .i64 zs.length, .pointer (some ⟨p1, 0, none⟩), .pointer (some ⟨p2, 0, none⟩), .pointer (some ⟨g, 0, none⟩), .pointer (some ⟨p3, 0, none⟩)] a fun e b => ∃ x : Nat, e = .returned (.int .u64 (x : Int)) ∧
      JSubMul B0 p1 p2 p3 g A A' n c c' xs ya wd (zs ++ [x]) b ∧ a.grownBy b (some g) := by
  obtain ⟨hw, hx, h2, hy, d, hd, hwg, hv⟩ := h
  obtain ⟨x, b, o, rfl, wx, hvx, _, hcx⟩ := hx.at hl
  obtain ⟨y, b', o', rfl, wy, hvy, _, hcy⟩ := hy.at hl
  refine (SubMul1_any x wd y zs.length p1 p2 p3 g n c c' d b o b' o' a hl hn wx hwd wy hd hx.1 h2 hy.1 hwg hcx hcy (World.block_lt_of_cell? a _ hcx) (World.block_lt_of_cell? a _ hcy)).mono ?_
  rintro e w' ⟨s, d', ⟨he, hs, hd'⟩, rfl, h4, h3⟩
  have hB0 : B0 ≤ a.heap.size := Nat.le_trans h0 (Nat.le_of_lt hwg.lt)
  refine ⟨s, rfl, ⟨Ws_snoc hw hs, hx.grown h3 hg1 hB0 h0, h2.grown h3 hg2, hy.grown h3 hg3 hB0 h0, d', hd', h4, ?_⟩, h3⟩
  rw [List.length_append, List.length_singleton, V_snoc, hvx, hvy]
  exact step_submul he hv
theorem JSubMul_below {B0 p1 p2 p3 g B : Nat} {A A' : Option Addr} {n c c' : Nat} {xs ya : List Nat} {wd : Nat} (h0 : B0 ≤ B) (h1 : p1 < B) (h2 : p2 < B) (h4 : p3 < B) (h3 : g < B) (zs : List Nat) (a b : World)
    (h : JSubMul B0 p1 p2 p3 g A A' n c c' xs ya wd zs a) (hb : Below B a b) : JSubMul B0 p1 p2 p3 g A A' n c c' xs ya wd zs b := by
  obtain ⟨hw, hx, hy, hz, d, hd, hwd, hv⟩ := h
  exact ⟨hw, hx.below hb h1 h0, hy.below hb h2, hz.below hb h4 h0, d, hd, hwd.below hb h3, hv⟩
theorem SubMul_row {w a : World} {p1 p2 p3 g : Nat} {A A' : Option Addr} {n c c' : Nat} {xs ya : List Nat} {wd : Nat} (hn : n ≤ 4096) (hwd : wd < B64) (hx : Sl w A n c xs) (hy : Sl w A' n c' ya) (hb : Below w.heap.size w a) (hg0 : w.heap.size ≤ g)
    (h1 : p1 < g) (h2 : p2 < g) (h4 : p3 < g) (h3 : g < a.heap.size) (hJ : JSubMul w.heap.size p1 p2 p3 g A A' n c c' xs ya wd [] a) :
    Calls Try.prog 93 #[.int .i64 n, .func (.func 133) #[] #[.pointer (some ⟨p1, 0, none⟩), .pointer (some ⟨p2, 0, none⟩), .pointer (some ⟨g, 0, none⟩), .pointer (some ⟨p3, 0, none⟩)]] a fun e w' => ∃ v zs, ∃ d : Nat,
      e = .returned v ∧ w'.cell? ⟨g, 0, none⟩ = some (.int .u64 (d : Int)) ∧ Hid (d < B64 ∧ V ya + d * B64 ^ n = V zs + V xs * wd ∧ Nw w w' v n zs ∧ Below w.heap.size w w') := by
  refine (newRow_any n 133 #[.pointer (some ⟨p1, 0, none⟩), .pointer (some ⟨p2, 0, none⟩), .pointer (some ⟨g, 0, none⟩), .pointer (some ⟨p3, 0, none⟩)] g (JSubMul w.heap.size p1 p2 p3 g A A' n c c' xs ya wd) a hn h3
    (JSubMul_below hb.size (by omega) (by omega) (by omega) h3) (fun zs a hl hj => by
      have := JSubMul_step hn hwd (by omega) (by omega) (by omega) hg0 hl hj
      simpa using this) (fun args W => run_callFunc_enter Try.func133 (by kernel_rfl) (by kernel_rfl) args W) hJ).mono ?_
  rintro e w5 ⟨v, zs, rfl, hl, hown, ⟨hw, _, _, _, d, hd, hwd, hv⟩, hgr⟩
  rw [hl, hx.take_all, hy.take_all] at hv
  exact ⟨v, zs, d, rfl, hwd.1, hd, hv, ⟨hl, hw, own_base hown hb.size⟩, hb.grown hgr hb.size (fun k hk => by cases hk; exact hg0)⟩
theorem SubMul_start {w : World} {A A' : Option Addr} {n c c' : Nat} {xs ya : List Nat} {wd : Nat} (hx : Sl w A n c xs) (hy : Sl w A' n c' ya) :
    Below w.heap.size w (((((w.alloc (.cells #[.slice A' n c'] 22)).alloc (.cells #[.slice A n c] 22)).alloc (.cells #[.int .u64 (wd : Int)] 37)).alloc (.cells #[.int .i64 (n : Int), .int .i64 (n : Int)] 3)).alloc (.cells #[.int .u64 0] 37)) ∧
    JSubMul w.heap.size (w.heap.size + 1) (w.heap.size + 1 + 1) w.heap.size (w.heap.size + 1 + 1 + 1 + 1) A A' n c c' xs ya wd [] (((((w.alloc (.cells #[.slice A' n c'] 22)).alloc (.cells #[.slice A n c] 22)).alloc (.cells #[.int .u64 (wd : Int)] 37)).alloc (.cells #[.int .i64 (n : Int), .int .i64 (n : Int)] 3)).alloc (.cells #[.int .u64 0] 37)) := by
  have hb4 : Below w.heap.size w (((((w.alloc (.cells #[.slice A' n c'] 22)).alloc (.cells #[.slice A n c] 22)).alloc (.cells #[.int .u64 (wd : Int)] 37)).alloc (.cells #[.int .i64 (n : Int), .int .i64 (n : Int)] 3)).alloc (.cells #[.int .u64 0] 37)) :=
    (((((Below.refl _ _).alloc (Nat.le_refl _) _).alloc (by simp) _).alloc (by simp; omega) _).alloc (by simp; omega) _).alloc (by simp; omega) _
  have h1 := ((((Wd.new w (.slice A' n c') 22).alloc (.cells #[.slice A n c] 22)).alloc (.cells #[.int .u64 (wd : Int)] 37)).alloc (.cells #[.int .i64 (n : Int), .int .i64 (n : Int)] 3)).alloc (.cells #[.int .u64 0] 37)
  have h2 := (((Wd.new (w.alloc (.cells #[.slice A' n c'] 22)) (.slice A n c) 22).alloc (.cells #[.int .u64 (wd : Int)] 37)).alloc (.cells #[.int .i64 (n : Int), .int .i64 (n : Int)] 3)).alloc (.cells #[.int .u64 0] 37)
  have h3 := ((Wd.new ((w.alloc (.cells #[.slice A' n c'] 22)).alloc (.cells #[.slice A n c] 22)) (.int .u64 (wd : Int)) 37).alloc (.cells #[.int .i64 (n : Int), .int .i64 (n : Int)] 3)).alloc (.cells #[.int .u64 0] 37)
  have h4 := Wd.new ((((w.alloc (.cells #[.slice A' n c'] 22)).alloc (.cells #[.slice A n c] 22)).alloc (.cells #[.int .u64 (wd : Int)] 37)).alloc (.cells #[.int .i64 (n : Int), .int .i64 (n : Int)] 3)) (.int .u64 0) 37
  simp only [World.size_alloc] at h2 h3 h4
  exact ⟨hb4, Ws_nil, ⟨h2, hx.1, hx.2.2.2.1, hx.2.2.2.2.below hb4⟩, h3, ⟨h1, hy.1, hy.2.2.2.1, hy.2.2.2.2.below hb4⟩, 0, by decide, h4, by simp [V]⟩

set_option maxHeartbeats 400000 in
theorem SubMul_ok (A A' : Option Addr) (n c c' : Nat) (ya xs : List Nat) (wd : Nat) (w : World) (hn : n ≤ 4096) (hy : Sl w A' n c' ya) (hx : Sl w A n c xs) (hwd : wd < B64) :
    Calls Try.prog 123 #[.slice A' n c', .slice A n c, .int .u64 wd] w fun e w' => ∃ v zs, ∃ d : Nat, e = .returned (.tuple #[v, .int .u64 d, .int .i64 0]) ∧ d < B64 ∧
      V ya + d * B64 ^ n = V zs + V xs * wd ∧ Nw w w' v n zs ∧ Below w.heap.size w w' := by
  have Hk := Lib.hid (chk_two n hn)
  have HS := Lib.hid (SubMul_start (wd := wd) hx hy)
  have Hx := Lib.hid hx
  have Hy := Lib.hid hy
  have Hw := Lib.hid hwd
  clear hx hwd hy
  go_enter Try.func123, Try.ntmps123
  go_wp2_with (go_at_call 92; refine (checkLengths_two n n _ _ (by simp)).mono ?_; rintro e w' ⟨rfl, rfl⟩; rw [Hk.out])
  refine (SubMul_row hn Hw.out Hx.out Hy.out HS.out.1 (by omega) (by omega) (by omega) (by omega) (by simp) HS.out.2).mono ?_
  rintro e w5 ⟨v, zs, d, rfl, hcell, hpost⟩
  go_wp2
  go_quiet (fail)
  go_wp2
  go_ret3
  have := hpost.out
  exact ⟨v, zs, d, rfl, this.1, this.2.1, this.2.2.1, below_drewN this.2.2.2 _⟩

set_option maxHeartbeats 400000 in
theorem SubMul_err (A A' : Option Addr) (n n' c c' : Nat) (wd : Int) (z : Int) (w : World) (hz : chk [(n : Int), (n' : Int)] = z) (h0 : z ≠ 0) (hn : n ≤ 9223372036854775807) (hn' : n' ≤ 9223372036854775807) :
    Calls Try.prog 123 #[.slice A n c, .slice A' n' c', .int .u64 wd] w fun e w' => e = .returned (.tuple #[.slice none 0 0, .int .u64 0, .int .i64 z]) ∧ Below w.heap.size w w' := by
  have Hz := Lib.hid hz
  clear hz
  go_enter Try.func123, Try.ntmps123
  go_wp2_with (go_at_call 92; refine (checkLengths_two n n' _ _ (by simp)).mono ?_; rintro e w' ⟨rfl, rfl⟩; rw [Hz.out])
  go_ret3
  exact ⟨rfl, ((((Below.refl _ _).alloc (Nat.le_refl _) _).alloc (by simp) _).alloc (by simp; omega) _).alloc (by simp; omega) _⟩
end Go.Proofs.Ytalcikmngglplaa
