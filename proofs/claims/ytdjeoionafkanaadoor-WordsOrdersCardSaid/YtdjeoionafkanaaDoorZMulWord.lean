/- The contract of words.MulWord. -/
import Derived.Test.YtdjeoionafkanaaDoorP1
namespace Go.Proofs.YtdjeoionafkanaaDoor
open Go.RowKit
set_option linter.unusedVariables false

theorem MulWord_keep {w w' : World} {p1 p2 g b o : Nat} {v1 v2 v3 v4 : Value} (h1 : p1 < w.heap.size) (h2 : p2 < w.heap.size) (h3 : g < w.heap.size) (h4 : b < w.heap.size)
    (c1 : w.cell? ⟨p1, 0, none⟩ = some v1) (c2 : w.cell? ⟨p2, 0, none⟩ = some v2) (c3 : w.cell? ⟨g, 0, none⟩ = some v3) (c4 : w.cell? ⟨b, o, none⟩ = some v4) (hf : w.frozen? ⟨g, 0, none⟩ = false) (hb : Below w.heap.size w w') :
    w'.cell? ⟨p1, 0, none⟩ = some v1 ∧ w'.cell? ⟨p2, 0, none⟩ = some v2 ∧ w'.cell? ⟨g, 0, none⟩ = some v3 ∧ w'.cell? ⟨b, o, none⟩ = some v4 ∧ w'.frozen? ⟨g, 0, none⟩ = false ∧ Below w.heap.size w w' :=
  ⟨(hb.cell (p := ⟨p1, 0, none⟩) h1).trans c1, (hb.cell (p := ⟨p2, 0, none⟩) h2).trans c2, (hb.cell (p := ⟨g, 0, none⟩) h3).trans c3, (hb.cell (p := ⟨b, o, none⟩) h4).trans c4, (hb.frozen (p := ⟨g, 0, none⟩) h3).trans hf, hb⟩

set_option maxHeartbeats 400000 in
theorem MulWord1_any (x wd : Nat) (k : Nat) (p1 p2 g : Nat) (n c : Nat) (carry : Nat) (b o : Nat) (w : World) (hk : k < n) (hn : n ≤ 4096) (hx : x < B64) (hw : wd < B64) (hc : carry < B64)
    (h1 : Wd w p1 (.slice (some ⟨b, o, none⟩) n c)) (h2 : Wd w p2 (.int .u64 (wd : Int))) (h3 : Wd w g (.int .u64 (carry : Int)))
    (hx1 : w.cell? ⟨b, o + k, none⟩ = some (.int .u64 x)) (hb : b < w.heap.size) :
    Calls Tryd.prog 150 #[.int .i64 k, .pointer (some ⟨p1, 0, none⟩), .pointer (some ⟨p2, 0, none⟩), .pointer (some ⟨g, 0, none⟩)] w fun e w' => ∃ s d : Nat, (x * wd + carry = d * B64 + s ∧ s < B64 ∧ d < B64) ∧ e = .returned (.int .u64 s) ∧
      Wd w' g (.int .u64 (d : Int)) ∧ w.grownBy w' (some g) := by
  obtain ⟨h, l, hf1, hcall1⟩ := times_any x wd hx hw
  obtain ⟨h2', l2, hf2, hcall2⟩ := plus_any h l carry (by rw [← hf1.1]; exact prod_room1 _ _ _ _ hx hw hc) hf1.2.1 hc
  have Hf : Hid (x * wd + carry = h2' * B64 + l2 ∧ l2 < B64 ∧ h2' < B64) := ⟨by rw [hf1.1]; exact hf2.1, hf2.2⟩
  have hki : (k : Int) < n := by omega
  have H1 := Lib.hid hcall1
  have H2 := Lib.hid hcall2
  have hc1 := h1.1
  have hc2 := h2.1
  have hc3 := h3.1
  have hfz := h3.2
  have hlt1 := h1.lt
  have hlt2 := h2.lt
  have hlt3 := h3.lt
  have Hw := Lib.hid (And.intro h1 (And.intro h2 h3))
  clear hf2 hf1 hx hc hcall1 hcall2 h1 h2 h3 hw
  go_enter Tryd.func150, Tryd.ntmps150
  go_wp2
  go_region_held3 (fun w' => w'.cell? ⟨p1, 0, none⟩ = some (.slice (some ⟨b, o, none⟩) n c) ∧ w'.cell? ⟨p2, 0, none⟩ = some (.int .u64 (wd : Int)) ∧ w'.cell? ⟨g, 0, none⟩ = some (.int .u64 (carry : Int)) ∧ w'.cell? ⟨b, o + k, none⟩ = some (.int .u64 (x : Int)))
    (first | exact ⟨hc1, hc2, hc3, hx1⟩ | exact ⟨d1, d2, d3, d4⟩ | exact ⟨d5, d6, d7, d8⟩ | exact keep4 (MulWord_keep hlt1 hlt2 hlt3 hb hc1 hc2 hc3 hx1 hfz ((hB2.setCell (p := ⟨w'.heap.size, 0, none⟩) hB1.size _).setCell (p := ⟨w'.heap.size, 1, none⟩) hB1.size _)) | exact keep4 (MulWord_keep hlt1 hlt2 hlt3 hb hc1 hc2 hc3 hx1 hfz ((hB2.setCell (p := ⟨w.heap.size, 0, none⟩) (Nat.le_refl _) _).setCell (p := ⟨w.heap.size, 1, none⟩) (Nat.le_refl _) _)) | exact keep4 (MulWord_keep hlt1 hlt2 hlt3 hb hc1 hc2 hc3 hx1 hfz (hB2.alloc hB2.size _)) | go_keep)
    (first | (go_at_call 73; refine (H1.out _).mono ?_; rintro e w' ⟨rfl, hb1⟩; obtain ⟨d1, d2, d3, d4, f1, hB1⟩ := MulWord_keep hlt1 hlt2 hlt3 hb hc1 hc2 hc3 hx1 hfz (by first | exact belowA hb1 | exact belowB hb1); have z1 : p1 < w'.heap.size := Nat.lt_of_lt_of_le hlt1 hB1.size; have z2 : p2 < w'.heap.size := Nat.lt_of_lt_of_le hlt2 hB1.size; have z3 : g < w'.heap.size := Nat.lt_of_lt_of_le hlt3 hB1.size; have z4 : b < w'.heap.size := Nat.lt_of_lt_of_le hb hB1.size; (first | (refine use_ (blk2d hb1) ?_; rintro ⟨r1, r2, r3, r4, r5⟩) | skip)) | (go_at_call 151; refine (H2.out _).mono ?_; rintro e w2 ⟨rfl, hb2⟩; obtain ⟨d5, d6, d7, d8, f2, hB2⟩ := MulWord_keep hlt1 hlt2 hlt3 hb hc1 hc2 hc3 hx1 hfz (by first | exact hB1.trans (hb2.mono hB1.size) | exact belowC hB1 hb2); have z5 : g < w2.heap.size := Nat.lt_of_lt_of_le hlt3 hB2.size; (first | (refine use_ (blk2 hb2) ?_; rintro ⟨s1, s2, s3, s4, s5⟩) | (refine use_ (blk2c r1 r2 r3 r4 r5 hb2) ?_; rintro ⟨s1, s2, s3, s4, s5⟩) | skip)))
  all_goals go_wp2
  all_goals go_ret
  · have F := fin_word Hw.out.2.2 hlt3 (hB2.alloc hB2.size (.cells #[.int .u64 (h2' : Int), .int .u64 (l2 : Int)] 98)) (.int .u64 (h2' : Int))
    rw [World.setCell_alloc_past _ _ _ _ z5] at F
    exact ⟨l2, h2', Hf.out, rfl, F⟩
  · exact ⟨l2, h2', Hf.out, rfl, fin_word Hw.out.2.2 hlt3 ((hB2.setCell (p := ⟨w'.heap.size, 0, none⟩) hB1.size _).setCell (p := ⟨w'.heap.size, 1, none⟩) hB1.size _) _⟩
  · exact ⟨l2, h2', Hf.out, rfl, fin_word Hw.out.2.2 hlt3 ((hB2.setCell (p := ⟨w.heap.size, 0, none⟩) (Nat.le_refl _) _).setCell (p := ⟨w.heap.size, 1, none⟩) (Nat.le_refl _) _) _⟩

/-- What MulWord's closure keeps. -/
def JMul (B0 p1 p2 g : Nat) (A : Option Addr) (n c : Nat) (xs : List Nat) (wd add : Nat) (zs : List Nat) (a : World) : Prop :=
  Ws zs ∧ Cap a B0 p1 A n c xs ∧ Wd a p2 (.int .u64 (wd : Int)) ∧ ∃ d : Nat, d < B64 ∧ Wd a g (.int .u64 (d : Int)) ∧ V zs + d * B64 ^ zs.length = V (xs.take zs.length) * wd + add
theorem JMul_step {B0 p1 p2 g : Nat} {A : Option Addr} {n c : Nat} {xs : List Nat} {wd add : Nat} {zs : List Nat} {a : World} (hn : n ≤ 4096) (hwd : wd < B64) (hg1 : p1 ≠ g) (hg2 : p2 ≠ g) (h0 : B0 ≤ g)
    (hl : zs.length < n) (h : JMul B0 p1 p2 g A n c xs wd add zs a) :
    Calls Tryd.prog 150 #[.int .i64 zs.length, .pointer (some ⟨p1, 0, none⟩), .pointer (some ⟨p2, 0, none⟩), .pointer (some ⟨g, 0, none⟩)] a fun e b => ∃ x : Nat, e = .returned (.int .u64 (x : Int)) ∧
      JMul B0 p1 p2 g A n c xs wd add (zs ++ [x]) b ∧ a.grownBy b (some g) := by
  obtain ⟨hw, hx, h2, d, hd, hwg, hv⟩ := h
  obtain ⟨x, b, o, rfl, wx, hvx, _, hcx⟩ := hx.at hl
  refine (MulWord1_any x wd zs.length p1 p2 g n c d b o a hl hn wx hwd hd hx.1 h2 hwg hcx (World.block_lt_of_cell? a _ hcx)).mono ?_
  rintro e w' ⟨s, d', ⟨he, hs, hd'⟩, rfl, h4, h3⟩
  have hB0 : B0 ≤ a.heap.size := Nat.le_trans h0 (Nat.le_of_lt hwg.lt)
  refine ⟨s, rfl, ⟨Ws_snoc hw hs, hx.grown h3 hg1 hB0 h0, h2.grown h3 hg2, d', hd', h4, ?_⟩, h3⟩
  rw [List.length_append, List.length_singleton, V_snoc, hvx]
  exact step_mul he hv
theorem JMul_below {B0 p1 p2 g B : Nat} {A : Option Addr} {n c : Nat} {xs : List Nat} {wd add : Nat} (h0 : B0 ≤ B) (h1 : p1 < B) (h2 : p2 < B) (h3 : g < B) (zs : List Nat) (a b : World)
    (h : JMul B0 p1 p2 g A n c xs wd add zs a) (hb : Below B a b) : JMul B0 p1 p2 g A n c xs wd add zs b := by
  obtain ⟨hw, hx, hy, d, hd, hwd, hv⟩ := h
  exact ⟨hw, hx.below hb h1 h0, hy.below hb h2, d, hd, hwd.below hb h3, hv⟩
theorem MulWord_row {w a : World} {p1 p2 g : Nat} {A : Option Addr} {n c : Nat} {xs : List Nat} {wd add : Nat} (hn : n ≤ 4096) (hwd : wd < B64) (hx : Sl w A n c xs) (hb : Below w.heap.size w a) (hg0 : w.heap.size ≤ g)
    (h1 : p1 < g) (h2 : p2 < g) (h3 : g < a.heap.size) (hJ : JMul w.heap.size p1 p2 g A n c xs wd add [] a) :
    Calls Tryd.prog 145 #[.int .i64 n, .func (.func 150) #[] #[.pointer (some ⟨p1, 0, none⟩), .pointer (some ⟨p2, 0, none⟩), .pointer (some ⟨g, 0, none⟩)]] a fun e w' => ∃ v zs, ∃ d : Nat,
      e = .returned v ∧ w'.cell? ⟨g, 0, none⟩ = some (.int .u64 (d : Int)) ∧ Hid (d < B64 ∧ V zs + d * B64 ^ n = V xs * wd + add ∧ Nw w w' v n zs ∧ Below w.heap.size w w') := by
  refine (newRow_any n 150 #[.pointer (some ⟨p1, 0, none⟩), .pointer (some ⟨p2, 0, none⟩), .pointer (some ⟨g, 0, none⟩)] g (JMul w.heap.size p1 p2 g A n c xs wd add) a hn h3
    (JMul_below hb.size (by omega) (by omega) h3) (fun zs a hl hj => by
      have := JMul_step hn hwd (by omega) (by omega) hg0 hl hj
      simpa using this) (fun args W => run_callFunc_enter Tryd.func150 (by kernel_rfl) (by kernel_rfl) args W) hJ).mono ?_
  rintro e w5 ⟨v, zs, rfl, hl, hown, ⟨hw, _, _, d, hd, hwd, hv⟩, hgr⟩
  rw [hl, hx.take_all] at hv
  exact ⟨v, zs, d, rfl, hwd.1, hd, hv, ⟨hl, hw, own_base hown hb.size⟩, hb.grown hgr hb.size (fun k hk => by cases hk; exact hg0)⟩
theorem MulWord_start {w : World} {A : Option Addr} {n c : Nat} {xs : List Nat} {wd add : Nat} (hx : Sl w A n c xs) (hc : add < B64) :
    Below w.heap.size w ((((w.alloc (.cells #[.slice A n c] 22)).alloc (.cells #[.int .u64 (wd : Int)] 23)).alloc (.cells #[.int .i64 (n : Int)] 3)).alloc (.cells #[.int .u64 (add : Int)] 23)) ∧
    JMul w.heap.size w.heap.size (w.heap.size + 1) (w.heap.size + 1 + 1 + 1) A n c xs wd add [] ((((w.alloc (.cells #[.slice A n c] 22)).alloc (.cells #[.int .u64 (wd : Int)] 23)).alloc (.cells #[.int .i64 (n : Int)] 3)).alloc (.cells #[.int .u64 (add : Int)] 23)) := by
  have hb4 : Below w.heap.size w ((((w.alloc (.cells #[.slice A n c] 22)).alloc (.cells #[.int .u64 (wd : Int)] 23)).alloc (.cells #[.int .i64 (n : Int)] 3)).alloc (.cells #[.int .u64 (add : Int)] 23)) :=
    ((((Below.refl _ _).alloc (Nat.le_refl _) _).alloc (by simp) _).alloc (by simp; omega) _).alloc (by simp; omega) _
  have h1 := (((Wd.new w (.slice A n c) 22).alloc (.cells #[.int .u64 (wd : Int)] 23)).alloc (.cells #[.int .i64 (n : Int)] 3)).alloc (.cells #[.int .u64 (add : Int)] 23)
  have h2 := ((Wd.new (w.alloc (.cells #[.slice A n c] 22)) (.int .u64 (wd : Int)) 23).alloc (.cells #[.int .i64 (n : Int)] 3)).alloc (.cells #[.int .u64 (add : Int)] 23)
  have h3 := Wd.new (((w.alloc (.cells #[.slice A n c] 22)).alloc (.cells #[.int .u64 (wd : Int)] 23)).alloc (.cells #[.int .i64 (n : Int)] 3)) (.int .u64 (add : Int)) 23
  simp only [World.size_alloc] at h2 h3
  exact ⟨hb4, Ws_nil, ⟨h1, hx.1, hx.2.2.2.1, hx.2.2.2.2.below hb4⟩, h2, add, hc, h3, by simp [V]⟩

set_option maxHeartbeats 400000 in
theorem MulWord_ok (A : Option Addr) (n c : Nat) (xs : List Nat) (wd add : Nat) (w : World) (hn : n ≤ 4096) (hx : Sl w A n c xs) (hwd : wd < B64) (hadd : add < B64) :
    Calls Tryd.prog 80 #[.slice A n c, .int .u64 wd, .int .u64 add] w fun e w' => ∃ v zs, ∃ d : Nat, e = .returned (.tuple #[v, .int .u64 d, .int .i64 0]) ∧ d < B64 ∧
      V zs + d * B64 ^ n = V xs * wd + add ∧ Nw w w' v n zs ∧ Below w.heap.size w w' := by
  have Hk := Lib.hid (chk_one n hn)
  have HS := Lib.hid (MulWord_start (wd := wd) hx hadd)
  have Hx := Lib.hid hx
  have Hw := Lib.hid hwd
  clear hx hwd hadd
  go_enter Tryd.func80, Tryd.ntmps80
  go_wp2_with (go_at_call 66; refine (checkLengths_one n _ _ (by simp)).mono ?_; rintro e w' ⟨rfl, rfl⟩; rw [Hk.out])
  refine (MulWord_row hn Hw.out Hx.out HS.out.1 (by omega) (by omega) (by omega) (by simp) HS.out.2).mono ?_
  rintro e w5 ⟨v, zs, d, rfl, hcell, hpost⟩
  go_wp2
  go_quiet (fail)
  go_wp2
  go_ret3
  have := hpost.out
  exact ⟨v, zs, d, rfl, this.1, this.2.1, this.2.2.1, below_drewN this.2.2.2 _⟩

set_option maxHeartbeats 400000 in
theorem MulWord_err (A : Option Addr) (n c : Nat) (wd add : Int) (w : World) (hn : 4096 < n) (hn' : n ≤ 9223372036854775807) :
    Calls Tryd.prog 80 #[.slice A n c, .int .u64 wd, .int .u64 add] w fun e w' => e = .returned (.tuple #[.slice none 0 0, .int .u64 0, .int .i64 2]) ∧ Below w.heap.size w w' := by
  have Hz := Lib.hid (chk_one_big n hn)
  go_enter Tryd.func80, Tryd.ntmps80
  go_wp2_with (go_at_call 66; refine (checkLengths_one n _ _ (by simp)).mono ?_; rintro e w' ⟨rfl, rfl⟩; rw [Hz.out])
  go_ret3
  exact ⟨rfl, (((Below.refl _ _).alloc (Nat.le_refl _) _).alloc (by simp) _).alloc (by simp; omega) _⟩
end Go.Proofs.YtdjeoionafkanaaDoor
