/- The contracts of words.outOfWord and words.Left. -/
import Derived.Test.YtnhoodpglbjhhaaMem
import Derived.Test.YtnhoodpglbjhhaaShl
namespace Go.Proofs.Ytnhoodpglbjhhaa
open Go.RowKit
set_option linter.unusedVariables false

set_option maxHeartbeats 400000 in
theorem outOfWord_any (s : Int) (w : World) : Calls Try.prog 63 #[.int .i64 s] w fun e w' => e = .returned (.bool (decide (s < 0) || decide (63 < s))) ∧ w = w' := by
  by_cases h : s < 0
  · have hd : (decide (s < 0) || decide (63 < s)) = true := by simp [h]
    have Hd := Lib.hid hd
    clear hd
    go_enter Try.func63, Try.ntmps63
    go_wp2
    go_ret
    exact ⟨by rw [Hd.out]; rfl, rfl⟩
  · have hd : (decide (s < 0) || decide (63 < s)) = decide (63 < s) := by simp [h]
    have Hd := Lib.hid hd
    clear hd
    have h0 : 0 ≤ s := by omega
    have hf : decide (s < 0) = false := by simpa using h0
    go_enter Try.func63, Try.ntmps63
    go_wp2
    go_ret
    exact ⟨rfl, rfl⟩
theorem outOfWord_no (s : Nat) (h : s ≤ 63) (w : World) : Calls Try.prog 63 #[.int .i64 s] w fun e w' => e = .returned (.bool false) ∧ w = w' := by
  have := outOfWord_any s w
  rwa [show (decide ((s : Int) < 0) || decide (63 < (s : Int))) = false by simp; omega] at this
theorem outOfWord_yes (s : Int) (h : s < 0 ∨ 63 < s) (w : World) : Calls Try.prog 63 #[.int .i64 s] w fun e w' => e = .returned (.bool true) ∧ w = w' := by
  have := outOfWord_any s w
  rwa [show (decide ((s : Int) < 0) || decide (63 < (s : Int))) = true by simp; omega] at this

set_option maxHeartbeats 400000 in
theorem Left1_any (x s : Nat) (k : Nat) (p1 p2 g : Nat) (n c : Nat) (carry : Nat) (b o : Nat) (w : World) (hk : k < n) (hn : n ≤ 4096) (hs : s ≤ 63) (hx : x < B64) (hc : carry < 2 ^ s)
    (h1 : Wd w p1 (.slice (some ⟨b, o, none⟩) n c)) (h2 : Wd w p2 (.int .i64 (s : Int))) (h3 : Wd w g (.int .u64 (carry : Int)))
    (hx1 : w.cell? ⟨b, o + k, none⟩ = some (.int .u64 x)) (hb : b < w.heap.size) (hbg : b ≠ g) (hg1 : p1 ≠ g) (hg2 : p2 ≠ g) :
    Calls Try.prog 64 #[.int .i64 k, .pointer (some ⟨g, 0, none⟩), .pointer (some ⟨p1, 0, none⟩), .pointer (some ⟨p2, 0, none⟩)] w fun e w' => ∃ z d : Nat, (x * 2 ^ s + carry = d * B64 + z ∧ z < B64 ∧ d < 2 ^ s) ∧ e = .returned (.int .u64 z) ∧
      Wd w' g (.int .u64 (d : Int)) ∧ w.grownBy w' (some g) := by
  have hp := pow_split s hs
  have hq : 0 < 2 ^ (64 - s) := Nat.pow_pos (by decide)
  have hcB : carry < B64 := Nat.lt_of_lt_of_le hc (by rw [← hp]; exact Nat.le_mul_of_pos_right _ hq)
  have hor : bits BinOp.or IntKind.u64 (IntKind.u64.wrap ((x : Int) * 2 ^ s)) (carry : Int) = ((x * 2 ^ s % B64 + carry : Nat) : Int) := by
    rw [wrap_u64, bits_or_u64_nat (x * 2 ^ s % B64) carry (Nat.mod_lt _ (show 0 < B64 by decide)) hcB, shl_or B64 x _ _ s carry hp rfl hc]
  have hdv : ((x : Int) / 2 ^ (64 - s)) = ((x / 2 ^ (64 - s) : Nat) : Int) := by simp
  have Hf : Hid (x * 2 ^ s + carry = x / 2 ^ (64 - s) * B64 + (x * 2 ^ s % B64 + carry) ∧ x * 2 ^ s % B64 + carry < B64 ∧ x / 2 ^ (64 - s) < 2 ^ s) :=
    ⟨by have := shl_split B64 x _ _ hp; omega, shl_lt B64 x _ _ carry hp hc hq, shr_lt B64 x _ _ hp hx⟩
  have Hor := Lib.hid hor
  have Hdv := Lib.hid hdv
  clear hor hdv hp hcB hx hc
  have hki : (k : Int) < n := by omega
  have hc1 := h1.1
  have hc2 := h2.1
  have hc3 := h3.1
  have hfz := h3.2
  have e1 : ∀ u, (w.setCell ⟨g, 0, none⟩ u).cell? ⟨p1, 0, none⟩ = some (.slice (some ⟨b, o, none⟩) n c) := fun u => (World.cell?_setCell_other w _ _ u (by intro e; injection e with e; exact hg1 e.symm)).trans h1.1
  have e2 : ∀ u, (w.setCell ⟨g, 0, none⟩ u).cell? ⟨p2, 0, none⟩ = some (.int .i64 (s : Int)) := fun u => (World.cell?_setCell_other w _ _ u (by intro e; injection e with e; exact hg2 e.symm)).trans h2.1
  have e3 : ∀ u, (w.setCell ⟨g, 0, none⟩ u).cell? ⟨b, o + k, none⟩ = some (.int .u64 x) := fun u => (World.cell?_setCell_other w _ _ u (by intro e; injection e with e; exact hbg e.symm)).trans hx1
  have hlt1 := h1.lt
  have hlt2 := h2.lt
  have hlt3 := h3.lt
  have Hw := Lib.hid (And.intro h1 (And.intro h2 h3))
  clear h1 h2 h3 
  go_enter Try.func64, Try.ntmps64
  go_wp2
  go_region
  all_goals go_wp2
  all_goals go_region
  all_goals go_wp2
  all_goals go_ret
  refine ⟨x * 2 ^ s % B64 + carry, x / 2 ^ (64 - s), Hf.out, by rw [← Hor.out]; rfl, ?_⟩
  rw [Hdv.out]
  exact ⟨(Hw.out.2.2.set _), grown_drew (grown_drew (grown_set _ _ _ _))⟩

/-- What Left's closure keeps. -/
def JLeft (B0 p1 p2 g : Nat) (A : Option Addr) (n c : Nat) (xs : List Nat) (s : Nat) (zs : List Nat) (a : World) : Prop :=
  Ws zs ∧ Cap a B0 p1 A n c xs ∧ Wd a p2 (.int .i64 (s : Int)) ∧ ∃ d : Nat, d < 2 ^ s ∧ Wd a g (.int .u64 (d : Int)) ∧ V zs + d * B64 ^ zs.length = V (xs.take zs.length) * 2 ^ s
theorem JLeft_step {B0 p1 p2 g : Nat} {A : Option Addr} {n c : Nat} {xs : List Nat} {s : Nat} {zs : List Nat} {a : World} (hn : n ≤ 4096) (hs63 : s ≤ 63) (hg1 : p1 ≠ g) (hg2 : p2 ≠ g) (h0 : B0 ≤ g)
    (hl : zs.length < n) (h : JLeft B0 p1 p2 g A n c xs s zs a) :
    Calls Try.prog 64 #[.int .i64 zs.length, .pointer (some ⟨g, 0, none⟩), .pointer (some ⟨p1, 0, none⟩), .pointer (some ⟨p2, 0, none⟩)] a fun e b => ∃ x : Nat, e = .returned (.int .u64 (x : Int)) ∧
      JLeft B0 p1 p2 g A n c xs s (zs ++ [x]) b ∧ a.grownBy b (some g) := by
  obtain ⟨hw, hx, h2, d, hd, hwg, hv⟩ := h
  obtain ⟨x, b, o, rfl, hbB, wx, hvx, _, hcx⟩ := hx.at2 hl
  refine (Left1_any x s zs.length p1 p2 g n c d b o a hl hn hs63 wx hd hx.1 h2 hwg hcx (World.block_lt_of_cell? a _ hcx) (by omega) hg1 hg2).mono ?_
  rintro e w' ⟨z, d', ⟨he, hz, hd'⟩, rfl, h4, h3⟩
  have hB0 : B0 ≤ a.heap.size := Nat.le_trans h0 (Nat.le_of_lt hwg.lt)
  refine ⟨z, rfl, ⟨Ws_snoc hw hz, hx.grown h3 hg1 hB0 h0, h2.grown h3 hg2, d', hd', h4, ?_⟩, h3⟩
  rw [List.length_append, List.length_singleton, V_snoc, hvx]
  exact step_mul (e := 0) he hv
theorem JLeft_below {B0 p1 p2 g B : Nat} {A : Option Addr} {n c : Nat} {xs : List Nat} {s : Nat} (h0 : B0 ≤ B) (h1 : p1 < B) (h2 : p2 < B) (h3 : g < B) (zs : List Nat) (a b : World)
    (h : JLeft B0 p1 p2 g A n c xs s zs a) (hb : Below B a b) : JLeft B0 p1 p2 g A n c xs s zs b := by
  obtain ⟨hw, hx, hy, d, hd, hwd, hv⟩ := h
  exact ⟨hw, hx.below hb h1 h0, hy.below hb h2, d, hd, hwd.below hb h3, hv⟩
theorem Left_row {w a : World} {p1 p2 g : Nat} {A : Option Addr} {n c : Nat} {xs : List Nat} {s : Nat} (hn : n ≤ 4096) (hs63 : s ≤ 63) (hx : Sl w A n c xs) (hb : Below w.heap.size w a) (hg0 : w.heap.size ≤ g)
    (h1 : p1 < g) (h2 : p2 < g) (h3 : g < a.heap.size) (hJ : JLeft w.heap.size p1 p2 g A n c xs s [] a) :
    Calls Try.prog 41 #[.int .i64 n, .func (.func 64) #[] #[.pointer (some ⟨g, 0, none⟩), .pointer (some ⟨p1, 0, none⟩), .pointer (some ⟨p2, 0, none⟩)]] a fun e w' => ∃ v zs, ∃ d : Nat,
      e = .returned v ∧ w'.cell? ⟨g, 0, none⟩ = some (.int .u64 (d : Int)) ∧ Hid (d < 2 ^ s ∧ V zs + d * B64 ^ n = V xs * 2 ^ s ∧ Nw w w' v n zs ∧ Below w.heap.size w w') := by
  refine (newRow_any n 64 #[.pointer (some ⟨g, 0, none⟩), .pointer (some ⟨p1, 0, none⟩), .pointer (some ⟨p2, 0, none⟩)] g (JLeft w.heap.size p1 p2 g A n c xs s) a hn h3
    (JLeft_below hb.size (by omega) (by omega) h3) (fun zs a hl hj => by
      have := JLeft_step hn hs63 (by omega) (by omega) hg0 hl hj
      simpa using this) (fun args W => run_callFunc_enter Try.func64 (by kernel_rfl) (by kernel_rfl) args W) hJ).mono ?_
  rintro e w5 ⟨v, zs, rfl, hl, hown, ⟨hw, _, _, d, hd, hwd, hv⟩, hgr⟩
  rw [hl, hx.take_all] at hv
  exact ⟨v, zs, d, rfl, hwd.1, hd, hv, ⟨hl, hw, own_base hown hb.size⟩, hb.grown hgr hb.size (fun k hk => by cases hk; exact hg0)⟩
theorem Left_start {w : World} {A : Option Addr} {n c : Nat} {xs : List Nat} {s : Nat} (hx : Sl w A n c xs) :
    Below w.heap.size w ((((w.alloc (.cells #[.slice A n c] 22)).alloc (.cells #[.int .i64 (s : Int)] 3)).alloc (.cells #[.int .i64 (n : Int)] 3)).alloc (.cells #[.int .u64 0] 23)) ∧
    JLeft w.heap.size w.heap.size (w.heap.size + 1) (w.heap.size + 1 + 1 + 1) A n c xs s [] ((((w.alloc (.cells #[.slice A n c] 22)).alloc (.cells #[.int .i64 (s : Int)] 3)).alloc (.cells #[.int .i64 (n : Int)] 3)).alloc (.cells #[.int .u64 0] 23)) := by
  have hb4 : Below w.heap.size w ((((w.alloc (.cells #[.slice A n c] 22)).alloc (.cells #[.int .i64 (s : Int)] 3)).alloc (.cells #[.int .i64 (n : Int)] 3)).alloc (.cells #[.int .u64 0] 23)) :=
    ((((Below.refl _ _).alloc (Nat.le_refl _) _).alloc (by simp) _).alloc (by simp; omega) _).alloc (by simp; omega) _
  have h1 := (((Wd.new w (.slice A n c) 22).alloc (.cells #[.int .i64 (s : Int)] 3)).alloc (.cells #[.int .i64 (n : Int)] 3)).alloc (.cells #[.int .u64 0] 23)
  have h2 := ((Wd.new (w.alloc (.cells #[.slice A n c] 22)) (.int .i64 (s : Int)) 3).alloc (.cells #[.int .i64 (n : Int)] 3)).alloc (.cells #[.int .u64 0] 23)
  have h3 := Wd.new (((w.alloc (.cells #[.slice A n c] 22)).alloc (.cells #[.int .i64 (s : Int)] 3)).alloc (.cells #[.int .i64 (n : Int)] 3)) (.int .u64 0) 23
  simp only [World.size_alloc] at h2 h3
  exact ⟨hb4, Ws_nil, ⟨h1, hx.1, hx.2.2.2.1, hx.2.2.2.2.below hb4⟩, h2, 0, Nat.pow_pos (by decide), h3, by simp [V]⟩

set_option maxHeartbeats 400000 in
theorem Left_ok (A : Option Addr) (n c : Nat) (xs : List Nat) (s : Nat) (w : World) (hn : n ≤ 4096) (hx : Sl w A n c xs) (hs63 : s ≤ 63) :
    Calls Try.prog 29 #[.slice A n c, .int .i64 s] w fun e w' => ∃ v zs, ∃ d : Nat, e = .returned (.tuple #[v, .int .u64 d, .int .i64 0]) ∧ d < 2 ^ s ∧
      V zs + d * B64 ^ n = V xs * 2 ^ s ∧ Nw w w' v n zs ∧ Below w.heap.size w w' := by
  have Hk := Lib.hid (chk_one n hn)
  have HS := Lib.hid (Left_start (s := s) hx)
  have Hx := Lib.hid hx
  clear hx
  go_enter Try.func29, Try.ntmps29
  go_wp2_with (first | (go_at_call 40; refine (checkLengths_one n _ _ (by simp)).mono ?_; rintro e w' ⟨rfl, rfl⟩; rw [Hk.out]) | (go_at_call 63; refine (outOfWord_no s hs63 _).mono ?_; rintro e w' ⟨rfl, rfl⟩))
  refine (Left_row hn hs63 Hx.out HS.out.1 (by omega) (by omega) (by omega) (by simp) HS.out.2).mono ?_
  rintro e w5 ⟨v, zs, d, rfl, hcell, hpost⟩
  go_wp2
  go_quiet (fail)
  go_wp2
  go_ret3
  have := hpost.out
  exact ⟨v, zs, d, rfl, this.1, this.2.1, this.2.2.1, below_drewN this.2.2.2 _⟩

set_option maxHeartbeats 400000 in
theorem Left_err (A : Option Addr) (n c : Nat) (s : Int) (w : World) (hn : 4096 < n) :
    Calls Try.prog 29 #[.slice A n c, .int .i64 s] w fun e w' => e = .returned (.tuple #[.slice none 0 0, .int .u64 0, .int .i64 2]) ∧ Below w.heap.size w w' := by
  have Hz := Lib.hid (chk_one_big n hn)
  go_enter Try.func29, Try.ntmps29
  go_wp2_with (go_at_call 40; refine (checkLengths_one n _ _ (by simp)).mono ?_; rintro e w' ⟨rfl, rfl⟩; rw [Hz.out])
  go_ret3
  exact ⟨rfl, (((Below.refl _ _).alloc (Nat.le_refl _) _).alloc (by simp) _).alloc (by simp; omega) _⟩
set_option maxHeartbeats 400000 in
theorem Left_arg (A : Option Addr) (n c : Nat) (s : Int) (w : World) (hn : n ≤ 4096) (hs : s < 0 ∨ 63 < s) :
    Calls Try.prog 29 #[.slice A n c, .int .i64 s] w fun e w' => e = .returned (.tuple #[.slice none 0 0, .int .u64 0, .int .i64 1]) ∧ Below w.heap.size w w' := by
  have Hz := Lib.hid (chk_one n hn)
  have Hs := Lib.hid hs
  clear hs
  go_enter Try.func29, Try.ntmps29
  go_wp2_with (first | (go_at_call 40; refine (checkLengths_one n _ _ (by simp)).mono ?_; rintro e w' ⟨rfl, rfl⟩; rw [Hz.out]) | (go_at_call 63; refine (outOfWord_yes s Hs.out _).mono ?_; rintro e w' ⟨rfl, rfl⟩))
  go_ret3
  exact ⟨rfl, (((Below.refl _ _).alloc (Nat.le_refl _) _).alloc (by simp) _).alloc (by simp; omega) _⟩
end Go.Proofs.Ytnhoodpglbjhhaa
