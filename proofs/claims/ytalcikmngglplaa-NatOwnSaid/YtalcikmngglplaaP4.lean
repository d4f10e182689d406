/- Pieces of the proofs, together: ShlM, ShrM, RightM, OutW, Left, RightR, Right, RShiftL, RShift, AppT, NShl, NShr, RShl, RShr, RLow. -/
import Derived.Test.YtalcikmngglplaaP1
import Derived.Test.YtalcikmngglplaaP3

namespace Go.Proofs.Ytalcikmngglplaa
open Go.RowKit Go.Shelf
set_option linter.unusedVariables false
set_option maxRecDepth 10000

theorem zeros_cells (n : Nat) : (madeCells #[Value.int .u64 0] n).toList = uvs (List.replicate n 0) := by
  refine List.ext_getElem (by simp [madeCells, uvs]) (fun i h1 h2 => ?_)
  simp [madeCells, uvs, Nat.mod_one]
theorem Ws_up {xs : List Nat} (q : Nat) (h : Ws xs) : Ws (List.replicate q 0 ++ xs) := fun x hx => by
  rcases List.mem_append.1 hx with h1 | h1
  · rw [List.eq_of_mem_replicate h1]; exact B64_pos
  · exact h x h1
theorem pow_lt (s : Nat) (h : s ≤ 63) : 2 ^ s < B64 := by
  have : (2 : Nat) ^ s < 2 ^ 64 := Nat.pow_lt_pow_right (by decide) (by omega)
  exact this
/-- the value of a row that was shifted by r bits and moved up by q words -/
theorem shl_value {X Z d n q r : Nat} (h : Z + d * B64 ^ n = X * 2 ^ r) : (Z + d * B64 ^ n) * B64 ^ q = X * 2 ^ (64 * q + r) := by
  rw [h, Nat.pow_add, Nat.pow_mul, show (2 : Nat) ^ 64 = B64 from rfl]
  generalize B64 ^ q = p
  grind

end Go.Proofs.Ytalcikmngglplaa

namespace Go.Proofs.Ytalcikmngglplaa
open Go.RowKit Go.Shelf
set_option linter.unusedVariables false
set_option maxRecDepth 10000

/-- a row without its q lowest words, without r bits -/
theorem shr_value {xs : List Nat} (hw : Ws xs) {n q r s k z d : Nat} (hn : xs.length = n) (hs : s = 64 * q + r) (hk : k = min q n) (h : z * 2 ^ r + d = V (xs.drop k)) (hd : d < 2 ^ r) : z = V xs / 2 ^ s := by
  have hp : 0 < 2 ^ r := Nat.pow_pos (by decide)
  have hz : z = V (xs.drop k) / 2 ^ r := by rw [← h, Nat.add_comm, Nat.add_mul_div_right _ _ hp, Nat.div_eq_of_lt hd, Nat.zero_add]
  rw [hz, hs, Nat.pow_add, Nat.pow_mul, show (2 : Nat) ^ 64 = B64 from rfl, ← Nat.div_div_eq_div_mul]
  rcases Nat.lt_or_ge q n with hq | hq
  · rw [hk, Nat.min_eq_left (Nat.le_of_lt hq), V_dropped hw (by omega)]
  · rw [hk, Nat.min_eq_right hq, V_drop_all _ _ (by omega), Nat.div_eq_of_lt (show V xs < B64 ^ q from Nat.lt_of_lt_of_le (V_lt _ hw) (by rw [hn]; exact Nat.pow_le_pow_right B64_pos hq))]
theorem Ws_drop {xs : List Nat} (h : Ws xs) (k : Nat) : Ws (xs.drop k) := fun x hx => h x (List.mem_of_mem_drop hx)
theorem uvs_drop (xs : List Nat) (k : Nat) : uvs (xs.drop k) = (uvs xs).drop k := by simp [uvs]
theorem Sl.dp {w : World} {A : Option Addr} {n c : Nat} {xs : List Nat} (h : Sl w A n c xs) {k : Nat} (hk : k ≤ n) : Sl w (if c = k then A else A.map (·.add k)) (n - k) (c - k) (xs.drop k) :=
  ⟨by rw [List.length_drop, h.1], by have := h.2.1; omega, by have := h.2.2.1; omega, Ws_drop h.2.2.2.1 k, by rw [uvs_drop]; exact h.2.2.2.2.drop (by rw [uvs_length, h.1]; exact h.2.1)⟩

end Go.Proofs.Ytalcikmngglplaa

namespace Go.Proofs.Ytalcikmngglplaa
open Go.RowKit Go.Shelf
set_option linter.unusedVariables false

theorem right_step {B p q x e a b : Nat} (hB : p * q = B) (h2 : a * p + e = b) : (x / p + q * e + B * a) * p + x % p = x + B * b := by
  have h := Nat.div_add_mod x p
  subst hB
  subst h2
  generalize x / p = u at *
  generalize x % p = v at *
  subst h
  grind
theorem right_lt {B p q x e : Nat} (hB : p * q = B) (hx : x < B) (he : e < p) : x / p + q * e < B := by
  have h1 : x / p < q := Nat.div_lt_of_lt_mul (by rw [hB]; exact hx)
  have h2 : q * (e + 1) ≤ q * p := Nat.mul_le_mul_left _ he
  rw [Nat.mul_succ, Nat.mul_comm q p, hB] at h2
  omega
theorem right_or {x e s t : Nat} (hB : 2 ^ s * 2 ^ t = B64) (hx : x < B64) (he : e < 2 ^ s) : bits BinOp.or IntKind.u64 ((x / 2 ^ s : Nat) : Int) ((e * 2 ^ t : Nat) : Int) = ((x / 2 ^ s + 2 ^ t * e : Nat) : Int) := by
  have h1 : x / 2 ^ s < 2 ^ t := Nat.div_lt_of_lt_mul (by rw [hB]; exact hx)
  have hp : 0 < 2 ^ s := Nat.pow_pos (by decide)
  have hq : 0 < 2 ^ t := Nat.pow_pos (by decide)
  have h2 : e * 2 ^ t < B64 := by rw [← hB]; exact Nat.mul_lt_mul_of_pos_right he hq
  have h3 : x / 2 ^ s < B64 := Nat.lt_of_le_of_lt (Nat.div_le_self _ _) hx
  rw [bits_or_u64_nat _ _ h3 h2, Nat.or_comm, Nat.mul_comm e, ← Nat.two_pow_add_eq_or_of_lt h1, Nat.add_comm]
end Go.Proofs.Ytalcikmngglplaa

namespace Go.Proofs.Ytalcikmngglplaa
open Go.RowKit
set_option linter.unusedVariables false

set_option maxHeartbeats 400000 in
theorem outOfWord_any (s : Int) (w : World) : Calls Try.prog 114 #[.int .i64 s] w fun e w' => e = .returned (.bool (decide (s < 0) || decide (63 < s))) ∧ w = w' := by
  by_cases h : s < 0
  · have hd : (decide (s < 0) || decide (63 < s)) = true := by simp [h]
    have Hd := Lib.hid hd
    clear hd
    go_enter Try.func114, Try.ntmps114
    go_wp2
    go_ret
    exact ⟨by rw [Hd.out]; rfl, rfl⟩
  · have hd : (decide (s < 0) || decide (63 < s)) = decide (63 < s) := by simp [h]
    have Hd := Lib.hid hd
    clear hd
    have h0 : 0 ≤ s := by omega
    have hf : decide (s < 0) = false := by simpa using h0
    go_enter Try.func114, Try.ntmps114
    go_wp2
    go_ret
    exact ⟨rfl, rfl⟩
theorem outOfWord_no (s : Nat) (h : s ≤ 63) (w : World) : Calls Try.prog 114 #[.int .i64 s] w fun e w' => e = .returned (.bool false) ∧ w = w' := by
  have := outOfWord_any s w
  rwa [show (decide ((s : Int) < 0) || decide (63 < (s : Int))) = false by simp; omega] at this
theorem outOfWord_yes (s : Int) (h : s < 0 ∨ 63 < s) (w : World) : Calls Try.prog 114 #[.int .i64 s] w fun e w' => e = .returned (.bool true) ∧ w = w' := by
  have := outOfWord_any s w
  rwa [show (decide ((s : Int) < 0) || decide (63 < (s : Int))) = true by simp; omega] at this

end Go.Proofs.Ytalcikmngglplaa

namespace Go.Proofs.Ytalcikmngglplaa
open Go.RowKit
set_option linter.unusedVariables false

set_option maxHeartbeats 400000 in
theorem Left1_any (x s : Nat) (k : Nat) (p1 p2 g : Nat) (n c : Nat) (carry : Nat) (b o : Nat) (w : World) (hk : k < n) (hn : n ≤ 4096) (hs : s ≤ 63) (hx : x < B64) (hc : carry < 2 ^ s)
    (h1 : Wd w p1 (.slice (some ⟨b, o, none⟩) n c)) (h2 : Wd w p2 (.int .i64 (s : Int))) (h3 : Wd w g (.int .u64 (carry : Int)))
    (hx1 : w.cell? ⟨b, o + k, none⟩ = some (.int .u64 x)) (hb : b < w.heap.size) (hbg : b ≠ g) (hg1 : p1 ≠ g) (hg2 : p2 ≠ g) :
    Calls Try.prog 115 #[.int .i64 k, .pointer (some ⟨g, 0, none⟩), .pointer (some ⟨p1, 0, none⟩), .pointer (some ⟨p2, 0, none⟩)] w fun e w' => ∃ z d : Nat, (x * 2 ^ s + carry = d * B64 + z ∧ z < B64 ∧ d < 2 ^ s) ∧ e = .returned (.int .u64 z) ∧
      Wd w' g (.int .u64 (d : Int)) ∧ w.grownBy w' (some g) := by
  have hp := pow_split s hs
  have hq : 0 < 2 ^ (64 - s) := Nat.pow_pos (by decide)
  have hcB : carry < B64 := Nat.lt_of_lt_of_le hc (by rw [← hp]; exact Nat.le_mul_of_pos_right _ hq)
  have hor : bits BinOp.or IntKind.u64 (IntKind.u64.wrap ((x : Int) * 2 ^ s)) (carry : Int) = ((x * 2 ^ s % B64 + carry : Nat) : Int) := by
    rw [wrap_u64, bits_or_u64_nat (x * 2 ^ s % B64) carry (Nat.mod_lt _ (show 0 < B64 by decide)) hcB, shl_or B64 x _ _ s carry hp rfl hc]
  have hdv : ((x : Int) / 2 ^ (64 - s)) = ((x / 2 ^ (64 - s) : Nat) : Int) := by simp
  have Hf : Hid (x * 2 ^ s + carry = x / 2 ^ (64 - s) * B64 + (x * 2 ^ s % B64 + carry) ∧ x * 2 ^ s % B64 + carry < B64 ∧ x / 2 ^ (64 - s) < 2 ^ s) :=
    ⟨by have := shl_split B64 x _ _ hp; omega, shl_lt B64 x _ _ carry hp hc hq, shr_lt B64 x _ _ hp hx⟩
  have Hor := Lib.hid hor
  have Hdv := Lib.hid hdv
  clear hor hdv hp hcB hx hc
  have hki : (k : Int) < n := by omega
  have hc1 := h1.1
  have hc2 := h2.1
  have hc3 := h3.1
  have hfz := h3.2
  have e1 : ∀ u, (w.setCell ⟨g, 0, none⟩ u).cell? ⟨p1, 0, none⟩ = some (.slice (some ⟨b, o, none⟩) n c) := fun u => (World.cell?_setCell_other w _ _ u (by intro e; injection e with e; exact hg1 e.symm)).trans h1.1
  have e2 : ∀ u, (w.setCell ⟨g, 0, none⟩ u).cell? ⟨p2, 0, none⟩ = some (.int .i64 (s : Int)) := fun u => (World.cell?_setCell_other w _ _ u (by intro e; injection e with e; exact hg2 e.symm)).trans h2.1
  have e3 : ∀ u, (w.setCell ⟨g, 0, none⟩ u).cell? ⟨b, o + k, none⟩ = some (.int .u64 x) := fun u => (World.cell?_setCell_other w _ _ u (by intro e; injection e with e; exact hbg e.symm)).trans hx1
  have hlt1 := h1.lt
  have hlt2 := h2.lt
  have hlt3 := h3.lt
  have Hw := Lib.hid (And.intro h1 (And.intro h2 h3))
  clear h1 h2 h3 
  go_enter Try.func115, Try.ntmps115
  go_wp2
  go_region
  all_goals go_wp2
  all_goals go_region
  all_goals go_wp2
  all_goals go_ret
  refine ⟨x * 2 ^ s % B64 + carry, x / 2 ^ (64 - s), Hf.out, by rw [← Hor.out]; rfl, ?_⟩
  rw [Hdv.out]
  exact ⟨(Hw.out.2.2.set _), grown_drew (grown_drew (grown_set _ _ _ _))⟩

/-- What Left's closure keeps. -/
def JLeft (B0 p1 p2 g : Nat) (A : Option Addr) (n c : Nat) (xs : List Nat) (s : Nat) (zs : List Nat) (a : World) : Prop :=
  Ws zs ∧ Cap a B0 p1 A n c xs ∧ Wd a p2 (.int .i64 (s : Int)) ∧ ∃ d : Nat, d < 2 ^ s ∧ Wd a g (.int .u64 (d : Int)) ∧ V zs + d * B64 ^ zs.length = V (xs.take zs.length) * 2 ^ s
theorem JLeft_step {B0 p1 p2 g : Nat} {A : Option Addr} {n c : Nat} {xs : List Nat} {s : Nat} {zs : List Nat} {a : World} (hn : n ≤ 4096) (hs63 : s ≤ 63) (hg1 : p1 ≠ g) (hg2 : p2 ≠ g) (h0 : B0 ≤ g)
    (hl : zs.length < n) (h : JLeft B0 p1 p2 g A n c xs s zs a) :
    Calls Try.prog 115 #[.int .i64 zs.length, .pointer (some ⟨g, 0, none⟩), .pointer (some ⟨p1, 0, none⟩), .pointer (some ⟨p2, 0, none⟩)] a fun e b => ∃ x : Nat, e = .returned (.int .u64 (x : Int)) ∧
      JLeft B0 p1 p2 g A n c xs s (zs ++ [x]) b ∧ a.grownBy b (some g) := by
  obtain ⟨hw, hx, h2, d, hd, hwg, hv⟩ := h
  obtain ⟨x, b, o, rfl, hbB, wx, hvx, _, hcx⟩ := hx.at2 hl
  refine (Left1_any x s zs.length p1 p2 g n c d b o a hl hn hs63 wx hd hx.1 h2 hwg hcx (World.block_lt_of_cell? a _ hcx) (by omega) hg1 hg2).mono ?_
  rintro e w' ⟨z, d', ⟨he, hz, hd'⟩, rfl, h4, h3⟩
  have hB0 : B0 ≤ a.heap.size := Nat.le_trans h0 (Nat.le_of_lt hwg.lt)
  refine ⟨z, rfl, ⟨Ws_snoc hw hz, hx.grown h3 hg1 hB0 h0, h2.grown h3 hg2, d', hd', h4, ?_⟩, h3⟩
  rw [List.length_append, List.length_singleton, V_snoc, hvx]
  exact step_mul (e := 0) he hv
theorem JLeft_below {B0 p1 p2 g B : Nat} {A : Option Addr} {n c : Nat} {xs : List Nat} {s : Nat} (h0 : B0 ≤ B) (h1 : p1 < B) (h2 : p2 < B) (h3 : g < B) (zs : List Nat) (a b : World)
    (h : JLeft B0 p1 p2 g A n c xs s zs a) (hb : Below B a b) : JLeft B0 p1 p2 g A n c xs s zs b := by
  obtain ⟨hw, hx, hy, d, hd, hwd, hv⟩ := h
  exact ⟨hw, hx.below hb h1 h0, hy.below hb h2, d, hd, hwd.below hb h3, hv⟩
theorem Left_row {w a : World} {p1 p2 g : Nat} {A : Option Addr} {n c : Nat} {xs : List Nat} {s : Nat} (hn : n ≤ 4096) (hs63 : s ≤ 63) (hx : Sl w A n c xs) (hb : Below w.heap.size w a) (hg0 : w.heap.size ≤ g)
    (h1 : p1 < g) (h2 : p2 < g) (h3 : g < a.heap.size) (hJ : JLeft w.heap.size p1 p2 g A n c xs s [] a) :
    Calls Try.prog 93 #[.int .i64 n, .func (.func 115) #[] #[.pointer (some ⟨g, 0, none⟩), .pointer (some ⟨p1, 0, none⟩), .pointer (some ⟨p2, 0, none⟩)]] a fun e w' => ∃ v zs, ∃ d : Nat,
      e = .returned v ∧ w'.cell? ⟨g, 0, none⟩ = some (.int .u64 (d : Int)) ∧ Hid (d < 2 ^ s ∧ V zs + d * B64 ^ n = V xs * 2 ^ s ∧ Nw w w' v n zs ∧ Below w.heap.size w w') := by
  refine (newRow_any n 115 #[.pointer (some ⟨g, 0, none⟩), .pointer (some ⟨p1, 0, none⟩), .pointer (some ⟨p2, 0, none⟩)] g (JLeft w.heap.size p1 p2 g A n c xs s) a hn h3
    (JLeft_below hb.size (by omega) (by omega) h3) (fun zs a hl hj => by
      have := JLeft_step hn hs63 (by omega) (by omega) hg0 hl hj
      simpa using this) (fun args W => run_callFunc_enter Try.func115 (by kernel_rfl) (by kernel_rfl) args W) hJ).mono ?_
  rintro e w5 ⟨v, zs, rfl, hl, hown, ⟨hw, _, _, d, hd, hwd, hv⟩, hgr⟩
  rw [hl, hx.take_all] at hv
  exact ⟨v, zs, d, rfl, hwd.1, hd, hv, ⟨hl, hw, own_base hown hb.size⟩, hb.grown hgr hb.size (fun k hk => by cases hk; exact hg0)⟩
theorem Left_start {w : World} {A : Option Addr} {n c : Nat} {xs : List Nat} {s : Nat} (hx : Sl w A n c xs) :
    Below w.heap.size w ((((w.alloc (.cells #[.slice A n c] 22)).alloc (.cells #[.int .i64 (s : Int)] 3)).alloc (.cells #[.int .i64 (n : Int)] 3)).alloc (.cells #[.int .u64 0] 37)) ∧
    JLeft w.heap.size w.heap.size (w.heap.size + 1) (w.heap.size + 1 + 1 + 1) A n c xs s [] ((((w.alloc (.cells #[.slice A n c] 22)).alloc (.cells #[.int .i64 (s : Int)] 3)).alloc (.cells #[.int .i64 (n : Int)] 3)).alloc (.cells #[.int .u64 0] 37)) := by
  have hb4 : Below w.heap.size w ((((w.alloc (.cells #[.slice A n c] 22)).alloc (.cells #[.int .i64 (s : Int)] 3)).alloc (.cells #[.int .i64 (n : Int)] 3)).alloc (.cells #[.int .u64 0] 37)) :=
    ((((Below.refl _ _).alloc (Nat.le_refl _) _).alloc (by simp) _).alloc (by simp; omega) _).alloc (by simp; omega) _
  have h1 := (((Wd.new w (.slice A n c) 22).alloc (.cells #[.int .i64 (s : Int)] 3)).alloc (.cells #[.int .i64 (n : Int)] 3)).alloc (.cells #[.int .u64 0] 37)
  have h2 := ((Wd.new (w.alloc (.cells #[.slice A n c] 22)) (.int .i64 (s : Int)) 3).alloc (.cells #[.int .i64 (n : Int)] 3)).alloc (.cells #[.int .u64 0] 37)
  have h3 := Wd.new (((w.alloc (.cells #[.slice A n c] 22)).alloc (.cells #[.int .i64 (s : Int)] 3)).alloc (.cells #[.int .i64 (n : Int)] 3)) (.int .u64 0) 37
  simp only [World.size_alloc] at h2 h3
  exact ⟨hb4, Ws_nil, ⟨h1, hx.1, hx.2.2.2.1, hx.2.2.2.2.below hb4⟩, h2, 0, Nat.pow_pos (by decide), h3, by simp [V]⟩

set_option maxHeartbeats 400000 in
theorem Left_ok (A : Option Addr) (n c : Nat) (xs : List Nat) (s : Nat) (w : World) (hn : n ≤ 4096) (hx : Sl w A n c xs) (hs63 : s ≤ 63) :
    Calls Try.prog 81 #[.slice A n c, .int .i64 s] w fun e w' => ∃ v zs, ∃ d : Nat, e = .returned (.tuple #[v, .int .u64 d, .int .i64 0]) ∧ d < 2 ^ s ∧
      V zs + d * B64 ^ n = V xs * 2 ^ s ∧ Nw w w' v n zs ∧ Below w.heap.size w w' := by
  have Hk := Lib.hid (chk_one n hn)
  have HS := Lib.hid (Left_start (s := s) hx)
  have Hx := Lib.hid hx
  clear hx
  go_enter Try.func81, Try.ntmps81
  go_wp2_with (first | (go_at_call 92; refine (checkLengths_one n _ _ (by simp)).mono ?_; rintro e w' ⟨rfl, rfl⟩; rw [Hk.out]) | (go_at_call 114; refine (outOfWord_no s hs63 _).mono ?_; rintro e w' ⟨rfl, rfl⟩))
  refine (Left_row hn hs63 Hx.out HS.out.1 (by omega) (by omega) (by omega) (by simp) HS.out.2).mono ?_
  rintro e w5 ⟨v, zs, d, rfl, hcell, hpost⟩
  go_wp2
  go_quiet (fail)
  go_wp2
  go_ret3
  have := hpost.out
  exact ⟨v, zs, d, rfl, this.1, this.2.1, this.2.2.1, below_drewN this.2.2.2 _⟩

set_option maxHeartbeats 400000 in
theorem Left_err (A : Option Addr) (n c : Nat) (s : Int) (w : World) (hn : 4096 < n) :
    Calls Try.prog 81 #[.slice A n c, .int .i64 s] w fun e w' => e = .returned (.tuple #[.slice none 0 0, .int .u64 0, .int .i64 2]) ∧ Below w.heap.size w w' := by
  have Hz := Lib.hid (chk_one_big n hn)
  go_enter Try.func81, Try.ntmps81
  go_wp2_with (go_at_call 92; refine (checkLengths_one n _ _ (by simp)).mono ?_; rintro e w' ⟨rfl, rfl⟩; rw [Hz.out])
  go_ret3
  exact ⟨rfl, (((Below.refl _ _).alloc (Nat.le_refl _) _).alloc (by simp) _).alloc (by simp; omega) _⟩
set_option maxHeartbeats 400000 in
theorem Left_arg (A : Option Addr) (n c : Nat) (s : Int) (w : World) (hn : n ≤ 4096) (hs : s < 0 ∨ 63 < s) :
    Calls Try.prog 81 #[.slice A n c, .int .i64 s] w fun e w' => e = .returned (.tuple #[.slice none 0 0, .int .u64 0, .int .i64 1]) ∧ Below w.heap.size w w' := by
  have Hz := Lib.hid (chk_one n hn)
  have Hs := Lib.hid hs
  clear hs
  go_enter Try.func81, Try.ntmps81
  go_wp2_with (first | (go_at_call 92; refine (checkLengths_one n _ _ (by simp)).mono ?_; rintro e w' ⟨rfl, rfl⟩; rw [Hz.out]) | (go_at_call 114; refine (outOfWord_yes s Hs.out _).mono ?_; rintro e w' ⟨rfl, rfl⟩))
  go_ret3
  exact ⟨rfl, (((Below.refl _ _).alloc (Nat.le_refl _) _).alloc (by simp) _).alloc (by simp; omega) _⟩
end Go.Proofs.Ytalcikmngglplaa

namespace Go.Proofs.Ytalcikmngglplaa
open Go.RowKit Go.Shelf
set_option linter.unusedVariables false
attribute [local go_sem] Oper.semAt_some

theorem Right_leaf {W : World} {A : Addr} {b : Int} {z : Nat} {K : Exit → Act → World → Prop} {a : Act} (hK : K .normal a ((W.setCell A (.int .u64 (z : Int))).drewN 1)) (hz : b = (z : Int)) : K .normal a (W.drew.setCell A (.int .u64 b)) := by
  subst hz
  exact hK

set_option maxHeartbeats 4000000 in
/-- one round of Right: the region, in whatever order -/
theorem Right_round (l n i g pz pc ps : Nat) (W : World) (x s cv z : Nat) (K : Exit → Act → World → Prop)
    (hin : (i : Int) < n) (hs : s ≤ 63) (c1 : W.cell? ⟨pz, 0, none⟩ = some (.slice (some ⟨g, 0, none⟩) n n)) (c2 : W.cell? ⟨pc, 0, none⟩ = some (.int .u64 (cv : Int))) (c3 : W.cell? ⟨ps, 0, none⟩ = some (.int .i64 (s : Int))) (c4 : W.cell? ⟨g, i, none⟩ = some (.int .u64 (x : Int)))
    (f1 : W.frozen? ⟨g, i, none⟩ = false) (hor : Hid (bits BinOp.or IntKind.u64 ((x : Int) / 2 ^ s) (cv : Int) = (z : Int)))
    (v0 v1 v2 v4 v5 v6 v7 v12 v13 v14 v15 v16 v17 v18 v19 v20 v21 v22 v23 v24 v25 v26 v27 v28 v29 v30 v31 v32 v33 v34 v35 v36 v37 v38 v39 v40 : Value)
    (hK : Hid (∀ (t27 t28 t29 t30 t31 t32 t33 t34 : Value) (m : Nat), K .normal { tmps := #[v0, v1, v2, .pointer (some ⟨ps, 0, none⟩), v4, v5, v6, v7, .pointer (some ⟨pc, 0, none⟩), .pointer (some ⟨pz, 0, none⟩), .int .i64 (i : Int), .int .u64 (x : Int), v12, v13, v14, v15, v16, v17, v18, v19, v20, v21, v22, v23, v24, v25, v26, t27, t28, t29, t30, t31, t32, t33, t34, v35, v36, v37, v38, v39, v40], defers := [] } ((W.setCell ⟨g, i, none⟩ (.int .u64 (z : Int))).drewN m))) :
    (Code.region 11 #[{ dst := some 27, op := Op.load 22 (Operand.tmp 9), type := 22, pos := "words.go:135", after := #[], guard := none }, { dst := some 28, op := Op.move (Operand.tmp 10), type := 3, pos := "words.go:135", after := #[], guard := none }, { dst := some 29, op := Op.move (Operand.tmp 11), type := 37, pos := "words.go:135", after := #[], guard := none }, { dst := some 30, op := Op.load 3 (Operand.tmp 3), type := 3, pos := "words.go:135", after := #[], guard := none }, { dst := some 31, op := Op.binOp BinOp.shr 37 (Operand.tmp 29) (Operand.tmp 30) 3, type := 37, pos := "words.go:135", after := #[{ on := 2, ground := Ground.data }, { on := 3, ground := Ground.data }], guard := none }, { dst := some 32, op := Op.load 37 (Operand.tmp 8), type := 37, pos := "words.go:135", after := #[], guard := none }, { dst := some 33, op := Op.binOp BinOp.or 37 (Operand.tmp 31) (Operand.tmp 32) 37, type := 37, pos := "words.go:135", after := #[{ on := 4, ground := Ground.data }, { on := 5, ground := Ground.data }], guard := none }, { dst := some 34, op := Op.indexAddr 22 (Operand.tmp 27) (Operand.tmp 28), type := 0, pos := "words.go:135", after := #[{ on := 0, ground := Ground.data }, { on := 1, ground := Ground.data }, { on := 0, ground := Ground.phase }, { on := 1, ground := Ground.phase }, { on := 2, ground := Ground.phase }, { on := 3, ground := Ground.phase }, { on := 4, ground := Ground.phase }, { on := 5, ground := Ground.phase }, { on := 6, ground := Ground.phase }], guard := none }, { dst := none, op := Op.store 37 (Operand.tmp 34) (Operand.tmp 33), type := 0, pos := "words.go:135", after := #[{ on := 7, ground := Ground.data }, { on := 6, ground := Ground.data }, { on := 0, ground := Ground.phase }, { on := 1, ground := Ground.phase }, { on := 2, ground := Ground.phase }, { on := 3, ground := Ground.phase }, { on := 4, ground := Ground.phase }, { on := 5, ground := Ground.phase }, { on := 6, ground := Ground.phase }], guard := none }] true).wpIn (Fence.wide.inRound l) 3 Try.prog K { tmps := #[v0, v1, v2, .pointer (some ⟨ps, 0, none⟩), v4, v5, v6, v7, .pointer (some ⟨pc, 0, none⟩), .pointer (some ⟨pz, 0, none⟩), .int .i64 (i : Int), .int .u64 (x : Int), v12, v13, v14, v15, v16, v17, v18, v19, v20, v21, v22, v23, v24, v25, v26, v27, v28, v29, v30, v31, v32, v33, v34, v35, v36, v37, v38, v39, v40], defers := [] } W := by
  have hmix : Try.prog.follows Departure.mixedOrders = true := by kernel_rfl
  refine region_inRound hmix (NoDefer.of (by kernel_rfl)) ?_
  refine wpAnyIn_take (i := 1) (v := ?_) rfl rfl (by kernel_rfl) (by kernel_rfl) (by kernel_rfl) (fun _ _ _ h => h) ⟨Or.inl ⟨by rfl, ?_⟩, fun _ => rfl⟩ ?_
  rotate_left
  · intro w; go_simp; try with_reducible rfl
  refine wpAnyIn_take (i := 2) (v := ?_) rfl rfl (by kernel_rfl) (by kernel_rfl) (by kernel_rfl) (fun _ _ _ h => h) ⟨Or.inl ⟨by rfl, ?_⟩, fun _ => rfl⟩ ?_
  rotate_left
  · intro w; go_simp; try with_reducible rfl
  refine wpAnyIn_ready (rs := [0, 3, 5]) (by kernel_rfl) (by simp) ?_
  refine AllReadyIn.cons rfl (fun K hK => ?_) ?_
  · go_simp
    refine hK _ _ ?_; clear hK K
    refine wpAnyIn_ready (rs := [3, 5]) (by kernel_rfl) (by simp) ?_
    refine AllReadyIn.cons rfl (fun K hK => ?_) ?_
    · go_simp
      refine hK _ _ ?_; clear hK K
      refine wpAnyIn_take (i := 4) (v := ?_) rfl rfl (by kernel_rfl) (by kernel_rfl) (by kernel_rfl) (fun _ _ _ h => h) ⟨Or.inl ⟨by rfl, ?_⟩, fun _ => rfl⟩ ?_
      rotate_left
      · intro w; go_simp; try with_reducible rfl
      refine wpAnyIn_ready (rs := [5]) (by kernel_rfl) (by simp) ?_
      refine AllReadyIn.cons rfl (fun K hK => ?_) ?_
      · go_simp
        refine hK _ _ ?_; clear hK K
        refine wpAnyIn_take (i := 6) (v := ?_) rfl rfl (by kernel_rfl) (by kernel_rfl) (by kernel_rfl) (fun _ _ _ h => h) ⟨Or.inl ⟨by rfl, ?_⟩, fun _ => rfl⟩ ?_
        rotate_left
        · intro w; go_simp; try with_reducible rfl
        refine wpAnyIn_ready (rs := [7]) (by kernel_rfl) (by simp) ?_
        refine AllReadyIn.cons rfl (fun K hK => ?_) ?_
        · go_simp
          refine hK _ _ ?_; clear hK K
          refine wpAnyIn_ready (rs := [8]) (by kernel_rfl) (by simp) ?_
          refine AllReadyIn.cons rfl (fun K hK => ?_) ?_
          · go_simp
            refine hK _ _ ?_; clear hK K
            refine wpAnyIn_done (by kernel_rfl) ?_ _
            exact Right_leaf (hK.out _ _ _ _ _ _ _ _ 1) hor.out
          exact AllReadyIn.nil
        exact AllReadyIn.nil
      exact AllReadyIn.nil
    refine AllReadyIn.cons rfl (fun K hK => ?_) ?_
    · go_simp
      refine hK _ _ ?_; clear hK K
      refine wpAnyIn_ready (rs := [3]) (by kernel_rfl) (by simp) ?_
      refine AllReadyIn.cons rfl (fun K hK => ?_) ?_
      · go_simp
        refine hK _ _ ?_; clear hK K
        refine wpAnyIn_take (i := 4) (v := ?_) rfl rfl (by kernel_rfl) (by kernel_rfl) (by kernel_rfl) (fun _ _ _ h => h) ⟨Or.inl ⟨by rfl, ?_⟩, fun _ => rfl⟩ ?_
        rotate_left
        · intro w; go_simp; try with_reducible rfl
        refine wpAnyIn_take (i := 6) (v := ?_) rfl rfl (by kernel_rfl) (by kernel_rfl) (by kernel_rfl) (fun _ _ _ h => h) ⟨Or.inl ⟨by rfl, ?_⟩, fun _ => rfl⟩ ?_
        rotate_left
        · intro w; go_simp; try with_reducible rfl
        refine wpAnyIn_ready (rs := [7]) (by kernel_rfl) (by simp) ?_
        refine AllReadyIn.cons rfl (fun K hK => ?_) ?_
        · go_simp
          refine hK _ _ ?_; clear hK K
          refine wpAnyIn_ready (rs := [8]) (by kernel_rfl) (by simp) ?_
          refine AllReadyIn.cons rfl (fun K hK => ?_) ?_
          · go_simp
            refine hK _ _ ?_; clear hK K
            refine wpAnyIn_done (by kernel_rfl) ?_ _
            exact Right_leaf (hK.out _ _ _ _ _ _ _ _ 1) hor.out
          exact AllReadyIn.nil
        exact AllReadyIn.nil
      exact AllReadyIn.nil
    exact AllReadyIn.nil
  refine AllReadyIn.cons rfl (fun K hK => ?_) ?_
  · go_simp
    refine hK _ _ ?_; clear hK K
    refine wpAnyIn_take (i := 4) (v := ?_) rfl rfl (by kernel_rfl) (by kernel_rfl) (by kernel_rfl) (fun _ _ _ h => h) ⟨Or.inl ⟨by rfl, ?_⟩, fun _ => rfl⟩ ?_
    rotate_left
    · intro w; go_simp; try with_reducible rfl
    refine wpAnyIn_ready (rs := [0, 5]) (by kernel_rfl) (by simp) ?_
    refine AllReadyIn.cons rfl (fun K hK => ?_) ?_
    · go_simp
      refine hK _ _ ?_; clear hK K
      refine wpAnyIn_ready (rs := [5]) (by kernel_rfl) (by simp) ?_
      refine AllReadyIn.cons rfl (fun K hK => ?_) ?_
      · go_simp
        refine hK _ _ ?_; clear hK K
        refine wpAnyIn_take (i := 6) (v := ?_) rfl rfl (by kernel_rfl) (by kernel_rfl) (by kernel_rfl) (fun _ _ _ h => h) ⟨Or.inl ⟨by rfl, ?_⟩, fun _ => rfl⟩ ?_
        rotate_left
        · intro w; go_simp; try with_reducible rfl
        refine wpAnyIn_ready (rs := [7]) (by kernel_rfl) (by simp) ?_
        refine AllReadyIn.cons rfl (fun K hK => ?_) ?_
        · go_simp
          refine hK _ _ ?_; clear hK K
          refine wpAnyIn_ready (rs := [8]) (by kernel_rfl) (by simp) ?_
          refine AllReadyIn.cons rfl (fun K hK => ?_) ?_
          · go_simp
            refine hK _ _ ?_; clear hK K
            refine wpAnyIn_done (by kernel_rfl) ?_ _
            exact Right_leaf (hK.out _ _ _ _ _ _ _ _ 1) hor.out
          exact AllReadyIn.nil
        exact AllReadyIn.nil
      exact AllReadyIn.nil
    refine AllReadyIn.cons rfl (fun K hK => ?_) ?_
    · go_simp
      refine hK _ _ ?_; clear hK K
      refine wpAnyIn_take (i := 6) (v := ?_) rfl rfl (by kernel_rfl) (by kernel_rfl) (by kernel_rfl) (fun _ _ _ h => h) ⟨Or.inl ⟨by rfl, ?_⟩, fun _ => rfl⟩ ?_
      rotate_left
      · intro w; go_simp; try with_reducible rfl
      refine wpAnyIn_ready (rs := [0]) (by kernel_rfl) (by simp) ?_
      refine AllReadyIn.cons rfl (fun K hK => ?_) ?_
      · go_simp
        refine hK _ _ ?_; clear hK K
        refine wpAnyIn_ready (rs := [7]) (by kernel_rfl) (by simp) ?_
        refine AllReadyIn.cons rfl (fun K hK => ?_) ?_
        · go_simp
          refine hK _ _ ?_; clear hK K
          refine wpAnyIn_ready (rs := [8]) (by kernel_rfl) (by simp) ?_
          refine AllReadyIn.cons rfl (fun K hK => ?_) ?_
          · go_simp
            refine hK _ _ ?_; clear hK K
            refine wpAnyIn_done (by kernel_rfl) ?_ _
            exact Right_leaf (hK.out _ _ _ _ _ _ _ _ 1) hor.out
          exact AllReadyIn.nil
        exact AllReadyIn.nil
      exact AllReadyIn.nil
    exact AllReadyIn.nil
  refine AllReadyIn.cons rfl (fun K hK => ?_) ?_
  · go_simp
    refine hK _ _ ?_; clear hK K
    refine wpAnyIn_ready (rs := [0, 3]) (by kernel_rfl) (by simp) ?_
    refine AllReadyIn.cons rfl (fun K hK => ?_) ?_
    · go_simp
      refine hK _ _ ?_; clear hK K
      refine wpAnyIn_ready (rs := [3]) (by kernel_rfl) (by simp) ?_
      refine AllReadyIn.cons rfl (fun K hK => ?_) ?_
      · go_simp
        refine hK _ _ ?_; clear hK K
        refine wpAnyIn_take (i := 4) (v := ?_) rfl rfl (by kernel_rfl) (by kernel_rfl) (by kernel_rfl) (fun _ _ _ h => h) ⟨Or.inl ⟨by rfl, ?_⟩, fun _ => rfl⟩ ?_
        rotate_left
        · intro w; go_simp; try with_reducible rfl
        refine wpAnyIn_take (i := 6) (v := ?_) rfl rfl (by kernel_rfl) (by kernel_rfl) (by kernel_rfl) (fun _ _ _ h => h) ⟨Or.inl ⟨by rfl, ?_⟩, fun _ => rfl⟩ ?_
        rotate_left
        · intro w; go_simp; try with_reducible rfl
        refine wpAnyIn_ready (rs := [7]) (by kernel_rfl) (by simp) ?_
        refine AllReadyIn.cons rfl (fun K hK => ?_) ?_
        · go_simp
          refine hK _ _ ?_; clear hK K
          refine wpAnyIn_ready (rs := [8]) (by kernel_rfl) (by simp) ?_
          refine AllReadyIn.cons rfl (fun K hK => ?_) ?_
          · go_simp
            refine hK _ _ ?_; clear hK K
            refine wpAnyIn_done (by kernel_rfl) ?_ _
            exact Right_leaf (hK.out _ _ _ _ _ _ _ _ 1) hor.out
          exact AllReadyIn.nil
        exact AllReadyIn.nil
      exact AllReadyIn.nil
    refine AllReadyIn.cons rfl (fun K hK => ?_) ?_
    · go_simp
      refine hK _ _ ?_; clear hK K
      refine wpAnyIn_take (i := 4) (v := ?_) rfl rfl (by kernel_rfl) (by kernel_rfl) (by kernel_rfl) (fun _ _ _ h => h) ⟨Or.inl ⟨by rfl, ?_⟩, fun _ => rfl⟩ ?_
      rotate_left
      · intro w; go_simp; try with_reducible rfl
      refine wpAnyIn_take (i := 6) (v := ?_) rfl rfl (by kernel_rfl) (by kernel_rfl) (by kernel_rfl) (fun _ _ _ h => h) ⟨Or.inl ⟨by rfl, ?_⟩, fun _ => rfl⟩ ?_
      rotate_left
      · intro w; go_simp; try with_reducible rfl
      refine wpAnyIn_ready (rs := [0]) (by kernel_rfl) (by simp) ?_
      refine AllReadyIn.cons rfl (fun K hK => ?_) ?_
      · go_simp
        refine hK _ _ ?_; clear hK K
        refine wpAnyIn_ready (rs := [7]) (by kernel_rfl) (by simp) ?_
        refine AllReadyIn.cons rfl (fun K hK => ?_) ?_
        · go_simp
          refine hK _ _ ?_; clear hK K
          refine wpAnyIn_ready (rs := [8]) (by kernel_rfl) (by simp) ?_
          refine AllReadyIn.cons rfl (fun K hK => ?_) ?_
          · go_simp
            refine hK _ _ ?_; clear hK K
            refine wpAnyIn_done (by kernel_rfl) ?_ _
            exact Right_leaf (hK.out _ _ _ _ _ _ _ _ 1) hor.out
          exact AllReadyIn.nil
        exact AllReadyIn.nil
      exact AllReadyIn.nil
    exact AllReadyIn.nil
  exact AllReadyIn.nil
end Go.Proofs.Ytalcikmngglplaa

namespace Go.Proofs.Ytalcikmngglplaa
open Go.RowKit Go.Shelf
set_option linter.unusedVariables false
attribute [local go_sem] Oper.semAt_some

/-- Between two rounds of Right. -/
def IRight (w : World) (g ps pz pc pb n : Nat) (xs : List Nat) (s : Nat) (k : Nat) (W : World) : Prop :=
  ∃ zs, ∃ d : Nat, RowAt W g zs ∧ zs.length = n ∧ Ws zs ∧ d < 2 ^ s ∧ (∀ j, j < n - k → zs[j]? = xs[j]?) ∧ V (zs.drop (n - k)) * 2 ^ s + d = V (xs.drop (n - k)) ∧
    Wd W ps (.int .i64 (s : Int)) ∧ Wd W pz (.slice (some ⟨g, 0, none⟩) n n) ∧ Wd W pc (.int .u64 (d * 2 ^ (64 - s) : Nat)) ∧ Wd W pb (.slice (some ⟨g, 0, none⟩) n n) ∧ Below w.heap.size w W

theorem IRight_own {w : World} {g ps pz pc pb n : Nat} {xs : List Nat} {s B : Nat} (hB : w.heap.size ≤ B) : OwnFrom B (IRight w g ps pz pc pb n xs s) := by
  rintro k W W' row ⟨zs, d, h1, h2, h3, h4, h5, h6, h7, h8, h9, h10, h11⟩ hg hr
  have hr2 : ∀ j, row = some j → ∃ o : Obj, W.heap[j]? = some o ∧ o.isCells = false := fun j e => (hr j e).2
  exact ⟨zs, d, h1.kept hg hr2, h2, h3, h4, h5, h6, h7.kept hg hr2, h8.kept hg hr2, h9.kept hg hr2, h10.kept hg hr2, h11.grown hg h11.size (fun j e => by have := (hr j e).1; omega)⟩
theorem IRight_reads {w : World} {g ps pz pc pb n : Nat} {xs : List Nat} {s : Nat} (hl : xs.length = n) (k : Nat) (W : World) (h : IRight w g ps pz pc pb n xs s k W) :
    Reads pb (some ⟨g, 0, none⟩) n n (fun k => xs.getD (n - 1 - k) 0) k W := by
  obtain ⟨zs, d, h1, h2, h3, h4, h5, h6, h7, h8, h9, h10, h11⟩ := h
  refine ⟨h10.1, fun hk => ⟨g, 0, rfl, ?_⟩⟩
  rw [Nat.zero_add]
  refine h1.cell ?_
  rw [h5 _ (by omega)]
  show xs[n - 1 - k]? = some (xs.getD (n - 1 - k) 0)
  rw [List.getD_eq_getElem?_getD, List.getElem?_eq_getElem (by omega)]
  rfl
theorem IRight_drewN {w : World} {g ps pz pc pb n : Nat} {xs : List Nat} {s k : Nat} {W : World} (h : IRight w g ps pz pc pb n xs s k W) (m : Nat) : IRight w g ps pz pc pb n xs s k (W.drewN m) := by
  obtain ⟨zs, d, h1, h2, h3, h4, h5, h6, h7, h8, h9, h10, h11⟩ := h
  exact ⟨zs, d, h1, h2, h3, h4, h5, h6, h7, h8, h9, h10, below_drewN h11 m⟩
theorem IRight_step {w W : World} {g ps pz pc pb n : Nat} {xs : List Nat} {s k i x e : Nat} {zs : List Nat} (hd : g ≠ ps ∧ g ≠ pz ∧ g ≠ pc ∧ g ≠ pb ∧ ps ≠ pc ∧ pz ≠ pc ∧ pb ≠ pc) (hg0 : w.heap.size ≤ g) (hr0 : w.heap.size ≤ pc) (hl : xs.length = n) (hi : i + 1 + k = n) (hx : xs[i]? = some x) (hs63 : s ≤ 63) (hxB : x < B64) (hz : x / 2 ^ s + 2 ^ (64 - s) * e < B64)
    (h1 : RowAt W g zs) (h2 : zs.length = n) (h3 : Ws zs) (h4 : e < 2 ^ s) (h5 : ∀ j, j < n - k → zs[j]? = xs[j]?) (h6 : V (zs.drop (n - k)) * 2 ^ s + e = V (xs.drop (n - k)))
    (h7 : Wd W ps (.int .i64 (s : Int))) (h8 : Wd W pz (.slice (some ⟨g, 0, none⟩) n n)) (h9 : Wd W pc (.int .u64 (e * 2 ^ (64 - s) : Nat))) (h10 : Wd W pb (.slice (some ⟨g, 0, none⟩) n n)) (h11 : Below w.heap.size w W) :
    IRight w g ps pz pc pb n xs s (k + 1) ((W.setCell ⟨g, i, none⟩ (.int .u64 (x / 2 ^ s + 2 ^ (64 - s) * e : Nat))).setCell ⟨pc, 0, none⟩ (.int .u64 (x % 2 ^ s * 2 ^ (64 - s) : Nat))) := by
  have hp : 0 < 2 ^ s := Nat.pow_pos (by decide)
  refine ⟨zs.set i _, x % 2 ^ s, (h1.set i _).far hd.2.2.1 _, by rw [List.length_set]; exact h2, Ws_set h3 i _ hz, Nat.mod_lt _ hp, fun j hj => ?_, ?_, (h7.far (p := ⟨g, i, none⟩) hd.1.symm _).far (p := ⟨pc, 0, none⟩) hd.2.2.2.2.1 _, (h8.far (p := ⟨g, i, none⟩) hd.2.1.symm _).far (p := ⟨pc, 0, none⟩) hd.2.2.2.2.2.1 _, (h9.far (p := ⟨g, i, none⟩) hd.2.2.1.symm _).set _, (h10.far (p := ⟨g, i, none⟩) hd.2.2.2.1.symm _).far (p := ⟨pc, 0, none⟩) hd.2.2.2.2.2.2 _, (h11.setCell (p := ⟨g, i, none⟩) hg0 _).setCell (p := ⟨pc, 0, none⟩) hr0 _⟩
  · rw [List.getElem?_set_ne (by omega)]
    exact h5 j (by omega)
  · have e1 : n - (k + 1) = i := by omega
    have e2 : n - k = i + 1 := by omega
    rw [e1, V_drop xs i x hx, V_drop (zs.set i _) i _ (by rw [List.getElem?_set_self (by omega)]), drop_set]
    rw [e2] at h6
    exact right_step (pow_split s hs63) h6
theorem Right_end {w W : World} {g D n : Nat} {zs xs : List Nat} {d s B : Nat} (hg : w.heap.size ≤ g) (hgB : g < B) (hn : n ≤ 4096)
    (h : RowAt W g zs ∧ zs.length = n ∧ Ws zs ∧ d < 2 ^ s ∧ V (zs.drop (n - n)) * 2 ^ s + d = V (xs.drop (n - n)) ∧ Below w.heap.size w W ∧ B ≤ D) :
    ∃ v zs, ∃ d' : Nat, Ending.returned (.tuple #[.slice (some ⟨g, 0, none⟩) n n, .int .u64 (d * 2 ^ (64 - s) : Nat), .int .i64 0]) = .returned (.tuple #[v, .int .u64 (d' * 2 ^ (64 - s) : Nat), .int .i64 0]) ∧ d' < 2 ^ s ∧
      V zs * 2 ^ s + d' = V xs ∧ Nw w (W.drew.putObj D (.deferred none)) v n zs ∧ Below w.heap.size w (W.drew.putObj D (.deferred none)) := by
  obtain ⟨h1, h2, h3, h4, h5, h6, h7⟩ := h
  rw [Nat.sub_self, List.drop_zero, List.drop_zero] at h5
  have hrow : RowAt (W.drew.putObj D (.deferred none)) g zs := RowAt.put (W := W.drew) h1 (by omega) _
  have hown := hrow.own hg (by omega)
  rw [h2] at hown
  exact ⟨_, zs, d, rfl, h4, h5, ⟨h2, h3, hown⟩, below_putObj h6.drew (by omega) _⟩

set_option maxHeartbeats 1000000 in
theorem Right_ok (A : Option Addr) (n c : Nat) (xs : List Nat) (s : Nat) (w : World) (hn : n ≤ 4096) (hx : Sl w A n c xs) (hs63 : s ≤ 63) :
    Calls Try.prog 82 #[.slice A n c, .int .i64 s] w fun e w' => ∃ v zs, ∃ d : Nat, e = .returned (.tuple #[v, .int .u64 (d * 2 ^ (64 - s) : Nat), .int .i64 0]) ∧ d < 2 ^ s ∧
      V zs * 2 ^ s + d = V xs ∧ Nw w w' v n zs ∧ Below w.heap.size w w' := by
  have Hk := Lib.hid (chk_one n hn)
  have Hx := Lib.hid hx
  clear hx
  refine (callsIn_wide (n := 5)).1 ?_
  refine callsIn_of_wp_marks Try.func82 rfl trivial ?_ rfl
  simp only [Try.ntmps82, List.size_toArray, List.length_cons, List.length_nil, Nat.reduceAdd, Nat.reduceSub, Array.replicate_succ, Array.replicate_zero, List.push_toArray, List.append_toArray, List.nil_append, List.cons_append]
  have hb2 : Below w.heap.size w (((w.alloc (.cells #[.int .i64 (s : Int)] 3)).alloc (.cells #[.int .i64 (n : Int)] 3)).alloc (.cells #[.int .u64 0] 37)) := (((Below.refl _ _).alloc (Nat.le_refl _) _).alloc (by simp) _).alloc (by simp; omega) _
  have hW0 := Wd.new ((w.alloc (.cells #[.int .i64 (s : Int)] 3)).alloc (.cells #[.int .i64 (n : Int)] 3)) (.int .u64 0) 37
  simp only [World.size_alloc] at hW0
  have H2 := Lib.hid (And.intro hb2 (And.intro (Hx.out.below hb2) (And.intro (((Wd.new w (.int .i64 (s : Int)) 3).alloc (.cells #[.int .i64 (n : Int)] 3)).alloc (.cells #[.int .u64 0] 37)) hW0)))
  clear hb2 hW0
  gi_wp2_with (first
    | (refine ⟨trivial, ?_⟩; gi_at_call 92; refine (callsIn_wide.2 (checkLengths_one n _ _ (by simp))).mono ?_; rintro e w' ⟨rfl, rfl⟩; rw [Hk.out])
    | (refine ⟨trivial, ?_⟩; gi_at_call 114; refine (callsIn_wide.2 (outOfWord_no s hs63 _)).mono ?_; rintro e w' ⟨rfl, rfl⟩)
    | (refine ⟨trivial, ?_⟩; gi_at_call 110; refine (callsIn_wide.2 (copied_ok A n c xs _ hn H2.out.2.1)).mono ?_; rintro e w1 ⟨rfl, hrow, hb1⟩; simp only [World.size_alloc] at hrow hb1; have Hrow := Lib.hid hrow; have Hb1 := Lib.hid hb1; clear hrow hb1)
    | (refine ⟨trivial, ?_⟩; gi_at_call 111; refine (callsIn_wide.2 (fromBack_any (.slice none 0 0) _ _ _ _)).mono ?_; rintro e w' ⟨rfl, rfl⟩))
  have hg1 : w.heap.size + 1 + 1 + 1 < w1.heap.size := Hrow.out.lt
  have hl := Hx.out.1
  have el : ∀ k, k < n → ∃ x, xs[n - 1 - k]? = some x ∧ xs.getD (n - 1 - k) 0 = x ∧ x < B64 := fun k hk => by
    have hlt : n - 1 - k < xs.length := by omega
    exact ⟨xs[n - 1 - k], List.getElem?_eq_getElem hlt, by rw [List.getD_eq_getElem?_getD, List.getElem?_eq_getElem hlt]; rfl, Hx.out.2.2.2.1 _ (List.getElem_mem hlt)⟩
  have hbW : Below w.heap.size w w1 := H2.out.1.trans (Hb1.out.mono (by omega))
  have hI0 : IRight w (w.heap.size + 1 + 1 + 1) w.heap.size w1.heap.size (w.heap.size + 1 + 1) (w1.heap.size + 1) n xs s 0 ((w1.alloc (.cells #[.slice (some ⟨w.heap.size + 1 + 1 + 1, 0, none⟩) n n] 22)).alloc (.cells #[.slice (some ⟨w.heap.size + 1 + 1 + 1, 0, none⟩) n n] 22)) := by
    have q1 := (Wd.new w1 (.slice (some ⟨w.heap.size + 1 + 1 + 1, 0, none⟩) n n) 22).alloc (.cells #[.slice (some ⟨w.heap.size + 1 + 1 + 1, 0, none⟩) n n] 22)
    have q2 := Wd.new (w1.alloc (.cells #[.slice (some ⟨w.heap.size + 1 + 1 + 1, 0, none⟩) n n] 22)) (.slice (some ⟨w.heap.size + 1 + 1 + 1, 0, none⟩) n n) 22
    simp only [World.size_alloc] at q2
    have hW := ((H2.out.2.2.1.below Hb1.out (by omega)).alloc (.cells #[.slice (some ⟨w.heap.size + 1 + 1 + 1, 0, none⟩) n n] 22)).alloc (.cells #[.slice (some ⟨w.heap.size + 1 + 1 + 1, 0, none⟩) n n] 22)
    have hC := ((H2.out.2.2.2.below Hb1.out (by omega)).alloc (.cells #[.slice (some ⟨w.heap.size + 1 + 1 + 1, 0, none⟩) n n] 22)).alloc (.cells #[.slice (some ⟨w.heap.size + 1 + 1 + 1, 0, none⟩) n n] 22)
    refine ⟨xs, 0, (Hrow.out.alloc _).alloc _, hl, Hx.out.2.2.2.1, Nat.pow_pos (by decide), fun _ _ => rfl, ?_, hW, q1, by rw [Nat.zero_mul]; exact hC, q2, (hbW.alloc hbW.size _).alloc (by have := hbW.size; simp; omega) _⟩
    rw [Nat.sub_zero, V_drop_all xs n (by omega), Nat.zero_mul]
  refine wpIn_rounds (F := Fence.wide) (n := 5) rfl (by decide) (gf := 124) (lb := #[.pointer (some ⟨w1.heap.size + 1, 0, none⟩)]) rfl trivial (fun args w => run_callFunc_enter Try.func124 (by kernel_rfl) (by kernel_rfl) args w)
    (fromBack_rounds Fence.wide 4 trivial rfl (by decide) (w1.heap.size + 1) (some ⟨w.heap.size + 1 + 1 + 1, 0, none⟩) n n (fun k => xs.getD (n - 1 - k) 0) hn _) (Below.refl _ _) (fun _ => rfl)
    (IRight w (w.heap.size + 1 + 1 + 1) w.heap.size w1.heap.size (w.heap.size + 1 + 1) (w1.heap.size + 1) n xs s) (fun _ _ _ => False) (IRight_own (by have := hbW.size; simp; omega)) (fun _ _ _ _ _ hs _ _ => hs) (IRight_reads hl) hI0
    (fun k => { tmps := #[.slice A n c, .int .i64 (s : Int), undef, .pointer (some ⟨w.heap.size, 0, none⟩), .slice none 0 0, .int .u64 0, .int .i64 0, .int .i64 0, .pointer (some ⟨w.heap.size + 1 + 1, 0, none⟩), .pointer (some ⟨w1.heap.size, 0, none⟩), .int .i64 ((n - 1 - k : Nat) : Int), .int .u64 (xs.getD (n - 1 - k) 0 : Int), .slice A n c, .int .i64 (n : Int), .slice (some ⟨w.heap.size + 1, 0, none⟩) 1 1, .int .i64 0, .int .i64 0, .bool false, undef, .int .i64 (s : Int), .bool false, .slice A n c, .slice (some ⟨w.heap.size + 1 + 1 + 1, 0, none⟩) n n, .slice (some ⟨w.heap.size + 1 + 1 + 1, 0, none⟩) n n, .func (.func 124) #[] #[.pointer (some ⟨w1.heap.size + 1, 0, none⟩)], .int .i64 ((n - 1 - k : Nat) : Int), .int .u64 (xs.getD (n - 1 - k) 0 : Int), undef, undef, undef, undef, undef, undef, undef, undef, undef, undef, undef, undef, undef, undef], defers := [] }) ?assign ?body ?done ?stop
  case assign =>
    intro l k W K hK
    gi_wp2
    exact hK
  case body =>
    rintro l k W ⟨zs, e, h1, h2, h3, h4, h5, h6, h7, h8, h9, h10, h11⟩ hk
    obtain ⟨x, hx1, hx2, hxB⟩ := el k hk
    have hz := right_lt (pow_split s hs63) hxB h4
    rw [hx2]
    have hi : ∃ i, n - 1 - k = i := ⟨_, rfl⟩
    obtain ⟨i, hi⟩ := hi
    rw [hi]
    have hin : (i : Int) < n := by omega
    have hzi : zs[i]? = some x := by rw [h5 i (by omega), ← hi]; exact hx1
    have hne : w.heap.size + 1 + 1 + 1 ≠ w.heap.size + 1 + 1 := by omega
    have c1 := h8.1
    have c2 := h9.1
    have c3 := h7.1
    have c4 := h1.cell hzi
    have f1 := h1.frozen i
    have hor : bits BinOp.or IntKind.u64 ((x : Int) / 2 ^ s) ((e * 2 ^ (64 - s) : Nat) : Int) = ((x / 2 ^ s + 2 ^ (64 - s) * e : Nat) : Int) := by
      rw [show ((x : Int) / 2 ^ s) = ((x / 2 ^ s : Nat) : Int) by simp]
      exact right_or (pow_split s hs63) hxB h4
    have Hst := Lib.hid (IRight_step (w := w) (ps := w.heap.size) (pz := w1.heap.size) (pc := w.heap.size + 1 + 1) (pb := w1.heap.size + 1) (s := s) (i := i) ⟨by omega, by omega, by omega, by omega, by omega, by omega, by omega⟩ (by omega) (by omega) hl (show i + 1 + k = n by omega) (by rw [← hi]; exact hx1) hs63 hxB hz h1 h2 h3 h4 h5 h6 h7 h8 h9 h10 h11)
    have e1 : ∀ u m, ((W.setCell ⟨w.heap.size + 1 + 1 + 1, i, none⟩ u).drewN m).cell? ⟨w.heap.size, 0, none⟩ = some (.int .i64 (s : Int)) := fun u m => (h7.far (p := ⟨w.heap.size + 1 + 1 + 1, i, none⟩) (by show w.heap.size ≠ w.heap.size + 1 + 1 + 1; omega) u).1
    have e2 : ∀ u m, ((W.setCell ⟨w.heap.size + 1 + 1 + 1, i, none⟩ u).drewN m).frozen? ⟨w.heap.size + 1 + 1, 0, none⟩ = false := fun u m => (h9.far (p := ⟨w.heap.size + 1 + 1 + 1, i, none⟩) (by show w.heap.size + 1 + 1 ≠ w.heap.size + 1 + 1 + 1; omega) u).2
    have e3 : ∀ u m, ((W.setCell ⟨w.heap.size + 1 + 1 + 1, i, none⟩ u).drewN m).cell? ⟨w.heap.size + 1 + 1, 0, none⟩ = some (.int .u64 (e * 2 ^ (64 - s) : Nat)) := fun u m => (h9.far (p := ⟨w.heap.size + 1 + 1 + 1, i, none⟩) (by show w.heap.size + 1 + 1 ≠ w.heap.size + 1 + 1 + 1; omega) u).1
    have Hor := Lib.hid hor
    have hshl : IntKind.u64.wrap ((x : Int) * 2 ^ (64 - s)) = ((x % 2 ^ s * 2 ^ (64 - s) : Nat) : Int) := by
      rw [wrap_u64, shl_mod B64 x (2 ^ s) (2 ^ (64 - s)) (by rw [Nat.mul_comm]; exact pow_split s hs63), Nat.mul_comm]
    have Hsh := Lib.hid hshl
    clear h1 h2 h3 h4 h5 h6 h7 h8 h9 h10 h11 hx1 hx2 hzi hi hI0 el hl hz hor hshl hxB
    gi_wp2
    rename_i K hK
    refine Right_round l n i (w.heap.size + 1 + 1 + 1) w1.heap.size (w.heap.size + 1 + 1) w.heap.size W x s _ _ _ hin hs63 c1 c2 c3 c4 f1 Hor _ _ _ _ _ _ _ _ _ _ _ _ _ _ _ _ _ _ _ _ _ _ _ _ _ _ _ _ _ _ _ _ _ _ _ _ (Lib.hid fun _ _ _ _ _ _ _ _ m => ?_)
    refine hK _ _ ?_
    clear hK K
    have e4 := e1 (.int .u64 (x / 2 ^ s + 2 ^ (64 - s) * e : Nat)) m
    have e5 := e2 (.int .u64 (x / 2 ^ s + 2 ^ (64 - s) * e : Nat)) m
    have e6 := e3 (.int .u64 (x / 2 ^ s + 2 ^ (64 - s) * e : Nat)) m
    have Hfin : Hid ((∀ B, KeepsFrom B W (((W.setCell ⟨w.heap.size + 1 + 1 + 1, i, none⟩ (.int .u64 (x / 2 ^ s + 2 ^ (64 - s) * e : Nat))).drewN m).setCell ⟨w.heap.size + 1 + 1, 0, none⟩ (.int .u64 (x % 2 ^ s * 2 ^ (64 - s) : Nat)))) ∧ IRight w (w.heap.size + 1 + 1 + 1) w.heap.size w1.heap.size (w.heap.size + 1 + 1) (w1.heap.size + 1) n xs s (k + 1) (((W.setCell ⟨w.heap.size + 1 + 1 + 1, i, none⟩ (.int .u64 (x / 2 ^ s + 2 ^ (64 - s) * e : Nat))).drewN m).setCell ⟨w.heap.size + 1 + 1, 0, none⟩ (.int .u64 (x % 2 ^ s * 2 ^ (64 - s) : Nat)))) :=
      ⟨fun B => (((KeepsOthers.setCell W _ _).trans (KeepsOthers_drewN _ m)).trans (KeepsOthers.setCell _ _ _)).from B, IRight_drewN Hst.out m⟩
    generalize (W.setCell ⟨w.heap.size + 1 + 1 + 1, i, none⟩ (.int .u64 (x / 2 ^ s + 2 ^ (64 - s) * e : Nat))).drewN m = W2 at *
    clear e1 e2 e3 c1 c2 c3 c4 f1 Hor Hst
    gi_wp2
    rw [Hsh.out]
    exact ⟨Hfin.out.1 _, Hfin.out.2⟩
  case done =>
    rintro D W hD ⟨zs, d, h1, h2, h3, h4, h5, h6, h7, h8, h9, h10, h11⟩ hcol
    have hmix : Try.prog.follows Departure.mixedOrders = true := by kernel_rfl
    have c1 := h8.1
    have c2 := h9.1
    have Hf := Lib.hid (And.intro h1 (And.intro h2 (And.intro h3 (And.intro h4 (And.intro h6 (And.intro h11 hD))))))
    clear h1 h2 h3 h4 h5 h6 h7 h8 h9 h10 h11 hI0 hl el
    gi_wp2
    rename_i K hK
    refine region_plain ?_
    gi_region_with_o (fail)
    all_goals refine hK _ _ ?_
    all_goals clear hK K
    all_goals refine wpIn_ret ?_
    all_goals refine leaves_marked3 rfl hcol ?_
    all_goals exact Right_end (by omega) (by simp; omega) hn Hf.out
  case stop =>
    rintro D c k W _ h _
    exact h.elim

set_option maxHeartbeats 400000 in
theorem Right_err (A : Option Addr) (n c : Nat) (s : Int) (w : World) (hn : 4096 < n) :
    Calls Try.prog 82 #[.slice A n c, .int .i64 s] w fun e w' => e = .returned (.tuple #[.slice none 0 0, .int .u64 0, .int .i64 2]) ∧ Below w.heap.size w w' := by
  have Hz := Lib.hid (chk_one_big n hn)
  go_enter Try.func82, Try.ntmps82
  go_wp2_with (go_at_call 92; refine (checkLengths_one n _ _ (by simp)).mono ?_; rintro e w' ⟨rfl, rfl⟩; rw [Hz.out])
  go_ret3
  exact ⟨rfl, ((Below.refl _ _).alloc (Nat.le_refl _) _).alloc (by simp) _⟩
set_option maxHeartbeats 400000 in
theorem Right_arg (A : Option Addr) (n c : Nat) (s : Int) (w : World) (hn : n ≤ 4096) (hs : s < 0 ∨ 63 < s) :
    Calls Try.prog 82 #[.slice A n c, .int .i64 s] w fun e w' => e = .returned (.tuple #[.slice none 0 0, .int .u64 0, .int .i64 1]) ∧ Below w.heap.size w w' := by
  have Hz := Lib.hid (chk_one n hn)
  have Hs := Lib.hid hs
  clear hs
  go_enter Try.func82, Try.ntmps82
  go_wp2_with (first | (go_at_call 92; refine (checkLengths_one n _ _ (by simp)).mono ?_; rintro e w' ⟨rfl, rfl⟩; rw [Hz.out]) | (go_at_call 114; refine (outOfWord_yes s Hs.out _).mono ?_; rintro e w' ⟨rfl, rfl⟩))
  go_ret3
  exact ⟨rfl, ((Below.refl _ _).alloc (Nat.le_refl _) _).alloc (by simp) _⟩
end Go.Proofs.Ytalcikmngglplaa

namespace Go.Proofs.Ytalcikmngglplaa
open Go.RowKit
set_option linter.unusedVariables false
set_option maxRecDepth 10000

theorem pow_lt_B (s : Nat) (h : s ≤ 63) : 2 ^ s < B64 := by
  have : (2 : Nat) ^ s < 2 ^ 64 := Nat.pow_lt_pow_right (by decide) (by omega)
  exact this

set_option maxHeartbeats 1000000 in
theorem RLeft_ok (A : Option Addr) (n c : Nat) (xs : List Nat) (s : Nat) (w : World) (hn : n ≤ 4096) (hx : Sl w A n c xs) (hs : s ≤ 63) :
    Calls Try.prog 84 #[.slice A n c, .int .i64 s] w fun e w' => ∃ v zs, ∃ d : Nat, e = .returned (.tuple #[v, .int .u64 d]) ∧ Nw w w' v n zs ∧ V zs + d * B64 ^ n = V xs * 2 ^ s ∧ Below w.heap.size w w' := by
  have hp := pow_lt_B s hs
  have HR := Lib.hid (mul_room (a := 0) (V_below hx.2.2.2.1 hx.1) hp (by decide))
  obtain ⟨p, hpp⟩ : ∃ p : Nat, 2 ^ s = p := ⟨_, rfl⟩
  have hw1 : IntKind.u64.wrap ((1 : Int) * 2 ^ s) = (p : Int) := by
    have := wrap_u64 1 s
    rw [Nat.one_mul, Nat.mod_eq_of_lt hp, hpp] at this
    exact this
  have hw2 : IntKind.u64.wrap ((2 : Int) ^ s) = (p : Int) := by rw [← hw1, Int.one_mul]
  have Hx := Lib.hid (And.intro hx (And.intro (show p < B64 by rw [← hpp]; exact hp) hpp))
  clear hx hp hpp
  go_enter Try.func84, Try.ntmps84
  go_wp2_with (fail)
  go_region_held3 (fun w' => True) (trivial)
    (first | ((go_at_call 65; refine (Digits_ok _ _ _ xs w.drew (by omega) Hx.out.1).mono ?_; rintro e w1 ⟨v1, ds1, rfl, hn1, hd1, hv1, hb1⟩; obtain ⟨A1, c1, rfl, hs1⟩ := hn1.sl; have H1 := Lib.hid (And.intro hs1 (And.intro hd1 (And.intro hv1 (belowA hb1)))); clear hs1 hd1 hv1 hb1 hn1)) | ((go_at_call 108; refine (Word_ok p _ Hx.out.2.1).mono ?_; rintro e w2 ⟨A2, ds2, rfl, hs2, hd2, hv2, hb2⟩; have H2 := Lib.hid (And.intro (H1.out.1.below hb2) (And.intro hs2 (And.intro hd2 (And.intro hv2 (H1.out.2.2.2.trans (hb2.mono H1.out.2.2.2.size)))))); clear hs2 hd2 hv2 hb2)) | ((go_at_call 72; refine (Times_ok _ _ _ _ _ _ ds1 ds2 _ (by omega) (by omega) H2.out.1 H2.out.2.1 H1.out.2.1 H2.out.2.2.1).mono ?_; rintro e w3 ⟨v3, ds3, rfl, hn3, hd3, hv3, hb3⟩; obtain ⟨A3, c3, rfl, hs3⟩ := hn3.sl; have H3 := Lib.hid (And.intro hs3 (And.intro hd3 (And.intro (show VD ds3 = V xs * p by rw [hv3, H1.out.2.2.1, H2.out.2.2.2.1]) (H2.out.2.2.2.2.trans (hb3.mono H2.out.2.2.2.2.size))))); clear hs3 hd3 hv3 hb3 hn3)) | ((go_at_call 99; refine (Cut_ok _ _ _ n ds3 _ (by omega) (by omega) H3.out.1 H3.out.2.1 (by rw [H3.out.2.2.1, Nat.pow_succ, ← Hx.out.2.2]; have := HR.out; omega)).mono ?_; rintro e w4 ⟨v4, zs, d, rfl, hn4, hd4, hv4, hb4⟩; have H4 := Lib.hid (And.intro hn4 (And.intro hv4 hb4)); clear hn4 hv4 hb4 hd4)))
  go_wp2_with (fail)
  go_ret2
  obtain ⟨h1, h2, h3⟩ := H4.out
  have h4 := H3.out.2.2.2
  rw [H3.out.2.2.1, ← Hx.out.2.2] at h2
  exact ⟨v4, zs, d, rfl, ⟨h1.1, h1.2.1, own_base h1.2.2 h4.size⟩, h2, h4.trans (h3.mono h4.size)⟩
end Go.Proofs.Ytalcikmngglplaa

namespace Go.Proofs.Ytalcikmngglplaa
open Go.RowKit
set_option linter.unusedVariables false
set_option maxRecDepth 10000

/-- What Right's loop keeps, k words from the top done; e is what falls. -/
def RI (w : World) (g n : Nat) (xs : List Nat) (s k e : Nat) (zs : List Nat) (W : World) : Prop :=
  w.heap.size ≤ g ∧ RowAt W g zs ∧ zs.length = n ∧ Ws zs ∧ e < 2 ^ s ∧ V (zs.drop (n - k)) * 2 ^ s + e = V (xs.drop (n - k)) ∧ Below w.heap.size w W
theorem RI.step {w W : World} {g n s k i x e : Nat} {xs zs : List Nat} (h : RI w g n xs s k e zs W) (hs : s ≤ 63) (hl : xs.length = n) (hi : i + 1 + k = n) (hx : xs[i]? = some x) (hxB : x < B64) :
    x / 2 ^ s + 2 ^ (64 - s) * e < B64 ∧ RI w g n xs s (k + 1) (x % 2 ^ s) (zs.set i (x / 2 ^ s + 2 ^ (64 - s) * e)) (W.setCell ⟨g, i, none⟩ (.int .u64 (x / 2 ^ s + 2 ^ (64 - s) * e : Nat))) := by
  obtain ⟨h0, h1, h2, h3, h4, h5, h6⟩ := h
  have hp : 0 < 2 ^ s := Nat.pow_pos (by decide)
  have hz := right_lt (pow_split s hs) hxB h4
  refine ⟨hz, h0, h1.set i _, by rw [List.length_set]; exact h2, Ws_set h3 i _ hz, Nat.mod_lt _ hp, ?_, h6.setCell (p := ⟨g, i, none⟩) h0 _⟩
  have e1 : n - (k + 1) = i := by omega
  have e2 : n - k = i + 1 := by omega
  rw [e1, V_drop xs i x hx, V_drop (zs.set i _) i _ (by rw [List.getElem?_set_self (by omega)]), drop_set]
  rw [e2] at h5
  exact right_step (pow_split s hs) h5

set_option maxHeartbeats 1000000 in
theorem RRight_ok (A : Option Addr) (n c : Nat) (xs : List Nat) (s : Nat) (w : World) (hn : n ≤ 4096) (hx : Sl w A n c xs) (hs : s ≤ 63) :
    Calls Try.prog 83 #[.slice A n c, .int .i64 s] w fun e w' => ∃ v zs, ∃ d : Nat, e = .returned (.tuple #[v, .int .u64 (d * 2 ^ (64 - s) : Nat)]) ∧ d < 2 ^ s ∧ Nw w w' v n zs ∧ V zs * 2 ^ s + d = V xs ∧ Below w.heap.size w w' := by
  obtain ⟨i0, hi, hz0, hz1, hz2⟩ := info_parts Try.info37
  have Hx := Lib.hid hx
  clear hx
  go_enter Try.func83, Try.ntmps83
  go_wp2_with (at_make; refine wpList_make_full _ rfl _ _ 22 rfl w.heap.size 37 i0 (.int .u64 0) 1 Try.underlying22 hi hz0 hz1 .i64 .i64 _ _ n rfl rfl rfl rfl (by rw [hz2]; omega) (by unfold maxLen; omega) (Nat.le_refl _) ?_)
  intro w1 hown hgrow
  have hb1 := below_of_grown hgrow (Nat.le_refl _)
  have hrow := RowAt_zeros (by simpa using hown)
  have HT : Hid (RI w w.heap.size n xs s 0 0 (List.replicate n 0) w1) := ⟨Nat.le_refl _, hrow, by simp, (Dg_zeros' n).ws, Nat.pow_pos (by decide), by rw [Nat.sub_zero, V_drop_all xs n (by rw [Hx.out.1]; exact Nat.le_refl _), V_drop_all _ n (by simp), Nat.zero_mul], hb1⟩
  clear hown hgrow hb1 hrow
  generalize w.heap.size = g at *
  go_wp2
  go_loopw [7, 8] (fun fv iv wr => ∃ (k f e : Nat) (j : Int) (zs : List Nat), k ≤ n ∧ iv = .int .i64 j ∧ j + 1 + k = n ∧ fv = .int .u64 f ∧ Hid (f = e * 2 ^ (64 - s) ∧ RI w g n xs s k e zs wr)) (fun _ iv _ => (intOf iv + 1).toNat)
  case atStart => exact ⟨0, 0, 0, (n : Int) - 1, _, by omega, rfl, by omega, rfl, by simp, HT.out⟩
  case round =>
    clear HT
    obtain ⟨k, f, e, j, zs, hkn, rfl, hj, rfl, hH⟩ := hrel
    by_cases hlt : k < n
    · obtain ⟨i, rfl⟩ := Int.eq_ofNat_of_zero_le (show 0 ≤ j by omega)
      have hil : i < xs.length := by rw [Hx.out.1]; omega
      have hg := List.getElem?_eq_getElem hil
      have hxB : xs[i] < B64 := Hx.out.2.2.2.1 _ (List.getElem_mem hil)
      obtain ⟨b, o, rfl, hb, hcx⟩ := Hx.out.2.2.2.2.at (uvs_get hg)
      generalize xs[i] = x at *
      have hR := hH.out.2
      have hcx2 := (hR.2.2.2.2.2.2.cell (p := ⟨b, o + i, none⟩) hb).trans hcx
      have hzl : i < zs.length := by rw [hR.2.2.1]; omega
      have hcz := hR.2.1.cell (List.getElem?_eq_getElem hzl)
      have hfz := hR.2.1.frozen i
      obtain ⟨hzB, hst⟩ := hR.step hs Hx.out.1 (show i + 1 + k = n by omega) hg hxB
      obtain ⟨q, hq, hq2⟩ : ∃ q : Nat, (x : Int) / 2 ^ s = (q : Int) ∧ q = x / 2 ^ s := ⟨x / 2 ^ s, by simp, rfl⟩
      have hz1' : f + q = x / 2 ^ s + 2 ^ (64 - s) * e := by rw [hH.out.1, hq2, Nat.mul_comm e, Nat.add_comm]
      obtain ⟨z, hz, hz2⟩ : ∃ z : Nat, (f : Int) + (q : Int) = (z : Int) ∧ z = x / 2 ^ s + 2 ^ (64 - s) * e := ⟨f + q, by omega, hz1'⟩
      rw [← hz2] at hst hzB
      have hzb : (z : Int) < 18446744073709551616 := by have hB : B64 = 18446744073709551616 := rfl; omega
      have hin : (i : Int) < n := by omega
      have hsh : IntKind.u64.wrap ((x : Int) * 2 ^ (64 - s)) = ((x % 2 ^ s * 2 ^ (64 - s) : Nat) : Int) := by
        rw [wrap_u64, shl_mod B64 x (2 ^ s) (2 ^ (64 - s)) (by rw [Nat.mul_comm]; exact pow_split s hs), Nat.mul_comm]
      obtain ⟨f', hf', hf2⟩ : ∃ f' : Nat, ((x % 2 ^ s * 2 ^ (64 - s) : Nat) : Int) = (f' : Int) ∧ f' = x % 2 ^ s * 2 ^ (64 - s) := ⟨_, rfl, rfl⟩
      rw [hf'] at hsh
      have HS := Lib.hid (And.intro hst hf2)
      have Hj := Lib.hid hj
      have hbg : b ≠ g := by have := hR.1; omega
      generalize zs[i] = zi at *
      clear hst hf2 hg hR hH hzl hq2 hz1' hz2 hf' hxB hzB hj hcx
      by_cases hs0 : 0 < s
      · go_wp2
        go_roundw
        case rel => exact ⟨k + 1, f', _, (i : Int) - 1, _, by omega, rfl, by have := Hj.out; omega, rfl, HS.out.2, HS.out.1⟩
        case measure => simp [intOf]
      · have hs00 : s = 0 := by omega
        have hf0 : f' = 0 := by rw [HS.out.2, hs00]; simp [Nat.mod_one]
        have HS2 : Hid (0 = x % 2 ^ s * 2 ^ (64 - s)) := by rw [← HS.out.2]; exact hf0.symm
        clear hf0 hs00
        go_wp2
        go_roundw
        case rel => exact ⟨k + 1, 0, _, (i : Int) - 1, _, by omega, rfl, by have := Hj.out; omega, rfl, HS2.out, HS.out.1⟩
        case measure => simp [intOf]
    · have hkn' : k = n := by omega
      have hneg : j < 0 := by omega
      have Hk := Lib.hid hkn'
      have hfe := hH.out.1
      have Hf := Lib.hid hfe
      clear hj hkn' hfe
      go_wp2
      go_ret2
      have hk := Hk.out
      have hf := Hf.out
      subst hk
      subst hf
      obtain ⟨h0, h1, h2, h3, h4, h5, h6⟩ := hH.out.2
      rw [Nat.sub_self, List.drop_zero, List.drop_zero] at h5
      have hown := h1.own h0 (by omega)
      rw [h2] at hown
      exact ⟨_, zs, e, rfl, h4, ⟨h2, h3, hown⟩, h5, h6⟩
end Go.Proofs.Ytalcikmngglplaa

namespace Go.Proofs.Ytalcikmngglplaa
open Go.RowKit
set_option linter.unusedVariables false

theorem append_ty {P : Program} (w : World) (t t' ty e : TypeId) (args : Array Value) (ht : P.underlying t = some (.slice e)) (ht' : P.underlying t' = some (.slice e)) : (Builtin.append_ #[t, t'] ty args).run P w = (Builtin.append_ #[t, t] ty args).run P w := by
  simp only [Builtin.append_, List.getElem?_toArray, List.getElem?_cons_zero, List.getElem?_cons_succ]
  match h0 : args[0]?, h1 : args[1]? with
  | none, _ => rfl
  | some a, none => rfl
  | some a, some b =>
    cases a with
    | slice A m c =>
      simp only [Sem.run_bind, run_underlying ht, run_underlying ht', Result.andThen_ok]
    | _ => simp only [Sem.run_bind, run_underlying ht, Result.andThen_ok]

theorem wpList_append_ty {P : Program} (w : World) {ops : Array Oper} {rest : List Oper} {o : Oper} {a : Act} {Q : Exit → Act → World → Prop} (hgd : o.guard = none) (s x : Operand) (t t' : TypeId)
    (ho : o.op = .call { callee := .builtin .append, args := #[s, x], argTypes := #[t, t'] })
    (base : Nat) (e : TypeId) (i : TypeInfo) (z : Value) (ht : P.underlying t = some (.slice e)) (ht' : P.underlying t' = some (.slice e)) (hi : P.info? e = some i) (hz : i.zero = some z)
    (hsize : i.size = 1) (hby : i.bytes = 8) (hzs : z.cells.size = 1)
    (v : Value) (n : Nat) (xs : List Value) (hs : a.eval s = v) (hown : w.ownsRow base e 1 v n xs)
    (B : Nat) (A : Option Addr) (m c : Nat) (news : List Value) (hx : a.eval x = .slice A m c) (hm : news.length = m) (hr : Rd w B A news) (h1 : ∀ u ∈ news, u.oneCell' = true)
    (hlen : n + m ≤ 17592186044416) (hbase : base ≤ w.heap.size)
    (h : ∀ v' w', w'.ownsRow base e 1 v' (n + m) (xs ++ news) → w.grownBy w' v.ownBlock → (v'.ownBlock = v.ownBlock ∨ v'.ownBlock = some w.heap.size) → wpList P ops Q rest (a.put o.dst v') w') : wpList P ops Q (o :: rest) a w := by
  refine wpList_plain hgd fun K hK => ?_
  obtain ⟨v', w', hrun, h2, h3, h4⟩ := run_append_rd (P := P) w base t o.type e i z ht hi hz hsize hby hzs v n xs hown B A m c news hm hr h1 hlen hbase
  rw [← append_ty w t t' o.type e _ ht ht'] at hrun
  unfold Oper.wp execOp
  simp only [ho, resolve, invoke, builtin, Sem.run_bind, Sem.run_pure, Result.andThen_ok, List.map_toArray, List.map_cons, List.map_nil, hs, hx, hrun]
  exact hK _ _ (h v' w' h2 h3 h4)
end Go.Proofs.Ytalcikmngglplaa

namespace Go.Proofs.Ytalcikmngglplaa
open Go.RowKit Go.Shelf
set_option linter.unusedVariables false
set_option maxRecDepth 10000

set_option maxHeartbeats 400000 in
theorem checkShift_ok (A : Option Addr) (n c s : Nat) (w : World) (hn : n ≤ 4096) (hs : s ≤ 262144) :
    Calls Try.prog 80 #[.slice A n c, .int .i64 s] w fun e w' => e = .returned (.int .i64 0) ∧ Below w.heap.size w w' := by
  have Hk := Lib.hid (chkS_one (A := A) (c := c) hn)
  have h1 : ¬ ((s : Int) < 0) := by omega
  have h2 : ¬ (262144 : Int) < (s : Int) := by omega
  clear hs
  go_enter Try.func80, Try.ntmps80
  go_wp2_with (fail)
  refine (checkSizes_one A _ c _ _ w rfl).mono ?_
  rintro e w1 ⟨rfl, hb1⟩
  rw [Hk.out]
  go_wp2_with (fail)
  go_ret
  exact ⟨rfl, hb1⟩
set_option maxHeartbeats 400000 in
theorem checkShift_arg (A : Option Addr) (n c : Nat) (s : Int) (w : World) (hn : n ≤ 4096) (hs : s < 0 ∨ 262144 < s) :
    Calls Try.prog 80 #[.slice A n c, .int .i64 s] w fun e w' => e = .returned (.int .i64 1) ∧ Below w.heap.size w w' := by
  have Hk := Lib.hid (chkS_one (A := A) (c := c) hn)
  have hcs : s < 0 ∨ (¬ s < 0 ∧ 262144 < s) := by omega
  clear hs
  rcases hcs with h1 | ⟨h1, h2⟩
  all_goals
    go_enter Try.func80, Try.ntmps80
    go_wp2_with (fail)
    refine (checkSizes_one A _ c _ _ w rfl).mono ?_
    rintro e w1 ⟨rfl, hb1⟩
    rw [Hk.out]
    go_wp2_with (fail)
    go_ret
    exact ⟨rfl, hb1⟩
set_option maxHeartbeats 400000 in
theorem checkShift_big (A : Option Addr) (n c : Nat) (s : Int) (w : World) (hn : 4096 < n) :
    Calls Try.prog 80 #[.slice A n c, .int .i64 s] w fun e w' => e = .returned (.int .i64 2) ∧ Below w.heap.size w w' := by
  have Hk := Lib.hid (chkS_one_big (A := A) (c := c) hn)
  go_enter Try.func80, Try.ntmps80
  go_wp2_with (fail)
  refine (checkSizes_one A _ c _ _ w rfl).mono ?_
  rintro e w1 ⟨rfl, hb1⟩
  rw [Hk.out]
  go_wp2_with (fail)
  go_ret
  exact ⟨rfl, hb1⟩
/-- the call answers e alone -/
theorem NLeft_err {A : Option Addr} {n c : Nat} {s : Int} {E : Int} {w : World} (hE : (E == 0) = false)
    (H : Calls Try.prog 80 #[.slice A n c, .int .i64 s] w fun e w' => e = .returned (.int .i64 E) ∧ Below w.heap.size w w') :
    Calls Try.prog 32 #[.slice A n c, .int .i64 s] w fun e w' => e = .returned (.tuple #[.slice none 0 0, .int .i64 E]) ∧ Below w.heap.size w w' := by
  have Hc := Lib.hid H
  have hE2 : (E != 0) = true := by rw [bne, hE]; rfl
  clear H
  go_enter Try.func32, Try.ntmps32
  go_wp2_with (fail)
  refine Hc.out.mono ?_
  rintro e w1 ⟨rfl, hb1⟩
  go_wp2_with (fail)
  go_ret2
  exact ⟨rfl, hb1⟩
theorem NRight_err {A : Option Addr} {n c : Nat} {s : Int} {E : Int} {w : World} (hE : (E == 0) = false)
    (H : Calls Try.prog 80 #[.slice A n c, .int .i64 s] w fun e w' => e = .returned (.int .i64 E) ∧ Below w.heap.size w w') :
    Calls Try.prog 33 #[.slice A n c, .int .i64 s] w fun e w' => e = .returned (.tuple #[.slice none 0 0, .int .i64 E]) ∧ Below w.heap.size w w' := by
  have Hc := Lib.hid H
  have hE2 : (E != 0) = true := by rw [bne, hE]; rfl
  clear H
  go_enter Try.func33, Try.ntmps33
  go_wp2_with (fail)
  refine Hc.out.mono ?_
  rintro e w1 ⟨rfl, hb1⟩
  go_wp2_with (fail)
  go_ret2
  exact ⟨rfl, hb1⟩
theorem NLow_err {A : Option Addr} {n c : Nat} {s : Int} {E : Int} {w : World} (hE : (E == 0) = false)
    (H : Calls Try.prog 80 #[.slice A n c, .int .i64 s] w fun e w' => e = .returned (.int .i64 E) ∧ Below w.heap.size w w') :
    Calls Try.prog 34 #[.slice A n c, .int .i64 s] w fun e w' => e = .returned (.tuple #[.slice none 0 0, .int .i64 E]) ∧ Below w.heap.size w w' := by
  have Hc := Lib.hid H
  have hE2 : (E != 0) = true := by rw [bne, hE]; rfl
  clear H
  go_enter Try.func34, Try.ntmps34
  go_wp2_with (fail)
  refine Hc.out.mono ?_
  rintro e w1 ⟨rfl, hb1⟩
  go_wp2_with (fail)
  go_ret2
  exact ⟨rfl, hb1⟩

set_option maxHeartbeats 1000000 in
theorem NLeft_ok (A : Option Addr) (n c : Nat) (xs : List Nat) (s : Nat) (w : World) (hn : n ≤ 4096) (hs : s ≤ 262144) (hx : Sl w A n c xs) :
    Calls Try.prog 32 #[.slice A n c, .int .i64 s] w fun e w' => Rs w w' e (V xs * 2 ^ s) := by
  obtain ⟨i0, hi, hz0, hz1, hz2⟩ := info_parts Try.info37
  have Hx := Lib.hid hx
  obtain ⟨q, r, hqr, hr, hq1, hq2, hr1, hr2⟩ : ∃ q r : Nat, s = 64 * q + r ∧ r ≤ 63 ∧ (s : Int).tdiv 64 = (q : Int) ∧ (s : Int) / 64 = (q : Int) ∧ (s : Int).tmod 64 = (r : Int) ∧ (s : Int) % 64 = (r : Int) :=
    ⟨s / 64, s % 64, by omega, by omega, by rw [Int.tdiv_eq_ediv_of_nonneg (by omega)]; omega, by omega, by rw [Int.tmod_eq_emod_of_nonneg (by omega)]; omega, by omega⟩
  have hqw : IntKind.i64.wrap (q : Int) = (q : Int) := IntWalk.i64_in _ (by omega)
  have hq : q ≤ 4096 := by omega
  have HS := Lib.hid (And.intro hs hqr)
  clear hx hs hqr
  go_enter Try.func32, Try.ntmps32
  go_wp2_with (fail)
  refine (checkShift_ok A n c s w hn HS.out.1).mono ?_
  rintro e w1 ⟨rfl, hb1⟩
  have H1 := Lib.hid (And.intro (Hx.out.below hb1) hb1)
  clear hb1
  go_wp2_with (fail)
  refine (Left_ok A n c xs r w1 hn H1.out.1 hr).mono ?_
  rintro e w2 ⟨v2, zs, d, rfl, hd, hv, hnw, hb2⟩
  obtain ⟨A2, c2, rfl, hs2⟩ := hnw.sl
  have H2 := Lib.hid (And.intro hs2 (And.intro (shl_value (q := q) hv) (And.intro (Nat.lt_of_lt_of_le hd (Nat.le_of_lt (pow_lt r hr))) (H1.out.2.trans (hb2.mono H1.out.2.size)))))
  clear hs2 hv hd hnw hb2 H1
  go_wp2_with (at_make; refine wpList_make_full _ rfl _ _ 23 rfl w2.heap.size 37 i0 (.int .u64 0) 1 Try.underlying23 hi hz0 hz1 .i64 .i64 _ _ q rfl rfl rfl rfl (by rw [hz2]; omega) (by unfold maxLen; omega) (Nat.le_refl _) ?_)
  intro w3 hown hgrow
  have hb3 := below_of_grown hgrow (Nat.le_refl _)
  rw [zeros_cells] at hown
  have Hl := Lib.hid (And.intro (show (uvs zs).length = n by rw [uvs_length]; exact H2.out.1.1) (H2.out.1.2.2.2.2.below hb3))
  have hsz := hb3.size
  clear hgrow
  go_wp2_with (at_builtin; refine wpList_append_ty _ rfl (.tmp 27) (.tmp 28) 23 22 rfl w2.heap.size 37 i0 (.int .u64 0) Try.underlying23 Try.underlying22 hi hz0 hz1 hz2 rfl (.slice (some ⟨w2.heap.size, 0, none⟩) q q) q (uvs (List.replicate q 0)) rfl hown w2.heap.size A2 n c2 (uvs zs) rfl Hl.out.1 Hl.out.2 (uvs_one _) (by omega) (by omega) ?_)
  intro v4 w4 hown4 hgrow4 hblk
  have hb4 : Below w2.heap.size w2 w4 := hb3.grown hgrow4 hsz (fun j hj => (hown.lt j hj).1)
  have hsz4 := hb4.size
  clear hown hgrow4 hblk Hl hsz hb3
  go_wp2_with (at_builtin; refine wpList_append_rd _ rfl (.tmp 30) (.tmp 32) 23 rfl w2.heap.size 37 i0 (.int .u64 0) Try.underlying23 hi hz0 hz1 hz2 rfl v4 (q + n) _ rfl (hown4.alloc _) _ (some ⟨w4.heap.size, 0, none⟩) 1 1 [.int .u64 (d : Int)] rfl rfl (Rd.one _ _ _) (by simp [Value.oneCell']) (by omega) (by simp; omega) ?_)
  intro v5 w5 hown5 hgrow hblk
  have hb5 : Below w2.heap.size w2 w5 := (hb4.alloc hb4.size _).grown hgrow (by simp; omega) (fun j hj => (hown4.lt j hj).1)
  obtain ⟨us, hus⟩ : ∃ us, List.replicate q 0 ++ zs ++ [d] = us := ⟨_, rfl⟩
  have hul : us.length = q + n + 1 := by rw [← hus]; simp [H2.out.1.1]; omega
  have huv : V us = V xs * 2 ^ s := by
    rw [← hus, V_append, V_append, V_zeros', Nat.zero_add, HS.out.2, ← H2.out.2.1]
    simp only [List.length_append, List.length_replicate, H2.out.1.1, V, Nat.mul_zero, Nat.add_zero]
    rw [Nat.pow_add, Nat.add_mul]
    generalize B64 ^ q = p
    generalize B64 ^ n = p'
    grind
  have hnw : Nw w2 w5 v5 (q + n + 1) us := ⟨hul, by rw [← hus]; exact Ws_snoc (Ws_up q H2.out.1.2.2.2.1) H2.out.2.2.1, by rw [← hus, uvs_append, uvs_append, List.append_assoc]; exact hown5⟩
  obtain ⟨A5, c5, rfl, _⟩ := hnw.sl
  have H5 := Lib.hid (And.intro hnw (And.intro huv (H2.out.2.2.2.trans (hb5.mono H2.out.2.2.2.size))))
  clear hown4 hown5 hgrow hblk hb5 hnw huv hul hus hb4 hsz4
  go_wp2_with (fail)
  refine (result_ok w2 A5 (q + n + 1) c5 us w5 (by omega) H5.out.1).mono ?_
  rintro e w6 ⟨h6, rfl⟩
  rw [H5.out.2.1] at h6
  rcases h6 with ⟨v, rfl, h7⟩ | ⟨rfl, h7⟩
  · have H7 := Lib.hid h7
    clear h7
    go_wp2_with (fail)
    go_ret2
    exact ⟨.inl ⟨v, rfl, H7.out.1.base H2.out.2.2.2.size, H7.out.2⟩, H5.out.2.2⟩
  · have H7 := Lib.hid h7
    clear h7
    go_wp2_with (fail)
    go_ret2
    exact ⟨.inr ⟨rfl, H7.out⟩, H5.out.2.2⟩
end Go.Proofs.Ytalcikmngglplaa

namespace Go.Proofs.Ytalcikmngglplaa
open Go.RowKit Go.Shelf
set_option linter.unusedVariables false
set_option maxRecDepth 10000

set_option maxHeartbeats 1000000 in
theorem NRight_ok (A : Option Addr) (n c : Nat) (xs : List Nat) (s : Nat) (w : World) (hn : n ≤ 4096) (hs : s ≤ 262144) (hx : Sl w A n c xs) :
    Calls Try.prog 33 #[.slice A n c, .int .i64 s] w fun e w' => ∃ v, e = .returned (.tuple #[v, .int .i64 0]) ∧ Nt w w' v (V xs / 2 ^ s) ∧ Below w.heap.size w w' := by
  have Hx := Lib.hid hx
  obtain ⟨q, r, hqr, hr, hq1, hq2, hr1, hr2⟩ : ∃ q r : Nat, s = 64 * q + r ∧ r ≤ 63 ∧ (s : Int).tdiv 64 = (q : Int) ∧ (s : Int) / 64 = (q : Int) ∧ (s : Int).tmod 64 = (r : Int) ∧ (s : Int) % 64 = (r : Int) :=
    ⟨s / 64, s % 64, by omega, by omega, by rw [Int.tdiv_eq_ediv_of_nonneg (by omega)]; omega, by omega, by rw [Int.tmod_eq_emod_of_nonneg (by omega)]; omega, by omega⟩
  have hqw : IntKind.i64.wrap (q : Int) = (q : Int) := IntWalk.i64_in _ (by omega)
  have hnc := hx.2.1
  have HS := Lib.hid (And.intro hs (And.intro hqr hx.1))
  clear hx hs hqr
  rcases Nat.lt_or_ge q n with hqn | hqn
  · have hcq : ¬ c = q := by omega
    have hqi : (q : Int) ≤ (n : Int) := by omega
    have hmin : min (q : Int) (n : Int) = (q : Int) := by omega
    go_enter Try.func33, Try.ntmps33
    go_wp2_with (fail)
    refine (checkShift_ok A n _ s w hn HS.out.1).mono ?_
    rintro e w1 ⟨rfl, hb1⟩
    have H1 := Lib.hid (And.intro (Hx.out.below hb1) hb1)
    clear hb1
    go_wp2_with (fail)
    refine (Right_ok _ _ _ (xs.drop q) r w1 (by omega) (by have h := H1.out.1.dp (k := q) (by omega); rw [if_neg hcq] at h; exact h) hr).mono ?_
    rintro e w2 ⟨v2, zs, d, rfl, hd, hv, hnw, hb2⟩
    have hval := shr_value Hx.out.2.2.2.1 HS.out.2.2 HS.out.2.1 (by omega) hv hd
    obtain ⟨A2, c2, rfl, hs2⟩ := hnw.sl
    have H2 := Lib.hid (And.intro hs2 (And.intro hnw (And.intro hval (And.intro H1.out.2.size (H1.out.2.trans (hb2.mono H1.out.2.size))))))
    have hdw : d < B64 := Nat.lt_of_lt_of_le hd (Nat.le_of_lt (pow_lt r hr))
    clear hs2 hv hnw hb2 H1 hval
    go_wp2_with (fail)
    refine (used_ok A2 _ c2 zs w2 (by omega) H2.out.1).mono ?_
    rintro e w3 ⟨j, rfl, hj, hH, rfl⟩
    have H3 := Lib.hid (And.intro hj hH.out)
    clear hj hH
    go_wp2_with (fail)
    go_ret2
    exact ⟨_, rfl, (Nt.base ⟨j, zs.take j, H2.out.2.1.tk H3.out.1, H3.out.2.2, by rw [H3.out.2.1]; exact H2.out.2.2.1⟩ H2.out.2.2.2.1), H2.out.2.2.2.2⟩
  · rcases Nat.eq_or_lt_of_le hqn with rfl | hqn
    · by_cases hcn : c = n
      · obtain rfl : n = c := hcn.symm
        clear hcn
        have hmin : min (n : Int) (n : Int) = (n : Int) := by omega
        go_enter Try.func33, Try.ntmps33
        go_wp2_with (fail)
        refine (checkShift_ok A n _ s w hn HS.out.1).mono ?_
        rintro e w1 ⟨rfl, hb1⟩
        have H1 := Lib.hid (And.intro (Hx.out.below hb1) hb1)
        clear hb1
        go_wp2_with (fail)
        refine (Right_ok _ _ _ (xs.drop n) r w1 (by omega) (by have h := H1.out.1.dp (k := n) (by omega); rw [if_pos rfl, Nat.sub_self] at h; exact h) hr).mono ?_
        rintro e w2 ⟨v2, zs, d, rfl, hd, hv, hnw, hb2⟩
        have hval := shr_value Hx.out.2.2.2.1 HS.out.2.2 HS.out.2.1 (by omega) hv hd
        obtain ⟨A2, c2, rfl, hs2⟩ := hnw.sl
        have H2 := Lib.hid (And.intro hs2 (And.intro hnw (And.intro hval (And.intro H1.out.2.size (H1.out.2.trans (hb2.mono H1.out.2.size))))))
        have hdw : d < B64 := Nat.lt_of_lt_of_le hd (Nat.le_of_lt (pow_lt r hr))
        clear hs2 hv hnw hb2 H1 hval
        go_wp2_with (fail)
        refine (used_ok A2 _ c2 zs w2 (by omega) H2.out.1).mono ?_
        rintro e w3 ⟨j, rfl, hj, hH, rfl⟩
        have H3 := Lib.hid (And.intro hj hH.out)
        clear hj hH
        go_wp2_with (fail)
        go_ret2
        exact ⟨_, rfl, (Nt.base ⟨j, zs.take j, H2.out.2.1.tk H3.out.1, H3.out.2.2, by rw [H3.out.2.1]; exact H2.out.2.2.1⟩ H2.out.2.2.2.1), H2.out.2.2.2.2⟩
      · skip
        have hmin : min (n : Int) (n : Int) = (n : Int) := by omega
        go_enter Try.func33, Try.ntmps33
        go_wp2_with (fail)
        refine (checkShift_ok A n _ s w hn HS.out.1).mono ?_
        rintro e w1 ⟨rfl, hb1⟩
        have H1 := Lib.hid (And.intro (Hx.out.below hb1) hb1)
        clear hb1
        go_wp2_with (fail)
        refine (Right_ok _ _ _ (xs.drop n) r w1 (by omega) (by have h := H1.out.1.dp (k := n) (by omega); rw [if_neg hcn, Nat.sub_self] at h; exact h) hr).mono ?_
        rintro e w2 ⟨v2, zs, d, rfl, hd, hv, hnw, hb2⟩
        have hval := shr_value Hx.out.2.2.2.1 HS.out.2.2 HS.out.2.1 (by omega) hv hd
        obtain ⟨A2, c2, rfl, hs2⟩ := hnw.sl
        have H2 := Lib.hid (And.intro hs2 (And.intro hnw (And.intro hval (And.intro H1.out.2.size (H1.out.2.trans (hb2.mono H1.out.2.size))))))
        have hdw : d < B64 := Nat.lt_of_lt_of_le hd (Nat.le_of_lt (pow_lt r hr))
        clear hs2 hv hnw hb2 H1 hval
        go_wp2_with (fail)
        refine (used_ok A2 _ c2 zs w2 (by omega) H2.out.1).mono ?_
        rintro e w3 ⟨j, rfl, hj, hH, rfl⟩
        have H3 := Lib.hid (And.intro hj hH.out)
        clear hj hH
        go_wp2_with (fail)
        go_ret2
        exact ⟨_, rfl, (Nt.base ⟨j, zs.take j, H2.out.2.1.tk H3.out.1, H3.out.2.2, by rw [H3.out.2.1]; exact H2.out.2.2.1⟩ H2.out.2.2.2.1), H2.out.2.2.2.2⟩
    · by_cases hcn : c = n
      · obtain rfl : n = c := hcn.symm
        clear hcn
        have hqi : ¬ (q : Int) ≤ (n : Int) := by omega
        have hmin : min (q : Int) (n : Int) = (n : Int) := by omega
        go_enter Try.func33, Try.ntmps33
        go_wp2_with (fail)
        refine (checkShift_ok A n _ s w hn HS.out.1).mono ?_
        rintro e w1 ⟨rfl, hb1⟩
        have H1 := Lib.hid (And.intro (Hx.out.below hb1) hb1)
        clear hb1
        go_wp2_with (fail)
        refine (Right_ok _ _ _ (xs.drop n) r w1 (by omega) (by have h := H1.out.1.dp (k := n) (by omega); rw [if_pos rfl, Nat.sub_self] at h; exact h) hr).mono ?_
        rintro e w2 ⟨v2, zs, d, rfl, hd, hv, hnw, hb2⟩
        have hval := shr_value Hx.out.2.2.2.1 HS.out.2.2 HS.out.2.1 (by omega) hv hd
        obtain ⟨A2, c2, rfl, hs2⟩ := hnw.sl
        have H2 := Lib.hid (And.intro hs2 (And.intro hnw (And.intro hval (And.intro H1.out.2.size (H1.out.2.trans (hb2.mono H1.out.2.size))))))
        have hdw : d < B64 := Nat.lt_of_lt_of_le hd (Nat.le_of_lt (pow_lt r hr))
        clear hs2 hv hnw hb2 H1 hval
        go_wp2_with (fail)
        refine (used_ok A2 _ c2 zs w2 (by omega) H2.out.1).mono ?_
        rintro e w3 ⟨j, rfl, hj, hH, rfl⟩
        have H3 := Lib.hid (And.intro hj hH.out)
        clear hj hH
        go_wp2_with (fail)
        go_ret2
        exact ⟨_, rfl, (Nt.base ⟨j, zs.take j, H2.out.2.1.tk H3.out.1, H3.out.2.2, by rw [H3.out.2.1]; exact H2.out.2.2.1⟩ H2.out.2.2.2.1), H2.out.2.2.2.2⟩
      · skip
        have hqi : ¬ (q : Int) ≤ (n : Int) := by omega
        have hmin : min (q : Int) (n : Int) = (n : Int) := by omega
        go_enter Try.func33, Try.ntmps33
        go_wp2_with (fail)
        refine (checkShift_ok A n _ s w hn HS.out.1).mono ?_
        rintro e w1 ⟨rfl, hb1⟩
        have H1 := Lib.hid (And.intro (Hx.out.below hb1) hb1)
        clear hb1
        go_wp2_with (fail)
        refine (Right_ok _ _ _ (xs.drop n) r w1 (by omega) (by have h := H1.out.1.dp (k := n) (by omega); rw [if_neg hcn, Nat.sub_self] at h; exact h) hr).mono ?_
        rintro e w2 ⟨v2, zs, d, rfl, hd, hv, hnw, hb2⟩
        have hval := shr_value Hx.out.2.2.2.1 HS.out.2.2 HS.out.2.1 (by omega) hv hd
        obtain ⟨A2, c2, rfl, hs2⟩ := hnw.sl
        have H2 := Lib.hid (And.intro hs2 (And.intro hnw (And.intro hval (And.intro H1.out.2.size (H1.out.2.trans (hb2.mono H1.out.2.size))))))
        have hdw : d < B64 := Nat.lt_of_lt_of_le hd (Nat.le_of_lt (pow_lt r hr))
        clear hs2 hv hnw hb2 H1 hval
        go_wp2_with (fail)
        refine (used_ok A2 _ c2 zs w2 (by omega) H2.out.1).mono ?_
        rintro e w3 ⟨j, rfl, hj, hH, rfl⟩
        have H3 := Lib.hid (And.intro hj hH.out)
        clear hj hH
        go_wp2_with (fail)
        go_ret2
        exact ⟨_, rfl, (Nt.base ⟨j, zs.take j, H2.out.2.1.tk H3.out.1, H3.out.2.2, by rw [H3.out.2.1]; exact H2.out.2.2.1⟩ H2.out.2.2.2.1), H2.out.2.2.2.2⟩
end Go.Proofs.Ytalcikmngglplaa

namespace Go.Proofs.Ytalcikmngglplaa
open Go.RowKit Go.Shelf
set_option linter.unusedVariables false
set_option maxRecDepth 10000

set_option maxHeartbeats 400000 in
theorem DigitsW_ok (A : Option Addr) (n c : Nat) (xs : List Nat) (w : World) (hn : n ≤ 9000) (hx : Sl w A n c xs) :
    Calls Try.prog 65 #[.slice A n c] w fun e w' => ∃ v ds, e = .returned v ∧ Nw w w' v (2 * n) ds ∧ Dg ds ∧ VD ds = V xs ∧ Below w.heap.size w w' := by
  obtain ⟨i0, hi, hz0, hz1, hz2⟩ := info_parts Try.info37
  have Hx := Lib.hid hx
  clear hx
  go_enter Try.func65, Try.ntmps65
  go_wp2
  go_loopw [3, 4] (fun v i wr => ∃ (k : Nat) (ds : List Nat), k ≤ n ∧ i = .int .i64 k ∧ wr.ownsRow w.heap.size 37 1 v (2 * k) (uvs ds) ∧ Hid (Dg ds ∧ ds.length = 2 * k ∧ VD ds = V (xs.take k) ∧ Below w.heap.size w wr)) (fun _ i _ => n - (intOf i).toNat)
  case atStart => exact ⟨0, [], by omega, rfl, World.ownsRow_nil _ _ _ _, Dg_nil, rfl, by simp [VD, V], Below.refl _ _⟩
  case round =>
    obtain ⟨k, ds, hk, rfl, hown, hH⟩ := hrel
    by_cases hlt : k < n
    · obtain ⟨b, o, rfl, hb, hcx⟩ := (Hx.out.2.2.2.2.below hH.out.2.2.2).at (uvs_get (List.getElem?_eq_getElem (show k < xs.length by rw [Hx.out.1]; exact hlt)))
      have Hxk := Lib.hid (List.getElem?_eq_getElem (show k < xs.length by rw [Hx.out.1]; exact hlt))
      generalize xs[k]'(by rw [Hx.out.1]; exact hlt) = x at *
      have hki : (k : Int) < n := by omega
      obtain ⟨r, q, hrq, hrH, hqH, e1, e2, e3, e4, e5⟩ := halves x (Hx.out.2.2.2.1 x (List.mem_of_getElem? Hxk.out))
      have HR := Lib.hid (And.intro hrq (And.intro hrH hqH))
      clear hrq hrH hqH
      have Hb := Lib.hid (And.intro hb hH.out.2.2.2)
      go_wp2
      go_region_held3 (fun w' => w'.cell? ⟨b, o + k, none⟩ = some (.int .u64 (x : Int)))
        (first | go_keep | exact cell_app Hb.out.2 hown hgrow Hb.out.1 hcx)
        ((refine step_append_lies _ (by rfl) _ _ 22 (by rfl) w.heap.size 37 i0 _ 1 8 Try.underlying22 hi hz0 hz1 hz2 rfl (by omega) u3 (2 * k) (uvs ds) (by rfl) ((hown.alloc _).drew) ⟨wr.heap.size, 0, none⟩ 2 2 [.int .u64 (r : Int), .int .u64 (q : Int)] (by rfl) (by rfl) (World.news_of_block (cs := #[.int .u64 (r : Int), .int .u64 (q : Int)]) (t := 37) (fr := (0, 0)) (heap_alloc_new wr _)) (by simp [Value.oneCell']) (by omega) (by unfold maxLen; omega) (by omega) (by have := Hb.out.2.size; simp; omega) (wr.heap.size + 1) (by simp) ?_; intro gg cap w1 hown1 hgrow hat hlt1))
      have hst := digits_step hH.out.2.1 Hxk.out (by rw [Hx.out.1]; exact hlt) hH.out.2.2.1
      rw [← HR.out.1.1, ← HR.out.1.2] at hst
      have HN : Hid (Dg (ds ++ [r, q]) ∧ (ds ++ [r, q]).length = 2 * (k + 1) ∧ VD (ds ++ [r, q]) = V (xs.take (k + 1)) ∧ Below w.heap.size w w1) :=
        ⟨Dg_append hH.out.1 (fun z hz => by simp at hz; rcases hz with rfl | rfl; exact HR.out.2.1; exact HR.out.2.2), by simp [hH.out.2.1]; omega, hst, below_app Hb.out.2 hown hgrow⟩
      have hown2 : w1.ownsRow w.heap.size 37 1 (.slice (some ⟨gg, 0, none⟩) (2 * k + 2) cap) (2 * (k + 1)) (uvs (ds ++ [r, q])) := by
        rw [uvs_append]
        exact hown1
      clear hst hH hown hown1 hgrow hat hlt1 e1 e2 e3 e4 e5
      go_wp2
      go_roundw
      case rel => exact ⟨k + 1, ds ++ [r, q], by omega, by go_num, hown2, HN⟩
      case measure => simp [intOf]; omega
    · go_wp2
      go_ret
      have hkn : k = n := by omega
      subst hkn
      obtain ⟨h1, h2, h3, h4⟩ := hH.out
      rw [Hx.out.take_all] at h3
      exact ⟨_, ds, rfl, ⟨h2, h1.ws, hown⟩, h1, h3, h4⟩
set_option maxHeartbeats 400000 in
theorem RTrimW_ok (A : Option Addr) (n c : Nat) (xs : List Nat) (w : World) (hn : n ≤ 9000) (hx : Sl w A n c xs) :
    Calls Try.prog 62 #[.slice A n c] w fun e w' => Rv w w' e (V xs) := by
  have Hx := Lib.hid hx
  clear hx
  go_enter Try.func62, Try.ntmps62
  go_wp2_with (fail)
  refine (DigitsW_ok A n c xs w hn Hx.out).mono ?_
  rintro e w1 ⟨v, ds, rfl, hnw, hd, hv, hb⟩
  obtain ⟨A1, c1, rfl, hs⟩ := hnw.sl
  have H := Lib.hid (And.intro hs (And.intro hd (And.intro hv hb)))
  clear hs hd hv hb hnw
  go_wp2_with (fail)
  refine (nat_ok A1 (2 * n) c1 ds w1 (by omega) H.out.1 H.out.2.1).mono ?_
  rintro e w2 hR
  obtain ⟨v2, rfl, h2, hb2⟩ := hR.from H.out.2.2.2
  rw [H.out.2.2.1] at h2
  have H2 := Lib.hid (And.intro h2 hb2)
  clear h2 hb2 hR
  go_wp2_with (fail)
  go_ret
  exact ⟨v2, rfl, H2.out.1, H2.out.2⟩


/-- what is shifted out is a word -/
theorem shl_top {Z d n X p : Nat} {xs : List Nat} (h : Z + d * B64 ^ n = X * p) (hX : X < B64 ^ xs.length) (hl : xs.length = n) (hp : p < B64) : d < B64 := by
  rw [hl] at hX
  have h1 : X * p < B64 ^ n * B64 := Nat.lt_of_le_of_lt (Nat.mul_le_mul_left _ (Nat.le_of_lt hp)) (Nat.mul_lt_mul_of_pos_right hX B64_pos)
  have h2 : d * B64 ^ n < B64 * B64 ^ n := by rw [Nat.mul_comm B64]; omega
  exact Nat.lt_of_mul_lt_mul_right h2

set_option maxHeartbeats 1000000 in
theorem R2Left_ok (A : Option Addr) (n c : Nat) (xs : List Nat) (s : Nat) (w : World) (hn : n ≤ 4096) (hs : s ≤ 262144) (hx : Sl w A n c xs) :
    Calls Try.prog 37 #[.slice A n c, .int .i64 s] w fun e w' => Rv w w' e (V xs * 2 ^ s) := by
  obtain ⟨i0, hi, hz0, hz1, hz2⟩ := info_parts Try.info37
  have Hx := Lib.hid hx
  obtain ⟨q, r, hqr, hr, hq1, hq2, hr1, hr2⟩ : ∃ q r : Nat, s = 64 * q + r ∧ r ≤ 63 ∧ (s : Int).tdiv 64 = (q : Int) ∧ (s : Int) / 64 = (q : Int) ∧ (s : Int).tmod 64 = (r : Int) ∧ (s : Int) % 64 = (r : Int) :=
    ⟨s / 64, s % 64, by omega, by omega, by rw [Int.tdiv_eq_ediv_of_nonneg (by omega)]; omega, by omega, by rw [Int.tmod_eq_emod_of_nonneg (by omega)]; omega, by omega⟩
  have hqw : IntKind.i64.wrap (q : Int) = (q : Int) := IntWalk.i64_in _ (by omega)
  have hq : q ≤ 4096 := by omega
  have HS := Lib.hid (And.intro hs hqr)
  clear hx hs hqr
  go_enter Try.func37, Try.ntmps37
  go_wp2_with (fail)
  refine (RLeft_ok A n c xs r w hn Hx.out hr).mono ?_
  rintro e w2 ⟨v2, zs, d, rfl, hnw, hv, hb2⟩
  obtain ⟨A2, c2, rfl, hs2⟩ := hnw.sl
  have hdB : d < B64 := shl_top hv (V_lt _ Hx.out.2.2.2.1) Hx.out.1 (pow_lt r hr)
  have H2 := Lib.hid (And.intro hs2 (And.intro (shl_value (q := q) hv) (And.intro hdB hb2)))
  clear hs2 hv hdB hnw hb2
  go_wp2_with (at_make; refine wpList_make_full _ rfl _ _ 22 rfl w2.heap.size 37 i0 (.int .u64 0) 1 Try.underlying22 hi hz0 hz1 .i64 .i64 _ _ q rfl rfl rfl rfl (by rw [hz2]; omega) (by unfold maxLen; omega) (Nat.le_refl _) ?_)
  intro w3 hown hgrow
  have hb3 := below_of_grown hgrow (Nat.le_refl _)
  rw [zeros_cells] at hown
  have Hl := Lib.hid (And.intro (show (uvs zs).length = n by rw [uvs_length]; exact H2.out.1.1) (H2.out.1.2.2.2.2.below hb3))
  have hsz := hb3.size
  clear hgrow
  go_wp2_with (at_builtin; refine wpList_append_rd _ rfl (.tmp 18) (.tmp 19) 22 rfl w2.heap.size 37 i0 (.int .u64 0) Try.underlying22 hi hz0 hz1 hz2 rfl (.slice (some ⟨w2.heap.size, 0, none⟩) q q) q (uvs (List.replicate q 0)) rfl hown w2.heap.size A2 n c2 (uvs zs) rfl Hl.out.1 Hl.out.2 (uvs_one _) (by omega) (by omega) ?_)
  intro v4 w4 hown4 hgrow4 hblk
  have hb4 : Below w2.heap.size w2 w4 := hb3.grown hgrow4 hsz (fun j hj => (hown.lt j hj).1)
  have hsz4 := hb4.size
  clear hown hgrow4 hblk Hl hsz hb3
  go_wp2_with (at_builtin; refine wpList_append_rd _ rfl (.tmp 21) (.tmp 23) 22 rfl w2.heap.size 37 i0 (.int .u64 0) Try.underlying22 hi hz0 hz1 hz2 rfl v4 (q + n) _ rfl (hown4.alloc _) _ (some ⟨w4.heap.size, 0, none⟩) 1 1 [.int .u64 (d : Int)] rfl rfl (Rd.one _ _ _) (by simp [Value.oneCell']) (by omega) (by simp; omega) ?_)
  intro v5 w5 hown5 hgrow hblk
  have hb5 : Below w2.heap.size w2 w5 := (hb4.alloc hb4.size _).grown hgrow (by simp; omega) (fun j hj => (hown4.lt j hj).1)
  obtain ⟨us, hus⟩ : ∃ us, List.replicate q 0 ++ zs ++ [d] = us := ⟨_, rfl⟩
  have hul : us.length = q + n + 1 := by rw [← hus]; simp [H2.out.1.1]; omega
  have huv : V us = V xs * 2 ^ s := by
    rw [← hus, V_append, V_append, V_zeros', Nat.zero_add, HS.out.2, ← H2.out.2.1]
    simp only [List.length_append, List.length_replicate, H2.out.1.1, V, Nat.mul_zero, Nat.add_zero]
    rw [Nat.pow_add, Nat.add_mul]
    generalize B64 ^ q = p
    generalize B64 ^ n = p'
    grind
  have hnw : Nw w2 w5 v5 (q + n + 1) us := ⟨hul, by rw [← hus]; exact Ws_snoc (Ws_up q H2.out.1.2.2.2.1) H2.out.2.2.1, by rw [← hus, uvs_append, uvs_append, List.append_assoc]; exact hown5⟩
  obtain ⟨A5, c5, rfl, hs5⟩ := hnw.sl
  have H5 := Lib.hid (And.intro hs5 (And.intro huv (H2.out.2.2.2.trans (hb5.mono H2.out.2.2.2.size))))
  clear hown4 hown5 hgrow hblk hb5 hnw huv hul hus hb4 hsz4 hs5
  go_wp2_with (fail)
  refine (RTrimW_ok A5 (q + n + 1) c5 us w5 (by omega) H5.out.1).mono ?_
  rintro e w6 hR
  obtain ⟨v, rfl, h7, hb7⟩ := hR.from H5.out.2.2
  rw [H5.out.2.1] at h7
  have H7 := Lib.hid (And.intro h7 hb7)
  clear h7 hb7 hR
  go_wp2_with (fail)
  go_ret
  exact ⟨v, rfl, H7.out.1, H7.out.2⟩
end Go.Proofs.Ytalcikmngglplaa

namespace Go.Proofs.Ytalcikmngglplaa
open Go.RowKit Go.Shelf
set_option linter.unusedVariables false
set_option maxRecDepth 10000

theorem shr_all {xs : List Nat} (hw : Ws xs) {n q r s : Nat} (hn : xs.length = n) (hs : s = 64 * q + r) (h : n ≤ q) : V xs / 2 ^ s = 0 := by
  rw [Nat.div_eq_of_lt]
  refine Nat.lt_of_lt_of_le (V_lt _ hw) ?_
  rw [hs, Nat.pow_add, Nat.pow_mul, show (2 : Nat) ^ 64 = B64 from rfl, hn]
  exact Nat.le_trans (Nat.pow_le_pow_right B64_pos h) (Nat.le_mul_of_pos_right _ (Nat.pow_pos (by decide)))

set_option maxHeartbeats 1000000 in
theorem R2Right_ok (A : Option Addr) (n c : Nat) (xs : List Nat) (s : Nat) (w : World) (hn : n ≤ 4096) (hs : s ≤ 9223372036854775807) (hx : Sl w A n c xs) :
    Calls Try.prog 35 #[.slice A n c, .int .i64 s] w fun e w' => Rv w w' e (V xs / 2 ^ s) := by
  have Hx := Lib.hid hx
  obtain ⟨q, r, hqr, hr, hq1, hq2, hr1, hr2⟩ : ∃ q r : Nat, s = 64 * q + r ∧ r ≤ 63 ∧ (s : Int).tdiv 64 = (q : Int) ∧ (s : Int) / 64 = (q : Int) ∧ (s : Int).tmod 64 = (r : Int) ∧ (s : Int) % 64 = (r : Int) :=
    ⟨s / 64, s % 64, by omega, by omega, by rw [Int.tdiv_eq_ediv_of_nonneg (by omega)]; omega, by omega, by rw [Int.tmod_eq_emod_of_nonneg (by omega)]; omega, by omega⟩
  have hqw : IntKind.i64.wrap (q : Int) = (q : Int) := IntWalk.i64_in _ (by omega)
  have hnc := hx.2.1
  have HS := Lib.hid (And.intro hs (And.intro hqr hx.1))
  clear hx hs hqr
  rcases Nat.lt_or_ge q n with hqn | hqn
  · have hcq : ¬ c = q := by omega
    have hqi : ¬ (n : Int) ≤ (q : Int) := by omega
    go_enter Try.func35, Try.ntmps35
    go_wp2_with (fail)
    refine (RRight_ok _ _ _ (xs.drop q) r w (by omega) (by have h := Hx.out.dp (k := q) (by omega); rw [if_neg hcq] at h; exact h) hr).mono ?_
    rintro e w2 ⟨v2, zs, d, rfl, hd, hnw, hv, hb2⟩
    have hval := shr_value Hx.out.2.2.2.1 HS.out.2.2 HS.out.2.1 (by omega) hv hd
    obtain ⟨A2, c2, rfl, hs2⟩ := hnw.sl
    have H2 := Lib.hid (And.intro hs2 (And.intro hval hb2))
    have hdw : d < B64 := Nat.lt_of_lt_of_le hd (Nat.le_of_lt (pow_lt r hr))
    clear hs2 hv hnw hb2 hval
    go_wp2_with (fail)
    refine (RTrim_ok A2 _ c2 zs w2 (by omega) H2.out.1).mono ?_
    rintro e w6 hR
    obtain ⟨v, rfl, h7, hb7⟩ := hR.from H2.out.2.2
    rw [H2.out.2.1] at h7
    have H7 := Lib.hid (And.intro h7 hb7)
    clear h7 hb7 hR
    go_wp2_with (fail)
    go_ret
    exact ⟨v, rfl, H7.out.1, H7.out.2⟩
  · have hqi : (n : Int) ≤ (q : Int) := by omega
    go_enter Try.func35, Try.ntmps35
    go_wp2_with (fail)
    go_ret
    exact ⟨_, rfl, by rw [shr_all Hx.out.2.2.2.1 Hx.out.1 HS.out.2.1 hqn]; exact Nt.nil _ _, Below.refl _ _⟩
end Go.Proofs.Ytalcikmngglplaa

namespace Go.Proofs.Ytalcikmngglplaa
open Go.RowKit Go.Shelf
set_option linter.unusedVariables false
set_option maxRecDepth 10000

theorem B64_pow2 (i : Nat) : B64 ^ i = 2 ^ (64 * i) := by rw [Nat.pow_mul]; rfl
/-- a row of k words below 2^s -/
theorem rlow_keep {xs : List Nat} (hw : Ws xs) {k s : Nat} (hk : k ≤ xs.length) (h : 64 * k ≤ s) : V (xs.take k) % 2 ^ s = V (xs.take k) := by
  refine Nat.mod_eq_of_lt (Nat.lt_of_lt_of_le (V_lt _ (Ws_take hw k)) ?_)
  rw [List.length_take, Nat.min_eq_left hk, B64_pow2]
  exact Nat.pow_le_pow_right (by decide) h
theorem rlow_cut {xs : List Nat} (hw : Ws xs) {k r s x : Nat} (hx : xs[k]? = some x) (hs : s = 64 * k + r) (hr : r ≤ 63) : V (xs.take k) + (x % 2 ^ r) * B64 ^ k = V (xs.take (k + 1)) % 2 ^ s := by
  have hl : k < xs.length := by
    rcases Nat.lt_or_ge k xs.length with h1 | h1
    · exact h1
    · rw [List.getElem?_eq_none h1] at hx; cases hx
  have hxl : xs[k] = x := by rw [List.getElem?_eq_getElem hl] at hx; injection hx
  have h2 := V_lt _ (Ws_take hw k)
  rw [List.length_take, Nat.min_eq_left (Nat.le_of_lt hl)] at h2
  rw [V_take_succ xs k hl, hxl, hs, Nat.pow_add, ← B64_pow2, Nat.mod_mul, Nat.add_mul_mod_self_right, Nat.mod_eq_of_lt h2, Nat.add_mul_div_right _ _ (Nat.pow_pos B64_pos), Nat.div_eq_of_lt h2, Nat.zero_add, Nat.mul_comm (B64 ^ k)]
theorem rlow_end {xs : List Nat} {k s : Nat} (hk : k ≤ xs.length) (h : s ≤ 64 * k) : V (xs.take k) % 2 ^ s = V xs % 2 ^ s := by
  rw [V_split xs k hk, B64_pow2, show 64 * k = s + (64 * k - s) by omega, Nat.pow_add, ← Nat.mul_assoc, Nat.mul_right_comm, Nat.add_mul_mod_self_right]
/-- what the loop keeps -/
def LowI (w : World) (xs : List Nat) (s k : Nat) (zs : List Nat) (W : World) : Prop := Ws zs ∧ zs.length = k ∧ V zs = V (xs.take k) % 2 ^ s ∧ Below w.heap.size w W
set_option maxHeartbeats 1000000 in
theorem R2Low_ok (A : Option Addr) (n c : Nat) (xs : List Nat) (s : Nat) (w : World) (hn : n ≤ 4096) (hs : s ≤ 262144) (hx : Sl w A n c xs) :
    Calls Try.prog 36 #[.slice A n c, .int .i64 s] w fun e w' => Rv w w' e (V xs % 2 ^ s) := by
  obtain ⟨i0, hi, hz0, hz1, hz2⟩ := info_parts Try.info37
  have Hx := Lib.hid hx
  have hnc := hx.2.1
  clear hx
  go_enter Try.func36, Try.ntmps36
  go_wp2
  go_loopw [5, 6] (fun v i wr => ∃ (k : Nat) (zs : List Nat), k ≤ n ∧ i = .int .i64 k ∧ wr.ownsRow w.heap.size 37 1 v k (uvs zs) ∧ Hid (LowI w xs s k zs wr)) (fun _ i _ => n - (intOf i).toNat)
  case atStart => exact ⟨0, [], by omega, rfl, World.ownsRow_nil _ _ _ _, Ws_nil, rfl, by simp [V], Below.refl _ _⟩
  case round =>
    obtain ⟨k, zs, hk, rfl, hown, hH⟩ := hrel
    have hkw : IntKind.i64.wrap (64 * (k : Int)) = 64 * (k : Int) := IntWalk.i64_in _ (by omega)
    by_cases hlt : k < n ∧ 64 * k < s
    · obtain ⟨hlt, hlt2⟩ := hlt
      have hki : (k : Int) < n := by omega
      have hks : 64 * (k : Int) < s := by omega
      obtain ⟨b, o, rfl, hb, hcx⟩ := (Hx.out.2.2.2.2.below hH.out.2.2.2).at (uvs_get (List.getElem?_eq_getElem (show k < xs.length by rw [Hx.out.1]; exact hlt)))
      have Hxk := Lib.hid (List.getElem?_eq_getElem (show k < xs.length by rw [Hx.out.1]; exact hlt))
      generalize xs[k]'(by rw [Hx.out.1]; exact hlt) = x at *
      obtain ⟨r, hr⟩ : ∃ r : Nat, s = 64 * k + r := ⟨s - 64 * k, by omega⟩
      have hsw : IntKind.i64.wrap ((s : Int) - 64 * (k : Int)) = (r : Int) := by rw [IntWalk.i64_in _ (by omega)]; omega
      have hkl : k ≤ xs.length := by rw [Hx.out.1]; omega
      have hkl2 : k < xs.length := by rw [Hx.out.1]; exact hlt
      obtain ⟨A1, c1, rfl, _⟩ := own_form hown
      by_cases hr63 : r ≤ 63
      · have hr6 : (r : Int) < 64 := by omega
        have hp := pow_lt r hr63
        obtain ⟨p, hpp⟩ : ∃ p : Nat, 2 ^ r = p := ⟨_, rfl⟩
        have hp0 : 0 < p := by rw [← hpp]; exact Nat.pow_pos (by decide)
        have hw1 : IntKind.u64.wrap ((1 : Int) * 2 ^ r) = (p : Int) := by
          have := wrap_u64 1 r
          rw [Nat.one_mul, Nat.mod_eq_of_lt hp, hpp] at this
          exact this
        have hw2 : IntKind.u64.wrap ((2 : Int) ^ r) = (p : Int) := by rw [← hw1, Int.one_mul]
        obtain ⟨z, hz⟩ : ∃ z, x % p = z := ⟨_, rfl⟩
        have hm1 : (x : Int).tmod (p : Int) = (z : Int) := by rw [Int.tmod_eq_emod_of_nonneg (by omega), ← hz]; rfl
        have hm2 : (x : Int) % (p : Int) = (z : Int) := by rw [← hz]; rfl
        have hzw : IntKind.u64.wrap (z : Int) = (z : Int) := by
          have : z < B64 := by rw [← hz]; exact Nat.lt_of_lt_of_le (Nat.mod_lt _ hp0) (by rw [← hpp]; exact Nat.le_of_lt hp)
          rw [IntKind.wrap_u64]; have : B64 = 18446744073709551616 := rfl; omega
        have hp0i : ((p : Int) == 0) = false := by simp; omega
        have hst := rlow_cut (r := r) Hx.out.2.2.2.1 Hxk.out hr hr63
        rw [hpp, hz] at hst
        have hzB : z < B64 := by rw [← hz]; exact Nat.lt_of_lt_of_le (Nat.mod_lt _ hp0) (by rw [← hpp]; exact Nat.le_of_lt hp)
        have HN : Hid (Ws (zs ++ [z]) ∧ (zs ++ [z]).length = k + 1 ∧ V (zs ++ [z]) = V (xs.take (k + 1)) % 2 ^ s) := ⟨Ws_snoc hH.out.1 hzB, by rw [List.length_append, hH.out.2.1]; rfl, by rw [V_snoc, hH.out.2.1, ← hst, hH.out.2.2.1, rlow_keep Hx.out.2.2.2.1 hkl (by omega)]⟩
        clear hst hz hzB hpp hr hp
        have hsz := hH.out.2.2.2.size
        go_wp2_with (at_builtin; refine wpList_append_rd _ rfl (.tmp 36) (.tmp 38) 22 rfl w.heap.size 37 i0 (.int .u64 0) Try.underlying22 hi hz0 hz1 hz2 rfl (.slice A1 k c1) k _ rfl (hown.alloc _) _ (some ⟨wr.heap.size, 0, none⟩) 1 1 [.int .u64 (z : Int)] rfl rfl (Rd.one _ _ _) (by simp [Value.oneCell']) (by omega) (by simp; omega) ?_)
        intro v1 w1 hown1 hgrow hblk
        have hb1 : Below w.heap.size w w1 := (hH.out.2.2.2.alloc hsz _).grown hgrow (by simp; omega) (fun j hj => (hown.lt j hj).1)
        have HN2 : Hid (LowI w xs s (k + 1) (zs ++ [z]) w1) := ⟨HN.out.1, HN.out.2.1, HN.out.2.2, hb1⟩
        have hown2 : w1.ownsRow w.heap.size 37 1 v1 (k + 1) (uvs (zs ++ [z])) := by rw [uvs_append]; exact hown1
        clear HN hb1 hH hown hown1 hgrow hblk hsz hw1 hw2 hm1 hm2 hzw hp0i hp0
        go_wp2
        go_roundw
        case rel => exact ⟨k + 1, zs ++ [z], by omega, by go_num, hown2, HN2⟩
        case measure => simp [intOf]; omega
      · have hr6 : ¬ (r : Int) < 64 := by omega
        have hxB := Hx.out.2.2.2.1 x (List.mem_of_getElem? Hxk.out)
        have hst : V (xs.take (k + 1)) % 2 ^ s = V (xs.take k) + x * B64 ^ k := by
          rw [rlow_keep Hx.out.2.2.2.1 (by omega) (by omega), V_take_succ xs k (by omega)]
          congr 2
          have := Hxk.out
          rw [List.getElem?_eq_getElem (by omega)] at this
          injection this
        have HN : Hid (Ws (zs ++ [x]) ∧ (zs ++ [x]).length = k + 1 ∧ V (zs ++ [x]) = V (xs.take (k + 1)) % 2 ^ s) := ⟨Ws_snoc hH.out.1 hxB, by rw [List.length_append, hH.out.2.1]; rfl, by rw [V_snoc, hH.out.2.1, hst, hH.out.2.2.1, rlow_keep Hx.out.2.2.2.1 hkl (by omega)]⟩
        clear hst hxB hr
        have hsz := hH.out.2.2.2.size
        go_wp2_with (at_builtin; refine wpList_append_rd _ rfl (.tmp 36) (.tmp 38) 22 rfl w.heap.size 37 i0 (.int .u64 0) Try.underlying22 hi hz0 hz1 hz2 rfl (.slice A1 k c1) k _ rfl (hown.alloc _) _ (some ⟨wr.heap.size, 0, none⟩) 1 1 [.int .u64 (x : Int)] rfl rfl (Rd.one _ _ _) (by simp [Value.oneCell']) (by omega) (by simp; omega) ?_)
        intro v1 w1 hown1 hgrow hblk
        have hb1 : Below w.heap.size w w1 := (hH.out.2.2.2.alloc hsz _).grown hgrow (by simp; omega) (fun j hj => (hown.lt j hj).1)
        have HN2 : Hid (LowI w xs s (k + 1) (zs ++ [x]) w1) := ⟨HN.out.1, HN.out.2.1, HN.out.2.2, hb1⟩
        have hown2 : w1.ownsRow w.heap.size 37 1 v1 (k + 1) (uvs (zs ++ [x])) := by rw [uvs_append]; exact hown1
        clear HN hb1 hH hown hown1 hgrow hblk hsz
        go_wp2
        go_roundw
        case rel => exact ⟨k + 1, zs ++ [x], by omega, by go_num, hown2, HN2⟩
        case measure => simp [intOf]; omega
    · have hval : V zs = V xs % 2 ^ s := by
        rw [hH.out.2.2.1]
        rcases Nat.lt_or_ge k n with h | h
        · exact rlow_end (by rw [Hx.out.1]; omega) (by omega)
        · rw [show k = n by omega, Hx.out.take_all]
      have hcs : (k : Int) < n ∧ ¬ 64 * (k : Int) < s ∨ ¬ (k : Int) < n := by omega
      have hnw : Nw w wr u5 k zs := ⟨hH.out.2.1, hH.out.1, hown⟩
      obtain ⟨A5, c5, he, hs5⟩ := hnw.sl
      subst he
      have H5 := Lib.hid (And.intro hs5 (And.intro hval hH.out.2.2.2))
      clear hs5 hval hnw hown hH hlt
      rcases hcs with ⟨h1, h2⟩ | h1
      all_goals
        go_wp2_with (fail)
        refine (RTrim_ok A5 k c5 zs wr (by omega) H5.out.1).mono ?_
        rintro e w6 hR
        obtain ⟨v, rfl, h7, hb7⟩ := hR.from H5.out.2.2
        rw [H5.out.2.1] at h7
        have H7 := Lib.hid (And.intro h7 hb7)
        clear h7 hb7 hR
        go_wp2_with (fail)
        go_ret
        exact ⟨v, rfl, H7.out.1, H7.out.2⟩
end Go.Proofs.Ytalcikmngglplaa
