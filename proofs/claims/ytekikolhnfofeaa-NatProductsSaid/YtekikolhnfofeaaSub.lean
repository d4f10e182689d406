/- The contract of words.Sub. -/
import Derived.Test.YtekikolhnfofeaaNewRow
import Derived.Test.YtekikolhnfofeaaVal
namespace Go.Proofs.Ytekikolhnfofeaa
open Go.RowKit
set_option linter.unusedVariables false

set_option maxHeartbeats 400000 in
theorem Sub1_any (x y : Nat) (k : Nat) (p1 p2 : Addr) (g : Nat) (n c c' : Nat) (carry : Nat) (b o b' o' : Nat) (w : World) (hk : k < n) (hn : n ≤ 4096) (hx : x < B64) (hy : y < B64) (hc : carry ≤ 1)
    (h1 : w.cell? p1 = some (.slice (some ⟨b, o, none⟩) n c)) (h2 : w.cell? p2 = some (.slice (some ⟨b', o', none⟩) n c')) (h3 : w.cell? ⟨g, 0, none⟩ = some (.int .u64 carry)) (hf : w.frozen? ⟨g, 0, none⟩ = false)
    (hx1 : w.cell? ⟨b, o + k, none⟩ = some (.int .u64 x)) (hy1 : w.cell? ⟨b', o' + k, none⟩ = some (.int .u64 y)) :
    Calls Try.prog 96 #[.int .i64 k, .pointer (some p1), .pointer (some p2), .pointer (some ⟨g, 0, none⟩)] w fun e w' => ∃ s d : Nat, (x + d * B64 = s + y + carry ∧ s < B64 ∧ d ≤ 1) ∧ e = .returned (.int .u64 s) ∧
      w'.cell? ⟨g, 0, none⟩ = some (.int .u64 d) ∧ w'.frozen? ⟨g, 0, none⟩ = false ∧ w.grownBy w' (some g) := by
  obtain ⟨s, d, hf2, hcall⟩ := sub64_any x y carry hx hy hc
  have Hf2 := Lib.hid hf2
  have hki : (k : Int) < n := by omega
  clear hf2 hx hy hc
  go_enter Try.func96, Try.ntmps96
  go_wp2
  go_region
  go_wp2
  go_ret
  exact ⟨s, d, Hf2.out, rfl, (Wd.set ⟨h3, hf⟩ _).1, (Wd.set ⟨h3, hf⟩ _).2, grown_drew (grown_set _ _ _ _)⟩

/-- What Sub's closure keeps: the words made so far, and the carry. -/
def JSub (B0 p1 p2 g : Nat) (A A' : Option Addr) (n c c' : Nat) (xs ys : List Nat) (carry : Nat) (zs : List Nat) (a : World) : Prop :=
  Ws zs ∧ Cap a B0 p1 A n c xs ∧ Cap a B0 p2 A' n c' ys ∧ ∃ d : Nat, d ≤ 1 ∧ Wd a g (.int .u64 (d : Int)) ∧ V (xs.take zs.length) + d * B64 ^ zs.length = V zs + V (ys.take zs.length) + carry

theorem JSub_step {B0 p1 p2 g : Nat} {A A' : Option Addr} {n c c' : Nat} {xs ys : List Nat} {carry : Nat} {zs : List Nat} {a : World} (hn : n ≤ 4096) (hg1 : p1 ≠ g) (hg2 : p2 ≠ g) (h0 : B0 ≤ g)
    (hl : zs.length < n) (h : JSub B0 p1 p2 g A A' n c c' xs ys carry zs a) :
    Calls Try.prog 96 #[.int .i64 zs.length, .pointer (some ⟨p1, 0, none⟩), .pointer (some ⟨p2, 0, none⟩), .pointer (some ⟨g, 0, none⟩)] a fun e b => ∃ x : Nat, e = .returned (.int .u64 (x : Int)) ∧
      JSub B0 p1 p2 g A A' n c c' xs ys carry (zs ++ [x]) b ∧ a.grownBy b (some g) := by
  obtain ⟨hw, hx, hy, d, hd, hwd, hv⟩ := h
  obtain ⟨x, b, o, rfl, wx, hvx, _, hcx⟩ := hx.at hl
  obtain ⟨y, b', o', rfl, wy, hvy, _, hcy⟩ := hy.at hl
  refine (Sub1_any x y zs.length _ _ g n c c' d b o b' o' a hl hn wx wy hd hx.1.1 hy.1.1 hwd.1 hwd.2 hcx hcy).mono ?_
  rintro e w' ⟨s, d', ⟨he, hs, hd'⟩, rfl, h1, h2, h3⟩
  have hB0 : B0 ≤ a.heap.size := Nat.le_trans h0 (Nat.le_of_lt hwd.lt)
  refine ⟨s, rfl, ⟨Ws_snoc hw hs, hx.grown h3 hg1 hB0 h0, hy.grown h3 hg2 hB0 h0, d', hd', ⟨h1, h2⟩, ?_⟩, h3⟩
  rw [List.length_append, List.length_singleton, V_snoc, hvx, hvy]
  exact step_sub he hv
theorem JSub_below {B0 p1 p2 g B : Nat} {A A' : Option Addr} {n c c' : Nat} {xs ys : List Nat} {carry : Nat} (h0 : B0 ≤ B) (h1 : p1 < B) (h2 : p2 < B) (h3 : g < B) (zs : List Nat) (a b : World)
    (h : JSub B0 p1 p2 g A A' n c c' xs ys carry zs a) (hb : Below B a b) : JSub B0 p1 p2 g A A' n c c' xs ys carry zs b := by
  obtain ⟨hw, hx, hy, d, hd, hwd, hv⟩ := h
  exact ⟨hw, hx.below hb h1 h0, hy.below hb h2 h0, d, hd, hwd.below hb h3, hv⟩

theorem Sub_row {w a : World} {p1 p2 g : Nat} {A A' : Option Addr} {n c c' : Nat} {xs ys : List Nat} {carry : Nat} (hn : n ≤ 4096) (hx : Sl w A n c xs) (hy : Sl w A' n c' ys) (hb : Below w.heap.size w a) (hg0 : w.heap.size ≤ g)
    (h1 : p1 < g) (h2 : p2 < g) (h3 : g < a.heap.size) (hJ : JSub w.heap.size p1 p2 g A A' n c c' xs ys carry [] a) :
    Calls Try.prog 93 #[.int .i64 n, .func (.func 96) #[] #[.pointer (some ⟨p1, 0, none⟩), .pointer (some ⟨p2, 0, none⟩), .pointer (some ⟨g, 0, none⟩)]] a fun e w' => ∃ v zs, ∃ d : Nat,
      e = .returned v ∧ w'.cell? ⟨g, 0, none⟩ = some (.int .u64 (d : Int)) ∧ Hid (d ≤ 1 ∧ V xs + d * B64 ^ n = V zs + V ys + carry ∧ Nw w w' v n zs ∧ Below w.heap.size w w') := by
  refine (newRow_any n 96 #[.pointer (some ⟨p1, 0, none⟩), .pointer (some ⟨p2, 0, none⟩), .pointer (some ⟨g, 0, none⟩)] g (JSub w.heap.size p1 p2 g A A' n c c' xs ys carry) a hn h3
    (JSub_below hb.size (by omega) (by omega) h3) (fun zs a hl hj => by
      have := JSub_step hn (by omega) (by omega) hg0 hl hj
      simpa using this) (fun args W => run_callFunc_enter Try.func96 (by kernel_rfl) (by kernel_rfl) args W) hJ).mono ?_
  rintro e w5 ⟨v, zs, rfl, hl, hown, ⟨hw, _, _, d, hd, hwd, hv⟩, hgr⟩
  rw [hl, hx.take_all, hy.take_all] at hv
  exact ⟨v, zs, d, rfl, hwd.1, hd, hv, ⟨hl, hw, own_base hown hb.size⟩, hb.grown hgr hb.size (fun k hk => by cases hk; exact hg0)⟩
theorem Sub_start {w : World} {A A' : Option Addr} {n c c' : Nat} {xs ys : List Nat} {carry : Nat} (hx : Sl w A n c xs) (hy : Sl w A' n c' ys) (hc : carry ≤ 1) :
    Below w.heap.size w ((((w.alloc (.cells #[.slice A n c] 22)).alloc (.cells #[.slice A' n c'] 22)).alloc (.cells #[.int .u64 (carry : Int)] 37)).alloc (.cells #[.int .i64 (n : Int), .int .i64 (n : Int)] 3)) ∧
    JSub w.heap.size w.heap.size (w.heap.size + 1) (w.heap.size + 1 + 1) A A' n c c' xs ys carry [] ((((w.alloc (.cells #[.slice A n c] 22)).alloc (.cells #[.slice A' n c'] 22)).alloc (.cells #[.int .u64 (carry : Int)] 37)).alloc (.cells #[.int .i64 (n : Int), .int .i64 (n : Int)] 3)) := by
  have hb4 : Below w.heap.size w ((((w.alloc (.cells #[.slice A n c] 22)).alloc (.cells #[.slice A' n c'] 22)).alloc (.cells #[.int .u64 (carry : Int)] 37)).alloc (.cells #[.int .i64 (n : Int), .int .i64 (n : Int)] 3)) :=
    ((((Below.refl _ _).alloc (Nat.le_refl _) _).alloc (by simp) _).alloc (by simp; omega) _).alloc (by simp; omega) _
  have h1 := (((Wd.new w (.slice A n c) 22).alloc (.cells #[.slice A' n c'] 22)).alloc (.cells #[.int .u64 (carry : Int)] 37)).alloc (.cells #[.int .i64 (n : Int), .int .i64 (n : Int)] 3)
  have h2 := ((Wd.new (w.alloc (.cells #[.slice A n c] 22)) (.slice A' n c') 22).alloc (.cells #[.int .u64 (carry : Int)] 37)).alloc (.cells #[.int .i64 (n : Int), .int .i64 (n : Int)] 3)
  have h3 := (Wd.new ((w.alloc (.cells #[.slice A n c] 22)).alloc (.cells #[.slice A' n c'] 22)) (.int .u64 (carry : Int)) 37).alloc (.cells #[.int .i64 (n : Int), .int .i64 (n : Int)] 3)
  simp only [World.size_alloc] at h2 h3
  exact ⟨hb4, Ws_nil, ⟨h1, hx.1, hx.2.2.2.1, hx.2.2.2.2.below hb4⟩, ⟨h2, hy.1, hy.2.2.2.1, hy.2.2.2.2.below hb4⟩, carry, hc, h3, by simp [V]⟩
set_option maxHeartbeats 400000 in
theorem Sub_ok (A A' : Option Addr) (n c c' : Nat) (xs ys : List Nat) (carry : Nat) (w : World) (hn : n ≤ 4096) (hx : Sl w A n c xs) (hy : Sl w A' n c' ys) (hcarry : carry ≤ 1) :
    Calls Try.prog 58 #[.slice A n c, .slice A' n c', .int .u64 carry] w fun e w' => ∃ v zs, ∃ d : Nat, e = .returned (.tuple #[v, .int .u64 d, .int .i64 0]) ∧ d ≤ 1 ∧
      V xs + d * B64 ^ n = V zs + V ys + carry ∧ Nw w w' v n zs ∧ Below w.heap.size w w' := by
  have Hk := Lib.hid (chk_two n hn)
  have HS := Lib.hid (Sub_start hx hy hcarry)
  have Hx := Lib.hid hx
  have Hy := Lib.hid hy
  clear hx hy
  go_enter Try.func58, Try.ntmps58
  go_wp2_with (go_at_call 92; refine (checkLengths_two n n _ _ (by simp)).mono ?_; rintro e w' ⟨rfl, rfl⟩; rw [Hk.out])
  refine (Sub_row hn Hx.out Hy.out HS.out.1 (by omega) (by omega) (by omega) (by simp) HS.out.2).mono ?_
  rintro e w5 ⟨v, zs, d, rfl, hcell, hpost⟩
  go_wp2
  go_quiet (fail)
  go_wp2
  go_ret3
  have := hpost.out
  exact ⟨v, zs, d, rfl, this.1, this.2.1, this.2.2.1, below_drewN this.2.2.2 _⟩

set_option maxHeartbeats 400000 in
theorem Sub_err (A A' : Option Addr) (n n' c c' : Nat) (carry : Nat) (z : Int) (w : World) (hz : chk [(n : Int), (n' : Int)] = z) (h0 : z ≠ 0) (hn : n ≤ 9223372036854775807) (hn' : n' ≤ 9223372036854775807) :
    Calls Try.prog 58 #[.slice A n c, .slice A' n' c', .int .u64 carry] w fun e w' => e = .returned (.tuple #[.slice none 0 0, .int .u64 0, .int .i64 z]) ∧ Below w.heap.size w w' := by
  have Hz := Lib.hid hz
  clear hz
  go_enter Try.func58, Try.ntmps58
  go_wp2_with (go_at_call 92; refine (checkLengths_two n n' _ _ (by simp)).mono ?_; rintro e w' ⟨rfl, rfl⟩; rw [Hz.out])
  go_ret3
  exact ⟨rfl, ((((Below.refl _ _).alloc (Nat.le_refl _) _).alloc (by simp) _).alloc (by simp; omega) _).alloc (by simp; omega) _⟩
set_option maxHeartbeats 400000 in
theorem Sub_carry (A A' : Option Addr) (n c c' : Nat) (carry : Nat) (w : World) (hn : n ≤ 4096) (hc : 1 < carry) :
    Calls Try.prog 58 #[.slice A n c, .slice A' n c', .int .u64 carry] w fun e w' => e = .returned (.tuple #[.slice none 0 0, .int .u64 0, .int .i64 1]) ∧ Below w.heap.size w w' := by
  have Hk := Lib.hid (chk_two n hn)
  go_enter Try.func58, Try.ntmps58
  go_wp2_with (go_at_call 92; refine (checkLengths_two n n _ _ (by simp)).mono ?_; rintro e w' ⟨rfl, rfl⟩; rw [Hk.out])
  go_ret3
  exact ⟨rfl, ((((Below.refl _ _).alloc (Nat.le_refl _) _).alloc (by simp) _).alloc (by simp; omega) _).alloc (by simp; omega) _⟩
end Go.Proofs.Ytekikolhnfofeaa
