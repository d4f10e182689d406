/- Pieces of the proofs, together: Jn, Joint, NBig, RJoin, NJoin. -/
import Derived.Laws.Bits64
import Derived.Laws.Bits64b
import Derived.Maps.OwnOps
import Derived.WalkMore
import Derived.Deep.RegionHeld3
import Derived.Test.YtalcikmngglplaaP1

namespace Go.Proofs.Ytalcikmngglplaa
open Go.RowKit
set_option linter.unusedVariables false

/-- the word that joins two, by the sign -/
def jf (s : Int) (a b : Nat) : Nat := if s = 38 then a &&& b else if s = 124 then a ||| b else a ^^^ b
theorem jf_lt (s : Int) {a b : Nat} (ha : a < B64) (hb : b < B64) : jf s a b < B64 := by
  unfold jf
  have h : B64 = 2 ^ 64 := rfl
  rw [h] at ha hb ⊢
  split
  · exact Nat.and_lt_two_pow _ hb
  · split
    · exact Nat.or_lt_two_pow ha hb
    · exact Nat.xor_lt_two_pow ha hb
theorem jf_zero (s : Int) : jf s 0 0 = 0 := by unfold jf; simp
/-- a word, 0 beyond the end -/
def gd (xs : List Nat) (k : Nat) : Nat := xs.getD k 0
/-- the first k words of both rows, joined -/
def jl (s : Int) (xs ys : List Nat) : Nat → List Nat
  | 0 => []
  | k + 1 => jl s xs ys k ++ [jf s (gd xs k) (gd ys k)]
theorem jl_len (s : Int) (xs ys : List Nat) : ∀ k, (jl s xs ys k).length = k
  | 0 => rfl
  | k + 1 => by rw [jl, List.length_append, jl_len s xs ys k]; rfl
theorem getD_ws {xs : List Nat} (h : Ws xs) (k : Nat) : gd xs k < B64 := by
  unfold gd
  rw [List.getD_eq_getElem?_getD]
  cases hk : xs[k]? with
  | none => decide
  | some x => exact h x (List.mem_of_getElem? hk)
theorem jl_ws (s : Int) {xs ys : List Nat} (hx : Ws xs) (hy : Ws ys) : ∀ k, Ws (jl s xs ys k)
  | 0 => fun _ h => by cases h
  | k + 1 => by
    intro x h
    rw [jl, List.mem_append] at h
    rcases h with h | h
    · exact jl_ws s hx hy k x h
    · rw [List.mem_singleton] at h
      rw [h]
      exact jf_lt s (getD_ws hx k) (getD_ws hy k)
theorem nat_bits (a b : Nat) : (a &&& b) + (a ||| b) = a + b ∧ (a ^^^ b) + (a &&& b) = a ||| b := by
  have key : ∀ n a b : Nat, a < 2 ^ n → b < 2 ^ n → (a &&& b) + (a ||| b) = a + b ∧ (a ^^^ b) + (a &&& b) = a ||| b := by
    intro n
    induction n with
    | zero => intro a b ha hb; have : a = 0 := by omega
              have : b = 0 := by omega
              subst_vars; decide
    | succ n ih =>
      intro a b ha hb
      have h := ih (a / 2) (b / 2) (by omega) (by omega)
      have e1 := Nat.and_div_two (a := a) (b := b)
      have e2 := Nat.or_div_two (a := a) (b := b)
      have e3 := Nat.xor_div_two (a := a) (b := b)
      have m1 := Nat.and_mod_two_pow (a := a) (b := b) (n := 1)
      have m2 := Nat.or_mod_two_pow (a := a) (b := b) (n := 1)
      have m3 := Nat.xor_mod_two_pow (a := a) (b := b) (n := 1)
      rw [Nat.pow_one] at m1 m2 m3
      rw [← e1, ← e2, ← e3] at h
      have ha2 : a % 2 = 0 ∨ a % 2 = 1 := by omega
      have hb2 : b % 2 = 0 ∨ b % 2 = 1 := by omega
      rcases ha2 with h1 | h1 <;> rcases hb2 with h2 | h2 <;> rw [h1, h2] at m1 m2 m3 <;> simp only [show (0 &&& 0 : Nat) = 0 from rfl, show (0 &&& 1 : Nat) = 0 from rfl, show (1 &&& 0 : Nat) = 0 from rfl, show (1 &&& 1 : Nat) = 1 from rfl, show (0 ||| 0 : Nat) = 0 from rfl, show (0 ||| 1 : Nat) = 1 from rfl, show (1 ||| 0 : Nat) = 1 from rfl, show (1 ||| 1 : Nat) = 1 from rfl, show (0 ^^^ 0 : Nat) = 0 from rfl, show (0 ^^^ 1 : Nat) = 1 from rfl, show (1 ^^^ 0 : Nat) = 1 from rfl, show (1 ^^^ 1 : Nat) = 0 from rfl] at m1 m2 m3 <;> clear ih e1 e2 e3 <;> generalize a / 2 &&& b / 2 = p at * <;> omega
  exact (key (a + b) a b (Nat.lt_of_le_of_lt (Nat.le_add_right a b) Nat.lt_two_pow_self) (Nat.lt_of_le_of_lt (Nat.le_add_left b a) Nat.lt_two_pow_self))
theorem V_take_more (xs : List Nat) (k : Nat) : V (xs.take (k + 1)) = V (xs.take k) + gd xs k * B64 ^ k := by
  unfold gd
  by_cases h : k < xs.length
  · rw [V_take_succ xs k h, List.getD_eq_getElem?_getD, List.getElem?_eq_getElem h, Option.getD_some]
  · rw [List.take_of_length_le (by omega), List.take_of_length_le (by omega), getD_out (by omega), Nat.zero_mul, Nat.add_zero]
theorem jl_sum (xs ys : List Nat) : ∀ k, V (jl 38 xs ys k) + V (jl 124 xs ys k) = V (xs.take k) + V (ys.take k) ∧ V (jl 94 xs ys k) + V (jl 38 xs ys k) = V (jl 124 xs ys k)
  | 0 => by simp [jl, V]
  | k + 1 => by
    obtain ⟨h1, h2⟩ := jl_sum xs ys k
    rw [jl, jl, jl, V_snoc, V_snoc, V_snoc, jl_len, jl_len, jl_len, V_take_more, V_take_more]
    obtain ⟨e1, e2⟩ := nat_bits (gd xs k) (gd ys k)
    have f1 : jf 38 (gd xs k) (gd ys k) = gd xs k &&& gd ys k := rfl
    have f2 : jf 124 (gd xs k) (gd ys k) = gd xs k ||| gd ys k := rfl
    have f3 : jf 94 (gd xs k) (gd ys k) = gd xs k ^^^ gd ys k := rfl
    rw [f1, f2, f3]
    generalize gd xs k = x at *
    generalize gd ys k = y at *
    generalize x &&& y = p at *
    generalize x ||| y = q at *
    generalize x ^^^ y = r at *
    generalize B64 ^ k = t
    constructor
    · have := congrArg (· * t) e1
      simp only [Nat.add_mul] at this
      omega
    · have := congrArg (· * t) e2
      simp only [Nat.add_mul] at this
      omega
end Go.Proofs.Ytalcikmngglplaa

namespace Go.Proofs.Ytalcikmngglplaa
open Go.RowKit Go.Shelf
set_option linter.unusedVariables false
set_option maxRecDepth 10000

/-- how a function reads: by its number -/
def fR (v : Value) : Option (DataW Unit × List MemPlace) := match v with
  | .func (.func k) a b => if a = #[] ∧ b = #[] then some (.lit (.int .i64 k), []) else none
  | .nilFunc => some (.lit (.int .i64 (-1)), [])
  | _ => none
theorem fR_inv {v : Value} {k : Nat} {p : List MemPlace} (h : fR v = some (.lit (.int .i64 (k : Int)), p)) : v = .func (.func k) #[] #[] := by
  unfold fR at h
  split at h
  · split at h
    · rename_i hc
      obtain ⟨rfl, rfl⟩ := hc
      simp at h
      obtain ⟨h1, _⟩ := h
      exact congrArg (fun k => Value.func (.func k) #[] #[]) (Int.ofNat.inj h1)
    · cases h
  · simp at h
  · cases h
theorem wpList_insert_own {H : Type} {P : Program} (w : World) {ops : Array Oper} {rest : List Oper} {o : Oper} {a : Act} {Q : Exit → Act → World → Prop}
    (hg : o.guard = none) (m x v : Operand) (t : TypeId) (hop : o.op = Op.insert t m x v)
    (k e : TypeId) (K : Maps.Keyed P k) (ht : P.underlying t = some (.map k e)) (R : Value → Option (DataW H × List MemPlace)) (b n : Nat) (D : DataW H)
    (hm : a.eval m = .map (some b)) (hown : w.ownsMap P k R b n D) (hn : n < maxLen) (key val : Value) (kl : Lit) (hx : a.eval x = key) (hv : a.eval v = val) (hkey : keyOf P k key = some kl)
    (d : DataW H) (ps : List MemPlace) (hval : R val = some (d, ps))
    (hK : ∀ w', w'.ownsMap P k R b (n + 1) (D.put kl d) → w.grownBy w' (some b) → wpList P ops Q rest (a.put o.dst undef) w') :
    wpList P ops Q (o :: rest) a w := by
  refine wpList_plain hg fun K' hK' => ?_
  obtain ⟨w', hrun, r1, r2⟩ := hown.update K ht hn hkey hval
  unfold Oper.wp
  simp [execOp, hop, hm, hx, hv, hrun, Result.andThen]
  exact hK' _ _ (hK w' r1 r2)
theorem wpList_lookup_own_fn {P : Program} (w : World) {ops : Array Oper} {rest : List Oper} {o : Oper} {a : Act} {Q : Exit → Act → World → Prop}
    (hg : o.guard = none) (m x : Operand) (t : TypeId) (hop : o.op = Op.lookup t m x false)
    (k e : TypeId) (K : Maps.Keyed P k) (ht : P.underlying t = some (.map k e)) (hz : (zeroValue e).run P w = .ok .nilFunc w) (b n : Nat) (D : DataW Unit)
    (hm : a.eval m = .map (some b)) (hown : w.ownsMap P k fR b n D) (key : Value) (kl : Lit) (hx : a.eval x = key) (hkey : keyOf P k key = some kl) (f : Nat) (hat : D.atKey kl (.lit (.int .i64 (-1))) = .lit (.int .i64 (f : Int)))
    (hK : wpList P ops Q rest (a.put o.dst (.func (.func f) #[] #[])) w) :
    wpList P ops Q (o :: rest) a w := by
  refine wpList_plain hg fun K' hK' => ?_
  obtain ⟨v, ps, hrun, hv⟩ := hown.lookup K ht hz (zd := .lit (.int .i64 (-1))) (zp := []) rfl hkey
  rw [hat] at hv
  obtain rfl := fR_inv hv
  unfold Oper.wp
  simp [execOp, hop, hm, hx, hrun, Result.andThen]
  exact hK' _ _ hK

def jmap : DataW Unit := (((DataW.map []).put (.int .u8 38) (.lit (.int .i64 126))).put (.int .u8 124) (.lit (.int .i64 127))).put (.int .u8 94) (.lit (.int .i64 128))
theorem jmap_at (s : Int) (f : Nat) (h : s = 38 ∧ f = 126 ∨ s = 124 ∧ f = 127 ∨ s = 94 ∧ f = 128) : jmap.atKey (.int .u8 s) (.lit (.int .i64 (-1))) = .lit (.int .i64 (f : Int)) := by
  rcases h with ⟨rfl, rfl⟩ | ⟨rfl, rfl⟩ | ⟨rfl, rfl⟩ <;> rfl
set_option maxHeartbeats 400000 in
theorem joint_ok (s : Int) (f : Nat) (w : World) (h : s = 38 ∧ f = 126 ∨ s = 124 ∧ f = 127 ∨ s = 94 ∧ f = 128) :
    Calls Try.prog 116 #[.int .u8 s] w fun e w' => e = .returned (.func (.func f) #[] #[]) ∧ Below w.heap.size w w' := by
  have hmm := @run_makeMap Try.prog
  have K : Maps.Keyed Try.prog 5 := Maps.int_keyed Try.underlying5
  have hks : keyOf Try.prog 5 (.int .u8 s) = some (.int .u8 s) := Maps.keyOf_int_mk Try.underlying5 (by rcases h with ⟨rfl, _⟩ | ⟨rfl, _⟩ | ⟨rfl, _⟩ <;> decide)
  have hat := Lib.hid (jmap_at s f h)
  clear h
  go_enter Try.func116, Try.ntmps116
  go_wp2_with (refine wpList_insert_own _ rfl (.tmp 3) _ _ 122 rfl 5 _ K Try.underlying122 fR w.heap.size 0 (.map []) rfl (World.ownsMap_made _ _ _ _) (by decide) (.int .u8 38) (.func (.func 126) #[] #[]) (.int .u8 38) rfl rfl (Maps.keyOf_int_mk Try.underlying5 (by decide)) (.lit (.int .i64 126)) [] rfl ?_)
  intro w1 hown1 hgrow1
  go_wp2_with (refine wpList_insert_own _ rfl (.tmp 3) _ _ 122 rfl 5 _ K Try.underlying122 fR w.heap.size 1 _ rfl hown1 (by decide) (.int .u8 124) (.func (.func 127) #[] #[]) (.int .u8 124) rfl rfl (Maps.keyOf_int_mk Try.underlying5 (by decide)) (.lit (.int .i64 127)) [] rfl ?_)
  intro w2 hown2 hgrow2
  go_wp2_with (refine wpList_insert_own _ rfl (.tmp 3) _ _ 122 rfl 5 _ K Try.underlying122 fR w.heap.size 2 _ rfl hown2 (by decide) (.int .u8 94) (.func (.func 128) #[] #[]) (.int .u8 94) rfl rfl (Maps.keyOf_int_mk Try.underlying5 (by decide)) (.lit (.int .i64 128)) [] rfl ?_)
  intro w3 hown3 hgrow3
  have hb : Below w.heap.size w w3 := by
    have h0 : Below w.heap.size w (w.alloc (.map #[] 0)) := (Below.refl _ _).alloc (Nat.le_refl _) _
    have h1 := h0.grown hgrow1 h0.size (by intro j hj; injection hj with hj; omega)
    have h2 := h1.grown hgrow2 h1.size (by intro j hj; injection hj with hj; omega)
    exact h2.grown hgrow3 h2.size (by intro j hj; injection hj with hj; omega)
  clear hgrow1 hgrow2 hgrow3 hown1 hown2
  go_wp2_with (refine wpList_lookup_own_fn _ rfl _ _ 122 rfl 5 114 K Try.underlying122 rfl w.heap.size 3 jmap rfl hown3 (.int .u8 s) (.int .u8 s) rfl hks f hat.out ?_)
  go_wp2
  go_ret
  exact ⟨rfl, hb⟩
end Go.Proofs.Ytalcikmngglplaa

namespace Go.Proofs.Ytalcikmngglplaa
open Go.RowKit Go.Shelf
set_option linter.unusedVariables false
set_option maxRecDepth 10000

set_option maxHeartbeats 400000 in
theorem NAdd_big (A A' : Option Addr) (n n' c c' : Nat) (w : World) (hn : 4096 < n ∨ 4096 < n') :
    Calls Try.prog 15 #[.slice A n c, .slice A' n' c'] w fun e w' => e = .returned (.tuple #[.slice none 0 0, .int .i64 2]) ∧ Below w.heap.size w w' := by
  have Hk := Lib.hid (chkS_two_big (A := A) (A' := A') (c := c) (c' := c') hn)
  go_enter Try.func15, Try.ntmps15
  go_wp2_with (fail)
  refine (checkSizes_two A A' _ _ c c' _ _ w rfl).mono ?_
  rintro e w1 ⟨rfl, hb1⟩
  rw [Hk.out]
  go_wp2_with (fail)
  go_ret2
  exact ⟨rfl, hb1⟩
set_option maxHeartbeats 400000 in
theorem NSub_big (A A' : Option Addr) (n n' c c' : Nat) (w : World) (hn : 4096 < n ∨ 4096 < n') :
    Calls Try.prog 16 #[.slice A n c, .slice A' n' c'] w fun e w' => e = .returned (.tuple #[.slice none 0 0, .int .i64 2]) ∧ Below w.heap.size w w' := by
  have Hk := Lib.hid (chkS_two_big (A := A) (A' := A') (c := c) (c' := c') hn)
  go_enter Try.func16, Try.ntmps16
  go_wp2_with (fail)
  refine (checkSizes_two A A' _ _ c c' _ _ w rfl).mono ?_
  rintro e w1 ⟨rfl, hb1⟩
  rw [Hk.out]
  go_wp2_with (fail)
  go_ret2
  exact ⟨rfl, hb1⟩
set_option maxHeartbeats 400000 in
theorem NMul_big (A A' : Option Addr) (n n' c c' : Nat) (w : World) (hn : 4096 < n ∨ 4096 < n') :
    Calls Try.prog 22 #[.slice A n c, .slice A' n' c'] w fun e w' => e = .returned (.tuple #[.slice none 0 0, .int .i64 2]) ∧ Below w.heap.size w w' := by
  have Hk := Lib.hid (chkS_two_big (A := A) (A' := A') (c := c) (c' := c') hn)
  go_enter Try.func22, Try.ntmps22
  go_wp2_with (fail)
  refine (checkSizes_two A A' _ _ c c' _ _ w rfl).mono ?_
  rintro e w1 ⟨rfl, hb1⟩
  rw [Hk.out]
  go_wp2_with (fail)
  go_ret2
  exact ⟨rfl, hb1⟩
set_option maxHeartbeats 400000 in
theorem NDivMod_big (A A' : Option Addr) (n n' c c' : Nat) (w : World) (hn : 4096 < n ∨ 4096 < n') :
    Calls Try.prog 28 #[.slice A n c, .slice A' n' c'] w fun e w' => e = .returned (.tuple #[.slice none 0 0, .slice none 0 0, .int .i64 2]) ∧ Below w.heap.size w w' := by
  have Hk := Lib.hid (chkS_two_big (A := A) (A' := A') (c := c) (c' := c') hn)
  go_enter Try.func28, Try.ntmps28
  go_wp2_with (fail)
  refine (checkSizes_two A A' _ _ c c' _ _ w rfl).mono ?_
  rintro e w1 ⟨rfl, hb1⟩
  rw [Hk.out]
  go_wp2_with (fail)
  go_ret3
  exact ⟨rfl, hb1⟩
set_option maxHeartbeats 400000 in
theorem NSquare_big (A : Option Addr) (n c : Nat) (w : World) (hn : 4096 < n) :
    Calls Try.prog 23 #[.slice A n c] w fun e w' => e = .returned (.tuple #[.slice none 0 0, .int .i64 2]) ∧ Below w.heap.size w w' := by
  have Hk := Lib.hid (chkS_one_big (A := A) (c := c) hn)
  go_enter Try.func23, Try.ntmps23
  go_wp2_with (fail)
  refine (checkSizes_one A _ c _ _ w rfl).mono ?_
  rintro e w1 ⟨rfl, hb1⟩
  rw [Hk.out]
  go_wp2_with (fail)
  go_ret2
  exact ⟨rfl, hb1⟩
set_option maxHeartbeats 400000 in
theorem NSetBit_big (A : Option Addr) (n c : Nat) (i : Int) (b : Bool) (w : World) (hn : 4096 < n) :
    Calls Try.prog 38 #[.slice A n c, .int .i64 i, .bool b] w fun e w' => e = .returned (.tuple #[.slice none 0 0, .int .i64 2]) ∧ Below w.heap.size w w' := by
  have Hk := Lib.hid (chkS_one_big (A := A) (c := c) hn)
  go_enter Try.func38, Try.ntmps38
  go_wp2_with (fail)
  refine (checkSizes_one A _ c _ _ w rfl).mono ?_
  rintro e w1 ⟨rfl, hb1⟩
  rw [Hk.out]
  go_wp2_with (fail)
  go_ret2
  exact ⟨rfl, hb1⟩
set_option maxHeartbeats 400000 in
theorem NPow_big (A : Option Addr) (n c : Nat) (k : Int) (w : World) (hn : 4096 < n) :
    Calls Try.prog 25 #[.slice A n c, .int .i64 k] w fun e w' => e = .returned (.tuple #[.slice none 0 0, .int .i64 2]) ∧ Below w.heap.size w w' := by
  have Hk := Lib.hid (chkS_one_big (A := A) (c := c) hn)
  go_enter Try.func25, Try.ntmps25
  go_wp2_with (fail)
  go_step3
  go_wp2_with (fail)
  refine (checkSizes_one A _ c _ _ w rfl).mono ?_
  rintro e w1 ⟨rfl, hb1⟩
  rw [Hk.out]
  go_wp2_with (fail)
  dsimp only [Exit.noGoto]
  go_ret2
  exact ⟨rfl, hb1⟩
set_option maxHeartbeats 400000 in
theorem joined_big (A A' : Option Addr) (n n' c c' : Nat) (sg : Int) (w : World) (hn : 4096 < n ∨ 4096 < n') :
    Calls Try.prog 85 #[.slice A n c, .int .u8 sg, .slice A' n' c'] w fun e w' => e = .returned (.tuple #[.slice none 0 0, .int .i64 2]) ∧ Below w.heap.size w w' := by
  have Hk := Lib.hid (chkS_two_big (A := A) (A' := A') (c := c) (c' := c') hn)
  go_enter Try.func85, Try.ntmps85
  go_wp2_with (fail)
  refine (checkSizes_two A A' _ _ c c' _ _ w rfl).mono ?_
  rintro e w1 ⟨rfl, hb1⟩
  rw [Hk.out]
  go_wp2_with (fail)
  go_ret2
  exact ⟨rfl, hb1⟩
theorem NAnd_big (A A' : Option Addr) (n n' c c' : Nat) (w : World) (hn : 4096 < n ∨ 4096 < n') :
    Calls Try.prog 42 #[.slice A n c, .slice A' n' c'] w fun e w' => e = .returned (.tuple #[.slice none 0 0, .int .i64 2]) ∧ Below w.heap.size w w' := by
  have Hn := Lib.hid hn
  clear hn
  go_enter Try.func42, Try.ntmps42
  go_wp2_with (fail)
  refine (joined_big A A' _ _ c c' _ w Hn.out).mono ?_
  rintro e w1 ⟨rfl, hb1⟩
  go_wp2_with (fail)
  go_ret2
  exact ⟨rfl, hb1⟩
theorem NOr_big (A A' : Option Addr) (n n' c c' : Nat) (w : World) (hn : 4096 < n ∨ 4096 < n') :
    Calls Try.prog 43 #[.slice A n c, .slice A' n' c'] w fun e w' => e = .returned (.tuple #[.slice none 0 0, .int .i64 2]) ∧ Below w.heap.size w w' := by
  have Hn := Lib.hid hn
  clear hn
  go_enter Try.func43, Try.ntmps43
  go_wp2_with (fail)
  refine (joined_big A A' _ _ c c' _ w Hn.out).mono ?_
  rintro e w1 ⟨rfl, hb1⟩
  go_wp2_with (fail)
  go_ret2
  exact ⟨rfl, hb1⟩
theorem NXor_big (A A' : Option Addr) (n n' c c' : Nat) (w : World) (hn : 4096 < n ∨ 4096 < n') :
    Calls Try.prog 44 #[.slice A n c, .slice A' n' c'] w fun e w' => e = .returned (.tuple #[.slice none 0 0, .int .i64 2]) ∧ Below w.heap.size w w' := by
  have Hn := Lib.hid hn
  clear hn
  go_enter Try.func44, Try.ntmps44
  go_wp2_with (fail)
  refine (joined_big A A' _ _ c c' _ w Hn.out).mono ?_
  rintro e w1 ⟨rfl, hb1⟩
  go_wp2_with (fail)
  go_ret2
  exact ⟨rfl, hb1⟩
end Go.Proofs.Ytalcikmngglplaa

namespace Go.Proofs.Ytalcikmngglplaa
open Go.RowKit Go.Shelf
set_option linter.unusedVariables false
set_option maxRecDepth 10000

set_option maxHeartbeats 400000 in
theorem word_ok (A : Option Addr) (n c : Nat) (xs : List Nat) (i : Nat) (w : World) (hx : Sl w A n c xs) :
    Calls Try.prog 86 #[.slice A n c, .int .i64 i] w fun e w' => e = .returned (.int .u64 ((gd xs i : Nat) : Int)) ∧ w = w' := by
  have Hx := Lib.hid hx
  clear hx
  rcases Nat.lt_or_ge i n with h | h
  · have hg := List.getElem?_eq_getElem (show i < xs.length by rw [Hx.out.1]; exact h)
    obtain ⟨b, o, rfl, hb, hcx⟩ := Hx.out.2.2.2.2.at (uvs_get hg)
    have HV := Lib.hid (show gd xs i = xs[i]'(by rw [Hx.out.1]; exact h) by rw [gd, List.getD_eq_getElem?_getD, hg, Option.getD_some])
    generalize xs[i]'(by rw [Hx.out.1]; exact h) = x at *
    have hi : (i : Int) < n := by omega
    clear hg
    go_enter Try.func86, Try.ntmps86
    go_wp2
    go_ret
    rw [HV.out]
    exact ⟨rfl, rfl⟩
  · have hi : ¬ (i : Int) < n := by omega
    have HV := Lib.hid (show gd xs i = 0 from getD_out (xs := xs) (i := i) (by rw [Hx.out.1]; exact h))
    go_enter Try.func86, Try.ntmps86
    go_wp2
    go_ret
    rw [HV.out]
    exact ⟨rfl, rfl⟩
/-- what the loop keeps -/
def JoI (w : World) (s : Int) (xs ys : List Nat) (k : Nat) (zs : List Nat) (W : World) : Prop := zs = jl s xs ys k ∧ Below w.heap.size w W
theorem jf_and {a b : Nat} (ha : a < B64) (hb : b < B64) : bits BinOp.and IntKind.u64 (a : Int) (b : Int) = ((jf 38 a b : Nat) : Int) := bits_and_u64_nat a b ha hb
theorem jf_or {a b : Nat} (ha : a < B64) (hb : b < B64) : bits BinOp.or IntKind.u64 (a : Int) (b : Int) = ((jf 124 a b : Nat) : Int) := bits_or_u64_nat a b ha hb
theorem jf_xor {a b : Nat} (ha : a < B64) (hb : b < B64) : bits BinOp.xor IntKind.u64 (a : Int) (b : Int) = ((jf 94 a b : Nat) : Int) := bits_xor_u64_nat a b ha hb
set_option maxHeartbeats 2000000 in
theorem R2Joined_ok (A A' : Option Addr) (n n' c c' : Nat) (xs ys : List Nat) (hw s : Int) (N : Nat) (w : World) (hn : n ≤ 4096) (hn' : n' ≤ 4096) (hN : n ≤ N ∧ n' ≤ N ∧ (N = n ∨ N = n')) (hs : hw = 0 ∧ s = 38 ∨ hw = 1 ∧ s = 124 ∨ hw = 2 ∧ s = 94) (hx : Sl w A n c xs) (hy : Sl w A' n' c' ys) :
    Calls Try.prog 45 #[.slice A n c, .slice A' n' c', .int .i64 hw] w fun e w' => Rv w w' e (V (jl s xs ys N)) := by
  obtain ⟨i0, hi, hz0, hz1, hz2⟩ := info_parts Try.info37
  have Hx := Lib.hid hx
  have Hy := Lib.hid hy
  have HN := Lib.hid hN
  have hN4 : N ≤ 4096 := by omega
  clear hx hy hN
  obtain ⟨S, hS⟩ : ∃ S : Int, S = s := ⟨_, rfl⟩
  have HS := Lib.hid hS
  rw [← hS]
  clear hS
  rcases hs with ⟨rfl, rfl⟩ | ⟨rfl, rfl⟩ | ⟨rfl, rfl⟩
  all_goals
    go_enter Try.func45, Try.ntmps45
    go_wp2
    go_loopw [7, 8] (fun v i wr => ∃ (k : Nat) (zs : List Nat), k ≤ N ∧ i = .int .i64 k ∧ wr.ownsRow w.heap.size 37 1 v k (uvs zs) ∧ Hid (JoI w S xs ys k zs wr)) (fun _ i _ => N - (intOf i).toNat)
    case atStart => exact ⟨0, [], by omega, rfl, World.ownsRow_nil _ _ _ _, rfl, Below.refl _ _⟩
    case round =>
      obtain ⟨k, zs, hk, rfl, hown, hH⟩ := hrel
      rcases Nat.lt_or_ge k N with hlt | hge
      · have hcs : (k : Int) < n ∨ ¬ (k : Int) < n ∧ (k : Int) < n' := by have := HN.out; omega
        have hxk : gd xs k < B64 := getD_ws Hx.out.2.2.2.1 k
        have hyk : gd ys k < B64 := getD_ws Hy.out.2.2.2.1 k
        have Hb := Lib.hid (And.intro (jf_and hxk hyk) (And.intro (jf_or hxk hyk) (jf_xor hxk hyk)))
        have hsz := hH.out.2.size
        have HX := Lib.hid (Hx.out.below hH.out.2)
        have HY := Lib.hid (Hy.out.below hH.out.2)
        obtain ⟨A1, c1, rfl, _⟩ := own_form hown
        clear hxk hyk
        rcases hcs with hki | ⟨hki, hki2⟩
        all_goals
          go_wp2_with (fail)
          refine (word_ok A n c xs k wr HX.out).mono ?_
          rintro e w1 ⟨rfl, rfl⟩
          go_wp2_with (fail)
          refine (word_ok A' n' c' ys k wr HY.out).mono ?_
          rintro e w1 ⟨rfl, rfl⟩
          obtain ⟨h1, h2, h3⟩ := Hb.out
          first | rw [← HS.out] at h1 | rw [← HS.out] at h2 | rw [← HS.out] at h3
          go_wp2_with (at_builtin; refine wpList_append_rd _ rfl _ _ 22 rfl w.heap.size 37 i0 (.int .u64 0) Try.underlying22 hi hz0 hz1 hz2 rfl (.slice A1 k c1) k _ rfl (hown.alloc _) _ (some ⟨wr.heap.size, 0, none⟩) 1 1 [.int .u64 ((jf S (gd xs k) (gd ys k) : Nat) : Int)] rfl rfl (Rd.one _ _ _) (by simp [Value.oneCell']) (by omega) (by simp; omega) ?_)
          intro v1 w1 hown1 hgrow hblk
          have hb1 : Below w.heap.size w w1 := (hH.out.2.alloc hsz _).grown hgrow (by simp; omega) (fun j hj => (hown.lt j hj).1)
          have HN2 : Hid (JoI w S xs ys (k + 1) (jl S xs ys (k + 1)) w1) := ⟨rfl, hb1⟩
          have hown2 : w1.ownsRow w.heap.size 37 1 v1 (k + 1) (uvs (jl S xs ys (k + 1))) := by rw [jl, uvs_append, ← hH.out.1]; exact hown1
          clear h1 h2 h3 hb1 hH hown hown1 hgrow hblk hsz Hb HX HY
          go_wp2
          go_roundw
          case rel => exact ⟨k + 1, _, by omega, by go_num, hown2, HN2⟩
          case measure => simp [intOf]; omega
      · have hkN : k = N := by omega
        subst hkN
        have hk1 : ¬ (k : Int) < n := by have := HN.out; omega
        have hk2 : ¬ (k : Int) < n' := by have := HN.out; omega
        have hnw : Nw w wr u7 k zs := ⟨by rw [hH.out.1, jl_len], by rw [hH.out.1]; exact jl_ws S Hx.out.2.2.2.1 Hy.out.2.2.2.1 k, hown⟩
        obtain ⟨A5, c5, he, hs5⟩ := hnw.sl
        subst he
        have H5 := Lib.hid (And.intro hs5 (And.intro (show V zs = V (jl S xs ys k) by rw [hH.out.1]) hH.out.2))
        clear hs5 hnw hown hH
        go_wp2_with (fail)
        refine (RTrim_ok A5 k c5 zs wr (by omega) H5.out.1).mono ?_
        rintro e w6 hR
        obtain ⟨v, rfl, h7, hb7⟩ := hR.from H5.out.2.2
        rw [H5.out.2.1] at h7
        have H7 := Lib.hid (And.intro h7 hb7)
        clear h7 hb7 hR
        go_wp2_with (fail)
        go_ret
        exact ⟨v, rfl, H7.out.1, H7.out.2⟩
end Go.Proofs.Ytalcikmngglplaa

namespace Go.Proofs.Ytalcikmngglplaa
open Go.RowKit Go.Shelf
set_option linter.unusedVariables false
set_option maxRecDepth 10000

/-- the sign of a way to join, and its function -/
def Jw (s : Int) (f : Nat) : Prop := s = 38 ∧ f = 126 ∨ s = 124 ∧ f = 127 ∨ s = 94 ∧ f = 128
set_option maxHeartbeats 400000 in
theorem jointf_ok (s : Int) (f : Nat) (h : Jw s f) (a b : Nat) (ha : a < B64) (hb : b < B64) (w : World) :
    Calls Try.prog f #[.int .u64 a, .int .u64 b] w fun e w' => e = .returned (.int .u64 ((jf s a b : Nat) : Int)) ∧ w = w' := by
  have h1 := jf_and ha hb
  have h2 := jf_or ha hb
  have h3 := jf_xor ha hb
  rcases h with ⟨rfl, rfl⟩ | ⟨rfl, rfl⟩ | ⟨rfl, rfl⟩
  · go_enter Try.func126, Try.ntmps126
    go_wp2
    go_ret
    exact ⟨rfl, rfl⟩
  · go_enter Try.func127, Try.ntmps127
    go_wp2
    go_ret
    exact ⟨rfl, rfl⟩
  · go_enter Try.func128, Try.ntmps128
    go_wp2
    go_ret
    exact ⟨rfl, rfl⟩
theorem jointf_in (s : Int) (f : Nat) (h : Jw s f) : ∀ args W, Sem.run Try.prog (callFunc f args) W = .ok (Next.enter f args) W := by
  rcases h with ⟨_, rfl⟩ | ⟨_, rfl⟩ | ⟨_, rfl⟩
  · exact fun args W => run_callFunc_enter Try.func126 (by kernel_rfl) (by kernel_rfl) args W
  · exact fun args W => run_callFunc_enter Try.func127 (by kernel_rfl) (by kernel_rfl) args W
  · exact fun args W => run_callFunc_enter Try.func128 (by kernel_rfl) (by kernel_rfl) args W
/-- the words that are joined, and those that are not yet -/
def jz (s : Int) (xs ys : List Nat) (N k : Nat) : List Nat := jl s xs ys k ++ List.replicate (N - k) 0
theorem jz_zero (s : Int) (xs ys : List Nat) (N : Nat) : jz s xs ys N 0 = List.replicate N 0 := by simp [jz, jl]
theorem jz_full (s : Int) (xs ys : List Nat) (N : Nat) : jz s xs ys N N = jl s xs ys N := by simp [jz]
theorem jz_len (s : Int) (xs ys : List Nat) {N k : Nat} (h : k ≤ N) : (jz s xs ys N k).length = N := by simp [jz, jl_len]; omega
theorem jz_step (s : Int) (xs ys : List Nat) {N k : Nat} (h : k < N) : (jz s xs ys N k).set k (jf s (gd xs k) (gd ys k)) = jz s xs ys N (k + 1) := by
  obtain ⟨m, rfl⟩ : ∃ m, N = k + 1 + m := ⟨N - (k + 1), by omega⟩
  rw [jz, jz, List.set_append_right _ _ (by rw [jl_len]; omega), jl_len, Nat.sub_self, show k + 1 + m - k = m + 1 by omega, show k + 1 + m - (k + 1) = m by omega, List.replicate_succ, List.set_cons_zero, jl, List.append_assoc]
  rfl
theorem pad_getD (xs : List Nat) (n k : Nat) : gd (pad xs n) k = gd xs k := by
  unfold pad gd
  rw [List.getD_eq_getElem?_getD, List.getD_eq_getElem?_getD]
  rcases Nat.lt_or_ge k xs.length with h | h
  · rw [List.getElem?_append_left h]
  · rw [List.getElem?_append_right h, List.getElem?_eq_none h, List.getElem?_replicate]
    split <;> rfl
theorem jl_pad (s : Int) (xs ys : List Nat) (n : Nat) : ∀ k, jl s (pad xs n) (pad ys n) k = jl s xs ys k
  | 0 => rfl
  | k + 1 => by rw [jl, jl, jl_pad s xs ys n k, pad_getD, pad_getD]
/-- what the loop keeps -/
def JnI (w w0 : World) (g N : Nat) (s : Int) (xs ys : List Nat) (k : Nat) (W : World) : Prop := RowAt W g (jz s xs ys N k) ∧ w0.grownBy W (some g) ∧ Below w.heap.size w W
set_option maxHeartbeats 4000000 in
theorem joined_ok (A A' : Option Addr) (n n' c c' : Nat) (xs ys : List Nat) (s : Int) (f N : Nat) (w : World) (hn : n ≤ 4096) (hn' : n' ≤ 4096) (hN : Mx N n n') (hs : Jw s f) (hx : Sl w A n c xs) (hy : Sl w A' n' c' ys) :
    Calls Try.prog 85 #[.slice A n c, .int .u8 s, .slice A' n' c'] w fun e w' => ∃ v, e = .returned (.tuple #[v, .int .i64 0]) ∧ Nt w w' v (V (jl s xs ys N)) ∧ Below w.heap.size w w' := by
  obtain ⟨i0, hi, hz0, hz1, hz2⟩ := info_parts Try.info37
  have Hx := Lib.hid (And.intro hx hy)
  have Hk := Lib.hid (chkS_two (A := A) (A' := A') (c := c) (c' := c') hn hn')
  have hent := jointf_in s f hs
  have HJ := Lib.hid (fun a b ha hb w => jointf_ok s f hs a b ha hb w)
  have Hs := Lib.hid hs
  unfold Mx at hN
  have HM : Hid (Mx N n N ∧ Mx N n' N) := ⟨⟨by omega, by omega, by omega⟩, ⟨by omega, by omega, by omega⟩⟩
  have hN4 : N ≤ 4096 := by omega
  have hcase : ((n : Int) < n' ∧ N = n') ∨ (¬ (n : Int) < n' ∧ N = n) := by omega
  clear hx hy hs hN
  rcases hcase with ⟨hnn, hNe⟩ | ⟨hnn, hNe⟩
  all_goals
    subst hNe
    go_enter Try.func85, Try.ntmps85
    go_wp2_with (fail)
    refine (checkSizes_two A A' _ _ c c' _ _ w rfl).mono ?_
    rintro e w1 ⟨rfl, hb1⟩
    rw [Hk.out]
    go_wp2_with (fail)
    refine (row_ok A _ c N N xs w1 (by omega) HM.out.1 (Hx.out.1.below hb1)).mono ?_
    rintro e w2 ⟨A2, c2, rfl, hs2, hb2⟩
    have H2 := Lib.hid (And.intro hs2 (And.intro (Hx.out.2.below hb1 |>.below hb2) (hb1.trans (hb2.mono hb1.size))))
    clear hs2 hb2 hb1
    go_wp2_with (fail)
    refine (row_ok A' _ c' N N ys w2 (by omega) HM.out.2 H2.out.2.1).mono ?_
    rintro e w3 ⟨A3, c3, rfl, hs3, hb3⟩
    have H3 := Lib.hid (And.intro (H2.out.1.below hb3) (And.intro hs3 (H2.out.2.2.trans (hb3.mono H2.out.2.2.size))))
    clear hs3 hb3 H2
    go_wp2_with (fail)
    refine (joint_ok s f w3 Hs.out).mono ?_
    rintro e w4 ⟨rfl, hb4⟩
    have H4 := Lib.hid (And.intro (H3.out.1.below hb4) (And.intro (H3.out.2.1.below hb4) (H3.out.2.2.trans (hb4.mono H3.out.2.2.size))))
    clear hb4 H3
    go_wp2_with (at_make; refine wpList_make_full _ rfl _ _ 23 rfl w4.heap.size 37 i0 (.int .u64 0) 1 Try.underlying23 hi hz0 hz1 .i64 .i64 _ _ N rfl rfl rfl rfl (by rw [hz2]; omega) (by unfold maxLen; omega) (Nat.le_refl _) ?_)
    intro w5 hown hgrow
    have hb5 := below_of_grown hgrow (Nat.le_refl _)
    have hrow := RowAt_zeros (by simpa using hown)
    have HT : Hid (JnI w w5 w4.heap.size N s (pad xs N) (pad ys N) 0 w5) := ⟨by rw [jz_zero]; exact hrow, World.grownBy.refl _ _, H4.out.2.2.trans (hb5.mono H4.out.2.2.size)⟩
    have HX := Lib.hid (And.intro (H4.out.1.below hb5) (H4.out.2.1.below hb5))
    have hX2 : (∀ b o, A2 = some ⟨b, o, none⟩ → pad xs N ≠ [] → b < w4.heap.size) ∧ (∀ b o, A3 = some ⟨b, o, none⟩ → pad ys N ≠ [] → b < w4.heap.size) := ⟨fun b o e h => by
        obtain ⟨b', o', e', h', _⟩ := H4.out.1.2.2.2.2 (by intro h2; exact h (by have := congrArg List.length h2; rw [uvs_length] at this; exact List.eq_nil_of_length_eq_zero this))
        rw [e] at e'; injection e' with e'; injection e' with e1 _; omega, fun b o e h => by
        obtain ⟨b', o', e', h', _⟩ := H4.out.2.1.2.2.2.2 (by intro h2; exact h (by have := congrArg List.length h2; rw [uvs_length] at this; exact List.eq_nil_of_length_eq_zero this))
        rw [e] at e'; injection e' with e'; injection e' with e1 _; omega⟩
    have HL := Lib.hid hX2
    have hg0 : w.heap.size ≤ w4.heap.size := H4.out.2.2.size
    clear hown hgrow hb5 hrow hX2 H4
    generalize w4.heap.size = g at *
    go_wp2_with (fail)
    go_loopw [37] (fun iv wr => ∃ k : Nat, k ≤ N ∧ iv = .int .i64 k ∧ Hid (JnI w w5 g N s (pad xs N) (pad ys N) k wr)) (fun iv _ => N - (intOf iv).toNat)
    case atStart => exact ⟨0, Nat.zero_le _, rfl, HT.out⟩
    case round =>
      clear HT
      obtain ⟨k, hk, rfl, hH⟩ := hrel
      by_cases hlt : k < N
      · have hxl : k < (pad xs N).length := by rw [HX.out.1.1]; exact hlt
        have hyl : k < (pad ys N).length := by rw [HX.out.2.1]; exact hlt
        have hgx := List.getElem?_eq_getElem hxl
        have hgy := List.getElem?_eq_getElem hyl
        have hxB := HX.out.1.2.2.2.1 _ (List.getElem_mem hxl)
        have hyB := HX.out.2.2.2.2.1 _ (List.getElem_mem hyl)
        obtain ⟨b, o, rfl, _, hcx0⟩ := HX.out.1.2.2.2.2.at (uvs_get hgx)
        obtain ⟨b', o', rfl, _, hcy0⟩ := HX.out.2.2.2.2.2.at (uvs_get hgy)
        have hbl : b < g := HL.out.1 b o rfl (by intro h; rw [h] at hxl; simp at hxl)
        have hbl' : b' < g := HL.out.2 b' o' rfl (by intro h; rw [h] at hyl; simp at hyl)
        have hst := jz_step s (pad xs N) (pad ys N) hlt
        rw [gd, gd, List.getD_eq_getElem?_getD, List.getD_eq_getElem?_getD, hgx, hgy, Option.getD_some, Option.getD_some] at hst
        generalize (pad xs N)[k] = x at *
        generalize (pad ys N)[k] = y at *
        have hcx : wr.cell? ⟨b, o + k, none⟩ = some (.int .u64 (x : Int)) := hH.out.2.1.cell hcx0 (by intro e; injection e with e; simp at e; omega)
        have hcy : wr.cell? ⟨b', o' + k, none⟩ = some (.int .u64 (y : Int)) := hH.out.2.1.cell hcy0 (by intro e; injection e with e; simp at e; omega)
        have hzl : k < (jz s (pad xs N) (pad ys N) N k).length := by rw [jz_len _ _ _ hk]; exact hlt
        have hcz := hH.out.1.cell (List.getElem?_eq_getElem hzl)
        have hfz := hH.out.1.frozen k
        generalize (jz s (pad xs N) (pad ys N) N k)[k] = z0 at *
        have Hc := Lib.hid (HJ.out x y hxB hyB)
        obtain ⟨z, hz⟩ : ∃ z, jf s x y = z := ⟨_, rfl⟩
        rw [hz] at Hc hst
        have HN : Hid (JnI w w5 g N s (pad xs N) (pad ys N) (k + 1) (wr.setCell ⟨g, k, none⟩ (.int .u64 (z : Int))).drew) :=
          ⟨by rw [← hst]; exact hH.out.1.set k z, grown_drew (grown_trans hH.out.2.1 (grown_set _ _ _ _)), (hH.out.2.2.setCell (p := ⟨g, k, none⟩) hg0 _).drew⟩
        have hki : (k : Int) < N := by omega
        have hkx : (wr.setCell ⟨g, k, none⟩ (.int .u64 (z : Int))).drew.cell? ⟨b, o + k, none⟩ = some (.int .u64 (x : Int)) := (World.cell?_setCell_other _ _ _ _ (fun e => by injection e with e; omega)).trans hcx
        have hky : (wr.setCell ⟨g, k, none⟩ (.int .u64 (z : Int))).drew.cell? ⟨b', o' + k, none⟩ = some (.int .u64 (y : Int)) := (World.cell?_setCell_other _ _ _ _ (fun e => by injection e with e; omega)).trans hcy
        clear hcx0 hcy0 hbl hbl' hst hz hzl hxB hyB hgx hgy hxl hyl hH
        go_wp2_with (fail)
        go_region_held3 (fun w' => w'.cell? ⟨b, o + k, none⟩ = some (.int .u64 (x : Int)) ∧ w'.cell? ⟨b', o' + k, none⟩ = some (.int .u64 (y : Int)))
          (first | exact ⟨hcx, hcy⟩ | exact ⟨hkx, hky⟩ | go_keep)
          (first | (refine (Hc.out _).mono ?_; rintro e w' ⟨rfl, rfl⟩))
        go_wp2_with (fail)
        go_roundw
        case rel => exact ⟨k + 1, by omega, by go_num, HN⟩
        case measure => simp [intOf]; omega
      · have hki : ¬ (k : Int) < N := by omega
        have hkN : k = N := by omega
        have H6 := hH.out
        unfold JnI at H6
        rw [hkN, jz_full, jl_pad] at H6
        have hws := jl_ws s (xs := xs) (ys := ys) (fun x hx => HX.out.1.2.2.2.1 x (List.mem_append_left _ hx)) (fun x hx => HX.out.2.2.2.2.1 x (List.mem_append_left _ hx)) N
        have hown := H6.1.own hg0 (by rw [jl_len]; omega)
        rw [jl_len] at hown
        have hnw : Nw w wr (.slice (some ⟨g, 0, none⟩) N N) N (jl s xs ys N) := ⟨jl_len _ _ _ _, hws, hown⟩
        obtain ⟨A5, c5, he, hs5⟩ := hnw.sl
        injection he with e1 e2 e3
        subst e1 e3
        have H7 := Lib.hid (And.intro hnw (And.intro hs5 H6.2.2))
        clear hnw hs5 hown hws H6 hH
        go_wp2_with (fail)
        refine (used_ok _ _ _ _ _ (by omega) H7.out.2.1).mono ?_
        rintro e w5 ⟨j, rfl, hj, hH, rfl⟩
        have H8 := Lib.hid (And.intro hj hH.out)
        clear hj hH
        go_wp2_with (fail)
        go_ret2
        exact ⟨_, rfl, ⟨j, _, H7.out.1.tk H8.out.1, H8.out.2.2, H8.out.2.1⟩, H7.out.2.2⟩
set_option maxHeartbeats 400000 in
theorem NAnd_ok (A A' : Option Addr) (n n' c c' : Nat) (xs ys : List Nat) (N : Nat) (w : World) (hn : n ≤ 4096) (hn' : n' ≤ 4096) (hN : Mx N n n') (hx : Sl w A n c xs) (hy : Sl w A' n' c' ys) :
    Calls Try.prog 42 #[.slice A n c, .slice A' n' c'] w fun e w' => ∃ v, e = .returned (.tuple #[v, .int .i64 0]) ∧ Nt w w' v (V (jl 38 xs ys N)) ∧ Below w.heap.size w w' := by
  have Hx := Lib.hid (And.intro hx (And.intro hy hN))
  clear hx hy hN
  go_enter Try.func42, Try.ntmps42
  go_wp2_with (fail)
  refine (joined_ok A A' n n' c c' xs ys 38 126 N w hn hn' Hx.out.2.2 (by unfold Jw; simp) Hx.out.1 Hx.out.2.1).mono ?_
  rintro e w1 ⟨v, rfl, h1⟩
  have H1 := Lib.hid h1
  clear h1
  go_wp2_with (fail)
  go_ret2
  exact ⟨v, rfl, H1.out⟩
set_option maxHeartbeats 400000 in
theorem NOr_ok (A A' : Option Addr) (n n' c c' : Nat) (xs ys : List Nat) (N : Nat) (w : World) (hn : n ≤ 4096) (hn' : n' ≤ 4096) (hN : Mx N n n') (hx : Sl w A n c xs) (hy : Sl w A' n' c' ys) :
    Calls Try.prog 43 #[.slice A n c, .slice A' n' c'] w fun e w' => ∃ v, e = .returned (.tuple #[v, .int .i64 0]) ∧ Nt w w' v (V (jl 124 xs ys N)) ∧ Below w.heap.size w w' := by
  have Hx := Lib.hid (And.intro hx (And.intro hy hN))
  clear hx hy hN
  go_enter Try.func43, Try.ntmps43
  go_wp2_with (fail)
  refine (joined_ok A A' n n' c c' xs ys 124 127 N w hn hn' Hx.out.2.2 (by unfold Jw; simp) Hx.out.1 Hx.out.2.1).mono ?_
  rintro e w1 ⟨v, rfl, h1⟩
  have H1 := Lib.hid h1
  clear h1
  go_wp2_with (fail)
  go_ret2
  exact ⟨v, rfl, H1.out⟩
set_option maxHeartbeats 400000 in
theorem NXor_ok (A A' : Option Addr) (n n' c c' : Nat) (xs ys : List Nat) (N : Nat) (w : World) (hn : n ≤ 4096) (hn' : n' ≤ 4096) (hN : Mx N n n') (hx : Sl w A n c xs) (hy : Sl w A' n' c' ys) :
    Calls Try.prog 44 #[.slice A n c, .slice A' n' c'] w fun e w' => ∃ v, e = .returned (.tuple #[v, .int .i64 0]) ∧ Nt w w' v (V (jl 94 xs ys N)) ∧ Below w.heap.size w w' := by
  have Hx := Lib.hid (And.intro hx (And.intro hy hN))
  clear hx hy hN
  go_enter Try.func44, Try.ntmps44
  go_wp2_with (fail)
  refine (joined_ok A A' n n' c c' xs ys 94 128 N w hn hn' Hx.out.2.2 (by unfold Jw; simp) Hx.out.1 Hx.out.2.1).mono ?_
  rintro e w1 ⟨v, rfl, h1⟩
  have H1 := Lib.hid h1
  clear h1
  go_wp2_with (fail)
  go_ret2
  exact ⟨v, rfl, H1.out⟩
end Go.Proofs.Ytalcikmngglplaa
