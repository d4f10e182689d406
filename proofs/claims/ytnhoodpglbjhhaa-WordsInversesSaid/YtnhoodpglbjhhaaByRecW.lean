/- The contract of words.ByReciprocal. -/
import Derived.Test.YtnhoodpglbjhhaaByRecC
namespace Go.Proofs.Ytnhoodpglbjhhaa
open Go.RowKit
set_option linter.unusedVariables false

theorem below3 {w a b c : World} (h1 : Below w.heap.size w a) (h2 : Below a.heap.size a b) (h3 : Below b.heap.size b c) (o : Obj) : Below w.heap.size w (c.alloc o) :=
  ((h1.trans (h2.mono h1.size)).trans (h3.mono (Nat.le_trans h1.size h2.size))).alloc (Nat.le_trans h1.size (Nat.le_trans h2.size h3.size)) o

set_option maxRecDepth 100000 in
set_option maxHeartbeats 2000000 in
theorem ByRec_ok (h l d v : Nat) (hd : 9223372036854775808 ≤ d) (hdB : d < B64) (hv : v < B64) (hr : IsRec d v) (hh : h < d) (hl : l < B64) : ∃ q r : Nat, (h * B64 + l = q * d + r ∧ r < d) ∧
    ∀ W, Calls Try.prog 36 #[.int .u64 h, .int .u64 l, .int .u64 d, .int .u64 v] W fun e W' => e = .returned (.tuple #[.int .u64 (q : Int), .int .u64 (r : Int), .int .i64 0]) ∧ Below W.heap.size W W' := by
  obtain ⟨b, hb, hcall⟩ := isRec_any d v hdB hv
  have b0 : b = true := hb.2 hr
  subst b0
  obtain ⟨h1, l1, ⟨et, hl1, hh1⟩, hcall1⟩ := times_any v h hv (by omega)
  obtain ⟨t, q0, ⟨ep, hq0, ht0⟩, hcall2⟩ := plus_any h1 l1 l (by have := prod_room1 B64 v h l hv (by omega) hl; omega) hl1 hl
  obtain ⟨qa, qb, m, r, q', r', w1, w2, w3, w4, hf, way⟩ := mg_cases d v h l t q0 hd hdB hr hh hl (by omega) hq0
  refine ⟨q', r', hf, fun W => ?_⟩
  have e1 : decide ((d : Int) < 9223372036854775808) = false := by simp; omega
  have e2 : (h : Int) < d := by omega
  have H := Lib.hid hcall
  have H1 := Lib.hid hcall1
  have H2 := Lib.hid hcall2
  obtain ⟨hf1, hf2⟩ := hf
  clear hcall hcall1 hcall2 hb hd hdB hr hh hl et hl1 hh1 ep hq0 ht0 hf1 hv
  rcases way with ⟨k1, x1, x2⟩ | ⟨k1, qc, rc, x1, x2, k2, x3, x4⟩ | ⟨k1, k2, x1, x2⟩ | ⟨k1, rfl, rfl⟩
  · have y1 : (q0 : Int) < r := by omega
    have y2 : (r' : Int) < d := by omega
    clear k1 hf2
    go_enter Try.func36, Try.ntmps36
    go_wp2_with (fail)
    refine (H.out _).mono ?_
    rintro e W1 ⟨rfl, hb⟩
    clear e1
    go_wp2_with (fail)
    refine (H1.out _).mono ?_
    rintro e W2 ⟨rfl, hb2⟩
    go_wp2_with (fail)
    refine (H2.out _).mono ?_
    rintro e W3 ⟨rfl, hb3⟩
    go_wp2_with (fail)
    exact bodyPost_ret (v := .tuple #[.int .u64 (q' : Int), .int .u64 (r' : Int), .int .i64 0]) (by simp [results, Try.results36, go_sem]) rfl ⟨rfl, below3 hb hb2 hb3 _⟩
  · have y1 : (q0 : Int) < r := by omega
    have y2 : (d : Int) ≤ rc := by omega
    clear k1 k2 hf2
    go_enter Try.func36, Try.ntmps36
    go_wp2_with (fail)
    refine (H.out _).mono ?_
    rintro e W1 ⟨rfl, hb⟩
    clear e1
    go_wp2_with (fail)
    refine (H1.out _).mono ?_
    rintro e W2 ⟨rfl, hb2⟩
    go_wp2_with (fail)
    refine (H2.out _).mono ?_
    rintro e W3 ⟨rfl, hb3⟩
    go_wp2_with (fail)
    exact bodyPost_ret (v := .tuple #[.int .u64 (q' : Int), .int .u64 (r' : Int), .int .i64 0]) (by simp [results, Try.results36, go_sem]) rfl ⟨rfl, below3 hb hb2 hb3 _⟩
  · have y1 : (r : Int) ≤ q0 := by omega
    have y2 : (d : Int) ≤ r := by omega
    clear k1 k2 hf2
    go_enter Try.func36, Try.ntmps36
    go_wp2_with (fail)
    refine (H.out _).mono ?_
    rintro e W1 ⟨rfl, hb⟩
    clear e1
    go_wp2_with (fail)
    refine (H1.out _).mono ?_
    rintro e W2 ⟨rfl, hb2⟩
    go_wp2_with (fail)
    refine (H2.out _).mono ?_
    rintro e W3 ⟨rfl, hb3⟩
    go_wp2_with (fail)
    exact bodyPost_ret (v := .tuple #[.int .u64 (q' : Int), .int .u64 (r' : Int), .int .i64 0]) (by simp [results, Try.results36, go_sem]) rfl ⟨rfl, below3 hb hb2 hb3 _⟩
  · have y1 : (r' : Int) ≤ q0 := by omega
    have y2 : (r' : Int) < d := by omega
    clear k1 hf2
    go_enter Try.func36, Try.ntmps36
    go_wp2_with (fail)
    refine (H.out _).mono ?_
    rintro e W1 ⟨rfl, hb⟩
    clear e1
    go_wp2_with (fail)
    refine (H1.out _).mono ?_
    rintro e W2 ⟨rfl, hb2⟩
    go_wp2_with (fail)
    refine (H2.out _).mono ?_
    rintro e W3 ⟨rfl, hb3⟩
    go_wp2_with (fail)
    exact bodyPost_ret (v := .tuple #[.int .u64 (q' : Int), .int .u64 (r' : Int), .int .i64 0]) (by simp [results, Try.results36, go_sem]) rfl ⟨rfl, below3 hb hb2 hb3 _⟩
end Go.Proofs.Ytnhoodpglbjhhaa
