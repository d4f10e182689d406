/- The contract of reckonerref01.Minus. -/
import Derived.Test.YtekikolhnfofeaaPlusL
namespace Go.Proofs.Ytekikolhnfofeaa
open Go.RowKit
set_option linter.unusedVariables false
set_option maxRecDepth 10000

/-- one step of a difference of digits -/
theorem minus_step {out xs ys : List Nat} {k a b r q bo bo' s : Nat} (hl : out.length = k) (ha : xs[k]? = some a) (hb : dig ys k = b) (hs : s + b + bo = a + H32) (hr : r = s % H32) (hq : q = s / H32) (hbo : bo' + q = 1)
    (hv : VD out + VD (ys.take k) = VD (xs.take k) + bo * H32 ^ k) : VD (out ++ [r]) + VD (ys.take (k + 1)) = VD (xs.take (k + 1)) + bo' * H32 ^ (k + 1) := by
  have hrq : r + H32 * q = s := by subst hr hq; exact Nat.mod_add_div _ _
  rw [VD_snoc, VD_take_dig, hb, VD_take_succ xs k a ha, hl, Nat.pow_succ]
  generalize VD (xs.take k) = u at *
  generalize VD (ys.take k) = v at *
  generalize VD out = t at *
  generalize H32 ^ k = p at *
  generalize H32 = h at *
  clear hr hq hl ha hb
  have e : r + b + bo = a + bo' * h := by
    have : h * q + bo' * h = h := by rw [Nat.mul_comm bo', ← Nat.mul_add, Nat.add_comm, hbo, Nat.mul_one]
    omega
  have e2 : r * p + b * p + bo * p = a * p + bo' * (p * h) := by
    have := congrArg (· * p) e
    simp only [Nat.add_mul] at this
    rw [this]
    congr 1
    rw [Nat.mul_assoc, Nat.mul_comm h]
  omega
theorem minus_bounds {a b bo : Nat} (ha : a < H32) (hb : b < H32) (hbo : bo ≤ 1) : ∃ s, s + b + bo = a + H32 ∧ s < 8589934592 ∧ s / H32 ≤ 1 := by
  have hH : H32 = 4294967296 := rfl
  rw [hH] at ha hb ⊢
  exact ⟨a + 4294967296 - b - bo, by omega, by omega, by omega⟩

set_option maxHeartbeats 400000 in
theorem Minus_ok (A A' : Option Addr) (n m c c' : Nat) (xs ys : List Nat) (w : World) (hn : n ≤ 100000) (hm : m ≤ 100000) (hx : Sl w A n c xs) (hy : Sl w A' m c' ys) (dx : Dg xs) (dy : Dg ys) :
    Calls Try.prog 68 #[.slice A n c, .slice A' m c'] w fun e w' => ∃ v out, ∃ bo : Nat, e = .returned (.tuple #[v, .bool ((bo : Int) == 1)]) ∧ bo ≤ 1 ∧ Nw w w' v n out ∧ Dg out ∧ VD out + VD (ys.take n) = VD xs + bo * H32 ^ n ∧ Below w.heap.size w w' := by
  obtain ⟨i0, hi, hz0, hz1, hz2⟩ := info_parts Try.info37
  have Hx := Lib.hid (And.intro hx dx)
  have Hy := Lib.hid (And.intro hy dy)
  clear hx hy dx dy
  go_enter Try.func68, Try.ntmps68
  go_wp2
  go_loopw [6, 7, 8] (fun v bv i wr => ∃ (k bo : Nat) (out : List Nat), k ≤ n ∧ i = .int .i64 k ∧ bv = .int .u64 bo ∧ wr.ownsRow w.heap.size 37 1 v k (uvs out) ∧ Hid (bo ≤ 1 ∧ Dg out ∧ out.length = k ∧ VD out + VD (ys.take k) = VD (xs.take k) + bo * H32 ^ k ∧ Below w.heap.size w wr)) (fun _ _ i _ => n - (intOf i).toNat)
  case atStart => exact ⟨0, 0, [], by omega, rfl, rfl, World.ownsRow_nil _ _ _ _, by decide, Dg_nil, rfl, by simp [VD], Below.refl _ _⟩
  case round =>
    obtain ⟨k, bo, out, hk, rfl, rfl, hown, hH⟩ := hrel
    by_cases hlt : k < n
    · have l1 : k < xs.length := by rw [Hx.out.1.1]; exact hlt
      have g1 := List.getElem?_eq_getElem l1
      have a1 : xs[k] < H32 := Hx.out.2 _ (List.getElem_mem l1)
      generalize xs[k] = a at *
      have hb := dig_lt Hy.out.2 k
      obtain ⟨bk, o, rfl, hbl, hcx⟩ := (Hx.out.1.2.2.2.2.below hH.out.2.2.2.2).at (uvs_get g1)
      obtain ⟨b, hbb⟩ : ∃ b, dig ys k = b := ⟨_, rfl⟩
      have Hd := Lib.hid (fun nn => digit_any A' m c' k ys (wr.drewN nn) (by omega) (show Sl wr A' m c' ys from Hy.out.1.below hH.out.2.2.2.2))
      rw [hbb] at hb Hd
      obtain ⟨s, hs, hs1, hs2⟩ := minus_bounds a1 hb hH.out.1
      obtain ⟨r, q, hrq, hrH, hqH, e1, e2, e3, e4, e5⟩ := halves s (by have : B64 = 18446744073709551616 := rfl; omega)
      have hq1 : q ≤ 1 := by rw [hrq.2]; exact hs2
      have f1 : ∃ t : Nat, (a : Int) + 4294967296 = (t : Int) ∧ IntKind.u64.wrap ((a : Int) + 4294967296) = (t : Int) ∧ IntKind.u64.wrap (t : Int) = (t : Int) ∧ t < 8589934592 ∧ t = a + H32 := by
        have hH : H32 = 4294967296 := rfl
        rw [hH] at a1
        exact ⟨a + 4294967296, by omega, by rw [IntKind.wrap_u64]; omega, by rw [IntKind.wrap_u64]; omega, by omega, by rw [hH]⟩
      obtain ⟨t, t1, t2, t3, t4, t5⟩ := f1
      have f2 : ∃ y : Nat, (t : Int) - (b : Int) = (y : Int) ∧ IntKind.u64.wrap ((t : Int) - (b : Int)) = (y : Int) ∧ IntKind.u64.wrap (y : Int) = (y : Int) ∧ y < 8589934592 ∧ (y : Int) - (bo : Int) = (s : Int) ∧ IntKind.u64.wrap ((y : Int) - (bo : Int)) = (s : Int) ∧ IntKind.u64.wrap (s : Int) = (s : Int) := by
        refine ⟨t - b, by omega, ?_, ?_, by omega, by omega, ?_, ?_⟩
        · rw [IntKind.wrap_u64]; omega
        · rw [IntKind.wrap_u64]; omega
        · rw [IntKind.wrap_u64]; omega
        · rw [IntKind.wrap_u64]; omega
      obtain ⟨y, y1, y2, y3, y4, y5, y6, y7⟩ := f2
      have f3 : ∃ p : Nat, (1 : Int) - (q : Int) = (p : Int) ∧ p ≤ 1 ∧ p + q = 1 := ⟨1 - q, by omega, by omega, by omega⟩
      obtain ⟨p, p1, p2, p3⟩ := f3
      have hki : (k : Int) < n := by omega
      have HF := Lib.hid (And.intro g1 (And.intro hbb (And.intro hs (And.intro hrq (And.intro hrH (And.intro p2 p3))))))
      clear g1 hbb hs hrq hrH hqH p2 p3 t5 a1 hb l1 hs2
      go_wp2
      go_quiet ((go_at_call 100; exact Calls.quiet_of_same ((Hd.out _).mono fun e w' h => ⟨h.1, h.2.symm⟩)))
      have hownd := own_drewN hown nq
      have hHd : Hid (bo ≤ 1 ∧ Dg out ∧ out.length = k ∧ VD out + VD (ys.take k) = VD (xs.take k) + bo * H32 ^ k ∧ Below w.heap.size w (wr.drewN nq)) := ⟨hH.out.1, hH.out.2.1, hH.out.2.2.1, hH.out.2.2.2.1, below_drewN hH.out.2.2.2.2 nq⟩
      clear hH hown Hd hcx
      generalize wr.drewN nq = wq at *
      go_wp2_with (at_builtin; refine wpList_append_rd _ rfl (.tmp 27) (.tmp 30) 22 rfl w.heap.size 37 i0 (.int .u64 0) Try.underlying22 hi hz0 hz1 hz2 rfl u6 k _ rfl (hownd.alloc _) _ (some ⟨wq.heap.size, 0, none⟩) 1 1 [.int .u64 (r : Int)] rfl rfl (Rd.one _ _ _) (by simp [Value.oneCell']) (by omega) (by have := hHd.out.2.2.2.2.size; simp; omega) ?_)
      intro v' w2 hown2 hgrow hblk
      have HN : Hid (p ≤ 1 ∧ Dg (out ++ [r]) ∧ (out ++ [r]).length = k + 1 ∧ VD (out ++ [r]) + VD (ys.take (k + 1)) = VD (xs.take (k + 1)) + p * H32 ^ (k + 1) ∧ Below w.heap.size w w2) := by
        obtain ⟨h1, h2, h3, h4, h5, h6, h7⟩ := HF.out
        obtain ⟨g1, g2, g3, g4, g5⟩ := hHd.out
        exact ⟨h6, Dg_snoc g2 h5, by simp [g3], minus_step g3 h1 h2 h3 h4.1 h4.2 h7 g4, below_app0 g5 hownd hgrow⟩
      have hown3 : w2.ownsRow w.heap.size 37 1 v' (k + 1) (uvs (out ++ [r])) := by
        rw [uvs_append]
        exact hown2
      clear hownd hHd hown2 hgrow hblk
      go_wp2
      go_roundw
      case rel => exact ⟨k + 1, p, out ++ [r], by omega, by go_num, rfl, hown3, HN⟩
      case measure => simp [intOf]; omega
    · have hkn : k = n := by omega
      have Hk := Lib.hid hkn
      clear hkn
      go_wp2
      go_ret2
      have hkn := Hk.out
      subst hkn
      obtain ⟨g1, g2, g3, g4, g5⟩ := hH.out
      rw [show xs.take k = xs from List.take_of_length_le (by rw [Hx.out.1.1]; exact Nat.le_refl _)] at g4
      exact ⟨_, out, bo, rfl, g1, ⟨g3, g2.ws, hown⟩, g2, g4, g5⟩
end Go.Proofs.Ytekikolhnfofeaa
