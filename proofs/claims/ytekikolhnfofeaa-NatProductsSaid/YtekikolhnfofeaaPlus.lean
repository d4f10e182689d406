/- The contracts of reckonerref01.digit and reckonerref01.Plus. -/
import Derived.Test.YtekikolhnfofeaaPlusL
namespace Go.Proofs.Ytekikolhnfofeaa
open Go.RowKit
set_option linter.unusedVariables false
set_option maxRecDepth 10000

set_option maxHeartbeats 400000 in
theorem Plus_ok (A A' : Option Addr) (n m c c' : Nat) (xs ys : List Nat) (w : World) (hn : n ≤ 100000) (hm : m ≤ 100000) (hx : Sl w A n c xs) (hy : Sl w A' m c' ys) (dx : Dg xs) (dy : Dg ys) :
    Calls Try.prog 64 #[.slice A n c, .slice A' m c'] w fun e w' => ∃ v out, e = .returned v ∧ Nw w w' v (max n m + 1) out ∧ Dg out ∧ VD out = VD xs + VD ys ∧ Below w.heap.size w w' := by
  obtain ⟨i0, hi, hz0, hz1, hz2⟩ := info_parts Try.info37
  have Hx := Lib.hid (And.intro hx dx)
  have Hy := Lib.hid (And.intro hy dy)
  clear hx hy dx dy
  go_enter Try.func64, Try.ntmps64
  go_wp2
  go_loopw [5, 6, 7] (fun v cv i wr => ∃ (k cy : Nat) (out : List Nat), k ≤ max n m ∧ i = .int .i64 k ∧ cv = .int .u64 cy ∧ wr.ownsRow w.heap.size 37 1 v k (uvs out) ∧ Hid (cy ≤ 1 ∧ Dg out ∧ out.length = k ∧ VD out + cy * H32 ^ k = VD (xs.take k) + VD (ys.take k) ∧ Below w.heap.size w wr)) (fun _ _ i _ => max n m - (intOf i).toNat)
  case atStart => exact ⟨0, 0, [], by omega, rfl, rfl, World.ownsRow_nil _ _ _ _, by decide, Dg_nil, rfl, by simp [VD], Below.refl _ _⟩
  case round =>
    obtain ⟨k, cy, out, hk, rfl, rfl, hown, hH⟩ := hrel
    by_cases hlt : k < max n m
    · have ha := dig_lt Hx.out.2 k
      have hb := dig_lt Hy.out.2 k
      have hs : ∃ s : Nat, cy + dig xs k + dig ys k = s := ⟨_, rfl⟩
      obtain ⟨s, hs⟩ := hs
      obtain ⟨hsB, hsc⟩ := plus_carry hH.out.1 ha hb hs
      obtain ⟨r, q, hrq, hrH, hqH, e1, e2, e3, e4, e5⟩ := halves s hsB
      have hx := Hx.out.1.below hH.out.2.2.2.2
      have hy := Hy.out.1.below hH.out.2.2.2.2
      have Hxy := Lib.hid (And.intro hx hy)
      have Hs := Lib.hid hs
      have hs0 : (s : Int) ≤ 8589934593 := by have := hH.out.1; have : H32 = 4294967296 := rfl; omega
      have hs1 : ∃ t : Nat, (cy : Int) + (dig xs k : Int) = (t : Int) ∧ (t : Int) + (dig ys k : Int) = (s : Int) ∧ t ≤ 4294967296 := ⟨cy + dig xs k, by omega, by omega, by have := hH.out.1; have : H32 = 4294967296 := rfl; omega⟩
      obtain ⟨t, hs1, hs2, hs3⟩ := hs1
      have HR := Lib.hid (And.intro hrq (And.intro hrH (And.intro hqH hsc)))
      clear hx hy hs hrq hrH hqH hsB hsc ha hb
      rcases Nat.lt_or_ge k n with hkn | hkn
      all_goals
        go_wp2_with (fail)
        refine (digit_any A n c k xs _ (by omega) Hxy.out.1).mono ?_
        rintro e w' ⟨rfl, rfl⟩
        go_wp2_with (fail)
        refine (digit_any A' m c' k ys _ (by omega) Hxy.out.2).mono ?_
        rintro e w' ⟨rfl, rfl⟩
        go_wp2_with (at_builtin; refine wpList_append_rd _ rfl (.tmp 29) (.tmp 32) 22 rfl w.heap.size 37 i0 (.int .u64 0) Try.underlying22 hi hz0 hz1 hz2 rfl u5 k _ rfl (hown.alloc _) _ (some ⟨wr.heap.size, 0, none⟩) 1 1 [.int .u64 (r : Int)] rfl rfl (Rd.one _ _ _) (by simp [Value.oneCell']) (by omega) (by have := hH.out.2.2.2.2.size; simp; omega) ?_)
        intro v' w2 hown2 hgrow hblk
        have HN : Hid (q ≤ 1 ∧ Dg (out ++ [r]) ∧ (out ++ [r]).length = k + 1 ∧ VD (out ++ [r]) + q * H32 ^ (k + 1) = VD (xs.take (k + 1)) + VD (ys.take (k + 1)) ∧ Below w.heap.size w w2) := by
          obtain ⟨⟨h1, h2⟩, h3, h4, h5⟩ := HR.out
          obtain ⟨g1, g2, g3, g4, g5⟩ := hH.out
          exact ⟨by rw [h2]; exact h5, Dg_snoc g2 h3, by simp [g3], plus_step g3 Hs.out h1 h2 g4, below_app0 g5 hown hgrow⟩
        have hown3 : w2.ownsRow w.heap.size 37 1 v' (k + 1) (uvs (out ++ [r])) := by
          rw [uvs_append]
          exact hown2
        clear hown hH hown2 hgrow hblk Hxy
        go_wp2
        go_roundw
        case rel => exact ⟨k + 1, q, out ++ [r], by omega, by go_num, rfl, hown3, HN⟩
        case measure => simp [intOf]; omega
    · have hd : (decide (k < n) || decide (k < m)) = false := by simp; omega
      have Hkm := Lib.hid (show k = max n m by omega)
      have hcy : (cy : Nat) ≤ 1 := hH.out.1
      go_wp2_with (at_builtin; refine wpList_append_rd _ rfl (.tmp 36) (.tmp 38) 22 rfl w.heap.size 37 i0 (.int .u64 0) Try.underlying22 hi hz0 hz1 hz2 rfl u5 k _ rfl (hown.alloc _) _ (some ⟨wr.heap.size, 0, none⟩) 1 1 [.int .u64 (cy : Int)] rfl rfl (Rd.one _ _ _) (by simp [Value.oneCell']) (by omega) (by have := hH.out.2.2.2.2.size; simp; omega) ?_)
      intro v' w2 hown2 hgrow hblk
      have HN : Hid (Nw w w2 v' (max n m + 1) (out ++ [cy]) ∧ Dg (out ++ [cy]) ∧ VD (out ++ [cy]) = VD xs + VD ys ∧ Below w.heap.size w w2) := by
        obtain ⟨g1, g2, g3, g4, g5⟩ := hH.out
        have d := Dg_snoc g2 (show cy < H32 by unfold H32; omega)
        refine ⟨⟨by rw [← Hkm.out]; simp [g3], d.ws, ?_⟩, d, ?_, below_app0 g5 hown hgrow⟩
        · rw [uvs_append, ← Hkm.out]
          exact hown2
        · rw [VD_snoc, g3, g4, List.take_of_length_le (by rw [Hx.out.1.1, Hkm.out]; omega), List.take_of_length_le (by rw [Hy.out.1.1, Hkm.out]; omega)]
      clear hown hH hown2 hgrow hblk
      go_wp2
      go_ret
      obtain ⟨h1, h2, h3, h4⟩ := HN.out
      exact ⟨v', _, rfl, h1, h2, h3, h4⟩
end Go.Proofs.Ytekikolhnfofeaa
