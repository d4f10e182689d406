/- The contract of reckonerref01.Row. -/
import Derived.Test.YtekikolhnfofeaaPlusL
namespace Go.Proofs.Ytekikolhnfofeaa
open Go.RowKit
set_option linter.unusedVariables false
set_option maxRecDepth 10000

/-- two digits make a word, in the walk's forms -/
theorem joined (a b : Nat) (ha : a < H32) (hb : b < H32) : ∃ m z : Nat, z = a + b * H32 ∧ z < B64 ∧ IntKind.u64.wrap ((b : Int) * 4294967296) = m ∧ IntKind.u64.wrap ((a : Int) + m) = z ∧ (b : Int) * 4294967296 = m ∧ (a : Int) + m = z ∧ IntKind.u64.wrap (m : Int) = m ∧ IntKind.u64.wrap (z : Int) = z := by
  have hB : B64 = 18446744073709551616 := rfl
  have hH : H32 = 4294967296 := rfl
  rw [hH] at ha hb
  refine ⟨b * 4294967296, a + b * 4294967296, by rw [hH], by omega, ?_, ?_, by omega, by omega, ?_, ?_⟩ <;> (rw [IntKind.wrap_u64]; omega)
/-- one step of Row -/
theorem row_step {ds zs : List Nat} {j a b z : Nat} (ha : ds[2 * j]? = some a) (hb : ds[2 * j + 1]? = some b) (hz : z = a + b * H32) (hl : zs.length = j) (hv : V zs = VD (ds.take (2 * j))) : V (zs ++ [z]) = VD (ds.take (2 * (j + 1))) := by
  rw [show 2 * (j + 1) = 2 * j + 1 + 1 by omega, VD_take_succ ds _ b hb, VD_take_succ ds _ a ha, V_snoc, hv, hl, hz, Nat.pow_succ, pow_H]
  generalize B64 ^ j = p
  generalize H32 = h
  grind

set_option maxHeartbeats 400000 in
theorem Row_any (A : Option Addr) (N n c : Nat) (ds : List Nat) (w : World) (hN : N = 2 * n) (hn : n ≤ 50000) (hx : Sl w A N c ds) (hd : Dg ds) :
    Calls Try.prog 120 #[.slice A N c] w fun e w' => ∃ v zs, e = .returned v ∧ Nw w w' v n zs ∧ V zs = VD ds ∧ Below w.heap.size w w' := by
  obtain ⟨i0, hi, hz0, hz1, hz2⟩ := info_parts Try.info37
  have Hx := Lib.hid (And.intro hx hd)
  have HN := Lib.hid hN
  have hN1 : N ≤ 100000 := by omega
  clear hx hd hN
  go_enter Try.func120, Try.ntmps120
  go_wp2
  go_loopw [3, 4] (fun v iv wr => ∃ (j i : Nat) (zs : List Nat), j ≤ n ∧ iv = .int .i64 i ∧ wr.ownsRow w.heap.size 37 1 v j (uvs zs) ∧ Hid (i = 2 * j ∧ Ws zs ∧ zs.length = j ∧ V zs = VD (ds.take (2 * j)) ∧ Below w.heap.size w wr)) (fun _ i _ => N + 1 - (intOf i).toNat)
  case atStart => exact ⟨0, 0, [], by omega, rfl, World.ownsRow_nil _ _ _ _, rfl, Ws_nil, rfl, by simp [VD, V], Below.refl _ _⟩
  case round =>
    obtain ⟨j, i, zs, hj, rfl, hown, hH⟩ := hrel
    have hij := hH.out.1
    by_cases hlt : j < n
    · have l1 : 2 * j < ds.length := by rw [Hx.out.1.1, HN.out]; omega
      have l2 : 2 * j + 1 < ds.length := by rw [Hx.out.1.1, HN.out]; omega
      have g1 := List.getElem?_eq_getElem l1
      have g2 := List.getElem?_eq_getElem l2
      have a1 : ds[2 * j] < H32 := Hx.out.2 _ (List.getElem_mem l1)
      have a2 : ds[2 * j + 1] < H32 := Hx.out.2 _ (List.getElem_mem l2)
      generalize ds[2 * j] = a at *
      generalize ds[2 * j + 1] = b at *
      obtain ⟨m, z, hz, hzB, e1, e2, e3, e4, e5, e6⟩ := joined a b a1 a2
      obtain ⟨bk, o, rfl, hb, hcx⟩ := (Hx.out.1.2.2.2.2.below hH.out.2.2.2.2).at (uvs_get g1)
      obtain ⟨bk', o', he, _, hcy⟩ := (Hx.out.1.2.2.2.2.below hH.out.2.2.2.2).at (uvs_get g2)
      injection he with he
      injection he with he1 he2
      subst he1
      subst he2
      rw [← hij] at hcx hcy
      have hi1 : (i : Int) + 1 < (N : Int) := by have := HN.out; omega
      have hi2 : (i : Int) < (N : Int) := by omega
      have hi3 : IntKind.i64.wrap ((i : Int) + 1) = (i : Int) + 1 := IntWalk.i64_in _ (by omega)
      have hi4 : (0 : Int) ≤ (i : Int) + 1 := by omega
      have hi5 : ((i : Int) + 1).toNat = i + 1 := by omega
      have HG := Lib.hid (And.intro g1 (And.intro g2 (And.intro hz hzB)))
      have Hb := Lib.hid (And.intro hb hH.out.2.2.2.2)
      clear g1 g2 hz hzB a1 a2 l1 l2 hij
      go_wp2
      go_region_held3 (fun w' => w'.cell? ⟨bk, o + i, none⟩ = some (.int .u64 (a : Int)) ∧ w'.cell? ⟨bk, o + (i + 1), none⟩ = some (.int .u64 (b : Int)))
        (first | go_keep | exact ⟨cell_app Hb.out.2 hown hgrow Hb.out.1 hcx, cell_app Hb.out.2 hown hgrow Hb.out.1 hcy⟩)
        ((refine step_append_lies _ (by rfl) _ _ 22 (by rfl) w.heap.size 37 i0 _ 1 8 Try.underlying22 hi hz0 hz1 hz2 rfl (by omega) u3 j (uvs zs) (by rfl) ((hown.alloc _).drew) ⟨wr.heap.size, 0, none⟩ 1 1 [.int .u64 (z : Int)] (by rfl) (by rfl) (World.news_of_block (cs := #[.int .u64 (z : Int)]) (t := 37) (fr := (0, 0)) (heap_alloc_new wr _)) (by simp [Value.oneCell']) (by omega) (by unfold maxLen; omega) (by omega) (by have := Hb.out.2.size; simp; omega) (wr.heap.size + 1) (by simp) ?_; intro gg cap w1 hown1 hgrow hat hlt1))
      have HN2 : Hid (i + 2 = 2 * (j + 1) ∧ Ws (zs ++ [z]) ∧ (zs ++ [z]).length = j + 1 ∧ V (zs ++ [z]) = VD (ds.take (2 * (j + 1))) ∧ Below w.heap.size w w1) := by
        obtain ⟨g1, g2, g3, g4⟩ := HG.out
        obtain ⟨k1, k2, k3, k4, k5⟩ := hH.out
        exact ⟨by omega, Ws_snoc k2 g4, by simp [k3], row_step g1 g2 g3 k3 k4, below_app Hb.out.2 hown hgrow⟩
      have hown2 : w1.ownsRow w.heap.size 37 1 (.slice (some ⟨gg, 0, none⟩) (j + 1) cap) (j + 1) (uvs (zs ++ [z])) := by
        rw [uvs_append]
        exact hown1
      have him : i + 1 < N := by omega
      clear hH hown hown1 hgrow hat hlt1 e1 e2 e3 e4 e5 e6 hi1 hi3 hi4 hi5 HG Hb hcx hcy
      go_wp2
      go_roundw
      case rel => exact ⟨j + 1, i + 2, zs ++ [z], by omega, by go_num, hown2, HN2⟩
      case measure => simp [intOf]; omega
    · have hjn : j = n := by omega
      have hiN : N ≤ i := by have := HN.out; omega
      have hiN2 : ¬ ((i : Int) + 1 < N) := by omega
      have hi5 : i ≤ 100000 := by have := HN.out; omega
      have Hj := Lib.hid hjn
      clear hij hjn
      go_wp2
      go_ret
      obtain ⟨k1, k2, k3, k4, k5⟩ := hH.out
      have hj := Hj.out
      subst hj
      refine ⟨_, rfl, zs, ⟨k3, k2, hown⟩, ?_, k5⟩
      rw [k4, List.take_of_length_le (by rw [Hx.out.1.1, HN.out]; omega)]
theorem Row_ok (A : Option Addr) (n c : Nat) (ds : List Nat) (w : World) (hn : n ≤ 50000) (hx : Sl w A (2 * n) c ds) (hd : Dg ds) :
    Calls Try.prog 120 #[.slice A (2 * n) c] w fun e w' => ∃ v zs, e = .returned v ∧ Nw w w' v n zs ∧ V zs = VD ds ∧ Below w.heap.size w w' := Row_any A (2 * n) n c ds w rfl hn hx hd
end Go.Proofs.Ytekikolhnfofeaa
