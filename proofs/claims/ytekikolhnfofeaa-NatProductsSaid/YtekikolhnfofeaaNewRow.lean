/- The contract of words.newRow, over whatever closure. -/
import Derived.Test.YtekikolhnfofeaaProg
import Derived.Test.YtekikolhnfofeaaLens
namespace Go.Proofs.Ytekikolhnfofeaa
open Go.RowKit
set_option linter.unusedVariables false

set_option maxHeartbeats 400000 in
/-- newRow over whatever closure: J says what the words made so far are, and what the closure keeps; the closure writes block g alone. -/
theorem newRow_any (n : Nat) (f : Nat) (caps : Array Value) (g : Nat) (J : List Nat → World → Prop) (w : World) (hn : n ≤ 4096) (hg : g < w.heap.size)
    (hJ : ∀ zs a b, J zs a → Below w.heap.size a b → J zs b)
    (H : ∀ zs a, zs.length < n → J zs a → Calls Try.prog f (#[.int .i64 (zs.length : Int)] ++ caps) a fun e b => ∃ x : Nat, e = .returned (.int .u64 (x : Int)) ∧ J (zs ++ [x]) b ∧ a.grownBy b (some g))
    (hent : ∀ args W, Sem.run Try.prog (callFunc f args) W = .ok (Next.enter f args) W) (h0 : J [] w) :
    Calls Try.prog 93 #[.int .i64 n, .func (.func f) #[] caps] w fun e w' => ∃ v zs, e = .returned v ∧ zs.length = n ∧ w'.ownsRow w.heap.size 37 1 v n (uvs zs) ∧ J zs w' ∧ w.grownBy w' (some g) := by
  obtain ⟨i0, hi, hz0, hz1, hz2⟩ := info_parts Try.info37
  have HI := Lib.hid hJ
  have HH := Lib.hid H
  clear hJ H
  go_enter Try.func93, Try.ntmps93
  go_wp2_with (at_make; refine wpList_make_own _ rfl _ _ 22 rfl w.heap.size 37 i0 (.int .u64 0) 1 Try.underlying22 hi hz0 hz1 .i64 .i64 _ n rfl rfl rfl (by rw [hz2]; omega) (by unfold maxLen; omega) (Nat.le_refl _) ?_)
  intro w1 hown hgrow
  have hJ1 : J [] w1 := HI.out _ _ _ h0 (below_of_grown hgrow (Nat.le_refl _))
  have hgr1 : w.grownBy w1 (some g) := grown_some hgrow _
  clear hgrow h0
  go_wp2
  go_loopw [5, 6, 7, 11] (fun v _ _ i wr => ∃ zs : List Nat, zs.length ≤ n ∧ i = .int .i64 zs.length ∧ wr.ownsRow w.heap.size 37 1 v zs.length (uvs zs) ∧ J zs wr ∧ w.grownBy wr (some g)) (fun _ _ _ i _ => n - (intOf i).toNat)
  case atStart => exact ⟨[], Nat.zero_le _, rfl, hown, hJ1, hgr1⟩
  case round =>
    clear hown hJ1 hgr1
    obtain ⟨zs, hk, rfl, hown, hik, hgr⟩ := hrel
    by_cases hlt : zs.length < n
    · go_wp2_with fail
      refine (HH.out zs _ hlt hik).mono ?_
      rintro e w2 ⟨x, rfl, hi2, hg2⟩
      clear hent
      have hown2 := own_kept hown hg2 hg
      have hsz : w.heap.size ≤ w2.heap.size := Nat.le_trans hgr.size hg2.size
      clear hown hik
      go_wp2_with (at_builtin; refine wpList_append_rd _ rfl (.tmp 17) (.tmp 19) 22 rfl w.heap.size 37 i0 (.int .u64 0) Try.underlying22 hi hz0 hz1 hz2 rfl u5 zs.length _ rfl (hown2.alloc _) _ (some ⟨w2.heap.size, 0, none⟩) 1 1 [.int .u64 (x : Int)] rfl rfl (Rd.one _ _ _) (by simp [Value.oneCell']) (by omega) (by simp; omega) ?_)
      intro v' w3 hown3 hgrow3 hblk
      go_wp2
      go_roundw
      case rel =>
        have hb3 : Below w.heap.size w2 w3 := ((Below.refl _ w2).alloc hsz _).grown hgrow3 (by simp; omega) (fun j hj => (hown2.lt j hj).1)
        refine ⟨zs ++ [x], by simp; omega, by simp, ?_, HI.out _ _ _ hi2 hb3, grown_below (grown_trans hgr hg2) hb3⟩
        rw [uvs_append, List.length_append]
        exact hown3
      case measure => simp [intOf]; omega
    · have hkn : zs.length = n := by omega
      have Hkn := Lib.hid hkn
      rw [hkn] at hown
      clear hkn
      go_wp2
      go_ret
      exact ⟨_, zs, rfl, Hkn.out, hown, hik, hgr⟩
end Go.Proofs.Ytekikolhnfofeaa
