/- The contracts of karatsuba and its closure. -/
import Derived.Test.YthpgdpkemnhneaaGreatDoorZFKar
namespace Go.Proofs.YthpgdpkemnhneaaGreatDoor
open Go.RowKit Go.Shelf
set_option linter.unusedVariables false
set_option linter.unusedSimpArgs false
set_option maxRecDepth 10000

theorem run_store_func {P : Program} {w : World} {a : Addr} {m : Mode} (f : Fn) (b c : Array Value) : (store a (.func f b c) m).run P w = stored P w a (.func f b c) m := run_store P w a _ m rfl
attribute [local go_sem] run_store_func

theorem kprod_ok (pl pp least : Nat) (hl3 : 3 ≤ least) (hl64 : least ≤ 64) : ∀ (N : Nat) (A A' : Option Addr) (n n' c c' : Nat) (xs ys : List Nat) (w : World), n ≤ N → n' ≤ N → Sc w A n c xs → Sc w A' n' c' ys → KBox w pl pp least 68 → Room least n n' (V xs * V ys) →
      Calls Tryz.prog 68 #[.slice A n c, .slice A' n' c', .pointer (some ⟨pl, 0, none⟩), .pointer (some ⟨pp, 0, none⟩)] w fun e w' => Rv w w' e (V xs * V ys) := by
  intro N
  induction N with
  | zero =>
    intro A A' n n' c c' xs ys w hn hn' hx hy hK hR
    exact kprod_step 0 pl pp least hl3 hl64 (fun _ _ _ _ _ _ _ _ _ h => absurd h (by omega)) A A' n n' c c' xs ys w hn hn' hx hy hK hR
  | succ N ih =>
    intro A A' n n' c c' xs ys w hn hn' hx hy hK hR
    exact kprod_step (N + 1) pl pp least hl3 hl64 (fun A A' n n' c c' xs ys w h h' => ih A A' n n' c c' xs ys w (by omega) (by omega)) A A' n n' c c' xs ys w hn hn' hx hy hK hR

set_option maxHeartbeats 1000000 in
theorem karatsuba_ok (least : Nat) (hl3 : 3 ≤ least) (hl64 : least ≤ 64) (A A' : Option Addr) (n n' c c' : Nat) (xs ys : List Nat) (w : World) (hx : Sc w A n c xs) (hy : Sc w A' n' c' ys) (hR : Room least n n' (V xs * V ys)) :
    Calls Tryz.prog 38 #[.int .i64 (least : Int), .slice A n c, .slice A' n' c'] w fun e w' => Rv w w' e (V xs * V ys) := by
  have Hx := Lib.hid (And.intro hx (And.intro hy hR))
  clear hx hy hR
  go_enter Tryz.func38, Tryz.ntmps38
  go_wp2_with (fail)
  obtain ⟨X, hX⟩ : ∃ X, (w.alloc (.cells #[.int .i64 (least : Int)] 79)).alloc (.cells #[.func (.func 68) #[] #[.pointer (some ⟨w.heap.size, 0, none⟩), .pointer (some ⟨w.heap.size + 1, 0, none⟩)]] 45) = X := ⟨_, rfl⟩
  rw [hX]
  have hb : Below w.heap.size w X := by rw [← hX]; exact ((Below.refl _ _).alloc (Nat.le_refl _) _).alloc (by simp) _
  refine (kprod_ok w.heap.size (w.heap.size + 1) least hl3 hl64 (n + n') A A' n n' c c' xs ys X (by omega) (by omega) (Hx.out.1.below hb) (Hx.out.2.1.below hb) ?_ Hx.out.2.2).mono ?_
  · refine ⟨?_, ?_, ?_, ?_⟩ <;> rw [← hX] <;> (simp; try omega)
  rintro e w1 ⟨v, rfl, h1, h2⟩
  have H := Lib.hid (And.intro h1 (And.intro h2 hb))
  clear h1 h2 hb hX
  go_wp2_with (fail)
  go_ret
  exact ⟨v, rfl, H.out.1.base H.out.2.2.size, H.out.2.2.trans (H.out.2.1.mono H.out.2.2.size)⟩
end Go.Proofs.YthpgdpkemnhneaaGreatDoor
