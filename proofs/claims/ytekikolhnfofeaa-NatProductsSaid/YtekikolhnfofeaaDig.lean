/- The contract of reckonerref01.Digits. -/
import Derived.Test.YtekikolhnfofeaaDigM
import Derived.Test.YtekikolhnfofeaaNewRow
import Derived.Test.YtekikolhnfofeaaMem
import Derived.Deep.AppendLies
import Derived.Deep.RegionHeld3
namespace Go.Proofs.Ytekikolhnfofeaa
open Go.RowKit
set_option linter.unusedVariables false

theorem below_app {w wr w1 : World} {e : TypeId} {v : Value} {n size : Nat} {xs : List Value} {o : Obj} (h : Below w.heap.size w wr) (hown : wr.ownsRow w.heap.size e size v n xs) (hg : ((wr.alloc o).drew).grownBy w1 v.ownBlock) : Below w.heap.size w w1 :=
  ((h.alloc h.size o).drew).grown hg (by have := h.size; simp; omega) (fun k hk => (hown.lt k hk).1)
theorem below_app0 {w wr w1 : World} {e : TypeId} {v : Value} {n size : Nat} {xs : List Value} {o : Obj} (h : Below w.heap.size w wr) (hown : wr.ownsRow w.heap.size e size v n xs) (hg : (wr.alloc o).grownBy w1 v.ownBlock) : Below w.heap.size w w1 :=
  (h.alloc h.size o).grown hg (by have := h.size; simp; omega) (fun k hk => (hown.lt k hk).1)
theorem cell_app {w wr w1 : World} {e : TypeId} {v : Value} {n size : Nat} {xs : List Value} {o : Obj} {b i : Nat} {u : Value} (h : Below w.heap.size w wr) (hown : wr.ownsRow w.heap.size e size v n xs) (hg : ((wr.alloc o).drew).grownBy w1 v.ownBlock) (hb : b < w.heap.size) (hc : wr.cell? ⟨b, i, none⟩ = some u) :
    w1.cell? ⟨b, i, none⟩ = some u := by
  have hs := h.size
  rw [hg.cell_far _ (by show b < (wr.alloc o).heap.size; simp; omega) (fun e => by have := (hown.lt b e.symm).1; omega)]
  show (wr.alloc o).cell? _ = _
  rw [World.cell?_alloc_lt wr o _ (by show b < _; omega)]
  exact hc

/-- the halves of a word, in the walk's forms -/
theorem halves (x : Nat) (h : x < B64) : ∃ r q : Nat, (r = x % H32 ∧ q = x / H32) ∧ r < H32 ∧ q < H32 ∧ (x : Int) % 4294967296 = r ∧ (x : Int).tmod 4294967296 = r ∧ (x : Int) / 4294967296 = q ∧ (x : Int).tdiv 4294967296 = q ∧ IntKind.u64.wrap (q : Int) = q := by
  have hB : B64 = 18446744073709551616 := rfl
  have hH : H32 = 4294967296 := rfl
  rw [hB] at h
  rw [hH]
  refine ⟨x % 4294967296, x / 4294967296, ⟨rfl, rfl⟩, by omega, by omega, by omega, ?_, by omega, ?_, ?_⟩
  · rw [Int.tmod_eq_emod_of_nonneg (by omega)]; omega
  · rw [Int.tdiv_eq_ediv_of_nonneg (by omega)]; omega
  · rw [IntKind.wrap_u64]; omega

set_option maxHeartbeats 400000 in
theorem Digits_ok (A : Option Addr) (n c : Nat) (xs : List Nat) (w : World) (hn : n ≤ 4096) (hx : Sl w A n c xs) :
    Calls Try.prog 65 #[.slice A n c] w fun e w' => ∃ v ds, e = .returned v ∧ Nw w w' v (2 * n) ds ∧ Dg ds ∧ VD ds = V xs ∧ Below w.heap.size w w' := by
  obtain ⟨i0, hi, hz0, hz1, hz2⟩ := info_parts Try.info37
  have Hx := Lib.hid hx
  clear hx
  go_enter Try.func65, Try.ntmps65
  go_wp2
  go_loopw [3, 4] (fun v i wr => ∃ (k : Nat) (ds : List Nat), k ≤ n ∧ i = .int .i64 k ∧ wr.ownsRow w.heap.size 37 1 v (2 * k) (uvs ds) ∧ Hid (Dg ds ∧ ds.length = 2 * k ∧ VD ds = V (xs.take k) ∧ Below w.heap.size w wr)) (fun _ i _ => n - (intOf i).toNat)
  case atStart => exact ⟨0, [], by omega, rfl, World.ownsRow_nil _ _ _ _, Dg_nil, rfl, by simp [VD, V], Below.refl _ _⟩
  case round =>
    obtain ⟨k, ds, hk, rfl, hown, hH⟩ := hrel
    by_cases hlt : k < n
    · obtain ⟨b, o, rfl, hb, hcx⟩ := (Hx.out.2.2.2.2.below hH.out.2.2.2).at (uvs_get (List.getElem?_eq_getElem (show k < xs.length by rw [Hx.out.1]; exact hlt)))
      have Hxk := Lib.hid (List.getElem?_eq_getElem (show k < xs.length by rw [Hx.out.1]; exact hlt))
      generalize xs[k]'(by rw [Hx.out.1]; exact hlt) = x at *
      have hki : (k : Int) < n := by omega
      obtain ⟨r, q, hrq, hrH, hqH, e1, e2, e3, e4, e5⟩ := halves x (Hx.out.2.2.2.1 x (List.mem_of_getElem? Hxk.out))
      have HR := Lib.hid (And.intro hrq (And.intro hrH hqH))
      clear hrq hrH hqH
      have Hb := Lib.hid (And.intro hb hH.out.2.2.2)
      go_wp2
      go_region_held3 (fun w' => w'.cell? ⟨b, o + k, none⟩ = some (.int .u64 (x : Int)))
        (first | go_keep | exact cell_app Hb.out.2 hown hgrow Hb.out.1 hcx)
        ((refine step_append_lies _ (by rfl) _ _ 22 (by rfl) w.heap.size 37 i0 _ 1 8 Try.underlying22 hi hz0 hz1 hz2 rfl (by omega) u3 (2 * k) (uvs ds) (by rfl) ((hown.alloc _).drew) ⟨wr.heap.size, 0, none⟩ 2 2 [.int .u64 (r : Int), .int .u64 (q : Int)] (by rfl) (by rfl) (World.news_of_block (cs := #[.int .u64 (r : Int), .int .u64 (q : Int)]) (t := 37) (fr := (0, 0)) (heap_alloc_new wr _)) (by simp [Value.oneCell']) (by omega) (by unfold maxLen; omega) (by omega) (by have := Hb.out.2.size; simp; omega) (wr.heap.size + 1) (by simp) ?_; intro gg cap w1 hown1 hgrow hat hlt1))
      have hst := digits_step hH.out.2.1 Hxk.out (by rw [Hx.out.1]; exact hlt) hH.out.2.2.1
      rw [← HR.out.1.1, ← HR.out.1.2] at hst
      have HN : Hid (Dg (ds ++ [r, q]) ∧ (ds ++ [r, q]).length = 2 * (k + 1) ∧ VD (ds ++ [r, q]) = V (xs.take (k + 1)) ∧ Below w.heap.size w w1) :=
        ⟨Dg_append hH.out.1 (fun z hz => by simp at hz; rcases hz with rfl | rfl; exact HR.out.2.1; exact HR.out.2.2), by simp [hH.out.2.1]; omega, hst, below_app Hb.out.2 hown hgrow⟩
      have hown2 : w1.ownsRow w.heap.size 37 1 (.slice (some ⟨gg, 0, none⟩) (2 * k + 2) cap) (2 * (k + 1)) (uvs (ds ++ [r, q])) := by
        rw [uvs_append]
        exact hown1
      clear hst hH hown hown1 hgrow hat hlt1 e1 e2 e3 e4 e5
      go_wp2
      go_roundw
      case rel => exact ⟨k + 1, ds ++ [r, q], by omega, by go_num, hown2, HN⟩
      case measure => simp [intOf]; omega
    · go_wp2
      go_ret
      have hkn : k = n := by omega
      subst hkn
      obtain ⟨h1, h2, h3, h4⟩ := hH.out
      rw [Hx.out.take_all] at h3
      exact ⟨_, ds, rfl, ⟨h2, h1.ws, hown⟩, h1, h3, h4⟩
end Go.Proofs.Ytekikolhnfofeaa
