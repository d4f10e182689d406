/- The contract of reckonerref01.Cut. -/
import Derived.Test.YtekikolhnfofeaaRow
import Derived.Test.YtekikolhnfofeaaTk
namespace Go.Proofs.Ytekikolhnfofeaa
open Go.RowKit
set_option linter.unusedVariables false
set_option maxRecDepth 10000

/-- digits, with zeros up to m -/
def pad (ds : List Nat) (m : Nat) : List Nat := ds ++ List.replicate (m - ds.length) 0
theorem pad_len (ds : List Nat) (m : Nat) : (pad ds m).length = max ds.length m := by simp [pad]; omega
theorem VD_pad (ds : List Nat) (m : Nat) : VD (pad ds m) = VD ds := by rw [pad, VD_append, VD_zeros]; simp
theorem Dg_zeros (m : Nat) : Dg (List.replicate m 0) := fun x hx => by rw [List.eq_of_mem_replicate hx]; exact H32_pos
theorem Dg_pad {ds : List Nat} (h : Dg ds) (m : Nat) : Dg (pad ds m) := Dg_append h (Dg_zeros _)
/-- a row and the word above it, out of digits -/
theorem cut_val {al zs : List Nat} {n a b hi : Nat} (ha : al[2 * n]? = some a) (hb : al[2 * n + 1]? = some b) (hv : V zs = VD (al.take (2 * n))) (hh : hi = a + b * H32) : V zs + hi * B64 ^ n = VD (al.take (2 * n + 2)) := by
  rw [VD_take_succ al _ b hb, VD_take_succ al _ a ha, hv, hh, Nat.pow_succ, pow_H]
  generalize B64 ^ n = p
  generalize H32 = h
  grind

set_option maxHeartbeats 400000 in
theorem Cut_any (A : Option Addr) (m c n : Nat) (ds : List Nat) (w : World) (hm : m ≤ 100000) (hn : n ≤ 10000) (hx : Sl w A m c ds) (hd : Dg ds) :
    Calls Try.prog 99 #[.slice A m c, .int .i64 n] w fun e w' => ∃ v zs, ∃ hi : Nat, e = .returned (.tuple #[v, .int .u64 hi]) ∧ Nw w w' v n zs ∧ hi < B64 ∧ V zs + hi * B64 ^ n = VD ((pad ds (2 * n + 2)).take (2 * n + 2)) ∧ Below w.heap.size w w' := by
  obtain ⟨i0, hi, hz0, hz1, hz2⟩ := info_parts Try.info37
  have hl := hx.1
  have hrd : Rd w w.heap.size A (uvs ds) := hx.2.2.2.2
  have hul : (uvs ds).length = m := by rw [uvs_length, hl]
  have Hx := Lib.hid (And.intro hx (And.intro hd (And.intro hrd hul)))
  clear hx hd hl hrd hul
  go_enter Try.func99, Try.ntmps99
  go_wp2_with (at_builtin; refine wpList_append_rd _ rfl (.tmp 7) (.tmp 8) 22 rfl w.heap.size 37 i0 (.int .u64 0) Try.underlying22 hi hz0 hz1 hz2 rfl _ 0 [] rfl (World.ownsRow_nil _ _ _ _) w.heap.size A m c (uvs ds) rfl Hx.out.2.2.2 Hx.out.2.2.1 (uvs_one _) (by omega) (by omega) ?_)
  intro v1 w1 hown1 hgrow1 hblk1
  have hb1 : Below w.heap.size w w1 := (Below.refl _ _).grown hgrow1 (Nat.le_refl _) (by intro k hk; cases hk)
  obtain ⟨A1, c1, rfl, hc1, hc2, _, hr1⟩ := own_form hown1
  have hN : ∃ N : Nat, (2 : Int) * (n : Int) = (N : Int) ∧ N = 2 * n := ⟨2 * n, by omega, rfl⟩
  obtain ⟨N, hN, hN2⟩ := hN
  have HN := Lib.hid hN2
  have hN3 : N ≤ 20000 := by omega
  have hs0 : w1.ownsRow w.heap.size 37 1 (.slice A1 m c1) m (uvs (ds ++ List.replicate (m - m) 0)) := by simpa using hown1
  clear hN2 hown1 hgrow1 hblk1 hr1 hc2
  go_wp2
  go_loopw [6] (fun v wr => ∃ (k c1 : Nat) (A1 : Option Addr) (al : List Nat), v = .slice A1 k c1 ∧ m ≤ k ∧ k ≤ max m (N + 2) ∧ wr.ownsRow w.heap.size 37 1 (.slice A1 k c1) k (uvs al) ∧ Hid (al = ds ++ List.replicate (k - m) 0 ∧ Below w.heap.size w wr)) (fun v _ => N + 2 - (match v with | .slice _ k _ => k | _ => 0))
  case atStart => exact ⟨m, c1, A1, _, by simp, by omega, by omega, hs0, rfl, hb1⟩
  case round =>
    clear hs0 hb1
    obtain ⟨k, c1, A1, al, rfl, hk1, hk2, hown, hH⟩ := hrel
    by_cases hlt : k < N + 2
    · go_wp2_with (at_builtin; refine wpList_append_rd _ rfl (.tmp 16) (.tmp 17) 22 rfl w.heap.size 37 i0 (.int .u64 0) Try.underlying22 hi hz0 hz1 hz2 rfl (.slice A1 k c1) k _ rfl (hown.alloc _) _ (some ⟨wr.heap.size, 0, none⟩) 1 1 [.int .u64 0] rfl rfl (Rd.one _ _ _) (by simp [Value.oneCell']) (by omega) (by have := hH.out.2.size; simp; omega) ?_)
      intro v' w2 hown2 hgrow hblk
      obtain ⟨A2, c2, rfl, _, _, _, _⟩ := own_form hown2
      have HN2 : Hid (al ++ [0] = ds ++ List.replicate (k + 1 - m) 0 ∧ Below w.heap.size w w2) := by
        obtain ⟨g1, g2⟩ := hH.out
        refine ⟨?_, below_app0 g2 hown hgrow⟩
        rw [g1, show k + 1 - m = (k - m) + 1 by omega, List.replicate_succ', List.append_assoc]
      have hown3 : w2.ownsRow w.heap.size 37 1 (.slice A2 (k + 1) c2) (k + 1) (uvs (al ++ [0])) := by
        rw [uvs_append]
        exact hown2
      clear hown hH hown2 hgrow hblk
      go_wp2
      go_roundw
      case rel => exact ⟨k + 1, c2, A2, al ++ [0], rfl, by omega, by omega, hown3, HN2⟩
      case measure => simp; omega
    · have hk3 : k = max m (N + 2) := by omega
      have Hk := Lib.hid hk3
      clear hk3
      obtain ⟨_, _, hv, hkc, _, hll, hrd⟩ := own_form hown
      injection hv with hv1 hv2 hv3
      subst hv1
      subst hv3
      rw [uvs_length] at hll
      have hal : al = pad ds (N + 2) := by
        rw [hH.out.1, pad, Hx.out.1.1, Hk.out]
        congr 2
        omega
      have hdg : Dg al := by rw [hal]; exact Dg_pad Hx.out.2.1 _
      have l1 : N < al.length := by omega
      have l2 : N + 1 < al.length := by omega
      have g1 := List.getElem?_eq_getElem l1
      have g2 := List.getElem?_eq_getElem l2
      have a1 : al[N] < H32 := hdg _ (List.getElem_mem l1)
      have a2 : al[N + 1] < H32 := hdg _ (List.getElem_mem l2)
      generalize al[N] = a at *
      generalize al[N + 1] = b at *
      obtain ⟨mm, z, hz, hzB, e1, e2, e3, e4, e5, e6⟩ := joined a b a1 a2
      obtain ⟨bk, o, rfl, hb, hcx⟩ := hrd.at (uvs_get g1)
      obtain ⟨bk', o', he, _, hcy⟩ := hrd.at (uvs_get g2)
      injection he with he
      injection he with he1 he2
      subst he1
      subst he2
      have hSl : Sl wr (some ⟨bk, o, none⟩) N c1 (al.take N) := ⟨by simp; omega, by omega, by unfold maxLen at *; omega, Ws_take hdg.ws N, by rw [uvs_take]; exact hrd.take N⟩
      have Hf := Lib.hid (And.intro hSl (And.intro (Dg_take hdg N) (And.intro g1 (And.intro g2 (And.intro hz (And.intro hzB (And.intro hal hb)))))))
      have hi1 : (N : Int) + 1 < (k : Int) := by omega
      have hi2 : (N : Int) < (k : Int) := by omega
      have hi3 : IntKind.i64.wrap ((N : Int) + 1) = (N : Int) + 1 := IntWalk.i64_in _ (by omega)
      have hi4 : (0 : Int) ≤ (N : Int) + 1 := by omega
      have hi5 : ((N : Int) + 1).toNat = N + 1 := by omega
      have hi6 : IntKind.i64.wrap (N : Int) = (N : Int) := IntWalk.i64_in _ (by omega)
      have hi7 : (N : Int) ≤ (c1 : Int) := by omega
      have Hb := Lib.hid hH.out.2
      clear hSl hal hdg g1 g2 hz hzB a1 a2 l1 l2 hll hrd hown hH hb hc1
      go_wp2
      go_region_held3 (fun w' => w'.cell? ⟨bk, o + N, none⟩ = some (.int .u64 (a : Int)) ∧ w'.cell? ⟨bk, o + (N + 1), none⟩ = some (.int .u64 (b : Int)))
        (first | go_keep | exact ⟨hcx, hcy⟩ | exact ⟨(hbw.cell (p := ⟨bk, o + N, none⟩) Hf.out.2.2.2.2.2.2.2).trans hcx, (hbw.cell (p := ⟨bk, o + (N + 1), none⟩) Hf.out.2.2.2.2.2.2.2).trans hcy⟩)
        ((go_at_call 120; refine (Row_any (some ⟨bk, o, none⟩) N n c1 (al.take N) wr.drew HN.out (by omega) Hf.out.1 Hf.out.2.1).mono ?_; rintro e w' ⟨v, zs, rfl, hnw, hv, hbw⟩))
      have HP : Hid (Nw w w' v n zs ∧ z < B64 ∧ V zs + z * B64 ^ n = VD ((pad ds (2 * n + 2)).take (2 * n + 2)) ∧ Below w.heap.size w w') := by
        obtain ⟨f1, f2, f3, f4, f5, f6, f7, f8⟩ := Hf.out
        have hsz : w.heap.size ≤ wr.drew.heap.size := Hb.out.size
        have hn2 := HN.out
        refine ⟨⟨hnw.1, hnw.2.1, own_base hnw.2.2 hsz⟩, f6, ?_, Hb.out.drew.trans (hbw.mono hsz)⟩
        rw [hn2] at f3 f4 f7 hv
        rw [← f7]
        exact cut_val f3 f4 hv f5
      clear hnw hv hbw Hf Hb hcx hcy e1 e2 e3 e4 e5 e6 hi3 hi4 hi5 hi6
      go_wp2
      go_ret2
      obtain ⟨h1, h2, h3, h4⟩ := HP.out
      exact ⟨v, zs, z, rfl, h1, h2, h3, h4⟩
theorem cut_small {ds : List Nat} {n : Nat} (h : VD ds < B64 ^ (n + 1)) : VD ((pad ds (2 * n + 2)).take (2 * n + 2)) = VD ds := by
  have h1 : VD (pad ds (2 * n + 2)) = VD ((pad ds (2 * n + 2)).take (2 * n + 2)) + H32 ^ ((pad ds (2 * n + 2)).take (2 * n + 2)).length * VD ((pad ds (2 * n + 2)).drop (2 * n + 2)) := by
    rw [← VD_append, List.take_append_drop]
  rw [VD_pad, List.length_take, pad_len, Nat.min_eq_left (by omega), show 2 * n + 2 = 2 * (n + 1) by omega, pow_H] at h1
  rw [show 2 * n + 2 = 2 * (n + 1) by omega]
  rcases Nat.eq_zero_or_pos (VD ((pad ds (2 * (n + 1))).drop (2 * (n + 1)))) with h2 | h2
  · rw [h2] at h1
    omega
  · have := Nat.mul_le_mul_left (B64 ^ (n + 1)) h2
    omega
/-- Cut, where all of the number is kept. -/
theorem Cut_ok (A : Option Addr) (m c n : Nat) (ds : List Nat) (w : World) (hm : m ≤ 100000) (hn : n ≤ 10000) (hx : Sl w A m c ds) (hd : Dg ds) (hs : VD ds < B64 ^ (n + 1)) :
    Calls Try.prog 99 #[.slice A m c, .int .i64 n] w fun e w' => ∃ v zs, ∃ hi : Nat, e = .returned (.tuple #[v, .int .u64 hi]) ∧ Nw w w' v n zs ∧ hi < B64 ∧ V zs + hi * B64 ^ n = VD ds ∧ Below w.heap.size w w' := by
  refine (Cut_any A m c n ds w hm hn hx hd).mono ?_
  rintro e w' ⟨v, zs, hi, h1, h2, h3, h4, h5⟩
  exact ⟨v, zs, hi, h1, h2, h3, by rw [h4, cut_small hs], h5⟩
end Go.Proofs.Ytekikolhnfofeaa
