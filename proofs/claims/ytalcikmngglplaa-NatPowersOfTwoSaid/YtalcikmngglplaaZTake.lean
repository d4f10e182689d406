/- The contract of nat.takeWord. -/
import Derived.Test.YtalcikmngglplaaZKn
import Derived.Test.YtalcikmngglplaaZGrow
import Derived.Test.YtalcikmngglplaaP1
import Derived.Test.YtalcikmngglplaaZSubMul
import Derived.Laws.CopyOwn
namespace Go.Proofs.Ytalcikmngglplaa
open Go.RowKit Go.Shelf
set_option linter.unusedVariables false
set_option linter.unusedSimpArgs false
set_option maxRecDepth 10000

theorem grown_setRow (w : World) (g : Nat) (cs : Array Value) : w.grownBy (w.setRow g cs) (some g) :=
  ⟨rfl, rfl, rfl, by simp [World.setRow], fun k _ hr => setRow_other w g k cs (fun e => hr (by rw [e]))⟩
/-- what takeWord leaves -/
def TakeR (w w' : World) (g j n : Nat) (L : List Value) (x v q : Nat) (rs : List Nat) : Prop :=
  x = q * v + V rs ∧ V rs < v ∧ q < B64 ∧ rs.length = n ∧ Ws rs ∧ w'.heap[g]? = some (.cells (splice L j (uvs rs)).toArray 37 (0, 0)) ∧ w.grownBy w' (some g)
set_option maxHeartbeats 600000 in
theorem takeWord_ok (hGC : GuessC) (Av : Option Addr) (g j cu n N1 cv : Nat) (L : List Value) (xs vs : List Nat) (w : World) (hN1 : N1 = n + 1) (hn2 : 2 ≤ n) (hn : n ≤ 4096) (hL : w.heap[g]? = some (.cells L.toArray 37 (0, 0)))
    (hx : Sl w (some ⟨g, j, none⟩) N1 cu xs) (hv : Sl w Av n cv vs) (htop : ∀ f, vs[n - 1]? = some f → B64 ≤ 2 * f) (hlt : V xs < V vs * B64) (hfit : j + n ≤ L.length) :
    Calls Try.prog 109 #[.slice (some ⟨g, j, none⟩) N1 cu, .slice Av n cv] w fun e w' => ∃ (q : Nat) (rs : List Nat), e = .returned (.int .u64 (q : Int)) ∧ TakeR w w' g j n L (V xs) (V vs) q rs := by
  have HGC := Lib.hid hGC
  clear hGC
  have Hx := Lib.hid (And.intro hx (And.intro hv (And.intro htop (And.intro hlt (And.intro hL hfit)))))
  have hxl := hx.1
  have hgl := List.getElem?_eq_getElem (show n < xs.length by omega)
  obtain ⟨t, ht⟩ : ∃ t, xs[n]'(by omega) = t := ⟨_, rfl⟩
  rw [ht] at hgl
  have Ht := Lib.hid hgl
  have hnc : n < cu := by have := hx.2.1; omega
  have hnN : (n : Int) < (N1 : Int) := by omega
  have HN1 := Lib.hid hN1
  clear hx hv htop hlt hL hfit hgl ht hxl hN1
  go_enter Try.func109, Try.ntmps109
  go_wp2_with (fail)
  refine (HGC.out _ Av n N1 cu cv xs vs w HN1.out hn2 hn Hx.out.1 Hx.out.2.1 Hx.out.2.2.1 Hx.out.2.2.2.1).mono ?_
  rintro e w1 ⟨g0, rfl, hG, hb1⟩
  have H1 := Lib.hid (And.intro hG (And.intro (Hx.out.1.below hb1) (And.intro (Hx.out.2.1.below hb1) hb1)))
  have hg0 := hG.1
  clear hb1 hG
  have hni : (n : Int) ≤ (cu : Int) := by omega
  go_wp2_with (fail)
  have htk : Sl w1 (some ⟨g, j, none⟩) n cu (xs.take n) := H1.out.2.1.tk (by have := HN1.out; omega)
  refine (SubMul_ok Av _ n cv cu (xs.take n) vs g0 w1 hn htk H1.out.2.2.1 hg0).mono ?_
  rintro e w2 ⟨v2, zs, d, rfl, hd, hsub, hnw, hb2⟩
  obtain ⟨A2, c2, rfl, hs2⟩ := hnw.sl
  have htv : t < B64 := Hx.out.1.2.2.2.1 t (List.mem_of_getElem? Ht.out)
  have hct : w2.cell? ⟨g, j + n, none⟩ = some (.int .u64 (t : Int)) := by
    have h := (H1.out.2.1.below hb2)
    obtain ⟨b, o, e, _, hc⟩ := h.2.2.2.2.at (uvs_get Ht.out)
    injection e with e
    injection e with e1 e2
    rw [e1, e2]
    exact hc
  have hsl := H1.out.2.2.1.below hb2
  -- the world so far, and the row's cells in it
  have hgw := grown_of_below (H1.out.2.2.2.trans (hb2.mono H1.out.2.2.2.size)) (some g)
  have hL2 : w2.heap[g]? = some (.cells L.toArray 37 (0, 0)) := by
    rw [(H1.out.2.2.2.trans (hb2.mono H1.out.2.2.2.size)).block g (Array.getElem?_eq_some_iff.1 Hx.out.2.2.2.2.1).1]
    exact Hx.out.2.2.2.2.1
  have hval : V xs = V (xs.take n) + t * B64 ^ n := by
    have h := V_take_succ xs n (by rw [Hx.out.1.1]; have := HN1.out; omega)
    rw [List.take_of_length_le (by rw [Hx.out.1.1]; have := HN1.out; omega)] at h
    have h2 := Ht.out
    rw [List.getElem?_eq_getElem (by rw [Hx.out.1.1]; have := HN1.out; omega)] at h2
    injection h2 with h2
    rw [h, h2]
  have hvB : V vs < B64 ^ n := Hx.out.2.1.lt
  have hx1 : V (xs.take n) < B64 ^ n := htk.lt
  have hzB : V zs < B64 ^ n := by have h := hs2.lt; exact h
  have hsub2 : V zs + g0 * V vs = V (xs.take n) + d * B64 ^ n := by rw [Nat.mul_comm]; omega
  have HV := Lib.hid (And.intro hval (And.intro hvB (And.intro hx1 (And.intro hzB (And.intro hsub2 (And.intro H1.out.1 (And.intro hs2 (And.intro hgw (And.intro hL2 (And.intro hsl Hx.out.2.2.2.2.2))))))))))
  clear hval hvB hx1 hzB hsub2 hs2 hgw hL2 hsl htk hnw hsub hb2 H1
  by_cases hdt : t < d
  · have hdi : (t : Int) < (d : Int) := by omega
    have hM : 1 ≤ g0 ∧ V zs + V vs = (V xs - (g0 - 1) * V vs) + B64 ^ n ∧ V xs - (g0 - 1) * V vs < V vs ∧ (g0 - 1) * V vs ≤ V xs := by
      obtain ⟨e1, e2, e3, e4, e5, e6, _⟩ := HV.out
      rcases Nat.lt_or_ge (V xs) (g0 * V vs) with h | h
      · exact (take_more _ _ _ _ _ _ _ _ e1 e3 e4 e2 e5 e6.2.1 h).2
      · exact absurd (take_right _ _ _ _ _ _ _ _ e1 e3 e4 e2 e5 e6.2.2 h).1 (by omega)
    have HM := Lib.hid hM
    have hgw : IntKind.u64.wrap ((g0 : Int) - 1) = ((g0 - 1 : Nat) : Int) := by
      rw [IntKind.wrap_u64]
      have : B64 = 18446744073709551616 := rfl
      have := hM.1
      omega
    clear hdt hM
    go_wp2_with (fail)
    refine (Add_ok _ Av n c2 cv zs vs 0 w2 hn HV.out.2.2.2.2.2.2.1 HV.out.2.2.2.2.2.2.2.2.2.1 (by omega)).mono ?_
    rintro e w3 ⟨v3, rs, d3, rfl, hd3, hsum, hnw3, hb3⟩
    obtain ⟨A3, c3, rfl, hs3⟩ := hnw3.sl
    have hrest : V rs = V xs - (g0 - 1) * V vs := by
      obtain ⟨f1, f2, f3, f4⟩ := HM.out
      have h1 := hs3.lt
      have h2 := HV.out.2.1
      rw [Nat.add_zero, f2] at hsum
      have : d3 = 0 ∨ d3 = 1 := by omega
      rcases this with rfl | rfl
      · omega
      · omega
    have HR := Lib.hid (And.intro hs3 (And.intro hrest hb3))
    obtain ⟨ob, oo, rfl, _, hrc⟩ := hs3.2.2.2.2 (by intro h; have := congrArg List.length h; rw [uvs_length, hs3.1] at this; simp at this; omega)
    have hL3 : w3.heap[g]? = some (.cells L.toArray 37 (0, 0)) := by
      rw [hb3.block g (Array.getElem?_eq_some_iff.1 HV.out.2.2.2.2.2.2.2.2.1).1]
      exact HV.out.2.2.2.2.2.2.2.2.1
    clear hs3 hrest hb3 hsum hnw3 hd3
    go_wp2_with ((refine wpList_copy_own rfl (.tmp 40) (.tmp 41) 22 22 rfl 37 Try.underlying22 (by kernel_rfl) g j N1 cu ⟨ob, oo, none⟩ n c3 rfl rfl L.toArray 37 hL3 (uvs rs) (by rw [uvs_length, HR.out.1.1]; exact (Nat.min_eq_left (by omega)).symm) (fun k v hk => by rw [Addr.add_lit]; exact hrc k v hk) (by rw [uvs_length, HR.out.1.1]; simpa using HV.out.2.2.2.2.2.2.2.2.2.2) (uvs_one _) ?_))
    go_wp2_with (fail)
    go_ret
    obtain ⟨e1, e2, e3, e4, e5, e6, e7, e8, e9, e10⟩ := HV.out
    obtain ⟨f1, f2, f3, f4⟩ := HM.out
    refine ⟨g0 - 1, rs, rfl, ?_, ?_, by have := e6.1; omega, HR.out.1.1, HR.out.1.2.2.2.1, ?_, ?_⟩
    · rw [HR.out.2.1]; omega
    · rw [HR.out.2.1]; exact f3
    · rw [setRow_heap w3 g _ _ _ _ hL3]; rfl
    · exact grown_trans (grown_trans e8 (grown_of_below HR.out.2.2 _)) (grown_setRow _ _ _)
  · have hdi : ¬ (t : Int) < (d : Int) := by omega
    have hE : d = t ∧ V xs = g0 * V vs + V zs ∧ V zs < V vs := by
      obtain ⟨e1, e2, e3, e4, e5, e6, _⟩ := HV.out
      rcases Nat.lt_or_ge (V xs) (g0 * V vs) with h | h
      · exact absurd (take_more _ _ _ _ _ _ _ _ e1 e3 e4 e2 e5 e6.2.1 h).1 hdt
      · exact take_right _ _ _ _ _ _ _ _ e1 e3 e4 e2 e5 e6.2.2 h
    have HE := Lib.hid hE
    clear hE hdt
    obtain ⟨ob, oo, rfl, _, hrc⟩ := HV.out.2.2.2.2.2.2.1.2.2.2.2 (by intro h; have := congrArg List.length h; rw [uvs_length, HV.out.2.2.2.2.2.2.1.1] at this; simp at this; omega)
    go_wp2_with ((refine wpList_copy_own rfl (.tmp 40) (.tmp 41) 22 22 rfl 37 Try.underlying22 (by kernel_rfl) g j N1 cu ⟨ob, oo, none⟩ n c2 rfl rfl L.toArray 37 HV.out.2.2.2.2.2.2.2.2.1 (uvs zs) (by rw [uvs_length, HV.out.2.2.2.2.2.2.1.1]; exact (Nat.min_eq_left (by omega)).symm) (fun k v hk => by rw [Addr.add_lit]; exact hrc k v hk) (by rw [uvs_length, HV.out.2.2.2.2.2.2.1.1]; simpa using HV.out.2.2.2.2.2.2.2.2.2.2) (uvs_one _) ?_))
    go_wp2_with (fail)
    go_ret
    obtain ⟨e1, e2, e3, e4, e5, e6, e7, e8, e9, e10⟩ := HV.out
    refine ⟨g0, zs, rfl, HE.out.2.1, HE.out.2.2, e6.1, e7.1, e7.2.2.2.1, ?_, ?_⟩
    · rw [setRow_heap w2 g _ _ _ _ e9]; rfl
    · exact grown_trans e8 (grown_setRow _ _ _)
end Go.Proofs.Ytalcikmngglplaa
