/- Lists of residues: the reference's Residues, the law's residues. -/
import Derived.Test.YthpgdpkemnhneaaDoorZYLaw
namespace Go.Proofs.YthpgdpkemnhneaaDoor
open Go.RowKit Go.Shelf
set_option linter.unusedVariables false
set_option linter.unusedSimpArgs false
set_option maxRecDepth 10000

theorem rs1_not {n k : Nat} {xs : List Nat} (hl : xs.length = n) (hk : k < n) (h : PP ≤ yx xs k) : Rs1 xs = false := by
  cases e : Rs1 xs
  · rfl
  · have := (rs1_iff hl).1 e k hk
    omega
set_option maxHeartbeats 1000000 in
theorem R4Residues_ok (A : Option Addr) (n c : Nat) (xs : List Nat) (w : World) (hn : n ≤ 1000000) (hx : Sl w A n c xs) :
    Calls Tryd.prog 13 #[.slice A n c] w fun e w' => e = .returned (.bool (Rs1 xs)) ∧ w = w' := by
  have Hx := Lib.hid hx
  clear hx
  go_enter Tryd.func13, Tryd.ntmps13
  go_wp2_with (fail)
  go_loopw [3] (fun iv wr => ∃ k : Nat, k ≤ n ∧ iv = .int .i64 k ∧ Hid ((∀ i, i < k → yx xs i < PP) ∧ w = wr)) (fun iv _ => n - (intOf iv).toNat)
  case atStart => exact ⟨0, Nat.zero_le _, rfl, Lib.hid ⟨fun i hi => by omega, rfl⟩⟩
  case round =>
    obtain ⟨k, hk, rfl, hH⟩ := hrel
    obtain rfl := hH.out.2
    by_cases hlt : k < n
    · have hki : (k : Int) < n := by omega
      obtain ⟨b, o, rfl, -, hcx⟩ := Hx.out.rd hlt
      obtain ⟨x, hxv⟩ : ∃ x, yx xs k = x := ⟨_, rfl⟩
      rw [hxv] at hcx
      have hPP : PP = 18446744069414584321 := rfl
      by_cases hP : x < PP
      · have hd : decide ((18446744069414584321 : Int) ≤ (x : Int)) = false := decide_eq_false (by omega)
        have HN : Hid (∀ i, i < k + 1 → yx xs i < PP) := Lib.hid fun i hi => by
          rcases Nat.lt_or_ge i k with h | h
          · exact hH.out.1 i h
          · rw [show i = k by omega, hxv]; exact hP
        clear hH hxv hPP hP
        go_wp2_with (fail)
        go_roundw
        case rel => exact ⟨k + 1, by omega, by go_num, Lib.hid ⟨HN.out, trivial⟩⟩
        case measure => simp [intOf]; omega
      · have hd : (18446744069414584321 : Int) ≤ (x : Int) := by omega
        have HN : Hid (Rs1 xs = false) := Lib.hid (rs1_not Hx.out.1 hlt (by rw [hxv]; omega))
        clear hH hxv hPP hP
        go_wp2_with (fail)
        go_ret
        exact ⟨by rw [HN.out]; rfl, rfl⟩
    · have hki : ¬ (k : Int) < n := by omega
      obtain rfl : k = n := by omega
      have HN : Hid (Rs1 xs = true) := Lib.hid ((rs1_iff Hx.out.1).2 hH.out.1)
      clear hH
      go_wp2_with (fail)
      go_ret
      exact ⟨by rw [HN.out]; rfl, rfl⟩
set_option maxHeartbeats 1000000 in
theorem residues_ok (A : Option Addr) (n c m : Nat) (xs : List Nat) (w : World) (K : Nat) (hK : K = min n m) (hm : m ≤ 100000) (hx : Sl w A n c xs) :
    Calls Tryd.prog 25 #[.slice A n c, .int .i64 m] w fun e w' => ∃ v, e = .returned v ∧ Nw w w' v K (tb K (fun i => yx xs i % PP)) ∧ Below w.heap.size w w' := by
  obtain ⟨i0, hi, hz0, hz1, hz2⟩ := info_parts Tryd.info43
  obtain ⟨F, hF⟩ : ∃ F : Nat → Nat, F = fun i => yx xs i % PP := ⟨_, rfl⟩
  rw [← hF]
  have HF : Hid (∀ i, F i = yx xs i % PP) := Lib.hid fun i => by rw [hF]
  have HK := Lib.hid hK
  have Hx := Lib.hid hx
  clear hx hF hK
  go_enter Tryd.func25, Tryd.ntmps25
  go_wp2_with (fail)
  go_loopw [5, 6] (fun rv iv wr => ∃ (k d : Nat) (B : Option Addr), k ≤ n ∧ k ≤ m ∧ iv = .int .i64 k ∧ rv = .slice B k d ∧ Hid (wr.ownsRow w.heap.size 43 1 (.slice B k d) k (uvs (tb k F)) ∧ Below w.heap.size w wr)) (fun _ iv _ => n - (intOf iv).toNat)
  case atStart => exact ⟨0, 0, none, Nat.zero_le _, Nat.zero_le _, rfl, rfl, Lib.hid ⟨World.ownsRow_nil _ _ _ _, Below.refl _ _⟩⟩
  case round =>
    obtain ⟨k, d, B, hk, hk2, rfl, rfl, hH⟩ := hrel
    by_cases hlt : k < n
    · have hki : (k : Int) < n := by omega
      by_cases hlm : k < m
      · have hkm : (k : Int) < m := by omega
        obtain ⟨b, o, rfl, -, hcx⟩ := (Hx.out.below hH.out.2).rd hlt
        obtain ⟨x, hxv⟩ : ∃ x, yx xs k = x := ⟨_, rfl⟩
        rw [hxv] at hcx
        obtain ⟨z, hz3, hz4, hz5⟩ : ∃ z : Nat, (x : Int).tmod 18446744069414584321 = (z : Int) ∧ (x : Int) % 18446744069414584321 = (z : Int) ∧ x % 18446744069414584321 = z := ⟨x % 18446744069414584321, by rw [Int.tmod_eq_emod_of_nonneg (by omega)]; omega, by omega, rfl⟩
        have hzB : z < B64 := by have : B64 = 18446744073709551616 := rfl; omega
        have hz6 : IntKind.u64.wrap (z : Int) = (z : Int) := wrap_nat z hzB
        have HZ : Hid (F k = z) := Lib.hid (by rw [HF.out, hxv]; exact hz5)
        have hown := hH.out.1
        have hs1 := hH.out.2.size
        have HB := Lib.hid hH.out.2
        have hu1 : (uvs (tb k F)).length = k := by rw [uvs_length, tb_length]
        clear hH hxv hz5
        go_wp2_with (at_builtin; refine wpList_append_rd _ rfl (.tmp 18) (.tmp 24) 22 rfl w.heap.size 43 i0 (.int .u64 0) Tryd.underlying22 hi hz0 hz1 hz2 rfl _ k (uvs (tb k F)) rfl (hown.alloc _) (wr.heap.size + 1) (some ⟨wr.heap.size, 0, none⟩) 1 1 [.int .u64 (z : Int)] rfl rfl (fun _ => ⟨wr.heap.size, 0, rfl, by omega, fun j u hj => by simpa [Addr.add] using hj⟩) (by simp [Value.oneCell']) (by omega) (by simp; omega) ?_)
        intro v2 w2 hown2 hgrow hblk
        obtain ⟨B2, d2, rfl, -⟩ := own_form hown2
        have HN : Hid (w2.ownsRow w.heap.size 43 1 (.slice B2 (k + 1) d2) (k + 1) (uvs (tb (k + 1) F)) ∧ Below w.heap.size w w2) := by
          refine ⟨?_, (HB.out.alloc hs1 _).grown hgrow (by simp; omega) ?_⟩
          · rw [tb_succ, uvs_append, HZ.out]
            exact hown2
          · intro j hj
            rcases hown.2 with ⟨h', _⟩ | ⟨g', cap', cur, h', hb, _⟩
            · rw [h'] at hj; simp [Value.ownBlock] at hj
            · rw [h'] at hj; simp [Value.ownBlock] at hj; omega
        clear hown2 hgrow hblk hown
        go_wp2_with (fail)
        go_roundw
        case rel => exact ⟨k + 1, d2, B2, by omega, by omega, by go_num, rfl, HN⟩
        case measure => simp [intOf]; omega
      · have hkm : ¬ (k : Int) < m := by omega
        obtain rfl : k = m := by omega
        go_wp2_with (fail)
        go_ret
        obtain rfl : K = k := by have := HK.out; omega
        exact ⟨_, rfl, ⟨tb_length _ _, tb_ws (fun i _ => by rw [HF.out]; exact Nat.lt_trans (Nat.mod_lt _ PP_pos) (by decide)), hH.out.1⟩, hH.out.2⟩
    · have hki : ¬ (k : Int) < n := by omega
      obtain rfl : k = n := by omega
      go_wp2_with (fail)
      go_ret
      obtain rfl : K = k := by have := HK.out; omega
      exact ⟨_, rfl, ⟨tb_length _ _, tb_ws (fun i _ => by rw [HF.out]; exact Nat.lt_trans (Nat.mod_lt _ PP_pos) (by decide)), hH.out.1⟩, hH.out.2⟩
end Go.Proofs.YthpgdpkemnhneaaDoor
