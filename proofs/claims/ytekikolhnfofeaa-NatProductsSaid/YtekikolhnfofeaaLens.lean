/- The contracts of words.least and words.checkLengths: one or two lengths. -/
import Derived.Test.YtekikolhnfofeaaProg
import Derived.Test.YtekikolhnfofeaaBase
namespace Go.Proofs.Ytekikolhnfofeaa
open Go.RowKit
set_option linter.unusedVariables false

/-- the least of 4096 and a list's numbers -/
def leastOf (ls : List Int) : Int := ls.foldl min 4096
theorem leastOf_succ (ls : List Int) (k : Nat) (h : k < ls.length) : leastOf (ls.take (k + 1)) = min (leastOf (ls.take k)) ls[k] := by
  unfold leastOf; rw [List.take_succ_eq_append_getElem h, List.foldl_append]; rfl

set_option maxHeartbeats 400000 in
theorem least_any (ls : List Int) (b : Nat) (w : World) (hl : ls.length ≤ 2) (hc : ∀ j u, ls[j]? = some u → w.cell? ⟨b, j, none⟩ = some (.int .i64 u)) :
    Calls Try.prog 119 #[.slice (some ⟨b, 0, none⟩) ls.length ls.length] w fun e w' => e = .returned (.int .i64 (leastOf ls)) ∧ w = w' := by
  have Hc := Lib.hid hc
  clear hc
  go_enter Try.func119, Try.ntmps119
  go_wp2
  go_loop [3, 5, 8] (fun m _ i => ∃ k : Nat, k ≤ ls.length ∧ i = .int .i64 k ∧ m = .int .i64 (leastOf (ls.take k))) (fun _ _ i => ls.length - (intOf i).toNat)
  case atStart => exact ⟨0, Nat.zero_le _, rfl, rfl⟩
  case round =>
    obtain ⟨k, hk, rfl, rfl⟩ := hrel
    by_cases hlt : k < ls.length
    · have hx := Hc.out k ls[k] (List.getElem?_eq_getElem hlt)
      have Hs := Lib.hid (leastOf_succ ls k hlt)
      generalize ls[k] = z at *
      generalize leastOf (ls.take k) = m0 at *
      go_wp2
      all_goals
        go_round
        case rel => exact ⟨k + 1, by omega, by go_num, by rw [Hs.out]; go_num⟩
        case measure => simp [intOf]; omega
    · have hkl : ls.length = k := by omega
      have Hk := Lib.hid (show leastOf (ls.take k) = leastOf ls by rw [List.take_of_length_le (by omega)])
      clear hkl
      go_wp2
      go_ret
      rw [Hk.out]
      exact ⟨rfl, rfl⟩

/-- the error of a list of lengths -/
def chk (ls : List Int) : Int := if ls.any (fun z => decide (4096 < z)) then 2 else if ls.any (fun z => decide (leastOf ls < z)) then 1 else 0

theorem any_take_succ (p : Int → Bool) (ls : List Int) (k : Nat) (h : k < ls.length) : (ls.take (k + 1)).any p = ((ls.take k).any p || p ls[k]) := by
  rw [List.take_succ_eq_append_getElem h, List.any_append]; simp
theorem any_of_get (p : Int → Bool) (ls : List Int) (k : Nat) (h : k < ls.length) (hp : p ls[k] = true) : ls.any p = true := List.any_eq_true.2 ⟨_, List.getElem_mem h, hp⟩

set_option maxHeartbeats 400000 in
theorem checkLengths_any (ls : List Int) (b : Nat) (w : World) (hl : ls.length ≤ 2) (hc : ∀ j u, ls[j]? = some u → w.cell? ⟨b, j, none⟩ = some (.int .i64 u)) :
    Calls Try.prog 92 #[.slice (some ⟨b, 0, none⟩) ls.length ls.length] w fun e w' => e = .returned (.int .i64 (chk ls)) ∧ w = w' := by
  have Hc := Lib.hid hc
  clear hc
  go_enter Try.func92, Try.ntmps92
  go_wp2
  go_loop [4, 10] (fun _ i => ∃ k : Nat, k ≤ ls.length ∧ i = .int .i64 k ∧ (ls.take k).any (fun z => decide (4096 < z)) = false) (fun _ i => ls.length - (intOf i).toNat)
  case atStart => exact ⟨0, Nat.zero_le _, rfl, rfl⟩
  case round =>
    obtain ⟨k, hk, rfl, hno⟩ := hrel
    have Hno := Lib.hid hno
    clear hno
    by_cases hlt : k < ls.length
    · have hx := Hc.out k ls[k] (List.getElem?_eq_getElem hlt)
      have Hs := Lib.hid (any_take_succ (fun z => decide (4096 < z)) ls k hlt)
      have Hy := Lib.hid (any_of_get (fun z => decide (4096 < z)) ls k hlt)
      generalize ls[k] = z at *
      by_cases hz : 4096 < z
      · go_wp2
        go_ret
        refine ⟨?_, rfl⟩
        have := Hy.out (by simpa using hz)
        simp [chk, this]
      · go_wp2
        go_round
        case rel => exact ⟨k + 1, by omega, by go_num, by rw [Hs.out, Hno.out]; simpa using hz⟩
        case measure => simp [intOf]; omega
    · have hno := Hno.out
      rw [List.take_of_length_le (by omega)] at hno
      have H0 := Lib.hid hno
      clear hno
      go_wp2_with (go_at_call 119; refine (least_any ls b w hl Hc.out).mono ?_; rintro e w' ⟨rfl, rfl⟩)
      go_loop [7, 21] (fun _ i => ∃ k : Nat, k ≤ ls.length ∧ i = .int .i64 k ∧ (ls.take k).any (fun z => decide (leastOf ls < z)) = false) (fun _ i => ls.length - (intOf i).toNat)
      case atStart => exact ⟨0, Nat.zero_le _, rfl, rfl⟩
      case round =>
        obtain ⟨j, hj, rfl, hno⟩ := hrel
        have Hn := Lib.hid hno
        clear hno
        by_cases hlj : j < ls.length
        · have hx := Hc.out j ls[j] (List.getElem?_eq_getElem hlj)
          have Hs := Lib.hid (any_take_succ (fun z => decide (leastOf ls < z)) ls j hlj)
          have Hy := Lib.hid (any_of_get (fun z => decide (leastOf ls < z)) ls j hlj)
          generalize ls[j] = z at *
          by_cases hz : leastOf ls < z
          · go_wp2
            go_ret
            refine ⟨?_, rfl⟩
            have := Hy.out (by simpa using hz)
            have h0 := H0.out
            simp [chk, this, h0]
          · go_wp2
            go_round
            case rel => exact ⟨j + 1, by omega, by go_num, by rw [Hs.out, Hn.out]; simpa using hz⟩
            case measure => simp [intOf]; omega
        · have hno := Hn.out
          rw [List.take_of_length_le (by omega)] at hno
          have H1 := Lib.hid hno
          clear hno
          go_wp2
          go_ret
          have h0 := H0.out
          have h1 := H1.out
          refine ⟨?_, rfl⟩
          simp [chk, h0, h1]

theorem checkLengths_two (n m : Nat) (b : Nat) (w : World) (hb : b = w.heap.size) :
    Calls Try.prog 92 #[.slice (some ⟨b, 0, none⟩) 2 2] (w.alloc (.cells #[.int .i64 (n : Int), .int .i64 (m : Int)] 3)) fun e w' => e = .returned (.int .i64 (chk [(n : Int), (m : Int)])) ∧ w.alloc (.cells #[.int .i64 (n : Int), .int .i64 (m : Int)] 3) = w' := by
  subst hb
  refine checkLengths_any [(n : Int), (m : Int)] w.heap.size _ (by simp) (fun j u hj => ?_)
  match j, hj with
  | 0, hj => simp at hj; subst hj; simp
  | 1, hj => simp at hj; subst hj; simp
theorem checkLengths_one (n : Nat) (b : Nat) (w : World) (hb : b = w.heap.size) :
    Calls Try.prog 92 #[.slice (some ⟨b, 0, none⟩) 1 1] (w.alloc (.cells #[.int .i64 (n : Int)] 3)) fun e w' => e = .returned (.int .i64 (chk [(n : Int)])) ∧ w.alloc (.cells #[.int .i64 (n : Int)] 3) = w' := by
  subst hb
  refine checkLengths_any [(n : Int)] w.heap.size _ (by simp) (fun j u hj => ?_)
  match j, hj with
  | 0, hj => simp at hj; subst hj; simp
theorem chk_one (n : Nat) (h : n ≤ 4096) : chk [(n : Int)] = 0 := by
  simp only [chk, leastOf, List.any_cons, List.any_nil, List.foldl_cons, List.foldl_nil, Bool.or_false, decide_eq_true_eq]
  rw [if_neg (by omega), if_neg (by intro hh; have := of_decide_eq_true hh; omega)]
theorem chk_one_big (n : Nat) (h : 4096 < n) : chk [(n : Int)] = 2 := by
  simp only [chk, List.any_cons, List.any_nil, Bool.or_false, decide_eq_true_eq]
  rw [if_pos (by omega)]
theorem chk_two (n : Nat) (h : n ≤ 4096) : chk [(n : Int), (n : Int)] = 0 := by
  simp only [chk, leastOf, List.any_cons, List.any_nil, List.foldl_cons, List.foldl_nil, Bool.or_false, Bool.or_eq_true, decide_eq_true_eq]
  rw [if_neg (by omega), if_neg (by rintro (hh | hh) <;> (have := of_decide_eq_true hh; omega))]
theorem chk_two_big (n m : Nat) (h : 4096 < n ∨ 4096 < m) : chk [(n : Int), (m : Int)] = 2 := by
  simp only [chk, List.any_cons, List.any_nil, Bool.or_false, Bool.or_eq_true, decide_eq_true_eq]
  rw [if_pos (by omega)]
theorem chk_two_ne (n m : Nat) (hn : n ≤ 4096) (hm : m ≤ 4096) (h : n ≠ m) : chk [(n : Int), (m : Int)] = 1 := by
  simp only [chk, leastOf, List.any_cons, List.any_nil, List.foldl_cons, List.foldl_nil, Bool.or_false, Bool.or_eq_true, decide_eq_true_eq]
  rw [if_neg (by omega), if_pos (by rcases Nat.lt_or_ge n m with hh | hh; exact .inr (decide_eq_true (by omega)); exact .inl (decide_eq_true (by omega)))]
theorem Try.info37 : (Try.prog.info? 37).map (fun i => (i.zero, i.size, i.bytes)) = some (some (.int .u64 0), 1, 8) := by kernel_rfl
end Go.Proofs.Ytekikolhnfofeaa
