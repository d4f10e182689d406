/- The contracts of nat.row, Add, Sub, FromWord, Trim. -/
import Derived.Test.YtekikolhnfofeaaUsed
import Derived.Test.YtekikolhnfofeaaCut
import Derived.Test.YtekikolhnfofeaaAdd
import Derived.Test.YtekikolhnfofeaaSub
import Derived.Test.YtekikolhnfofeaaOne
import Derived.Test.YtekikolhnfofeaaBack
namespace Go.Proofs.Ytekikolhnfofeaa
open Go.RowKit Go.Shelf
set_option linter.unusedVariables false
set_option maxRecDepth 10000

theorem V_append (xs ys : List Nat) : V (xs ++ ys) = V xs + V ys * B64 ^ xs.length := by
  induction xs with
  | nil => simp [V]
  | cons y zs ih =>
    rw [List.cons_append, V, ih, List.length_cons, Nat.pow_succ, V]
    generalize B64 = b
    grind
theorem V_zeros' (n : Nat) : V (List.replicate n 0) = 0 := by
  induction n with
  | zero => rfl
  | succ n ih => rw [List.replicate_succ, V, ih]; rfl
theorem V_pad (xs : List Nat) (m : Nat) : V (pad xs m) = V xs := by rw [pad, V_append, V_zeros', Nat.zero_mul, Nat.add_zero]
theorem Ws_pad {xs : List Nat} (h : Ws xs) (m : Nat) : Ws (pad xs m) := fun x hx => by
  rcases List.mem_append.1 hx with h1 | h1
  · exact h x h1
  · rw [List.eq_of_mem_replicate h1]; exact B64_pos
theorem pad_self {xs : List Nat} {n m : Nat} (h : xs.length = n) (hm : m ≤ n) : pad xs m = xs := by
  rw [pad, show m - xs.length = 0 by omega]; simp

/-- N is the greater of both -/
def Mx (N n m : Nat) : Prop := n ≤ N ∧ m ≤ N ∧ (N = n ∨ N = m)
set_option maxHeartbeats 400000 in
theorem row_ok (A : Option Addr) (n c m N : Nat) (xs : List Nat) (w : World) (hm : m ≤ 9000) (hN : Mx N n m) (hx : Sl w A n c xs) :
    Calls Try.prog 56 #[.slice A n c, .int .i64 m] w fun e w' => ∃ A' c', e = .returned (.slice A' N c') ∧ Sl w' A' N c' (pad xs m) ∧ Below w.heap.size w w' := by
  unfold Mx at hN
  rcases Nat.lt_or_ge n m with hlt | hge
  · obtain rfl : N = m := by omega
    obtain ⟨i0, hi, hz0, hz1, hz2⟩ := info_parts Try.info37
    have Hx := Lib.hid hx
    have hlti : (n : Int) < N := by omega
    have hcc : ¬ (N : Int) ≤ n := by omega
    clear hx hN
    go_enter Try.func56, Try.ntmps56
    go_wp2_with (at_make; refine wpList_make_full _ rfl _ _ 23 rfl w.heap.size 37 i0 (.int .u64 0) 1 Try.underlying23 hi hz0 hz1 .i64 .i64 _ _ N rfl rfl rfl rfl (by rw [hz2]; omega) (by unfold maxLen; omega) (Nat.le_refl _) ?_)
    intro w1 hown hgrow
    have hb1 := below_of_grown hgrow (Nat.le_refl _)
    obtain ⟨cur, hcur, hlen, hcz⟩ : ∃ cur : List Value, w1.heap[w.heap.size]? = some (.cells cur.toArray 37 (0, 0)) ∧ cur.length = N ∧ cur = uvs (List.replicate N 0) := by
      have hu : (madeCells #[Value.int .u64 0] N).toList = uvs (List.replicate N 0) := by
        refine List.ext_getElem (by simp [madeCells, uvs]) (fun i h1 h2 => ?_)
        simp [madeCells, uvs, Nat.mod_one]
      rcases hown.2 with ⟨hv, h0⟩ | ⟨g, cap, cur, hv, _, hh, _, _, hcs, ht⟩
      · injection hv with hv
        cases hv
      · injection hv with h1 h2 h3
        injection h1 with h1
        injection h1 with h1
        subst h1
        subst h3
        have hc2 : cur.toList.length = N := by simpa using hcs
        rw [Nat.mul_one, List.take_of_length_le (by omega)] at ht
        exact ⟨cur.toList, by simpa using hh, hc2, by rw [ht]; exact hu⟩
    have hcs : (uvs xs).length = Nat.min n N := by rw [uvs_length, Hx.out.1]; exact (Nat.min_eq_left (by omega)).symm
    have hpos : 0 < (uvs xs).length → (some (⟨w.heap.size, 0, none⟩ : Addr)) = some ⟨w.heap.size, 0, none⟩ ∧ ∃ ad, A = some ad ∧ ∀ j v, (uvs xs)[j]? = some v → w1.cell? (ad.add j) = some v := by
      intro h0
      obtain ⟨b, o, rfl, _, hc⟩ := (Hx.out.2.2.2.2.below hb1) (by intro e; rw [e] at h0; simp at h0)
      exact ⟨rfl, ⟨b, o, none⟩, rfl, fun j v hj => by rw [Addr.add_lit]; exact hc j v hj⟩
    have hfit : 0 + (uvs xs).length ≤ cur.length := by rw [hlen, uvs_length, Hx.out.1]; omega
    have Hsp := Lib.hid (show splice cur 0 (uvs xs) = uvs (pad xs N) by
      have h1 : (uvs xs).length = n := by rw [uvs_length, Hx.out.1]
      simp only [splice, List.take_zero, List.nil_append, Nat.zero_add]
      rw [h1, hcz, pad, uvs_append]
      congr 1
      simp [uvs, Hx.out.1])
    have H := Lib.hid (And.intro hcur (And.intro hcs (And.intro hpos (And.intro hfit hb1))))
    clear hcur hcs hpos hfit hb1 hown hgrow hlen hcz
    go_wp2_with (with_reducible refine wpList_copy_splice rfl (.tmp 13) (.tmp 14) 23 23 rfl 37 Try.underlying23 Try.size1 _ _ _ _ _ _ rfl rfl w.heap.size 0 cur 37 H.out.1 (uvs xs) H.out.2.1 H.out.2.2.1 H.out.2.2.2.1 (uvs_one xs) w.heap.size w H.out.2.2.2.2 (Nat.le_refl _) ?_)
    intro w2 hrow hb2
    go_wp2
    go_ret
    have h3 := hrow.out
    rw [Hsp.out] at h3
    refine ⟨_, N, rfl, ?_, hb2⟩
    have hpl : (pad xs N).length = N := by rw [pad_len, Hx.out.1]; omega
    have hat : RowAt w2 w.heap.size (pad xs N) := h3
    refine ⟨hpl, Nat.le_refl _, by omega, Ws_pad Hx.out.2.2.2.1 N, fun _ => ⟨w.heap.size, 0, rfl, hat.lt, fun j u hj => ?_⟩⟩
    obtain ⟨x, hx1, rfl⟩ : ∃ x : Nat, (pad xs N)[j]? = some x ∧ u = .int .u64 (x : Int) := by
      rw [uvs, List.getElem?_map] at hj
      cases hp : (pad xs N)[j]? with
      | none => rw [hp] at hj; cases hj
      | some x => rw [hp] at hj; exact ⟨x, rfl, by simpa using hj.symm⟩
    rw [Nat.zero_add]
    exact hat.cell hx1
  · obtain rfl : N = n := by omega
    have hcc : (m : Int) ≤ N := by omega
    have Hx := Lib.hid hx
    clear hx hN
    go_enter Try.func56, Try.ntmps56
    go_wp2
    go_ret
    exact ⟨A, c, rfl, by rw [pad_self Hx.out.1 hge]; exact Hx.out, Below.refl _ _⟩

/-- a sum with the carry as one more word -/
theorem Sl_pad {w : World} {A : Option Addr} {N c : Nat} {xs : List Nat} {m : Nat} (h : Sl w A N c (pad xs m)) : V (pad xs m) = V xs := V_pad xs m
set_option maxHeartbeats 1000000 in
theorem NAdd_ok (A A' : Option Addr) (n n' c c' : Nat) (xs ys : List Nat) (w : World) (hn : n ≤ 4096) (hn' : n' ≤ 4096) (hx : Sl w A n c xs) (hy : Sl w A' n' c' ys) :
    Calls Try.prog 15 #[.slice A n c, .slice A' n' c'] w fun e w' => Rs w w' e (V xs + V ys) := by
  obtain ⟨i0, hi, hz0, hz1, hz2⟩ := info_parts Try.info37
  have Hx := Lib.hid (And.intro hx hy)
  have Hk := Lib.hid (chkS_two (A := A) (A' := A') (c := c) (c' := c') hn hn')
  obtain ⟨N, hN⟩ : ∃ N : Nat, n ≤ N ∧ n' ≤ N ∧ (N = n ∨ N = n') := by
    rcases Nat.lt_or_ge n n' with h | h
    · exact ⟨n', by omega⟩
    · exact ⟨n, by omega⟩
  have HN : Hid (Mx N n N ∧ Mx N n' N) := ⟨⟨by omega, by omega, by omega⟩, ⟨by omega, by omega, by omega⟩⟩
  have hN2 : N ≤ 4096 := by omega
  have hcase : ((n : Int) < n' ∧ N = n') ∨ (¬ (n : Int) < n' ∧ N = n) := by omega
  clear hx hy hN
  rcases hcase with ⟨hnn, hNe⟩ | ⟨hnn, hNe⟩
  all_goals
    subst hNe
    go_enter Try.func15, Try.ntmps15
    go_wp2_with (fail)
    refine (checkSizes_two A A' _ _ c c' _ _ w rfl).mono ?_
    rintro e w1 ⟨rfl, hb1⟩
    rw [Hk.out]
    go_wp2_with (fail)
    refine (row_ok A _ c N N xs w1 (by omega) HN.out.1 (Hx.out.1.below hb1)).mono ?_
    rintro e w2 ⟨A2, c2, rfl, hs2, hb2⟩
    have H2 := Lib.hid (And.intro hs2 (And.intro (Hx.out.2.below hb1 |>.below hb2) (hb1.trans (hb2.mono hb1.size))))
    clear hs2 hb2 hb1
    go_wp2_with (fail)
    refine (row_ok A' _ c' N N ys w2 (by omega) HN.out.2 H2.out.2.1).mono ?_
    rintro e w3 ⟨A3, c3, rfl, hs3, hb3⟩
    have H3 := Lib.hid (And.intro (H2.out.1.below hb3) (And.intro hs3 (H2.out.2.2.trans (hb3.mono H2.out.2.2.size))))
    clear hs3 hb3 H2
    go_wp2_with (fail)
    refine (Add_ok A2 A3 N c2 c3 _ _ 0 w3 hN2 H3.out.1 H3.out.2.1 (by omega)).mono ?_
    rintro e w4 ⟨v4, zs, d, rfl, hd, hv, hn4, hb4⟩
    rw [V_pad, V_pad, Nat.add_zero] at hv
    have hown := hn4.2.2
    have H4 := Lib.hid (And.intro hn4 (And.intro hv (And.intro (H3.out.2.2.trans (hb4.mono H3.out.2.2.size)) hb4)))
    clear hn4 hb4 hv
    rcases Nat.eq_zero_or_pos d with hd0 | hd0
    · subst hd0
      clear hown
      obtain ⟨A4, c4, rfl, _⟩ := H4.out.1.sl
      have hval : V zs = V xs + V ys := by have := H4.out.2.1; omega
      go_wp2_with (fail)
      refine (result_ok w3 A4 N c4 zs w4 (by omega) H4.out.1).mono ?_
      rintro e w5 ⟨h6, rfl⟩
      rw [hval] at h6
      rcases h6 with ⟨v, rfl, h7⟩ | ⟨rfl, h7⟩
      · have H7 := Lib.hid h7
        clear h7 hval
        go_wp2_with (fail)
        go_ret2
        exact ⟨.inl ⟨v, rfl, H7.out.1.base H3.out.2.2.size, H7.out.2⟩, H4.out.2.2.1⟩
      · have H7 := Lib.hid h7
        clear h7 hval
        go_wp2_with (fail)
        go_ret2
        exact ⟨.inr ⟨rfl, H7.out⟩, H4.out.2.2.1⟩
    · have hdi : (0 : Int) < d := by omega
      have hsz := H4.out.2.2.2.size
      go_wp2_with (at_builtin; refine wpList_append_rd _ rfl (.tmp 36) (.tmp 38) 22 rfl w3.heap.size 37 i0 (.int .u64 0) Try.underlying22 hi hz0 hz1 hz2 rfl v4 N _ rfl (hown.alloc _) _ (some ⟨w4.heap.size, 0, none⟩) 1 1 [.int .u64 (d : Int)] rfl rfl (Rd.one _ _ _) (by simp [Value.oneCell']) (by omega) (by simp; omega) ?_)
      intro v5 w5 hown5 hgrow hblk
      have hb5 : Below w3.heap.size w3 w5 := (H4.out.2.2.2.alloc H4.out.2.2.2.size _).grown hgrow (by simp; omega) (fun j hj => (hown.lt j hj).1)
      have hnw : Nw w3 w5 v5 (N + 1) (zs ++ [d]) := ⟨by simp [H4.out.1.1], Ws_snoc H4.out.1.2.1 (by have : 1 < B64 := B64_one; omega), by rw [uvs_append]; exact hown5⟩
      have hval : V (zs ++ [d]) = V xs + V ys := by rw [V_snoc, H4.out.1.1]; exact H4.out.2.1
      obtain ⟨A5, c5, rfl, _⟩ := hnw.sl
      have H5 := Lib.hid (And.intro hnw (And.intro hval (H3.out.2.2.trans (hb5.mono H3.out.2.2.size))))
      clear hown hown5 hgrow hblk hb5 hnw hval
      go_wp2_with (fail)
      refine (result_ok w3 A5 (N + 1) c5 (zs ++ [d]) w5 (by omega) H5.out.1).mono ?_
      rintro e w6 ⟨h6, rfl⟩
      rw [H5.out.2.1] at h6
      rcases h6 with ⟨v, rfl, h7⟩ | ⟨rfl, h7⟩
      · have H7 := Lib.hid h7
        clear h7
        go_wp2_with (fail)
        go_ret2
        exact ⟨.inl ⟨v, rfl, H7.out.1.base H3.out.2.2.size, H7.out.2⟩, H5.out.2.2⟩
      · have H7 := Lib.hid h7
        clear h7
        go_wp2_with (fail)
        go_ret2
        exact ⟨.inr ⟨rfl, H7.out⟩, H5.out.2.2⟩
end Go.Proofs.Ytekikolhnfofeaa
