/- The contract of nat.long, over that of guess. -/
import Derived.Test.YtalcikmngglplaaZTake
import Derived.Test.YtalcikmngglplaaP4
import Derived.Test.YtalcikmngglplaaP5
namespace Go.Proofs.Ytalcikmngglplaa
open Go.RowKit Go.Shelf
set_option linter.unusedVariables false
set_option linter.unusedSimpArgs false
set_option maxRecDepth 10000

/-- the shift that lays the highest bit on top -/
theorem long_shift {ys : List Nat} {m l s : Nat} (hw : Ws ys) (hl : ys.length = m) (h2 : 2 ≤ m) (hc : Cn ys) (hb : BL (V ys) l) (hlm : l ≤ 64 * m) (hs : s = 64 * m - l) : s ≤ 63 ∧ V ys * 2 ^ s < B64 ^ m ∧ B64 ^ m ≤ 2 * (V ys * 2 ^ s) ∧ 0 < V ys := by
  obtain ⟨k, rfl⟩ : ∃ k, m = k + 1 := ⟨m - 1, by omega⟩
  have h1 := V_ge hc hl
  have hp : 0 < V ys := Nat.lt_of_lt_of_le (Nat.pow_pos B64_pos) h1
  have hlt : 64 * k < l := by
    rcases Nat.lt_or_ge (64 * k) l with h | h
    · exact h
    · have h3 := Nat.pow_le_pow_right (show 0 < 2 by decide) h
      rw [← B64_two] at h3
      have := hb.1
      omega
  obtain ⟨_, h4⟩ := hb.2.1 hp
  have e : B64 ^ (k + 1) = 2 ^ l * 2 ^ s := by rw [B64_two, ← Nat.pow_add]; congr 1; omega
  have e2 : 2 ^ l = 2 * 2 ^ (l - 1) := by rw [← Nat.pow_succ']; congr 1; omega
  refine ⟨by omega, ?_, ?_, hp⟩
  · rw [e]; exact Nat.mul_lt_mul_of_pos_right hb.1 (Nat.pow_pos (by decide))
  · rw [e, e2, Nat.mul_assoc]
    exact Nat.mul_le_mul_left 2 (Nat.mul_le_mul_right _ h4)
theorem long_top {vs : List Nat} {m : Nat} (hw : Ws vs) (hl : vs.length = m) (h2 : 2 ≤ m) (h : B64 ^ m ≤ 2 * V vs) : ∀ f, vs[m - 1]? = some f → B64 ≤ 2 * f := by
  intro f hf
  obtain ⟨k, rfl⟩ : ∃ k, m = k + 1 := ⟨m - 1, by omega⟩
  rw [Nat.add_sub_cancel] at hf
  have h1 := V_take_succ vs k (by omega)
  rw [List.take_of_length_le (by omega)] at h1
  have h3 : vs[k]'(by omega) = f := by
    rw [List.getElem?_eq_getElem (by omega)] at hf
    injection hf
  have h4 := V_low hw k
  rw [h3] at h1
  rcases Nat.lt_or_ge (2 * f) B64 with h5 | h5
  · exfalso
    have h6 := Nat.mul_le_mul_right (B64 ^ k) (show 2 * f + 1 ≤ B64 from h5)
    have h7 : B64 ^ (k + 1) = B64 * B64 ^ k := Nat.pow_succ'
    rw [Nat.add_mul, Nat.mul_assoc, Nat.one_mul] at h6
    have hev : B64 = 2 * 9223372036854775808 := rfl
    have h8 := Nat.mul_le_mul_right (B64 ^ k) (show 2 * f + 2 ≤ B64 by omega)
    rw [Nat.add_mul, Nat.mul_assoc] at h8
    omega
  · exact h5
/-- one step of the long division: the row on top gives way to its remainder -/
theorem long_step {B P C D v q Q r low : Nat} (hB : 0 < B) (hlow : low < P) (hsl : C = q * v + r) (hr : r < v) (hx : low + P * C + B * P * (Q * v) = D) : low + P * r + P * ((q + B * Q) * v) = D ∧ low + P * r < v * P := by
  constructor
  · rw [← hx, hsl]
    simp only [Nat.mul_add, Nat.mul_comm, Nat.mul_left_comm]
    omega
  · have := Nat.mul_le_mul_right P (show r + 1 ≤ v from hr)
    rw [Nat.succ_mul, Nat.mul_comm r] at this
    omega
theorem V_app (xs ys : List Nat) : V (xs ++ ys) = V xs + B64 ^ xs.length * V ys := by
  induction xs with
  | nil => simp [V]
  | cons x t ih =>
    rw [List.cons_append, V, V, ih, List.length_cons, Nat.pow_succ, Nat.mul_add, Nat.mul_comm (B64 ^ t.length) B64, Nat.mul_assoc]
    omega
theorem take_app {α : Type} (us : List α) (i k : Nat) : us.take (i + k) = us.take i ++ (us.drop i).take k := by
  rw [List.take_add]
theorem uvs_splice (us : List Nat) (i : Nat) (rs : List Nat) : uvs (splice us i rs) = splice (uvs us) i (uvs rs) := by
  simp [splice, uvs, List.map_take, List.map_drop]
theorem splice_take {α : Type} (L : List α) (i N : Nat) (rs : List α) (h : i + rs.length ≤ N) (hN : N ≤ L.length) : (splice L i rs).take N = splice (L.take N) i rs := by
  unfold splice
  rw [List.take_append, List.take_append, List.take_take, List.take_take, List.length_take]
  have h1 : min i L.length = i := by omega
  rw [h1, Nat.min_eq_right (show i ≤ N by omega), Nat.min_eq_left (show i ≤ N by omega)]
  congr 1
  rw [List.take_of_length_le (show rs.length ≤ N - i by omega)]
  congr 1
  rw [List.drop_take]
  congr 1
  omega
theorem splice_low {α : Type} (us : List α) (i : Nat) (rs : List α) (h : i ≤ us.length) : (splice us i rs).take (i + rs.length) = us.take i ++ rs := by
  unfold splice
  rw [← List.append_assoc, List.take_left']
  simp; omega
theorem splice_ws {us rs : List Nat} (i : Nat) (h1 : Ws us) (h2 : Ws rs) : Ws (splice us i rs) := fun x hx => by
  unfold splice at hx
  simp only [List.mem_append] at hx
  rcases hx with h | h | h
  · exact h1 x (List.mem_of_mem_take h)
  · exact h2 x h
  · exact h1 x (List.mem_of_mem_drop h)
/-- what the loop keeps -/
def LgI (w wr : World) (g h m K N : Nat) (Av : Option Addr) (cv : Nat) (vs : List Nat) (D k : Nat) (L : List Value) (us ql : List Nat) : Prop :=
  wr.heap[g]? = some (.cells L.toArray 37 (0, 0)) ∧ L.take N = uvs us ∧ us.length = N ∧ Ws us ∧ N ≤ L.length ∧ RowAt wr h ql ∧ ql.length = K ∧ Ws ql ∧ Sl wr Av m cv vs ∧
  V (us.take (k + m)) + B64 ^ k * (V (ql.drop k) * V vs) = D ∧ V (us.take (k + m)) < V vs * B64 ^ k ∧ Below w.heap.size w wr
/-- the words that a round takes -/
theorem LgI.slice {w wr : World} {g h m K N : Nat} {Av : Option Addr} {cv : Nat} {vs : List Nat} {D i : Nat} {L : List Value} {us ql : List Nat} (hI : LgI w wr g h m K N Av cv vs D (i + 1) L us ql) (hN : i + 1 + m ≤ N) {c : Nat} (hc : m + 1 ≤ c) (hc2 : c ≤ 9223372036854775807) :
    Sl wr (some ⟨g, i, none⟩) (m + 1) c ((us.drop i).take (m + 1)) ∧ V ((us.drop i).take (m + 1)) < V vs * B64 ∧ V (us.take (i + 1 + m)) = V (us.take i) + B64 ^ i * V ((us.drop i).take (m + 1)) := by
  obtain ⟨h1, h2, h3, h4, h5, h6, h7, h8, h9, h10, h11, h12⟩ := hI
  have hlen : ((us.drop i).take (m + 1)).length = m + 1 := by simp; omega
  have hsp : V (us.take (i + 1 + m)) = V (us.take i) + B64 ^ i * V ((us.drop i).take (m + 1)) := by
    rw [show i + 1 + m = i + (m + 1) by omega, take_app, V_app, List.length_take, Nat.min_eq_left (by omega)]
  refine ⟨⟨hlen, hc, hc2, fun x hx => h4 x (List.mem_of_mem_drop (List.mem_of_mem_take hx)), fun _ => ⟨g, i, rfl, (Array.getElem?_eq_some_iff.1 h1).1, fun j u hj => ?_⟩⟩, ?_, hsp⟩
  · rw [cell_of_row wr g (i + j) _ _ _ h1]
    rw [uvs, List.getElem?_map, List.getElem?_take, List.getElem?_drop] at hj
    have e : (uvs us)[i + j]? = some u := by
      rw [uvs, List.getElem?_map]
      split at hj
      · exact hj
      · simp at hj
    rw [← h2, List.getElem?_take] at e
    split at e
    · simpa using e
    · cases e
  · rw [hsp, Nat.pow_succ] at h11
    rcases Nat.lt_or_ge (V ((us.drop i).take (m + 1))) (V vs * B64) with h | h
    · exact h
    · exfalso
      have := Nat.mul_le_mul_left (B64 ^ i) h
      rw [← Nat.mul_assoc, Nat.mul_comm (B64 ^ i) (V vs), Nat.mul_assoc] at this
      omega
theorem LgI.step {w wr w1 : World} {g h m K N : Nat} {Av : Option Addr} {cv : Nat} {vs : List Nat} {D i q : Nat} {L : List Value} {us ql rs : List Nat} (hI : LgI w wr g h m K N Av cv vs D (i + 1) L us ql) (hN : i + 1 + m ≤ N) (hK : i < K) (hgh : g ≠ h)
    (hvg : ∀ a, Av = some a → a.block ≠ g ∧ a.block ≠ h) (hg0 : w.heap.size ≤ g) (hh0 : w.heap.size ≤ h)
    (hT : TakeR wr w1 g i m L (V ((us.drop i).take (m + 1))) (V vs) q rs) (hsp : V (us.take (i + 1 + m)) = V (us.take i) + B64 ^ i * V ((us.drop i).take (m + 1))) :
    LgI w (w1.setCell ⟨h, i, none⟩ (.int .u64 (q : Int))) g h m K N Av cv vs D i (splice L i (uvs rs)) (splice us i rs) (ql.set i q) := by
  obtain ⟨h1, h2, h3, h4, h5, h6, h7, h8, h9, h10, h11, h12⟩ := hI
  obtain ⟨t1, t2, t3, t4, t5, t6, t7⟩ := hT
  have hil : i < ql.length := by omega
  have hlen : (splice us i rs).length = us.length := length_splice us i rs (by omega)
  have hr1 : RowAt w1 h ql := (t7.block h h6.lt (by intro e; injection e with e; exact hgh e.symm)).trans h6
  have hlow : (splice us i rs).take (i + m) = us.take i ++ rs := by rw [← t4]; exact splice_low us i rs (by omega)
  have hq : V ((ql.set i q).drop i) = q + B64 * V (ql.drop (i + 1)) := by
    have e1 : (ql.set i q).drop i = q :: ql.drop (i + 1) := by
      rw [List.drop_eq_getElem_cons (by rw [List.length_set]; exact hil), List.getElem_set_self]
      rw [List.drop_set_of_lt (by omega)]
    rw [e1, V]
  have hst := long_step (B := B64) (P := B64 ^ i) (Q := V (ql.drop (i + 1))) (low := V (us.take i)) (D := D) B64_pos (V_low h4 i) t1 t2 (by
    rw [← h10, hsp, Nat.pow_succ, Nat.mul_comm (B64 ^ i) B64])
  refine ⟨?_, ?_, by rw [hlen]; exact h3, splice_ws i h4 t5, by rw [length_splice _ _ _ (by rw [uvs_length]; omega)]; exact h5, hr1.set i q, by rw [List.length_set]; exact h7, Ws_set h8 i q t3, ?_, ?_, ?_, ?_⟩
  · rw [Below.heap_setCell _ _ _ _ (show g ≠ h from hgh)]; exact t6
  · rw [splice_take _ _ _ _ (by rw [uvs_length]; omega) h5, h2, uvs_splice]
  · exact (h9.grown' t7 fun a e => by intro e2; injection e2 with e2; exact (hvg a e).1 e2).grown' (grown_set _ h i _) fun a e => by intro e2; injection e2 with e2; exact (hvg a e).2 e2
  · rw [hlow, V_app, hq, List.length_take, Nat.min_eq_left (by omega)]; exact hst.1
  · rw [hlow, V_app, List.length_take, Nat.min_eq_left (by omega)]; exact hst.2
  · exact (h12.grown t7 h12.size (fun k hk => by injection hk with hk; omega)).setCell (p := ⟨h, i, none⟩) hh0 _
theorem LgI.rest {w wr : World} {g h m K N : Nat} {Av : Option Addr} {cv : Nat} {vs : List Nat} {D : Nat} {L : List Value} {us ql : List Nat} (hI : LgI w wr g h m K N Av cv vs D 0 L us ql) (hN : m ≤ N) {c : Nat} (hc : m ≤ c) (hc2 : c ≤ 9223372036854775807) :
    Sl wr (some ⟨g, 0, none⟩) m c (us.take m) ∧ V (us.take m) + V ql * V vs = D ∧ V (us.take m) < V vs := by
  obtain ⟨h1, h2, h3, h4, h5, h6, h7, h8, h9, h10, h11, h12⟩ := hI
  refine ⟨⟨by simp; omega, hc, hc2, fun x hx => h4 x (List.mem_of_mem_take hx), fun _ => ⟨g, 0, rfl, (Array.getElem?_eq_some_iff.1 h1).1, fun j u hj => ?_⟩⟩, by simpa using h10, by simpa using h11⟩
  rw [cell_of_row wr g (0 + j) _ _ _ h1, Nat.zero_add]
  rw [uvs, List.getElem?_map, List.getElem?_take] at hj
  have e : (uvs us)[j]? = some u := by
    rw [uvs, List.getElem?_map]
    split at hj
    · exact hj
    · simp at hj
  rw [← h2, List.getElem?_take] at e
  split at e
  · simpa using e
  · cases e
theorem long_end {x y Q R S z d : Nat} (hS : 0 < S) (h1 : R + Q * (y * S) = x * S) (h2 : R < y * S) (h3 : z * S + d = R) (h4 : d < S) : Q = x / y ∧ z = x % y := by
  have h5 : (z + Q * y) * S + d = x * S := by rw [Nat.add_mul, Nat.mul_assoc]; omega
  have h6 : d = 0 := by
    have := congrArg (· % S) h5
    simp only [Nat.mul_add_mod_self_right, Nat.mul_mod_left] at this
    rwa [Nat.mod_eq_of_lt h4] at this
  subst h6
  have h7 : z + Q * y = x := Nat.eq_of_mul_eq_mul_right hS (by omega)
  have h8 : z < y := by
    rcases Nat.lt_or_ge z y with h | h
    · exact h
    · have := Nat.mul_le_mul_right S h; omega
  subst h7
  refine ⟨?_, ?_⟩
  · rw [Nat.add_mul_div_right _ _ (by omega), Nat.div_eq_of_lt h8, Nat.zero_add]
  · rw [Nat.add_mul_mod_self_right, Nat.mod_eq_of_lt h8]
set_option maxHeartbeats 4000000 in
theorem long_ok (hGC : GuessC) (A A' : Option Addr) (n m c c' : Nat) (xs ys : List Nat) (w : World) (hn : n ≤ 4096) (hm2 : 2 ≤ m) (hmn : m ≤ n) (hx : Sl w A n c xs) (hy : Sl w A' m c' ys) (hcy : Cn ys) :
    Calls Try.prog 77 #[.slice A n c, .slice A' m c'] w fun e w' => ∃ v v', e = .returned (.tuple #[v, v']) ∧ Nt w w' v (V xs / V ys) ∧ Nt w w' v' (V xs % V ys) ∧ Below w.heap.size w w' := by
  obtain ⟨i0, hi, hz0, hz1, hz2⟩ := info_parts Try.info37
  have HGC := Lib.hid hGC
  have Hx := Lib.hid (And.intro hx (And.intro hy hcy))
  have hm4 : m ≤ 4096 := by omega
  clear hGC hx hy hcy
  go_enter Try.func77, Try.ntmps77
  go_wp2_with (fail)
  refine (NLen_ok A' m c' ys w (by omega) Hx.out.2.1).mono ?_
  rintro e w1 ⟨l, rfl, hlm, hBL, rfl⟩
  obtain ⟨s, hs⟩ : ∃ s, s = 64 * m - l := ⟨_, rfl⟩
  obtain ⟨hs63, hv1, hv2, hy0⟩ := long_shift Hx.out.2.1.2.2.2.1 Hx.out.2.1.1 hm2 Hx.out.2.2 hBL hlm hs
  have hmw : IntKind.i64.wrap (64 * (m : Int)) = 64 * (m : Int) := IntWalk.i64_in _ (by omega)
  have hsw : IntKind.i64.wrap (64 * (m : Int) - (l : Int)) = (s : Int) := by rw [IntWalk.i64_in _ (by omega)]; omega
  have hse : 64 * (m : Int) - (l : Int) = (s : Int) := by omega
  have hsw2 : IntKind.i64.wrap (s : Int) = (s : Int) := IntWalk.i64_in _ (by omega)
  have HS := Lib.hid (And.intro hv1 (And.intro hv2 hy0))
  clear hs hv1 hv2 hy0 hBL hlm
  go_wp2_with (fail)
  refine (Left_ok A' m c' ys s w hm4 Hx.out.2.1 hs63).mono ?_
  rintro e w2 ⟨v2, vs, d2, rfl, hd2, hv2, hnw2, hb2⟩
  obtain ⟨A2, c2, rfl, hs2⟩ := hnw2.sl
  have hd0 : d2 = 0 := by
    rcases Nat.eq_zero_or_pos d2 with h | h
    · exact h
    · exfalso
      have h1 := HS.out.1
      have h2 := Nat.mul_le_mul_right (B64 ^ m) (show 1 ≤ d2 from h)
      omega
  subst hd0
  rw [Nat.zero_mul, Nat.add_zero] at hv2
  have H2 := Lib.hid (And.intro hs2 (And.intro hv2 (And.intro (Hx.out.1.below hb2) (And.intro hb2 hnw2))))
  clear hs2 hv2 hb2 hnw2 hd2
  clear hse hsw hmw
  go_wp2_with (fail)
  refine (Left_ok A n c xs s w2 hn H2.out.2.2.1 hs63).mono ?_
  rintro e w3 ⟨v3, zs, d3, rfl, hd3, hv3, hnw3, hb3⟩
  have hown := hnw3.2.2
  obtain ⟨A3, c3, rfl, _⟩ := hnw3.sl
  have hsz := hb3.size
  have H3 := Lib.hid (And.intro hd3 (And.intro hv3 (And.intro hnw3 hb3)))
  clear hd3 hv3 hnw3 hb3
  go_wp2_with (at_builtin; refine wpList_append_rd _ rfl (.tmp 36) (.tmp 38) 22 rfl w2.heap.size 37 i0 (.int .u64 0) Try.underlying22 hi hz0 hz1 hz2 rfl (.slice A3 n c3) n _ rfl (hown.alloc _) _ (some ⟨w3.heap.size, 0, none⟩) 1 1 [.int .u64 (d3 : Int)] rfl rfl (Rd.one _ _ _) (by simp [Value.oneCell']) (by omega) (by simp; omega) ?_)
  intro v4 w4 hown4 hgrow4 hblk4
  have hb4 : Below w2.heap.size w2 w4 := (H3.out.2.2.2.alloc H3.out.2.2.2.size _).grown hgrow4 (by simp; omega) (fun j hj => (hown.lt j hj).1)
  obtain ⟨N, hN⟩ : ∃ N, n + 1 = N := ⟨_, rfl⟩
  obtain ⟨K, hK⟩ : ∃ K, N - m = K := ⟨_, rfl⟩
  rw [hN] at hown4
  obtain ⟨g, cap, rfl, hg2, hgl⟩ := hown4.form (by omega)
  obtain ⟨L, us, hL, hLt, hNL, hcap, husl, husw, husV⟩ : ∃ (L : List Value) (us : List Nat), w4.heap[g]? = some (.cells L.toArray 37 (0, 0)) ∧ L.take N = uvs us ∧ N ≤ L.length ∧ cap = L.length ∧ us.length = N ∧ Ws us ∧ V us = V xs * 2 ^ s := by
    rcases hown4.2 with ⟨h, _⟩ | ⟨g', cap', cur, h, _, hh, hc1, hc2, hcs, ht⟩
    · cases h
    · injection h with h1 h2 h3
      injection h1 with h1
      injection h1 with h1 _
      subst h1 h3
      rw [Nat.mul_one] at hcs ht
      refine ⟨cur.toList, zs ++ [d3], by simpa using hh, by rw [ht, uvs_append]; rfl, by simp; omega, by simpa using hcs.symm, by simp [H3.out.2.2.1.1]; omega, Ws_snoc H3.out.2.2.1.2.1 ?_, ?_⟩
      · refine Nat.lt_of_lt_of_le H3.out.1 ?_
        rw [show B64 = 2 ^ 64 from rfl]
        exact Nat.pow_le_pow_right (by decide) (by omega)
      · rw [V_snoc, H3.out.2.2.1.1]; exact H3.out.2.1
  have hcm : cap ≤ 9223372036854775807 := by
    rcases hown4.2 with ⟨h, _⟩ | ⟨g', cap', cur, h, _, hh, hc1, hc2, hcs, ht⟩
    · cases h
    · injection h with h1 h2 h3
      subst h3
      unfold maxLen at hc2; exact hc2
  have hNcap : N ≤ cap := by omega
  have hs4 := H2.out.1.below hb4
  have H4 := Lib.hid (And.intro hL (And.intro hLt (And.intro hNL (And.intro husl (And.intro husw (And.intro husV (And.intro hs4 (And.intro hb4 (H2.out.2.2.2.1.trans (hb4.mono H2.out.2.2.2.1.size)))))))))) 
  have HK := Lib.hid (And.intro hN hK)
  have hKi : (N : Int) - (m : Int) = (K : Int) := by omega
  have hKw : IntKind.i64.wrap (K : Int) = (K : Int) := IntWalk.i64_in _ (by omega)
  have hK4 : K ≤ 4096 := by omega
  have hK1 : 1 ≤ K := by omega
  have hfr : ∀ a, A2 = some a → a.block < w2.heap.size := by
    intro a ea
    have := (H2.out.2.2.2.2.2.2).lt a.block (by rw [ea]; rfl)
    exact this.2
  have HF := Lib.hid hfr
  have HTop := Lib.hid (long_top H2.out.1.2.2.2.1 H2.out.1.1 hm2 (by rw [H2.out.2.1]; exact HS.out.2.1))
  clear hown hown4 hgrow4 hblk4 hb4 hsz hL hLt hNL husl husw husV hs4 hfr hN hK H3 hcap
  go_wp2_with (at_make; refine wpList_make_full _ rfl _ _ 23 rfl w4.heap.size 37 i0 (.int .u64 0) 1 Try.underlying23 hi hz0 hz1 .i64 .i64 _ _ K rfl rfl rfl rfl (by rw [hz2]; omega) (by unfold maxLen; omega) (Nat.le_refl _) ?_)
  intro w5 hown5 hgrow5
  have hb5 := below_of_grown hgrow5 (Nat.le_refl _)
  have hrow := RowAt_zeros (by simpa using hown5)
  have hgh : g < w4.heap.size := hgl
  have hHT : LgI w w5 g w4.heap.size m K N A2 c2 vs (V xs * 2 ^ s) K L us (List.replicate K 0) := by
    obtain ⟨f1, f2, f3, f4, f5, f6, f7, f8, f9⟩ := H4.out
    obtain ⟨k1, k2⟩ := HK.out
    have e1 : us.take (K + m) = us := List.take_of_length_le (by omega)
    refine ⟨(hb5.block g hgl).trans f1, f2, f4, f5, f3, hrow, by simp, (Dg_zeros' K).ws, f7.below hb5, ?_, ?_, f9.trans (hb5.mono f9.size)⟩
    · rw [e1, V_drop_all _ K (by simp), Nat.zero_mul, Nat.mul_zero, Nat.add_zero, f6]
    · rw [e1, f6, H2.out.2.1]
      have h1 : V xs < B64 ^ n := Hx.out.1.lt
      have h2 : B64 ^ n * B64 = B64 ^ m * B64 ^ K := by rw [← Nat.pow_succ, ← Nat.pow_add]; congr 1; omega
      have h3 : 2 * 2 ^ s ≤ B64 := by
        rw [← Nat.pow_succ', show B64 = 2 ^ 64 from rfl]
        exact Nat.pow_le_pow_right (by decide) (by omega)
      have h4 := Nat.mul_lt_mul_of_pos_right h1 (show 0 < 2 * 2 ^ s from Nat.mul_pos (by decide) (Nat.pow_pos (by decide)))
      have h5 := Nat.mul_le_mul_left (B64 ^ n) h3
      have h6 := Nat.mul_le_mul_right (B64 ^ K) HS.out.2.1
      rw [h2] at h5
      have h7 : V xs * (2 * 2 ^ s) = 2 * (V xs * 2 ^ s) := by rw [Nat.mul_left_comm]
      have h8 : 2 * (V ys * 2 ^ s) * B64 ^ K = 2 * (V ys * 2 ^ s * B64 ^ K) := by rw [Nat.mul_assoc]
      omega
  have HT := Lib.hid hHT
  have hg0 : w.heap.size ≤ g := Nat.le_trans H2.out.2.2.2.1.size hg2
  have hh0 : w.heap.size ≤ w4.heap.size := by omega
  have hvg : ∀ a, A2 = some a → a.block ≠ g ∧ a.block ≠ w4.heap.size := fun a ea => by
    have := HF.out a ea
    omega
  have HG := Lib.hid (And.intro hvg (And.intro hg0 hh0))
  have hgne : g ≠ w4.heap.size := by omega
  have Hgne := Lib.hid hgne
  clear hown5 hgrow5 hb5 hrow hHT hgh hg0 hh0 hvg hg2 hgl hgne
  generalize w4.heap.size = h at *
  go_wp2_with (fail)
  go_loopw [14] (fun jv wr => ∃ (k : Nat) (j : Int), k ≤ K ∧ jv = .int .i64 j ∧ j + 1 = k ∧ ∃ L us ql, Hid (LgI w wr g h m K N A2 c2 vs (V xs * 2 ^ s) k L us ql)) (fun jv _ => (intOf jv + 1).toNat)
  case atStart => exact ⟨K, (K : Int) - 1, Nat.le_refl _, rfl, by omega, L, us, _, HT.out⟩
  case round =>
    clear HT H4
    obtain ⟨k, j, hk, rfl, hj, L, us, ql, hI⟩ := hrel
    rcases Nat.eq_zero_or_pos k with hk0 | hk0
    · have hjn : j < 0 := by omega
      subst hk0
      have hmN : m ≤ N := by have := HK.out; omega
      obtain ⟨hsl, hD, hlt⟩ := hI.out.rest hmN (c := cap) (by omega) hcm
      have hmc : (m : Int) ≤ (cap : Int) := by omega
      have H7 := Lib.hid (And.intro hsl (And.intro hD hlt))
      clear hj hsl hD hlt
      go_wp2_with (fail)
      refine (Right_ok _ m cap (us.take m) s wr hm4 H7.out.1 hs63).mono ?_
      rintro e w6 ⟨v6, rs, d6, rfl, hd6, hv6, hnw6, hb6⟩
      obtain ⟨A6, c6, rfl, hs6⟩ := hnw6.sl
      have hfin : V ql = V xs / V ys ∧ V rs = V xs % V ys := by
        obtain ⟨f1, f2, f3⟩ := H7.out
        rw [H2.out.2.1] at f2 f3
        exact long_end (Nat.pow_pos (by decide)) f2 f3 hv6 hd6
      have hrow6 : RowAt w6 h ql := (hb6.block h hI.out.2.2.2.2.2.1.lt).trans hI.out.2.2.2.2.2.1
      have hown6 := hrow6.own HG.out.2.2 (by rw [hI.out.2.2.2.2.2.2.1]; exact hK4)
      rw [hI.out.2.2.2.2.2.2.1] at hown6
      have hnq : Nw w w6 (.slice (some ⟨h, 0, none⟩) K K) K ql := ⟨hI.out.2.2.2.2.2.2.1, hI.out.2.2.2.2.2.2.2.1, hown6⟩
      obtain ⟨Aq, cq, heq, hsq⟩ := hnq.sl
      injection heq with e1 e2 e3
      subst e1 e3
      have hbw := hI.out.2.2.2.2.2.2.2.2.2.2.2
      have H8 := Lib.hid (And.intro hfin (And.intro hnq (And.intro hsq (And.intro hnw6 (And.intro hs6 (And.intro (hbw.trans (hb6.mono hbw.size)) hbw.size))))))
      clear hfin hrow6 hown6 hnq hsq hnw6 hs6 hb6 hv6 hd6 H7 hI hbw
      go_wp2_with (fail)
      refine (used_ok _ K _ ql w6 (by omega) H8.out.2.2.1).mono ?_
      rintro e w7 ⟨p, rfl, hp, hP, rfl⟩
      have HP := Lib.hid (And.intro hp hP.out)
      clear hp hP
      go_wp2_with (fail)
      refine (used_ok _ m _ rs w6 (by omega) H8.out.2.2.2.2.1).mono ?_
      rintro e w7 ⟨p', rfl, hp', hP', rfl⟩
      have HP' := Lib.hid (And.intro hp' hP'.out)
      clear hp' hP'
      go_wp2_with (fail)
      go_ret2
      obtain ⟨⟨f1, f2⟩, f3, f4, f5, f6, f7, f8⟩ := H8.out
      refine ⟨_, _, rfl, ⟨p, _, f3.tk HP.out.1, HP.out.2.2, by rw [HP.out.2.1, f1]⟩, Nt.base ⟨p', _, f5.tk HP'.out.1, HP'.out.2.2, by rw [HP'.out.2.1, f2]⟩ f8, f7⟩
    · obtain ⟨i, rfl⟩ : ∃ i, k = i + 1 := ⟨k - 1, by omega⟩
      obtain rfl : j = (i : Int) := by omega
      clear hj hk0
      have hiK : i < K := by omega
      have hiN : i + 1 + m ≤ N := by have := HK.out; omega
      obtain ⟨hsl, hlt, hsp⟩ := hI.out.slice hiN (c := cap - i) (by omega) (by omega)
      obtain ⟨i1, hi1, hi1'⟩ : ∃ i1 : Nat, (i : Int) + (m : Int) = (i1 : Int) ∧ i1 = i + m := ⟨i + m, by omega, rfl⟩
      obtain ⟨i2, hi2, hi2'⟩ : ∃ i2 : Nat, (i1 : Int) + 1 = (i2 : Int) ∧ i2 = i + m + 1 := ⟨i + m + 1, by omega, rfl⟩
      have hw1 : IntKind.i64.wrap (i1 : Int) = (i1 : Int) := IntWalk.i64_in _ (by omega)
      have hw2 : IntKind.i64.wrap (i2 : Int) = (i2 : Int) := IntWalk.i64_in _ (by omega)
      obtain ⟨m1, hm1⟩ : ∃ m1, m + 1 = m1 := ⟨_, rfl⟩
      have hsub : i2 - i = m1 := by omega
      have hii : (i : Int) ≤ (i2 : Int) := by omega
      have hic : (i2 : Int) ≤ (cap : Int) := by omega
      have hicn : ¬ (cap : Int) = (i : Int) := by omega
      have hicn2 : ¬ cap = i := by omega
      have hiKi : (i : Int) < (K : Int) := by omega
      have hcz := hI.out.2.2.2.2.2.1.cell (List.getElem?_eq_getElem (show i < ql.length by rw [hI.out.2.2.2.2.2.2.1]; exact hiK))
      have hfz := hI.out.2.2.2.2.2.1.frozen i
      obtain ⟨z0, hz0'⟩ : ∃ z0, ql[i]'(by rw [hI.out.2.2.2.2.2.2.1]; exact hiK) = z0 := ⟨_, rfl⟩
      rw [hz0'] at hcz
      clear hz0'
      rw [hm1] at hsl
      have Hs := Lib.hid (And.intro hsl (And.intro hlt (And.intro hsp (And.intro hm1 hiN))))
      clear hsl hlt hsp hm1 hiN hi1' hi2'
      go_wp2_with (fail)
      refine (takeWord_ok HGC.out A2 g i (cap - i) m m1 c2 L _ vs wr Hs.out.2.2.2.1.symm hm2 hm4 hI.out.1 Hs.out.1 hI.out.2.2.2.2.2.2.2.2.1 HTop.out (by rw [← Hs.out.2.2.2.1]; exact Hs.out.2.1) (by have := hI.out.2.2.2.2.1; have := Hs.out.2.2.2.2; omega)).mono ?_
      rintro e w6 ⟨q, rs, rfl, hT⟩
      have hmm := Hs.out.2.2.2.1
      have hsp := Hs.out.2.2.1
      have hlen2 : (us.drop i).take m1 = (us.drop i).take (m + 1) := by rw [hmm]
      rw [hlen2] at hT
      have HN := Lib.hid (hI.out.step Hs.out.2.2.2.2 hiK Hgne.out HG.out.1 HG.out.2.1 HG.out.2.2 hT hsp)
      have hcz6 := hT.2.2.2.2.2.2.cell hcz (by intro e; injection e with e; exact Hgne.out e.symm)
      have hr6 : RowAt w6 h ql := (hT.2.2.2.2.2.2.block h hI.out.2.2.2.2.2.1.lt (by intro e; injection e with e; exact Hgne.out e.symm)).trans hI.out.2.2.2.2.2.1
      have hfz6 := hr6.frozen i
      clear hT hsp hmm hlen2 hI Hs hcz hfz hr6
      go_wp2_with (fail)
      go_roundw
      case rel => exact ⟨i, (i : Int) - 1, by omega, rfl, by omega, _, _, _, HN⟩
      case measure => simp [intOf]
end Go.Proofs.Ytalcikmngglplaa
