/- The contract of reckonerref01.Times. -/
import Derived.Test.YtekikolhnfofeaaPlusL
import Derived.Test.YtekikolhnfofeaaZer
import Derived.Test.YtekikolhnfofeaaBack
namespace Go.Proofs.Ytekikolhnfofeaa
open Go.RowKit
set_option linter.unusedVariables false
set_option maxRecDepth 10000

theorem VD_set (os : List Nat) (j o r : Nat) (h : os[j]? = some o) : VD (os.set j r) + o * H32 ^ j = VD os + r * H32 ^ j := by
  have hj : j < os.length := (List.getElem?_eq_some_iff.1 h).1
  have ho : os[j] = o := (List.getElem?_eq_some_iff.1 h).2
  have e1 : os = os.take j ++ os[j] :: os.drop (j + 1) := by rw [List.getElem_cons_drop hj, List.take_append_drop]
  have e2 : os.set j r = os.take j ++ r :: os.drop (j + 1) := by rw [List.set_eq_take_append_cons_drop, if_pos hj]
  have e3 : VD os = VD (os.take j) + H32 ^ j * (o + H32 * VD (os.drop (j + 1))) := by
    conv => lhs; rw [e1]
    rw [VD_append, List.length_take, Nat.min_eq_left (by omega), VD, ho]
  rw [e2, VD_append, List.length_take, Nat.min_eq_left (by omega), VD, e3]
  generalize H32 ^ j = p
  generalize H32 = h'
  grind
theorem Dg_set {os : List Nat} (h : Dg os) (j r : Nat) (hr : r < H32) : Dg (os.set j r) := fun x hx => by
  rcases List.mem_or_eq_of_mem_set hx with h1 | h1
  · exact h x h1
  · rw [h1]; exact hr

theorem Dg_zeros' (m : Nat) : Dg (List.replicate m 0) := fun x hx => by rw [List.eq_of_mem_replicate hx]; exact H32_pos
/-- the block that make has just made -/
theorem RowAt_zeros {w1 : World} {n g B : Nat} (h : w1.ownsRow B 37 1 (.slice (some ⟨g, 0, none⟩) n n) n (madeCells #[Value.int .u64 0] n).toList) : RowAt w1 g (List.replicate n 0) := by
  have hu : (madeCells #[Value.int .u64 0] n).toList = uvs (List.replicate n 0) := by
    refine List.ext_getElem (by simp [madeCells, uvs]) (fun i h1 h2 => ?_)
    simp [madeCells, uvs, Nat.mod_one]
  rw [hu] at h
  rcases h.2 with ⟨hv, h0⟩ | ⟨g', cap, cur, hv, _, hh, _, _, hcs, ht⟩
  · injection hv with hv
    cases hv
  · injection hv with h1 h2 h3
    injection h1 with h1
    injection h1 with h1
    subst h1
    subst h3
    rw [Nat.mul_one] at hcs ht
    rw [List.take_of_length_le (by simp [hcs])] at ht
    unfold RowAt
    rw [hh]
    congr 2
    exact Array.ext' (by simpa using ht)

/-- a sum of a carry, a digit and a product -/
theorem times_sum {cy o a b : Nat} (h1 : cy < H32) (h2 : o < H32) (h3 : a < H32) (h4 : b < H32) : ∃ t1 t2 t r q : Nat, t = cy + o + a * b ∧ r + H32 * q = t ∧ r < H32 ∧ q < H32 ∧
    (cy : Int) + o = t1 ∧ IntKind.u64.wrap ((cy : Int) + o) = t1 ∧ IntKind.u64.wrap (t1 : Int) = t1 ∧ (a : Int) * b = t2 ∧ IntKind.u64.wrap ((a : Int) * b) = t2 ∧ IntKind.u64.wrap (t2 : Int) = t2 ∧ (t1 : Int) + t2 = t ∧ IntKind.u64.wrap ((t1 : Int) + t2) = t ∧ IntKind.u64.wrap (t : Int) = t ∧
    (t : Int) % 4294967296 = r ∧ (t : Int).tmod 4294967296 = r ∧ (t : Int) / 4294967296 = q ∧ (t : Int).tdiv 4294967296 = q ∧ IntKind.u64.wrap (q : Int) = q := by
  have hH : H32 = 4294967296 := rfl
  have hp : a * b ≤ 4294967295 * 4294967295 := Nat.mul_le_mul (by omega) (by omega)
  have hlt : cy + o + a * b < B64 := by have hB : B64 = 18446744073709551616 := rfl; omega
  obtain ⟨r, q, ⟨hr, hq⟩, hrH, hqH, e1, e2, e3, e4, e5⟩ := halves _ hlt
  have hw : ∀ z : Nat, z < 18446744073709551616 → IntKind.u64.wrap (z : Int) = z := fun z hz => by rw [IntKind.wrap_u64]; omega
  have hB : B64 = 18446744073709551616 := rfl
  refine ⟨cy + o, a * b, cy + o + a * b, r, q, rfl, by rw [hr, hq]; exact Nat.mod_add_div _ _, hrH, hqH, by omega, ?_, ?_, by simp, ?_, ?_, by omega, ?_, ?_, e1, e2, e3, e4, e5⟩
  · rw [show (cy : Int) + o = ((cy + o : Nat) : Int) by omega]; exact hw _ (by omega)
  · exact hw _ (by omega)
  · rw [show (a : Int) * b = ((a * b : Nat) : Int) by simp]; exact hw _ (by omega)
  · exact hw _ (by omega)
  · rw [show ((cy + o : Nat) : Int) + ((a * b : Nat) : Int) = ((cy + o + a * b : Nat) : Int) by omega]; exact hw _ (by omega)
  · exact hw _ (by omega)

/-- one step of the inner loop -/
theorem times_step {os ys : List Nat} {i k o a b cy t r q u p P : Nat} (ho : os[p]? = some o) (hb : ys[k]? = some b) (hp : p = i + k) (ht : t = cy + o + a * b) (hrq : r + H32 * q = t) (hu : H32 ^ i = P)
    (hv : VD os + cy * H32 ^ p = u + a * VD (ys.take k) * P) : VD (os.set p r) + q * H32 ^ (i + (k + 1)) = u + a * VD (ys.take (k + 1)) * P := by
  have h1 := VD_set os p o r ho
  rw [VD_take_succ ys k b hb]
  subst hp
  subst hu
  rw [show i + (k + 1) = (i + k) + 1 by omega, Nat.pow_succ]
  have e : H32 ^ (i + k) = H32 ^ i * H32 ^ k := Nat.pow_add _ _ _
  rw [e] at h1 hv ⊢
  clear e
  generalize VD (os.set (i + k) r) = s at *
  generalize VD os = s0 at *
  generalize VD (ys.take k) = v at *
  generalize H32 ^ i = x at *
  generalize H32 ^ k = y at *
  generalize H32 = h at *
  clear ho hb
  subst ht
  grind
/-- the end of the inner loop -/
theorem times_end {os xs ys : List Nat} {i a cy m p P : Nat} (ho : os[p]? = some 0) (ha : xs[i]? = some a) (hp : p = i + m) (hm : ys.length = m) (hu : H32 ^ i = P) (hv : VD os + cy * H32 ^ p = VD (xs.take i) * VD ys + a * VD (ys.take m) * P) :
    VD (os.set p cy) = VD (xs.take (i + 1)) * VD ys := by
  have h1 := VD_set os p 0 cy ho
  rw [VD_take_succ xs i a ha]
  rw [show ys.take m = ys from List.take_of_length_le (by omega)] at hv
  rw [Nat.zero_mul, Nat.add_zero] at h1
  rw [h1, hv, Nat.add_mul, hu]
  congr 1
  rw [Nat.mul_assoc, Nat.mul_assoc, Nat.mul_comm P]

/-- What Times' loops keep. -/
def TI (w : World) (g n m : Nat) (os : List Nat) (i : Nat) (wr : World) : Prop := w.heap.size ≤ g ∧ RowAt wr g os ∧ os.length = n + m ∧ Dg os ∧ (∀ j, i + m ≤ j → j < n + m → os[j]? = some 0) ∧ Below w.heap.size w wr

theorem TI.set {w wr : World} {g n m i p r : Nat} {os : List Nat} (h : TI w g n m os i wr) (hp : p < i + m) (hr : r < H32) : TI w g n m (os.set p r) i (wr.setCell ⟨g, p, none⟩ (.int .u64 (r : Int))) := by
  obtain ⟨h0, h1, h2, h3, h4, h5⟩ := h
  exact ⟨h0, h1.set p r, by rw [List.length_set]; exact h2, Dg_set h3 p r hr, fun j h6 h7 => by rw [List.getElem?_set_ne (by omega)]; exact h4 j h6 h7, h5.setCell (p := ⟨g, p, none⟩) h0 _⟩
theorem TI.last {w wr : World} {g n m i p r : Nat} {os : List Nat} (h : TI w g n m os i wr) (hp : p = i + m) (hr : r < H32) : TI w g n m (os.set p r) (i + 1) (wr.setCell ⟨g, p, none⟩ (.int .u64 (r : Int))) := by
  obtain ⟨h0, h1, h2, h3, h4, h5⟩ := h
  exact ⟨h0, h1.set p r, by rw [List.length_set]; exact h2, Dg_set h3 p r hr, fun j h6 h7 => by rw [List.getElem?_set_ne (by omega)]; exact h4 j (by omega) h7, h5.setCell (p := ⟨g, p, none⟩) h0 _⟩

theorem TI.drewN {w wr : World} {g n m i : Nat} {os : List Nat} (h : TI w g n m os i wr) (k : Nat) : TI w g n m os i (wr.drewN k) := by
  obtain ⟨h0, h1, h2, h3, h4, h5⟩ := h
  exact ⟨h0, h1, h2, h3, h4, below_drewN h5 k⟩
theorem TI.nw {w wr : World} {g n m i N : Nat} {os : List Nat} (h : TI w g n m os i wr) (hN : N = n + m) (hb : N ≤ 200000) : Nw w wr (.slice (some ⟨g, 0, none⟩) N N) N os := by
  obtain ⟨h0, h1, h2, h3, h4, h5⟩ := h
  subst hN
  exact ⟨h2, h3.ws, by rw [uvs_length, h2, Nat.mul_one], .inr ⟨g, n + m, (uvs os).toArray, rfl, h0, h1, Nat.le_refl _, by unfold maxLen; omega, by simp [uvs_length, h2], by rw [Nat.mul_one]; exact List.take_of_length_le (by simp [uvs_length, h2])⟩⟩

set_option maxHeartbeats 1000000 in
theorem Times_ok (A A' : Option Addr) (n m c c' : Nat) (xs ys : List Nat) (w : World) (hn : n ≤ 100000) (hm : m ≤ 100000) (hx : Sl w A n c xs) (hy : Sl w A' m c' ys) (dx : Dg xs) (dy : Dg ys) :
    Calls Try.prog 72 #[.slice A n c, .slice A' m c'] w fun e w' => ∃ v out, e = .returned v ∧ Nw w w' v (n + m) out ∧ Dg out ∧ VD out = VD xs * VD ys ∧ Below w.heap.size w w' := by
  obtain ⟨i0, hi, hz0, hz1, hz2⟩ := info_parts Try.info37
  obtain ⟨N, hN, hN2⟩ : ∃ N : Nat, (n : Int) + (m : Int) = (N : Int) ∧ N = n + m := ⟨n + m, by omega, rfl⟩
  have HN := Lib.hid hN2
  have hN3 : N ≤ 200000 := by omega
  have Hx := Lib.hid (And.intro hx dx)
  have Hy := Lib.hid (And.intro hy dy)
  clear hx hy dx dy hN2
  go_enter Try.func72, Try.ntmps72
  go_wp2_with (at_make; refine wpList_make_full _ rfl _ _ 22 rfl w.heap.size 37 i0 (.int .u64 0) 1 Try.underlying22 hi hz0 hz1 .i64 .i64 _ _ N rfl rfl rfl rfl (by rw [hz2]; omega) (by unfold maxLen; omega) (Nat.le_refl _) ?_)
  intro w1 hown hgrow
  have hb1 := below_of_grown hgrow (Nat.le_refl _)
  have hrow := RowAt_zeros (by simpa using hown)
  have HT : Hid (TI w w.heap.size n m (List.replicate N 0) 0 w1) := ⟨Nat.le_refl _, hrow, by rw [List.length_replicate, HN.out], Dg_zeros' _, fun j _ h => by rw [List.getElem?_replicate, if_pos (by rw [HN.out]; exact h)], hb1⟩
  clear hown hgrow hb1 hrow
  generalize w.heap.size = g at *
  go_wp2
  go_loopw [6] (fun iv wr => ∃ (i : Nat) (os : List Nat), i ≤ n ∧ iv = .int .i64 i ∧ Hid (TI w g n m os i wr ∧ VD os = VD (xs.take i) * VD ys)) (fun iv _ => n - (intOf iv).toNat)
  case atStart => exact ⟨0, _, by omega, rfl, HT.out, by rw [VD_zeros]; simp [VD]⟩
  case round =>
    clear HT
    obtain ⟨i, os, hil, rfl, hH⟩ := hrel
    by_cases hlt : i < n
    · go_wp2
      obtain ⟨wo, hwo⟩ : ∃ wo : World, wo = wr := ⟨_, rfl⟩
      have hki : i < xs.length := by rw [Hx.out.1.1]; exact hlt
      have Ha := Lib.hid (List.getElem?_eq_getElem hki)
      have haH : xs[i] < H32 := Hx.out.2 _ (List.getElem_mem hki)
      obtain ⟨ba, oa, rfl, hba, hca⟩ := (Hx.out.1.2.2.2.2).at (uvs_get Ha.out)
      generalize xs[i] = a at *
      have HA := Lib.hid (And.intro haH (And.intro hba hca))
      clear haH hba hca hki hwo
      go_loopw [7, 8] (fun cv kv wi => ∃ (k cy : Nat) (os' : List Nat), k ≤ m ∧ kv = .int .i64 k ∧ cv = .int .u64 cy ∧ Hid (cy < H32 ∧ TI w g n m os' i wi ∧ VD os' + cy * H32 ^ (i + k) = VD (xs.take i) * VD ys + a * VD (ys.take k) * H32 ^ i)) (fun _ kv _ => m - (intOf kv).toNat)
      case atStart => exact ⟨0, 0, os, by omega, rfl, rfl, H32_pos, hH.out.1, by rw [hH.out.2]; simp [VD]⟩
      case round =>
        clear hH
        obtain ⟨k, cy, os', hkl, rfl, rfl, hI⟩ := hrel
        have hg1 := hI.out.2.1
        by_cases hlt2 : k < m
        · obtain ⟨p, hp, hp2⟩ : ∃ p : Nat, (i : Int) + (k : Int) = (p : Int) ∧ p = i + k := ⟨i + k, by omega, rfl⟩
          have hpN : p < N := by have := HN.out; omega
          have hpl : p < os'.length := by rw [hg1.2.2.1, ← HN.out]; exact hpN
          have ho := List.getElem?_eq_getElem hpl
          have hoH : os'[p] < H32 := hg1.2.2.2.1 _ (List.getElem_mem hpl)
          have hkb : k < ys.length := by rw [Hy.out.1.1]; exact hlt2
          have hb := List.getElem?_eq_getElem hkb
          have hbH : ys[k] < H32 := Hy.out.2 _ (List.getElem_mem hkb)
          obtain ⟨bb, ob, rfl, _, hcb⟩ := (Hy.out.1.2.2.2.2.below hg1.2.2.2.2.2).at (uvs_get hb)
          have hco := hg1.2.1.cell ho
          have hfo := hg1.2.1.frozen p
          have hca := (hg1.2.2.2.2.2.cell (p := ⟨ba, oa + i, none⟩) HA.out.2.1).trans HA.out.2.2
          generalize os'[p] = o at *
          generalize ys[k] = b at *
          obtain ⟨t1, t2, t, r, q, ht, hrq, hrH, hqH, s1, s2, s3, s4, s5, s6, s7, s8, s9, e1, e2, e3, e4, e5⟩ := times_sum hI.out.1 hoH HA.out.1 hbH
          have HS : Hid (q < H32 ∧ (∀ z, TI w g n m (os'.set p r) i ((wr.drewN z).setCell ⟨g, p, none⟩ (.int .u64 (r : Int)))) ∧ VD (os'.set p r) + q * H32 ^ (i + (k + 1)) = VD (xs.take i) * VD ys + a * VD (ys.take (k + 1)) * H32 ^ i) :=
            ⟨hqH, fun z => (hg1.drewN z).set (by omega) hrH, times_step ho hb hp2 ht hrq rfl (by rw [hp2]; exact hI.out.2.2)⟩
          have hp3 : IntKind.i64.wrap (p : Int) = (p : Int) := IntWalk.i64_in _ (by omega)
          have hp4 : (p : Int) < (N : Int) := by omega
          have hi4 : (i : Int) < (n : Int) := by omega
          have hk4 : (k : Int) < (m : Int) := by omega
          clear ho hb hoH hbH hpl hkb hg1 hI ht hrq hrH hqH hp2
          go_wp2
          go_quiet (fail)
          go_wp2
          go_roundw
          case rel => exact ⟨k + 1, q, os'.set p r, by omega, by go_num, rfl, HS.out.1, HS.out.2.1 nq, HS.out.2.2⟩
          case measure => simp [intOf]; omega
        · have hkm : k = m := by omega
          obtain ⟨p, hp, hp2⟩ : ∃ p : Nat, (i : Int) + (m : Int) = (p : Int) ∧ p = i + m := ⟨i + m, by omega, rfl⟩
          have hpN : p < N := by have := HN.out; omega
          have ho : os'[p]? = some 0 := hg1.2.2.2.2.1 p (by omega) (by have := HN.out; omega)
          have hco := hg1.2.1.cell ho
          have hfo := hg1.2.1.frozen p
          have HS : Hid (TI w g n m (os'.set p cy) (i + 1) (wr.setCell ⟨g, p, none⟩ (.int .u64 (cy : Int))) ∧ VD (os'.set p cy) = VD (xs.take (i + 1)) * VD ys) :=
            ⟨hg1.last hp2 hI.out.1, times_end ho Ha.out hp2 Hy.out.1.1 rfl (by rw [hp2, ← hkm]; have := hI.out.2.2; rw [hkm] at this ⊢; exact this)⟩
          have hp3 : IntKind.i64.wrap (p : Int) = (p : Int) := IntWalk.i64_in _ (by omega)
          have hp4 : (p : Int) < (N : Int) := by omega
          clear ho hg1 hI hp2 hkm
          go_wp2
          go_roundw
          case rel => exact ⟨i + 1, os'.set p cy, by omega, by go_num, HS⟩
          case measure => simp [intOf]; omega
    · have hin : i = n := by omega
      have Hin := Lib.hid hin
      clear hin
      go_wp2
      go_ret
      have hi := Hin.out
      subst hi
      obtain ⟨h1, h2⟩ := hH.out
      rw [List.take_of_length_le (by rw [Hx.out.1.1]; exact Nat.le_refl _)] at h2
      refine ⟨_, os, rfl, ?_, h1.2.2.2.1, h2, h1.2.2.2.2.2⟩
      have := h1.nw HN.out hN3
      rw [← HN.out]
      exact this
end Go.Proofs.Ytekikolhnfofeaa
