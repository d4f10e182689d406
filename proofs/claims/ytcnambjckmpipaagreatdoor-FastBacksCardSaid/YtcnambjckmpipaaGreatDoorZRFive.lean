/- The contract of reckonerref03.Five, for short lists. -/
import Derived.Test.YtcnambjckmpipaaGreatDoorZRVal
import Derived.Test.YtcnambjckmpipaaGreatDoorZFFB
import Derived.Test.YtcnambjckmpipaaGreatDoorP9
namespace Go.Proofs.YtcnambjckmpipaaGreatDoor
open Go.RowKit Go.Shelf
set_option linter.unusedVariables false
set_option linter.unusedSimpArgs false
set_option maxRecDepth 10000

/-- the points -/
def tpt (i : Nat) : Int := match i with
  | 0 => 0
  | 1 => 1
  | 2 => -1
  | 3 => 2
  | _ => 0
/-- the values of which i are there -/
def fvS (zs : List Int) (i : Nat) : List Int := (List.range 5).map fun j => if j < i then pvF (tpt j) zs else 0
theorem fvS_succ (zs : List Int) (i : Nat) (hi : i < 4) : fvS zs (i + 1) = (fvS zs i).set i (pvF (tpt i) zs) := by
  rcases (show i = 0 ∨ i = 1 ∨ i = 2 ∨ i = 3 by omega) with rfl | rfl | rfl | rfl <;> simp [fvS, List.range_succ_eq_map]
theorem fvS_four (zs : List Int) : (fvS zs 4).set 4 0 = fvS zs 4 := by simp [fvS, List.range_succ_eq_map]
/-- they are those that fast.Five finds -/
theorem fvS_five {al : List Sn} (h : al.length ≤ 5) (x : Int) (hx : x = match al[4]? with | some a => a.v | none => 0) : (fvS (al.map Sn.v) 4).set 4 x = fiveS (valZ al) := by
  subst hx
  match al, h with
  | [], _ => simp [fvS, pvF, tpt, valZ, fiveS, List.range_succ_eq_map]
  | [a], _ => simp [fvS, pvF, tpt, valZ, fiveS, List.range_succ_eq_map]
  | [a, b], _ => simp [fvS, pvF, tpt, valZ, fiveS, List.range_succ_eq_map]; omega
  | [a, b, c], _ => simp [fvS, pvF, tpt, valZ, fiveS, List.range_succ_eq_map]; omega
  | [a, b, c, d], _ => simp [fvS, pvF, tpt, valZ, fiveS, List.range_succ_eq_map]; omega
  | [a, b, c, d, e], _ => simp [fvS, pvF, tpt, valZ, fiveS, List.range_succ_eq_map]; omega
theorem arr_far {w0 W : World} {b g : Nat} {R : List Sn} {S : List Int} (h : Arr w0 W b R S) (hne : b ≠ g) (hg : g < w0.heap.size) (j : Nat) (u : Value) : Arr w0 (W.setCell ⟨g, j, none⟩ u) b R S :=
  ⟨h.1.far hne j u, h.2.1, h.2.2.1, h.2.2.2.1, by simp [World.setCell]; exact h.2.2.2.2.1, fun i r s hi hs => by
    have h0 := h.2.2.2.2.2 i r s hi hs
    exact ⟨⟨h0.1.1, h0.1.2.1, own_kept h0.1.2.2 (grown_set W g j u) hg⟩, h0.2⟩⟩
theorem zr_sn {w0 w w' : World} {b : Bool} {A : Option Addr} {n c : Nat} {z : Int} (h : Zr w w' (.returned (.agg #[.bool b, .slice A n c])) z) (h0 : w0.heap.size ≤ w.heap.size) : ∃ zs, Sg w0 w' b A n c zs z := by
  obtain ⟨A', n', c', zs, e, h1, h2, h3, h4⟩ := h
  injection e with e
  obtain ⟨e1, rfl, rfl, rfl⟩ := va_inj e
  refine ⟨zs, ⟨h1.1, h1.2.1, own_base h1.2.2 h0⟩, h2, by rw [h3, e1]; exact (sgn_can z).symm, fun hb => ?_⟩
  rw [e1] at hb
  have := of_decide_eq_true hb
  rw [h3]
  omega
/-- what Five holds between two rounds -/
def RfI (w X W : World) (S : List Int) : Prop := (∃ R, Arr X W (w.heap.size + 1) R S) ∧ Bk W w.heap.size zero10 ∧ Bk W (w.heap.size + 2) [.int .i64 0, .int .i64 1, .int .i64 (-1), .int .i64 2] ∧ Below w.heap.size w W ∧ X.heap.size = w.heap.size + 3 ∧ X.heap.size ≤ W.heap.size
theorem RfI.put {w X W W' : World} {S : List Int} {A : Option Addr} {n c i : Nat} {b : Bool} {z : Int} (h : RfI w X W S) (hi : i < 5) (hz : Zr W W' (.returned (.agg #[.bool b, .slice A n c])) z) :
    RfI w X ((W'.setCell ⟨w.heap.size + 1, i * 2, none⟩ (.bool b)).setCell ⟨w.heap.size + 1, i * 2 + 1, none⟩ (.slice A n c)) (S.set i z) ∧
    (∃ x, W'.cell? ⟨w.heap.size + 1, i * 2, none⟩ = some x) ∧ (∃ x, W'.cell? ⟨w.heap.size + 1, i * 2 + 1, none⟩ = some x) ∧ W'.frozen? ⟨w.heap.size + 1, i * 2, none⟩ = false ∧ W'.frozen? ⟨w.heap.size + 1, i * 2 + 1, none⟩ = false := by
  obtain ⟨⟨R, h1⟩, h2, h3, h4, h5, h6⟩ := h
  have hb := hz.bel
  have k1 := h1.below hb
  have k2 := h2.below hb (by omega)
  have k3 := h3.below hb (by omega)
  obtain ⟨zs, hs⟩ := zr_sn hz (w0 := X) (by omega)
  obtain ⟨x0, x1, e0, e1⟩ := sncs_get2' R i (by rw [k1.2.1]; exact hi)
  have g0 := k1.1 _ _ e0
  have g1 := k1.1 _ _ e1
  have hset := k1.set i ⟨b, A, n, c, zs⟩ z hi hs
  rw [Nat.mul_comm 2 i] at hset g0 g1
  refine ⟨⟨⟨_, hset⟩, (k2.far (by omega) _ _).far (by omega) _ _, (k3.far (by omega) _ _).far (by omega) _ _, ((h4.trans (hb.mono h4.size)).setCell (p := ⟨w.heap.size + 1, i * 2, none⟩) (by show w.heap.size ≤ w.heap.size + 1; omega) _).setCell (p := ⟨w.heap.size + 1, i * 2 + 1, none⟩) (by show w.heap.size ≤ w.heap.size + 1; omega) _, h5, by have := hb.size; simp [World.setCell]; omega⟩, ⟨_, g0.1⟩, ⟨_, g1.1⟩, g0.2, g1.2⟩

set_option maxHeartbeats 4000000 in
theorem RFive_ok (al : List Sn) (A : Option Addr) (m c : Nat) (w : World) (hm : m ≤ 5) (hx : Zl w A m c al) (hn : ∀ a ∈ al, a.n ≤ 8) :
    Calls Tryz.prog 9 #[.slice A m c] w fun z w' => ∃ a b c d e : Sn, z = .returned (snV a b c d e) ∧ ZsR w w' a b c d e (fiveS (valZ al)) ∧ Below w.heap.size w w' := by
  have Hx := Lib.hid (And.intro hx hn)
  have hal : al.length = m := hx.1
  clear hx hn
  obtain ⟨X, hX⟩ : ∃ X, (((w.alloc (.cells zero10.toArray 27)).alloc (.cells zero10.toArray 27)).alloc (.cells #[.int .i64 0, .int .i64 1, .int .i64 (-1), .int .i64 2] 71)) = X := ⟨_, rfl⟩
  have hI0 : Hid (RfI w X X (fvS (al.map Sn.v) 0)) := by
    obtain ⟨w1, hw1⟩ : ∃ w1, w.alloc (.cells zero10.toArray 27) = w1 := ⟨_, rfl⟩
    obtain ⟨w2, hw2⟩ : ∃ w2, w1.alloc (.cells zero10.toArray 27) = w2 := ⟨_, rfl⟩
    have s1 : w1.heap.size = w.heap.size + 1 := by rw [← hw1]; simp
    have s2 : w2.heap.size = w.heap.size + 2 := by rw [← hw2]; simp; omega
    rw [hw1, hw2] at hX
    have s3 : X.heap.size = w.heap.size + 3 := by rw [← hX]; simp; omega
    have b1 : Below w.heap.size w w1 := by rw [← hw1]; exact (Below.refl _ _).alloc (Nat.le_refl _) _
    have b2 : Below w1.heap.size w1 w2 := by rw [← hw2]; exact (Below.refl _ _).alloc (Nat.le_refl _) _
    have b3 : Below w2.heap.size w2 X := by rw [← hX]; exact (Below.refl _ _).alloc (Nat.le_refl _) _
    have k0 := Bk.new w zero10 27
    have k1 := Bk.new w1 zero10 27
    have k2 := Bk.new w2 [.int .i64 0, .int .i64 1, .int .i64 (-1), .int .i64 2] 71
    rw [hw1] at k0
    rw [hw2, s1] at k1
    rw [show w2.alloc (.cells [Value.int .i64 0, .int .i64 1, .int .i64 (-1), .int .i64 2].toArray 71) = X from hX, s2] at k2
    have b13 := b2.trans (b3.mono b2.size)
    exact ⟨⟨_, Arr.start X X _ (k1.below b3 (by omega)) (by omega) (Nat.le_refl _)⟩, k0.below b13 (by omega), k2, b1.trans (b13.mono b1.size), s3, Nat.le_refl _⟩
  go_enter Tryz.func9, Tryz.ntmps9
  go_wp2_with (fail)
  rw [show (((w.alloc (.cells #[.bool false, .slice none 0 0, .bool false, .slice none 0 0, .bool false, .slice none 0 0, .bool false, .slice none 0 0, .bool false, .slice none 0 0] 27)).alloc (.cells #[.bool false, .slice none 0 0, .bool false, .slice none 0 0, .bool false, .slice none 0 0, .bool false, .slice none 0 0, .bool false, .slice none 0 0] 27)).alloc (.cells #[.int .i64 0, .int .i64 1, .int .i64 (-1), .int .i64 2] 71)) = X from hX]
  clear hX
  go_loopw [5] (fun iv wr => ∃ i : Nat, i ≤ 4 ∧ iv = .int .i64 i ∧ Hid (RfI w X wr (fvS (al.map Sn.v) i))) (fun iv _ => 4 - (intOf iv).toNat)
  case atStart => exact ⟨0, by omega, rfl, hI0⟩
  case round =>
    clear hI0
    obtain ⟨i, hi4, rfl, HI⟩ := hrel
    by_cases hlt : i < 4
    · have hii : (i : Int) < 4 := by omega
      have hi5 : (i : Int) < 5 := by omega
      have c0 : wr.cell? ⟨w.heap.size + 2, i, none⟩ = some (.int .i64 (tpt i)) := by
        rcases (show i = 0 ∨ i = 1 ∨ i = 2 ∨ i = 3 by omega) with rfl | rfl | rfl | rfl <;> exact (HI.out.2.2.1 _ _ rfl).1
      have ht : (tpt i).natAbs ≤ 10 := by
        rcases (show i = 0 ∨ i = 1 ∨ i = 2 ∨ i = 3 by omega) with rfl | rfl | rfl | rfl <;> decide
      obtain ⟨t, hte⟩ : ∃ t, tpt i = t := ⟨_, rfl⟩
      rw [hte] at c0 ht
      have Ht := Lib.hid ht
      have Hte := Lib.hid hte
      clear ht hte
      go_wp2_with (fail)
      refine (RValue_ok al A m c t _ (by omega) Ht.out (Hx.out.1.below HI.out.2.2.2.1) Hx.out.2).mono ?_
      rintro e w3 ⟨hR, -⟩
      obtain ⟨A3, n3, c3, rfl, hz⟩ := hR.val
      obtain ⟨hset, ⟨x0, p0⟩, ⟨x1, p1⟩, f0, f1⟩ := HI.out.put (i := i) (by omega) hz
      rw [← Hte.out, ← fvS_succ _ i hlt, Hte.out] at hset
      have HN := Lib.hid hset
      obtain ⟨d, hd⟩ : ∃ d, decide (pvF t (al.map Sn.v) < 0) = d := ⟨_, rfl⟩
      rw [hd] at HN ⊢
      clear hR hz hset hd HI c0
      go_wp2_with (fail)
      refine ⟨⟨i + 1, by omega, by go_num, HN⟩, ?_⟩
      simp [intOf]; omega
    · obtain rfl : i = 4 := by omega
      have hii : ¬ ((4 : Nat) : Int) < 4 := by omega
      by_cases h5 : m = 5
      · have hq : ((m : Int) == 5) = true := by rw [h5]; rfl
        have hl4 : (4 : Int) < (m : Int) := by omega
        have hg := List.getElem?_eq_getElem (show 4 < al.length by omega)
        obtain ⟨b, o, rfl, -, c0, c1⟩ := (Hx.out.1.below HI.out.2.2.2.1).at hg
        have hsl := Hx.out.1.2.2.2.2 _ (List.getElem_mem (show 4 < al.length by omega))
        have hn8 := Hx.out.2 _ (List.getElem_mem (show 4 < al.length by omega))
        have h4v : al[4].v = (match al[4]? with | some a => a.v | none => 0) := by rw [hg]
        generalize al[4] = x at *
        obtain ⟨xs, xA, xn, xc, xx⟩ := x
        simp only at c0 c1 hsl hn8
        simp only [show 4 * 2 = 8 from rfl, show ∀ o : Nat, o + 8 + 1 = o + 9 from fun _ => rfl] at c0 c1
        have HL := Lib.hid (And.intro (hsl.below HI.out.2.2.2.1) h4v)
        clear hg hsl h4v h5
        go_wp2_with (fail)
        refine (RTrimZ_ok xs xA xn xc xx _ (by omega) HL.out.1).mono ?_
        rintro e w3 hR
        obtain ⟨A3, n3, c3, rfl, hz⟩ := hR.val
        obtain ⟨hset, ⟨x0, p0⟩, ⟨x1, p1⟩, f0, f1⟩ := HI.out.put (i := 4) (by omega) hz
        simp only [show 4 * 2 = 8 from rfl] at p0 p1 f0 f1 hset
        rw [fvS_five (by omega) (sgn xs (V xx)) HL.out.2] at hset
        have HN := Lib.hid hset
        obtain ⟨d, hd⟩ : ∃ d, decide (sgn xs (V xx) < 0) = d := ⟨_, rfl⟩
        rw [hd] at HN ⊢
        clear hR hz hset hd HI c0 c1 HL
        obtain ⟨⟨R, hA⟩, hz10, -, hbw, hXs, hXW⟩ := HN.out
        obtain ⟨r0, r1, r2, r3, r4, rfl⟩ := list5 hA.2.1
        have HR := Lib.hid (And.intro (show ((w3.setCell ⟨w.heap.size + 1, 8, none⟩ (.bool d)).setCell ⟨w.heap.size + 1, 9, none⟩ (.slice A3 n3 c3)).rangeAt (w.heap.size + 1) 0 (snL r0 r1 r2 r3 r4) from hA.1.range) (And.intro hz10.there (And.intro hA (And.intro hbw hXs))))
        clear hA hz10 hbw hXs hXW HN
        go_wp2_with (first | (refine wpList_load_mid rfl 27 _ rfl (w.heap.size + 1) 0 rfl (snL r0 r1 r2 r3 r4) _ HR.out.1 Tryz.underlying27 rfl (by kernel_rfl) ?_) | (refine wpList_store_mid rfl 27 _ _ rfl w.heap.size 0 (snL r0 r1 r2 r3 r4).toArray rfl rfl HR.out.2.1 (by kernel_rfl) (by simp [Value.oneCell']) ?_))
        have hl := run_loadVar_mid (P := Tryz.prog) (((w3.setCell ⟨w.heap.size + 1, 8, none⟩ (.bool d)).setCell ⟨w.heap.size + 1, 9, none⟩ (.slice A3 n3 c3)).setCells w.heap.size 0 (snL r0 r1 r2 r3 r4)) w.heap.size 0 27 (snL r0 r1 r2 r3 r4) _ (World.rangeAt_setCells_same _ _ _ _ HR.out.2.1) Tryz.underlying27 rfl (by kernel_rfl)
        exact bodyPost_ret (v := snV r0 r1 r2 r3 r4) (by simp [results, Tryz.results9, Act.put, asAddr, hl]) rfl ⟨r0, r1, r2, r3, r4, rfl, ⟨HR.out.2.2.1.2.2.1, fun i r s h1 h2 => ((HR.out.2.2.1.2.2.2.2.2 i r s h1 h2).setCells (by have := HR.out.2.2.2.2; omega) _ _).base (by have := HR.out.2.2.2.2; omega)⟩, below_setCells HR.out.2.2.2.1 (Nat.le_refl _) _ _ HR.out.2.2.2.1.size⟩
      · have hq : ((m : Int) == 5) = false := by simp; omega
        have h0 := fvS_five (al := al) (by omega) 0 (by rw [List.getElem?_eq_none (by omega)])
        rw [fvS_four] at h0
        have hI := HI.out
        rw [h0] at hI
        have HN := Lib.hid hI
        clear hI h0 HI
        obtain ⟨V, hV⟩ : ∃ V, wr = V := ⟨_, rfl⟩
        rw [hV] at HN ⊢
        clear hV
        focus
          obtain ⟨⟨R, hA⟩, hz10, -, hbw, hXs, hXW⟩ := HN.out
          obtain ⟨r0, r1, r2, r3, r4, rfl⟩ := list5 hA.2.1
          have HR := Lib.hid (And.intro (show V.rangeAt (w.heap.size + 1) 0 (snL r0 r1 r2 r3 r4) from hA.1.range) (And.intro hz10.there (And.intro hA (And.intro hbw hXs))))
          clear hA hz10 hbw hXs hXW HN
          go_wp2_with (first | (refine wpList_load_mid rfl 27 _ rfl (w.heap.size + 1) 0 rfl (snL r0 r1 r2 r3 r4) _ HR.out.1 Tryz.underlying27 rfl (by kernel_rfl) ?_) | (refine wpList_store_mid rfl 27 _ _ rfl w.heap.size 0 (snL r0 r1 r2 r3 r4).toArray rfl rfl HR.out.2.1 (by kernel_rfl) (by simp [Value.oneCell']) ?_))
          have hl := run_loadVar_mid (P := Tryz.prog) (V.setCells w.heap.size 0 (snL r0 r1 r2 r3 r4)) w.heap.size 0 27 (snL r0 r1 r2 r3 r4) _ (World.rangeAt_setCells_same _ _ _ _ HR.out.2.1) Tryz.underlying27 rfl (by kernel_rfl)
          exact bodyPost_ret (v := snV r0 r1 r2 r3 r4) (by simp [results, Tryz.results9, Act.put, asAddr, hl]) rfl ⟨r0, r1, r2, r3, r4, rfl, ⟨HR.out.2.2.1.2.2.1, fun i r s h1 h2 => ((HR.out.2.2.1.2.2.2.2.2 i r s h1 h2).setCells (by have := HR.out.2.2.2.2; omega) _ _).base (by have := HR.out.2.2.2.2; omega)⟩, below_setCells HR.out.2.2.2.1 (Nat.le_refl _) _ _ HR.out.2.2.2.1.size⟩
end Go.Proofs.YtcnambjckmpipaaGreatDoor
