/- The contract of awake of the law of layer 3: it returns true. -/
import Derived.Test.YthpgdpkemnhneaaGreatDoorZFAwM
namespace Go.Proofs.YthpgdpkemnhneaaGreatDoor
open Go.RowKit Go.Shelf
set_option linter.unusedVariables false
set_option linter.unusedSimpArgs false
set_option maxRecDepth 100000

theorem ints_aw (w : World) (zs : List Int) (n : Nat) (hl : zs.length = n) (hn : n ≤ 100) (hz : ∀ z ∈ zs, -1000000 ≤ z ∧ z ≤ 1000000) : Calls Tryz.prog 53 #[.slice (some ⟨w.heap.size, 0, none⟩) n n] (w.alloc (.cells (zs.map fun z => Value.int .i64 z).toArray 2)) fun e w' => ∃ A c al, e = .returned (.slice A n c) ∧ Zl w' A n c al ∧ (∀ a ∈ al, a.n ≤ 4096) ∧ al.map Sn.v = zs ∧ Below w.heap.size w w' := by
  have hb : Below w.heap.size w (w.alloc (.cells (zs.map fun z => Value.int .i64 z).toArray 2)) := (Below.refl _ _).alloc (Nat.le_refl _) _
  refine (ints_ok zs _ n n _ hl (by omega) (fun _ => ⟨w.heap.size, 0, rfl, by simp, fun j u hj => by rw [Nat.zero_add]; exact (Bk.new w _ _ j u hj).1⟩) hz).mono ?_
  rintro e w' ⟨A, c, al, rfl, h1, h2, h3, h4⟩
  refine ⟨A, c, al, by rw [hl], by rw [hl] at h1; exact h1, fun a ha => ?_, h3, hb.trans (h4.mono hb.size)⟩
  have hz2 := h2 a ha
  have hv : a.v ∈ zs := by rw [← h3]; exact List.mem_map_of_mem ha
  exact (show a.n ≤ Most from sn_len (W := w') ⟨(h2.sl a ha), hz2.2.1⟩ (by have := hz _ hv; exact small_big (by omega)))
theorem five_vals {al : List Sn} {x y z : Int} (h : al.map Sn.v = [x, y, z]) : valZ al = [x, y, z, 0, 0] := by rw [valZ_of h]; rfl
set_option maxHeartbeats 1000000 in
theorem Five_aw (w : World) (A : Option Addr) (c : Nat) (al : List Sn) (hz : Zl w A 3 c al) (hn : ∀ a ∈ al, a.n ≤ 4096) (hv : al.map Sn.v = [1, 2, 3]) (hT : TabF w) :
    Calls Tryz.prog 8 #[.slice A 3 c] w fun z w' => ∃ a b c d e : Sn, z = .returned (.tuple #[snV a b c d e, .int .i64 0]) ∧ ZsR w w' a b c d e [1, 6, 2, 17, 0] ∧ Below w.heap.size w w' := by
  have h5 : fiveS (valZ al) = [1, 6, 2, 17, 0] := by rw [five_vals hv]; rfl
  refine (FFive_ok al A 3 c w (by omega) hz hn hT (fun i s hi hs => ?_)).mono ?_
  · rw [h5] at hs
    have := List.mem_of_getElem? hs
    refine small_big ?_
    simp at this
    omega
  · rintro e w' h
    rw [h5] at h
    exact h
set_option maxHeartbeats 1000000 in
theorem Back_aw (w : World) (a b c d e : Sn) (ha : ∀ s ∈ [a, b, c, d, e], Sl w s.A s.n s.c s.xs ∧ s.n ≤ 4096) (hv : [a.v, b.v, c.v, d.v, e.v] = [1, 6, 2, 17, 0]) (hT : TabF w) :
    Calls Tryz.prog 9 #[snV a b c d e] w fun z w' => ∃ a b c d e : Sn, z = .returned (.tuple #[snV a b c d e, .int .i64 0]) ∧ ZsR w w' a b c d e [1, 2, 3, 0, 0] ∧ Below w.heap.size w w' := by
  have h5 : [a.v, b.v, c.v, d.v, e.v] = valS 1 2 3 0 0 := hv
  have key : ∀ Q : List Int, Q.length = 5 → (∀ i, i < 5 → QtI [a.v, b.v, c.v, d.v, e.v] Q i) → Q = [1, 2, 3, 0, 0] := fun Q hl hq => by
    rw [h5] at hq
    exact back_coef hl hq
  refine (FBack_ok a b c d e w ha hT (fun Q hl hq s hs => ?_)).mono ?_
  · rw [key Q hl hq] at hs
    refine small_big ?_
    simp at hs
    omega
  · rintro z w' ⟨⟨a2, b2, c2, d2, e2, Q, rfl, hq, hz⟩ | ⟨⟨i, u, h1, h2⟩, -⟩, hb⟩
    · have := key Q hz.1 hq
      subst this
      exact ⟨a2, b2, c2, d2, e2, rfl, hz, hb⟩
    · rw [h5] at h1
      exact absurd (back_dvd h1) h2
/-- what is kept up to the products -/
def Aw1 (w W : World) (A1 : Option Addr) (ls : List (Option Addr × Nat × Nat)) (b3 : Nat) (l3 : List Sn) : Prop := ls.length = 3 ∧ NsK W A1 ls (fun i => [5, 0, 1].getD i 0) ∧ TabF W ∧ Below w.heap.size w W ∧ FvK W b3 l3 [1, 6, 2, 17, 0]
theorem Aw1.below {w W W' : World} {A1 : Option Addr} {ls : List (Option Addr × Nat × Nat)} {b3 : Nat} {l3 : List Sn} (h : Aw1 w W A1 ls b3 l3) (hb : Below W.heap.size W W') : Aw1 w W' A1 ls b3 l3 :=
  ⟨h.1, h.2.1.below hb, h.2.2.1.below hb, h.2.2.2.1.trans (hb.mono h.2.2.2.1.size), h.2.2.2.2.below hb⟩
theorem sn_one {w w' : World} {a : Sn} {z : Int} (hz : Zn w w' [a]) (hv : a.v = z) (hs : z.natAbs < 1000000) : Sl w' a.A a.n a.c a.xs ∧ a.n ≤ 4096 ∧ a.v = z := by
  have h := hz a (by simp)
  have h1 := hz.sl a (by simp)
  exact ⟨h1, (show _ ≤ Most from sn_len (W := w') ⟨h1, h.2.1⟩ (by rw [hv]; exact small_big (by omega))), hv⟩
def SnK (W : World) (a : Sn) (z : Int) : Prop := Sl W a.A a.n a.c a.xs ∧ a.n ≤ 4096 ∧ a.v = z
theorem SnK.below {W W' : World} {a : Sn} {z : Int} (h : SnK W a z) (hb : Below W.heap.size W W') : SnK W' a z := ⟨h.1.below hb, h.2⟩
/-- what is kept up to the comparisons -/
def Aw2 (w W : World) (A1 : Option Addr) (ls : List (Option Addr × Nat × Nat)) (b3 : Nat) (l3 : List Sn) (b5 : Nat) (l5 : List Sn) : Prop := Aw1 w W A1 ls b3 l3 ∧ FvK W b5 l5 [1, 2, 3, 0, 0]
theorem Aw2.below {w W W' : World} {A1 : Option Addr} {ls : List (Option Addr × Nat × Nat)} {b3 b5 : Nat} {l3 l5 : List Sn} (h : Aw2 w W A1 ls b3 l3 b5 l5) (hb : Below W.heap.size W W') : Aw2 w W' A1 ls b3 l3 b5 l5 := ⟨h.1.below hb, h.2.below hb⟩
theorem Products_aw (w : World) : Calls Tryz.prog 55 #[.int .i64 256] w fun e w' => e = .returned (.tuple #[.int .i64 16, .int .i64 9, .int .i64 20, .int .i64 0]) ∧ w = w' :=
  Products_ok 256 4 w (by decide) (by decide) rfl (by decide)
set_option maxHeartbeats 1000000 in
theorem nats_aw (w : World) (A1 : Option Addr) (c1 : Nat) (ls : List (Option Addr × Nat × Nat)) (hl : ls.length = 3) (hk : NsK w A1 ls (fun i => [5, 0, 1].getD i 0)) :
    Calls Tryz.prog 56 #[.slice A1 3 c1, .slice (some ⟨w.heap.size + 2, 0, none⟩) 3 3] (World.drew (((w.alloc (.cells #[.int .u64 5] 44)).alloc (.cells #[.int .u64 1] 44)).alloc (.cells #[.slice (some ⟨w.heap.size, 0, none⟩) 1 1, .slice none 0 0, .slice (some ⟨w.heap.size + 1, 0, none⟩) 1 1] 23))) fun e w' => e = .returned (.bool true) ∧ Below w.heap.size w w' := by
  obtain ⟨X1, hX1⟩ : ∃ X1, w.alloc (.cells #[.int .u64 5] 44) = X1 := ⟨_, rfl⟩
  have hb1 : Below w.heap.size w X1 := by rw [← hX1]; exact (Below.refl _ _).alloc (Nat.le_refl _) _
  have hs1 : X1.heap.size = w.heap.size + 1 := by rw [← hX1]; simp
  have k1 : Sl X1 (some ⟨w.heap.size, 0, none⟩) 1 1 [5] := by rw [← hX1]; exact row_words w [5] _ (by intro x hx; simp at hx; subst hx; decide) (by simp)
  rw [hX1]
  obtain ⟨X2, hX2⟩ : ∃ X2, X1.alloc (.cells #[.int .u64 1] 44) = X2 := ⟨_, rfl⟩
  have hb2 : Below X1.heap.size X1 X2 := by rw [← hX2]; exact (Below.refl _ _).alloc (Nat.le_refl _) _
  have hs2 : X2.heap.size = w.heap.size + 2 := by rw [← hX2]; simp [hs1]
  have k2 : Sl X2 (some ⟨w.heap.size + 1, 0, none⟩) 1 1 [1] := by rw [← hX2, ← hs1]; exact row_words X1 [1] _ (by intro x hx; simp at hx; subst hx; decide) (by simp)
  rw [hX2]
  obtain ⟨X3, hX3⟩ : ∃ X3, World.drew (X2.alloc (.cells #[.slice (some ⟨w.heap.size, 0, none⟩) 1 1, .slice none 0 0, .slice (some ⟨w.heap.size + 1, 0, none⟩) 1 1] 23)) = X3 := ⟨_, rfl⟩
  have hb3 : Below X2.heap.size X2 X3 := by rw [← hX3]; exact below_dr ((Below.refl _ _).alloc (Nat.le_refl _) _)
  have k3 : Bk X3 (w.heap.size + 2) [.slice (some ⟨w.heap.size, 0, none⟩) 1 1, .slice none 0 0, .slice (some ⟨w.heap.size + 1, 0, none⟩) 1 1] := by rw [← hX3, ← hs2]; exact (Bk.new X2 _ _).drew
  have hs3 : X3.heap.size = w.heap.size + 3 := by rw [← hX3]; simp [World.drew, hs2]
  rw [hX3]
  have hb13 : Below X1.heap.size X1 X3 := hb2.trans (hb3.mono hb2.size)
  have hbw : Below w.heap.size w X3 := hb1.trans (hb13.mono hb1.size)
  have hk' := hk.below hbw
  refine (nats_ok ls [(some ⟨w.heap.size, 0, none⟩, 1, 1), (none, 0, 0), (some ⟨w.heap.size + 1, 0, none⟩, 1, 1)] A1 _ 3 c1 3 X3 hl (by omega) hk'.1 (fun _ => ⟨w.heap.size + 2, 0, rfl, by omega, fun j u hj => by rw [Nat.zero_add]; exact (k3 j u hj).1⟩) ⟨hl, fun i s s' h1 h2 => ?_⟩).mono ?_
  · obtain ⟨zs, e1, e2, e3⟩ := hk'.2 i s h1
    have hi3 : i < 3 := by rw [← hl]; exact (List.getElem?_eq_some_iff.1 h1).1
    have hn : s.2.1 ≤ 4096 := by
      have := (Cn_len e1.2.2.2.1 e2 1).2 (by
        rw [e3, Nat.pow_one]
        rcases (show i = 0 ∨ i = 1 ∨ i = 2 by omega) with rfl | rfl | rfl <;> decide)
      rw [e1.1] at this
      omega
    rcases (show i = 0 ∨ i = 1 ∨ i = 2 by omega) with rfl | rfl | rfl
    · simp at h2
      subst h2
      exact ⟨zs, [5], e1, e2, hn, k1.below hb13, by simp, e3⟩
    · simp at h2
      subst h2
      exact ⟨zs, [], e1, e2, hn, (Sc.nil X3).1, by decide, e3⟩
    · simp at h2
      subst h2
      exact ⟨zs, [1], e1, e2, hn, k2.below hb3, by simp, e3⟩
  · rintro e w' ⟨rfl, hb⟩
    exact ⟨rfl, hbw.trans (hb.mono hbw.size)⟩
set_option maxHeartbeats 1000000 in
theorem nats_bw (w : World) (A1 : Option Addr) (c1 : Nat) (ls : List (Option Addr × Nat × Nat)) (hl : ls.length = 3) (hk : NsK w A1 ls (fun i => [5, 0, 1].getD i 0)) :
    Calls Tryz.prog 56 #[.slice A1 3 c1, .slice (some ⟨w.heap.size + 2, 0, none⟩) 3 3] (World.drew (((w.alloc (.cells #[.int .u64 1] 44)).alloc (.cells #[.int .u64 5] 44)).alloc (.cells #[.slice (some ⟨w.heap.size + 1, 0, none⟩) 1 1, .slice none 0 0, .slice (some ⟨w.heap.size, 0, none⟩) 1 1] 23))) fun e w' => e = .returned (.bool true) ∧ Below w.heap.size w w' := by
  obtain ⟨X1, hX1⟩ : ∃ X1, w.alloc (.cells #[.int .u64 1] 44) = X1 := ⟨_, rfl⟩
  have hb1 : Below w.heap.size w X1 := by rw [← hX1]; exact (Below.refl _ _).alloc (Nat.le_refl _) _
  have hs1 : X1.heap.size = w.heap.size + 1 := by rw [← hX1]; simp
  have k1 : Sl X1 (some ⟨w.heap.size, 0, none⟩) 1 1 [1] := by rw [← hX1]; exact row_words w [1] _ (by intro x hx; simp at hx; subst hx; decide) (by simp)
  rw [hX1]
  obtain ⟨X2, hX2⟩ : ∃ X2, X1.alloc (.cells #[.int .u64 5] 44) = X2 := ⟨_, rfl⟩
  have hb2 : Below X1.heap.size X1 X2 := by rw [← hX2]; exact (Below.refl _ _).alloc (Nat.le_refl _) _
  have hs2 : X2.heap.size = w.heap.size + 2 := by rw [← hX2]; simp [hs1]
  have k2 : Sl X2 (some ⟨w.heap.size + 1, 0, none⟩) 1 1 [5] := by rw [← hX2, ← hs1]; exact row_words X1 [5] _ (by intro x hx; simp at hx; subst hx; decide) (by simp)
  rw [hX2]
  obtain ⟨X3, hX3⟩ : ∃ X3, World.drew (X2.alloc (.cells #[.slice (some ⟨w.heap.size + 1, 0, none⟩) 1 1, .slice none 0 0, .slice (some ⟨w.heap.size, 0, none⟩) 1 1] 23)) = X3 := ⟨_, rfl⟩
  have hb3 : Below X2.heap.size X2 X3 := by rw [← hX3]; exact below_dr ((Below.refl _ _).alloc (Nat.le_refl _) _)
  have k3 : Bk X3 (w.heap.size + 2) [.slice (some ⟨w.heap.size + 1, 0, none⟩) 1 1, .slice none 0 0, .slice (some ⟨w.heap.size, 0, none⟩) 1 1] := by rw [← hX3, ← hs2]; exact (Bk.new X2 _ _).drew
  have hs3 : X3.heap.size = w.heap.size + 3 := by rw [← hX3]; simp [World.drew, hs2]
  rw [hX3]
  have hb13 : Below X1.heap.size X1 X3 := hb2.trans (hb3.mono hb2.size)
  have hbw : Below w.heap.size w X3 := hb1.trans (hb13.mono hb1.size)
  have hk' := hk.below hbw
  refine (nats_ok ls [(some ⟨w.heap.size + 1, 0, none⟩, 1, 1), (none, 0, 0), (some ⟨w.heap.size, 0, none⟩, 1, 1)] A1 _ 3 c1 3 X3 hl (by omega) hk'.1 (fun _ => ⟨w.heap.size + 2, 0, rfl, by omega, fun j u hj => by rw [Nat.zero_add]; exact (k3 j u hj).1⟩) ⟨hl, fun i s s' h1 h2 => ?_⟩).mono ?_
  · obtain ⟨zs, e1, e2, e3⟩ := hk'.2 i s h1
    have hi3 : i < 3 := by rw [← hl]; exact (List.getElem?_eq_some_iff.1 h1).1
    have hn : s.2.1 ≤ 4096 := by
      have := (Cn_len e1.2.2.2.1 e2 1).2 (by
        rw [e3, Nat.pow_one]
        rcases (show i = 0 ∨ i = 1 ∨ i = 2 by omega) with rfl | rfl | rfl <;> decide)
      rw [e1.1] at this
      omega
    rcases (show i = 0 ∨ i = 1 ∨ i = 2 by omega) with rfl | rfl | rfl
    · simp at h2
      subst h2
      exact ⟨zs, [5], e1, e2, hn, k2.below hb3, by simp, e3⟩
    · simp at h2
      subst h2
      exact ⟨zs, [], e1, e2, hn, (Sc.nil X3).1, by decide, e3⟩
    · simp at h2
      subst h2
      exact ⟨zs, [1], e1, e2, hn, k1.below hb13, by simp, e3⟩
  · rintro e w' ⟨rfl, hb⟩
    exact ⟨rfl, hbw.trans (hb.mono hbw.size)⟩
theorem same_aw (w : World) (b : Nat) (l : List Sn) (S : List Int) (A : Option Addr) (c : Nat) (al : List Sn) (hk : FvK w b l S) (hz : Zl w A 5 c al) (hn : ∀ a ∈ al, a.n ≤ 4096) (hv : al.map Sn.v = S) :
    Calls Tryz.prog 57 #[.slice (some ⟨b, 0, none⟩) 5 5, .slice A 5 c] w fun e w' => e = .returned (.bool true) ∧ Below w.heap.size w w' :=
  same_ok l al _ A 5 5 c w (by omega) hk.1 hz ⟨hk.2.1, fun a ha => ⟨hz.2.2.2.2 a ha, hn a ha⟩, hk.2.2.trans hv.symm⟩
set_option maxHeartbeats 4000000 in
theorem fawake_any (w : World) (hT : TabF w) : Calls Tryz.prog 19 #[] w fun e w' => e = .returned (.bool true) ∧ Below w.heap.size w w' := by
  have HT := Lib.hid hT
  clear hT
  go_enter Tryz.func19, Tryz.ntmps19
  go_wp2_with (fail)
  refine (Split_aw _).mono ?_
  rintro e w1 ⟨A1, c1, ls, hl, rfl, hk, hb⟩
  have H1 := Lib.hid (And.intro hl (And.intro hk (And.intro (HT.out.below hb) hb)))
  clear hl hk hb
  go_wp2_with (fail)
  refine (ints_aw w1 [1, 2, 3] 3 rfl (by omega) (by decide)).mono ?_
  rintro e w2 ⟨A2, c2, al, rfl, hz, hn, hv, hb⟩
  have H2 := Lib.hid (And.intro H1.out.1 (And.intro (H1.out.2.1.below hb) (And.intro (H1.out.2.2.1.below hb) (H1.out.2.2.2.trans (hb.mono H1.out.2.2.2.size)))))
  have HI := Lib.hid (And.intro hz (And.intro hn hv))
  clear hz hn hv hb H1
  go_wp2_with (fail)
  refine (Five_aw w2 A2 c2 al HI.out.1 HI.out.2.1 HI.out.2.2 H2.out.2.2.1).mono ?_
  rintro z w3 ⟨a3, b3, c3, d3, e3, rfl, hz, hb⟩
  have hbA : Below w3.heap.size w3 (w3.alloc (.cells (snL a3 b3 c3 d3 e3).toArray 36)) := (Below.refl _ _).alloc (Nat.le_refl _) _
  have hbb := hb.trans (hbA.mono hb.size)
  have H4 : Hid (Aw1 w (w3.alloc (.cells (snL a3 b3 c3 d3 e3).toArray 36)) A1 ls w3.heap.size [a3, b3, c3, d3, e3]) :=
    ⟨H2.out.1, H2.out.2.1.below hbb, H2.out.2.2.1.below hbb, H2.out.2.2.2.trans (hbb.mono H2.out.2.2.2.size), FvK.of (hz.later (Nat.le_refl _) hbA) (Bk.new w3 _ _) (by simp) (by intro s hs; refine small_big ?_; simp at hs; omega)⟩
  clear hz hb hbA hbb H2 HI
  go_wp2_with (fail)
  obtain ⟨W3, hW3⟩ : ∃ W3, w3.alloc (.cells (snL a3 b3 c3 d3 e3).toArray 36) = W3 := ⟨_, rfl⟩
  rw [hW3] at H4 ⊢
  clear hW3
  refine (RFrom_ok 1 _ (by decide) (by decide)).mono ?_
  rintro e w4 hR
  obtain ⟨a5, rfl, hv, hzn, hb⟩ := hR.sn
  have H5 := Lib.hid (And.intro (H4.out.below hb) (And.intro (show SnK w4 a5 1 from sn_one hzn hv (by decide)) True.intro))
  clear hR hv hzn hb H4
  go_wp2_with (fail)
  refine (RFrom_ok 6 _ (by decide) (by decide)).mono ?_
  rintro e w5 hR
  obtain ⟨b5, rfl, hv, hzn, hb⟩ := hR.sn
  have H6 := Lib.hid (And.intro (H5.out.1.below hb) (And.intro (show SnK w5 b5 6 from sn_one hzn hv (by decide)) (And.intro (H5.out.2.1.below hb) True.intro)))
  clear hR hv hzn hb H5
  go_wp2_with (fail)
  refine (RFrom_ok 2 _ (by decide) (by decide)).mono ?_
  rintro e w6 hR
  obtain ⟨c5, rfl, hv, hzn, hb⟩ := hR.sn
  have H7 := Lib.hid (And.intro (H6.out.1.below hb) (And.intro (show SnK w6 c5 2 from sn_one hzn hv (by decide)) (And.intro (H6.out.2.1.below hb) (And.intro (H6.out.2.2.1.below hb) True.intro))))
  clear hR hv hzn hb H6
  go_wp2_with (fail)
  refine (RFrom_ok 17 _ (by decide) (by decide)).mono ?_
  rintro e w7 hR
  obtain ⟨d5, rfl, hv, hzn, hb⟩ := hR.sn
  have H8 := Lib.hid (And.intro (H7.out.1.below hb) (And.intro (show SnK w7 d5 17 from sn_one hzn hv (by decide)) (And.intro (H7.out.2.1.below hb) (And.intro (H7.out.2.2.1.below hb) (And.intro (H7.out.2.2.2.1.below hb) True.intro)))))
  clear hR hv hzn hb H7
  go_wp2_with (fail)
  refine (RFrom_ok 0 _ (by decide) (by decide)).mono ?_
  rintro e w8 hR
  obtain ⟨e5, rfl, hv, hzn, hb⟩ := hR.sn
  have H9 := Lib.hid (And.intro (H8.out.1.below hb) (And.intro (show SnK w8 e5 0 from sn_one hzn hv (by decide)) (And.intro (H8.out.2.1.below hb) (And.intro (H8.out.2.2.1.below hb) (And.intro (H8.out.2.2.2.1.below hb) (And.intro (H8.out.2.2.2.2.1.below hb) True.intro))))))
  clear hR hv hzn hb H8
  go_wp2_with (fail)
  refine (Back_aw w8 a5 b5 c5 d5 e5 (by
    intro s hs
    have h := H9.out.2
    simp only [List.mem_cons, List.not_mem_nil, or_false] at hs
    rcases hs with rfl | rfl | rfl | rfl | rfl
    · exact ⟨h.2.2.2.2.1.1, h.2.2.2.2.1.2.1⟩
    · exact ⟨h.2.2.2.1.1, h.2.2.2.1.2.1⟩
    · exact ⟨h.2.2.1.1, h.2.2.1.2.1⟩
    · exact ⟨h.2.1.1, h.2.1.2.1⟩
    · exact ⟨h.1.1, h.1.2.1⟩) (by rw [H9.out.2.1.2.2, H9.out.2.2.1.2.2, H9.out.2.2.2.1.2.2, H9.out.2.2.2.2.1.2.2, H9.out.2.2.2.2.2.1.2.2]) H9.out.1.2.2.1).mono ?_
  rintro z w9 ⟨a6, b6, c6, d6, e6, rfl, hz, hb⟩
  have hbA : Below w9.heap.size w9 (w9.alloc (.cells (snL a6 b6 c6 d6 e6).toArray 36)) := (Below.refl _ _).alloc (Nat.le_refl _) _
  have hbb := hb.trans (hbA.mono hb.size)
  have H10 : Hid (Aw2 w (w9.alloc (.cells (snL a6 b6 c6 d6 e6).toArray 36)) A1 ls w3.heap.size [a3, b3, c3, d3, e3] w9.heap.size [a6, b6, c6, d6, e6]) :=
    ⟨H9.out.1.below hbb, FvK.of (hz.later (Nat.le_refl _) hbA) (Bk.new w9 _ _) (by simp) (by intro s hs; refine small_big ?_; simp at hs; omega)⟩
  clear hz hb hbA hbb H9
  go_wp2_with (fail)
  obtain ⟨W9, hW9⟩ : ∃ W9, w9.alloc (.cells (snL a6 b6 c6 d6 e6).toArray 36) = W9 := ⟨_, rfl⟩
  rw [hW9] at H10 ⊢
  clear hW9
  refine (Products_aw W9).mono ?_
  rintro e w10 ⟨rfl, rfl⟩
  go_wp2_with (fail)
  obtain ⟨X, hX⟩ : ∃ X, W9.alloc (.cells #[.int .u64 1, .int .u64 2, .int .u64 3, .int .u64 4, .int .u64 5] 44) = X := ⟨_, rfl⟩
  have hbX : Below W9.heap.size W9 X := by rw [← hX]; exact (Below.refl _ _).alloc (Nat.le_refl _) _
  have hsl : Sl X (some ⟨W9.heap.size, 0, none⟩) 5 5 [1, 2, 3, 4, 5] := by rw [← hX]; exact row_words W9 [1, 2, 3, 4, 5] _ (by intro x hx; simp at hx; rcases hx with rfl | rfl | rfl | rfl | rfl <;> decide) (by simp)
  have H11 := Lib.hid (And.intro (H10.out.below hbX) hsl)
  rw [hX]
  clear hX hbX hsl H10
  have hBig : V [1, 2, 3, 4, 5] * V [1, 2, 3, 4, 5] < Big := Big_of (k := 10) (by decide) (by omega)
  have HB := Lib.hid hBig
  clear hBig
  obtain ⟨P, hP⟩ : ∃ P, V [1, 2, 3, 4, 5] * V [1, 2, 3, 4, 5] = P := ⟨_, rfl⟩
  have HP := Lib.hid hP
  rw [hP] at HB
  clear hP
  refine (Karatsuba_ok 3 (by omega) (by omega) _ _ 5 5 5 5 _ _ X (by omega) (by omega) H11.out.2 H11.out.2 H11.out.1.1.2.2.1).mono ?_
  rintro e w11 hR
  rw [HP.out] at hR
  obtain ⟨A7, n7, c7, z7, rfl, h7⟩ := hR.open HB.out
  have H12 := Lib.hid (And.intro (H11.out.1.below h7.bel) (And.intro (H11.out.2.below h7.bel) h7))
  clear hR h7 H11
  go_wp2_with (fail)
  refine (Toom_ok 3 (by omega) (by omega) _ _ 5 5 5 5 _ _ w11 (by omega) (by omega) H12.out.2.1 H12.out.2.1 H12.out.1.1.2.2.1).mono ?_
  rintro e w12 hR
  rw [HP.out] at hR
  obtain ⟨A8, n8, c8, z8, rfl, h8⟩ := hR.open HB.out
  have H13 := Lib.hid (And.intro (H12.out.1.below h8.bel) (And.intro (H12.out.2.1.below h8.bel) (And.intro (H12.out.2.2.keep h8.bel) h8)))
  clear hR h8 H12
  go_wp2_with (fail)
  dsimp only [List.append]
  go_region_held3 (fun _ => True) (trivial)
    (first
      | (go_at_call 56; (first | ((with_reducible show Calls _ _ _ (World.drew (World.alloc (World.alloc (World.alloc _ (.cells #[.int .u64 5] _)) _) _)) _); refine (nats_aw w12 A1 c1 ls H13.out.1.1.1 H13.out.1.1.2.1).mono ?_) | ((with_reducible show Calls _ _ _ (World.drew (World.alloc (World.alloc (World.alloc _ (.cells #[.int .u64 1] _)) _) _)) _); refine (nats_bw w12 A1 c1 ls H13.out.1.1.1 H13.out.1.1.2.1).mono ?_)); rintro e w13 ⟨rfl, hb⟩; have hb2 := hb; have H14 := Lib.hid (And.intro (H13.out.1.below hb2) (And.intro (H13.out.2.1.below hb2) (And.intro (H13.out.2.2.1.keep hb2) (H13.out.2.2.2.keep hb2)))); clear hb hb2)
      | (go_at_call 53; (with_reducible show Calls _ _ _ (World.alloc w13 _) _); refine (ints_aw w13 [1, 6, 2, 17, 0] 5 rfl (by omega) (by decide)).mono ?_; rintro e w14 ⟨A9, c9, al9, rfl, hz, hn, hv, hb⟩; have H15 := Lib.hid (And.intro (H14.out.1.below hb) (And.intro (H14.out.2.1.below hb) (And.intro (H14.out.2.2.1.keep hb) (H14.out.2.2.2.keep hb)))); have HI := Lib.hid (And.intro hz (And.intro hn hv)); clear hz hn hv hb)
      | (go_at_call 57; (with_reducible show Calls _ _ _ w14 _); refine (same_aw w14 _ _ _ A9 c9 al9 H15.out.1.1.2.2.2.2 HI.out.1 HI.out.2.1 HI.out.2.2).mono ?_; rintro e w15 ⟨rfl, hb⟩; have H16 := Lib.hid (And.intro (H15.out.1.below hb) (And.intro (H15.out.2.1.below hb) (And.intro (H15.out.2.2.1.keep hb) (H15.out.2.2.2.keep hb)))); clear hb)
      | (go_at_call 53; (with_reducible show Calls _ _ _ (World.alloc w15 _) _); refine (ints_aw w15 [1, 2, 3, 0, 0] 5 rfl (by omega) (by decide)).mono ?_; rintro e w16 ⟨A10, c10, al10, rfl, hz, hn, hv, hb⟩; have H17 := Lib.hid (And.intro (H16.out.1.below hb) (And.intro (H16.out.2.1.below hb) (And.intro (H16.out.2.2.1.keep hb) (H16.out.2.2.2.keep hb)))); have HI2 := Lib.hid (And.intro hz (And.intro hn hv)); clear hz hn hv hb)
      | (go_at_call 57; (with_reducible show Calls _ _ _ w16 _); refine (same_aw w16 _ _ _ A10 c10 al10 H17.out.1.2 HI2.out.1 HI2.out.2.1 HI2.out.2.2).mono ?_; rintro e w17 ⟨rfl, hb⟩; have H18 := Lib.hid (And.intro (H17.out.1.below hb) (And.intro (H17.out.2.1.below hb) (And.intro (H17.out.2.2.1.keep hb) (H17.out.2.2.2.keep hb)))); clear hb)
      | (go_at_call 58; refine (RNMul_ok _ _ 5 5 5 5 _ _ w17 (by omega) (by omega) H18.out.2.1 H18.out.2.1).mono ?_; rintro e w18 hR; rw [HP.out] at hR; refine use_ (hR.open HB.out) ?_; rintro ⟨A11, n11, c11, z11, rfl, h11⟩; have H19 := Lib.hid (And.intro (H18.out.1.below h11.bel) (And.intro (H18.out.2.2.1.keep h11.bel) (And.intro (H18.out.2.2.2.keep h11.bel) h11))); clear hR h11)
      | (go_at_call 18; (with_reducible show Calls _ _ _ w18 _); refine (Is_ok A7 A11 n7 n11 c7 c11 z7 z11 w18 H19.out.2.1.2.2.2.1 H19.out.2.2.2.2.2.2.1 H19.out.2.1.1 H19.out.2.2.2.1 H19.out.2.1.2.1 (by rw [H19.out.2.1.2.2.1, H19.out.2.2.2.2.2.1])).mono ?_; rintro e w19 ⟨rfl, hb⟩; have H20 := Lib.hid (And.intro (H19.out.1.below hb) (And.intro (H19.out.2.1.keep hb) (H19.out.2.2.1.keep hb))); clear hb)
      | (go_at_call 18; (with_reducible show Calls _ _ _ w19 _); refine (Is_ok A8 A7 n8 n7 c8 c7 z8 z7 w19 H20.out.2.2.2.2.2.1 H20.out.2.1.2.2.2.1 H20.out.2.2.1 H20.out.2.1.1 H20.out.2.2.2.1 (by rw [H20.out.2.2.2.2.1, H20.out.2.1.2.2.1])).mono ?_; rintro e w20 ⟨rfl, hb⟩; have H21 := Lib.hid (H20.out.1.1.2.2.2.1.trans (hb.mono H20.out.1.1.2.2.2.1.size)); clear hb))
  all_goals
    go_wp2_with (fail)
    go_ret
    exact ⟨rfl, H21.out⟩
end Go.Proofs.YthpgdpkemnhneaaGreatDoor
