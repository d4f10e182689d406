/- The contracts of fast.Five and fast.Back, where their numbers are short. -/
import Derived.Test.YthpgdpkemnhneaaGreatDoorZFOuts
import Derived.Test.YthpgdpkemnhneaaGreatDoorP10
import Derived.Test.YthpgdpkemnhneaaGreatDoorZFBack
namespace Go.Proofs.YthpgdpkemnhneaaGreatDoor
open Go.RowKit Go.Shelf
set_option linter.unusedVariables false
set_option linter.unusedSimpArgs false
set_option maxRecDepth 10000

theorem chkZ_ok {al : List Sn} (h : ∀ a ∈ al, a.n ≤ 4096) : chkZ al = 0 := by
  rw [chkZ, if_neg]
  rw [List.any_eq_true]
  rintro ⟨a, ha, hb⟩
  have := h a ha
  have h2 : 4096 < a.n := by simpa using hb
  omega
/-- five canonical integers that are new -/
def ZsR (w w' : World) (a b c d e : Sn) (S : List Int) : Prop := S.length = 5 ∧ (∀ (i : Nat) (r : Sn) (s : Int), [a, b, c, d, e][i]? = some r → S[i]? = some s → Sg w w' r.s r.A r.n r.c r.xs s)
theorem ZsR.later {w w0 w1 w2 : World} {a b c d e : Sn} {S : List Int} (h : ZsR w w1 a b c d e S) (h0 : w0.heap.size ≤ w.heap.size) (hb : Below w1.heap.size w1 w2) : ZsR w0 w2 a b c d e S :=
  ⟨h.1, fun i r s h1 h2 => (h.2 i r s h1 h2).later h0 hb⟩
set_option maxHeartbeats 4000000 in
theorem FFive_ok (al : List Sn) (A : Option Addr) (m c : Nat) (w : World) (hm : m ≤ 5) (hx : Zl w A m c al) (hn : ∀ a ∈ al, a.n ≤ 4096) (hT : TabF w) (hB : ∀ (i : Nat) (s : Int), i < 5 → (fiveS (valZ al))[i]? = some s → s.natAbs < Big) :
    Calls Tryz.prog 8 #[.slice A m c] w fun z w' => ∃ a b c d e : Sn, z = .returned (.tuple #[snV a b c d e, .int .i64 0]) ∧ ZsR w w' a b c d e (fiveS (valZ al)) ∧ Below w.heap.size w w' := by
  have Hx := Lib.hid (And.intro hx (And.intro hn (And.intro hT hB)))
  have HC := Lib.hid (chkZ_ok hn)
  have hmi : ¬ (5 : Int) < (m : Int) := by omega
  clear hx hn hT hB
  go_enter Tryz.func8, Tryz.ntmps8
  go_wp2_with (fail)
  have hb0 : Below w.heap.size w (w.alloc (.cells zero10.toArray 36)) := (Below.refl _ _).alloc (Nat.le_refl _) _
  refine (checkInts_ok al A m c _ (by omega) (Hx.out.1.below hb0)).mono ?_
  rintro e w1 ⟨rfl, hb1⟩
  rw [HC.out]
  have hb01 := hb0.trans (hb1.mono hb0.size)
  have hz1 : Bk w1 w.heap.size zero10 := (Bk.new w zero10 36).below hb1 (by simp)
  have H1 := Lib.hid (And.intro hb01 hz1)
  have hs1 : w.heap.size < w1.heap.size := by have := hb1.size; simp at this; omega
  clear hb0 hb1 hb01 hz1
  go_wp2_with (fail)
  refine (fromInts_ok al A m c w1 hm (Hx.out.1.below H1.out.1) Hx.out.2.1).mono ?_
  rintro z w2 ⟨a, b, c', d, e, rfl, hok, hv, hb2⟩
  have H2 := Lib.hid (And.intro (fun (s : Sn) (hs : s ∈ [a, b, c', d, e]) => (show s.ok w2 from ⟨((hok s hs).1.below hb2).1, by have := (hok s hs).2; omega⟩)) (And.intro hv (And.intro (H1.out.1.trans (hb2.mono H1.out.1.size)) (H1.out.2.below hb2 hs1))))
  have hs2 : w.heap.size < w2.heap.size := Nat.lt_of_lt_of_le hs1 hb2.size
  clear hok hv hb2 H1
  go_wp2_with (fail)
  refine (five_ok a b c' d e w2 (H2.out.1 a (by simp)) (H2.out.1 b (by simp)) (H2.out.1 c' (by simp)) (H2.out.1 d (by simp)) (H2.out.1 e (by simp)) (Hx.out.2.2.1.below H2.out.2.2.1)).mono ?_
  rintro z w3 ⟨a3, b3, c3, d3, e3, rfl, hl, hg, hb3⟩
  rw [H2.out.2.1] at hl hg
  have H3 := Lib.hid (And.intro hl (And.intro hg (And.intro (H2.out.2.2.1.trans (hb3.mono H2.out.2.2.1.size)) (H2.out.2.2.2.below hb3 hs2))))
  have hs3 : w.heap.size < w3.heap.size := Nat.lt_of_lt_of_le hs2 hb3.size
  have hs23 := hb3.size
  clear hl hg hb3
  go_wp2_with (fail)
  refine (toInts_ok w2 a3 b3 c3 d3 e3 _ w3 H3.out.1 H3.out.2.1).mono ?_
  rintro z w4 ⟨⟨rfl, hs⟩ | ⟨-, s, hs, hbg⟩, hb4⟩
  · have hZ := H3.out.2.2.2.below hb4 hs3
    have H4 := Lib.hid (And.intro hZ.there (And.intro (show ZsR w2 w4 a3 b3 c3 d3 e3 (fiveS (valZ al)) from ⟨H3.out.1, fun i r s h1 h2 => (H3.out.2.1 i r s h1 h2).later (Nat.le_refl _) hb4⟩) (H3.out.2.2.1.trans (hb4.mono H3.out.2.2.1.size))))
    clear hZ hs hb4 H2 H3
    go_wp2_with (first | (refine wpList_store_mid rfl 36 _ _ rfl w.heap.size 0 (snL a3 b3 c3 d3 e3).toArray rfl rfl H4.out.1 (by kernel_rfl) (by simp [Value.oneCell']) ?_))
    have hl := run_loadVar_mid (P := Tryz.prog) (w4.setCells w.heap.size 0 (snL a3 b3 c3 d3 e3)) w.heap.size 0 36 (snL a3 b3 c3 d3 e3) _ (World.rangeAt_setCells_same _ _ _ _ H4.out.1) Tryz.underlying36 rfl (by kernel_rfl)
    exact bodyPost_ret (v := .tuple #[snV a3 b3 c3 d3 e3, .int .i64 0]) (by simp [results, Tryz.results8, Act.put, asAddr, hl]) rfl ⟨a3, b3, c3, d3, e3, rfl, ⟨H4.out.2.1.1, fun i r s h1 h2 => ((H4.out.2.1.2 i r s h1 h2).setCells hs2 _ _).base (by omega)⟩, below_setCells H4.out.2.2 (Nat.le_refl _) _ _ H4.out.2.2.size⟩
  · obtain ⟨i, hi, e⟩ := List.getElem_of_mem hs
    have := Hx.out.2.2.2 i s (by have := H3.out.1; omega) (by rw [← e]; exact List.getElem?_eq_getElem hi)
    omega

/-- what Back answers -/
def BackZ (w w' : World) (z : Ending) (S : List Int) : Prop :=
  ((∃ (a b c d e : Sn) (Q : List Int), z = .returned (.tuple #[snV a b c d e, .int .i64 0]) ∧ (∀ i, i < 5 → QtI S Q i) ∧ ZsR w w' a b c d e Q) ∨
    ((∃ (i : Nat) (u : Int), (wtS S)[i]? = some u ∧ ¬ (dv i : Int) ∣ u) ∧ z = .returned (.tuple #[.agg zero10.toArray, .int .i64 4]))) ∧ Below w.heap.size w w'
theorem zl_new {W : World} {b : Nat} {a b' c d e : Sn} (hk : Bk W b (snL a b' c d e)) (hb : b < W.heap.size) (h : ∀ s ∈ [a, b', c, d, e], Sl W s.A s.n s.c s.xs) : Zl W (some ⟨b, 0, none⟩) 5 5 [a, b', c, d, e] :=
  ⟨rfl, Nat.le_refl _, by omega, fun _ => ⟨b, 0, rfl, hb, fun j u hj => by rw [Nat.zero_add]; exact (hk j u hj).1⟩, h⟩
set_option maxHeartbeats 4000000 in
theorem FBack_ok (a b c d e : Sn) (w : World) (ha : ∀ s ∈ [a, b, c, d, e], Sl w s.A s.n s.c s.xs ∧ s.n ≤ 4096) (hT : TabF w) (hB : ∀ (Q : List Int), Q.length = 5 → (∀ i, i < 5 → QtI [a.v, b.v, c.v, d.v, e.v] Q i) → ∀ s ∈ Q, s.natAbs < Big) :
    Calls Tryz.prog 9 #[snV a b c d e] w fun z w' => BackZ w w' z [a.v, b.v, c.v, d.v, e.v] := by
  have Hx := Lib.hid (And.intro ha (And.intro hT hB))
  have HC := Lib.hid (chkZ_ok (al := [a, b, c, d, e]) (fun s hs => (ha s hs).2))
  clear ha hT hB
  have hb0 : Below w.heap.size w ((w.alloc (.cells (snL a b c d e).toArray 36)).alloc (.cells zero10.toArray 36)) := ((Below.refl _ _).alloc (Nat.le_refl _) _).alloc (by simp) _
  have k0 := (Bk.new w (snL a b c d e) 36).below ((Below.refl _ _).alloc (Nat.le_refl _) (.cells zero10.toArray 36)) (by simp)
  have k1 := Bk.new (w.alloc (.cells (snL a b c d e).toArray 36)) zero10 36
  rw [World.size_alloc] at k1
  have HZ := Lib.hid (And.intro (zl_new k0 (by simp; omega) (fun s hs => (Hx.out.1 s hs).1.below hb0)) (And.intro hb0 (And.intro k0 k1)))
  clear hb0 k0 k1
  go_enter Tryz.func9, Tryz.ntmps9
  go_wp2_with (fail)
  refine (checkInts_ok [a, b, c, d, e] _ 5 5 _ (by omega) HZ.out.1).mono ?_
  rintro z w1 ⟨rfl, hb1⟩
  rw [HC.out]
  have hs1 : w.heap.size + 1 < w1.heap.size := by have := hb1.size; simp at this; omega
  have H1 := Lib.hid (And.intro (HZ.out.1.below hb1) (And.intro (HZ.out.2.1.trans (hb1.mono HZ.out.2.1.size)) (HZ.out.2.2.2.below hb1 (by simp))))
  clear hb1 HZ
  go_wp2_with (fail)
  refine (fromInts_ok [a, b, c, d, e] _ 5 5 w1 (by omega) H1.out.1 (fun s hs => (Hx.out.1 s hs).2)).mono ?_
  rintro z w2 ⟨a2, b2, c2, d2, e2, rfl, hok, hv, hb2⟩
  have H2 := Lib.hid (And.intro (fun (s : Sn) (hs : s ∈ [a2, b2, c2, d2, e2]) => (show s.ok w2 from ⟨((hok s hs).1.below hb2).1, by have := (hok s hs).2; omega⟩)) (And.intro (show [a2.v, b2.v, c2.v, d2.v, e2.v] = [a.v, b.v, c.v, d.v, e.v] from hv) (And.intro (H1.out.2.1.trans (hb2.mono H1.out.2.1.size)) (H1.out.2.2.below hb2 hs1))))
  have hs2 : w.heap.size + 1 < w2.heap.size := Nat.lt_of_lt_of_le hs1 hb2.size
  clear hok hv hb2 H1
  go_wp2_with (fail)
  refine (back_ok a2 b2 c2 d2 e2 w2 (H2.out.1 a2 (by simp)) (H2.out.1 b2 (by simp)) (H2.out.1 c2 (by simp)) (H2.out.1 d2 (by simp)) (H2.out.1 e2 (by simp)) (Hx.out.2.1.below H2.out.2.2.1)).mono ?_
  rintro z w3 ⟨hb3, hz⟩
  rw [H2.out.2.1] at hz
  have hs3 : w.heap.size + 1 < w3.heap.size := Nat.lt_of_lt_of_le hs2 hb3.size
  have hs23 := hb3.size
  have H3 := Lib.hid (And.intro (H2.out.2.2.1.trans (hb3.mono H2.out.2.2.1.size)) (H2.out.2.2.2.below hb3 hs2))
  clear hb3
  rcases hz with ⟨a3, b3, c3, d3, e3, Q, rfl, hl, hq, hg⟩ | ⟨hnd, rfl⟩
  · have HQ := Lib.hid (And.intro hl (And.intro hq hg))
    have HR3 := Lib.hid (Bk.new w3 (snL a3 b3 c3 d3 e3) 72).range
    clear hl hq hg
    go_wp2_with (first | (refine wpList_load_mid rfl 72 _ rfl w3.heap.size 0 rfl (snL a3 b3 c3 d3 e3) _ HR3.out Tryz.underlying72 rfl (by kernel_rfl) ?_))
    have hbA : Below w3.heap.size w3 (w3.alloc (.cells (snL a3 b3 c3 d3 e3).toArray 72)) := (Below.refl _ _).alloc (Nat.le_refl _) _
    refine (toInts_ok w2 a3 b3 c3 d3 e3 Q _ HQ.out.1 (fun i r s h1 h2 => (HQ.out.2.2 i r s h1 h2).later (Nat.le_refl _) hbA)).mono ?_
    rintro z w4 ⟨⟨rfl, hs⟩ | ⟨-, s, hs, hbg⟩, hb4⟩
    · have hbb := hbA.trans (hb4.mono hbA.size)
      have hZ := H3.out.2.below hbb hs3
      have H4 := Lib.hid (And.intro hZ.there (And.intro (show ZsR w2 w4 a3 b3 c3 d3 e3 Q from ⟨HQ.out.1, fun i r s h1 h2 => (HQ.out.2.2 i r s h1 h2).later (Nat.le_refl _) hbb⟩) (And.intro (H3.out.1.trans (hbb.mono H3.out.1.size)) HQ.out.2.1)))
      clear hZ hs hb4 hbb hbA H2 H3 HQ HR3
      go_wp2_with (first | (refine wpList_store_mid rfl 36 _ _ rfl (w.heap.size + 1) 0 (snL a3 b3 c3 d3 e3).toArray rfl rfl H4.out.1 (by kernel_rfl) (by simp [Value.oneCell']) ?_))
      have hl := run_loadVar_mid (P := Tryz.prog) (w4.setCells (w.heap.size + 1) 0 (snL a3 b3 c3 d3 e3)) (w.heap.size + 1) 0 36 (snL a3 b3 c3 d3 e3) _ (World.rangeAt_setCells_same _ _ _ _ H4.out.1) Tryz.underlying36 rfl (by kernel_rfl)
      exact bodyPost_ret (v := .tuple #[snV a3 b3 c3 d3 e3, .int .i64 0]) (by simp [results, Tryz.results9, Act.put, asAddr, hl]) rfl ⟨.inl ⟨a3, b3, c3, d3, e3, Q, rfl, H4.out.2.2.2, H4.out.2.1.1, fun i r s h1 h2 => ((H4.out.2.1.2 i r s h1 h2).setCells hs2 _ _).base (by omega)⟩, below_setCells H4.out.2.2.1 (by omega) _ _ H4.out.2.2.1.size⟩
    · have := Hx.out.2.2 Q HQ.out.1 HQ.out.2.1 s hs
      omega
  · have hbA : Below w3.heap.size w3 (w3.alloc (.cells zero10.toArray 72)) := (Below.refl _ _).alloc (Nat.le_refl _) _
    have HN := Lib.hid (And.intro hnd (And.intro (H3.out.2.below hbA hs3).there (H3.out.1.trans (hbA.mono H3.out.1.size))))
    clear hnd hbA H2 H3
    unfold zero10
    go_wp2_with (first | (refine wpList_store_mid rfl 36 _ _ rfl (w.heap.size + 1) 0 zero10.toArray rfl rfl HN.out.2.1 (by kernel_rfl) (by simp [zero10, Value.oneCell']) ?_))
    have hl := run_loadVar_mid (P := Tryz.prog) ((w3.alloc (.cells #[.bool false, .slice none 0 0, .bool false, .slice none 0 0, .bool false, .slice none 0 0, .bool false, .slice none 0 0, .bool false, .slice none 0 0] 72)).setCells (w.heap.size + 1) 0 zero10) (w.heap.size + 1) 0 36 zero10 _ (World.rangeAt_setCells_same _ _ _ _ HN.out.2.1) Tryz.underlying36 rfl (by kernel_rfl)
    exact bodyPost_ret (v := .tuple #[.agg zero10.toArray, .int .i64 4]) (by simp [results, Tryz.results9, Act.put, asAddr, hl]) rfl ⟨.inr ⟨HN.out.1, rfl⟩, below_setCells HN.out.2.2 (by omega) _ _ HN.out.2.2.size⟩
end Go.Proofs.YthpgdpkemnhneaaGreatDoor
