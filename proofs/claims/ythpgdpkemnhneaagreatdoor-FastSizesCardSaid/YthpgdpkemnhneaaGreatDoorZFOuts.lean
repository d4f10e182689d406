/- The contract of fast.toInts. -/
import Derived.Test.YthpgdpkemnhneaaGreatDoorZFIns
namespace Go.Proofs.YthpgdpkemnhneaaGreatDoor
open Go.RowKit Go.Shelf
set_option linter.unusedVariables false
set_option linter.unusedSimpArgs false
set_option maxRecDepth 10000

theorem index_sn0 (a b c d e : Sn) (w : World) : (Instr.index 72 (snV a b c d e) (.int .i64 ((0 : Nat) : Int))).run Tryz.prog w = .ok (.agg #[.bool a.s, .slice a.A a.n a.c]) w := by kernel_rfl
theorem index_sn1 (a b c d e : Sn) (w : World) : (Instr.index 72 (snV a b c d e) (.int .i64 ((1 : Nat) : Int))).run Tryz.prog w = .ok (.agg #[.bool b.s, .slice b.A b.n b.c]) w := by kernel_rfl
theorem index_sn2 (a b c d e : Sn) (w : World) : (Instr.index 72 (snV a b c d e) (.int .i64 ((2 : Nat) : Int))).run Tryz.prog w = .ok (.agg #[.bool c.s, .slice c.A c.n c.c]) w := by kernel_rfl
theorem index_sn3 (a b c d e : Sn) (w : World) : (Instr.index 72 (snV a b c d e) (.int .i64 ((3 : Nat) : Int))).run Tryz.prog w = .ok (.agg #[.bool d.s, .slice d.A d.n d.c]) w := by kernel_rfl
theorem index_sn4 (a b c d e : Sn) (w : World) : (Instr.index 72 (snV a b c d e) (.int .i64 ((4 : Nat) : Int))).run Tryz.prog w = .ok (.agg #[.bool e.s, .slice e.A e.n e.c]) w := by kernel_rfl
theorem index_sn (a b c d e : Sn) (k : Nat) (r : Sn) (h : [a, b, c, d, e][k]? = some r) (w : World) : (Instr.index 72 (snV a b c d e) (.int .i64 (k : Int))).run Tryz.prog w = .ok (.agg #[.bool r.s, .slice r.A r.n r.c]) w := by
  have hk : k < 5 := (List.getElem?_eq_some_iff.1 h).1
  rcases (show k = 0 ∨ k = 1 ∨ k = 2 ∨ k = 3 ∨ k = 4 by omega) with rfl | rfl | rfl | rfl | rfl
  · obtain rfl : a = r := by simpa using h
    exact index_sn0 _ _ _ _ _ w
  · obtain rfl : b = r := by simpa using h
    exact index_sn1 _ _ _ _ _ w
  · obtain rfl : c = r := by simpa using h
    exact index_sn2 _ _ _ _ _ w
  · obtain rfl : d = r := by simpa using h
    exact index_sn3 _ _ _ _ _ w
  · obtain rfl : e = r := by simpa using h
    exact index_sn4 _ _ _ _ _ w
/-- toInts' world ahead of its rounds -/
def XTi (w : World) (a b c d e : Sn) : World := ((w.alloc (.cells (snL a b c d e).toArray 72)).alloc (.cells zero10.toArray 36)).alloc (.cells zero10.toArray 36)
/-- the first k of them -/
def ups (l : List Sn) (k : Nat) : List Sn := (List.range 5).map fun i => if i < k then (match l[i]? with | some a => a | none => Sn.zero) else Sn.zero
theorem ups_succ (al : List Sn) (k : Nat) (a : Sn) (hk : k < 5) (ha : al[k]? = some a) : ups al (k + 1) = (ups al k).set k a := by
  rcases (show k = 0 ∨ k = 1 ∨ k = 2 ∨ k = 3 ∨ k = 4 by omega) with rfl | rfl | rfl | rfl | rfl <;> simp [ups, List.range_succ_eq_map, ha]
theorem ups_len (al : List Sn) (k : Nat) : (ups al k).length = 5 := by simp [ups]
theorem ups_all {al : List Sn} (h : al.length = 5) : ups al 5 = al := by
  obtain ⟨a, b, c, d, e, rfl⟩ := list5 h
  rfl
def TiI (w : World) (l : List Sn) (S : List Int) (k : Nat) (W : World) : Prop :=
  Bk W (w.heap.size + 2) ((ups l k).flatMap sncs) ∧ Bk W (w.heap.size + 1) zero10 ∧ Below w.heap.size w W ∧ w.heap.size + 3 ≤ W.heap.size ∧ ∀ (i : Nat) (s : Int), i < k → S[i]? = some s → s.natAbs < Big
theorem TiI.next {w W W' : World} {l : List Sn} {S : List Int} {k : Nat} {a : Sn} {s : Int} (h : TiI w l S k W) (hk : k < 5) (ha : l[k]? = some a) (hs : S[k]? = some s) (hB : s.natAbs < Big) (hb : Below W.heap.size W W') :
    TiI w l S (k + 1) ((W'.setCell ⟨w.heap.size + 2, 2 * k, none⟩ (.bool a.s)).setCell ⟨w.heap.size + 2, 2 * k + 1, none⟩ (.slice a.A a.n a.c)) := by
  obtain ⟨h1, h2, h3, h4, h5⟩ := h
  refine ⟨?_, ((h2.below hb (by omega)).far (by omega) _ _).far (by omega) _ _, ((h3.trans (hb.mono (by omega))).setCell (p := ⟨w.heap.size + 2, 2 * k, none⟩) (by show w.heap.size ≤ w.heap.size + 2; omega) _).setCell (p := ⟨w.heap.size + 2, 2 * k + 1, none⟩) (by show w.heap.size ≤ w.heap.size + 2; omega) _, by have := hb.size; simp [World.setCell]; omega, fun i t hi ht => ?_⟩
  · rw [ups_succ l k a hk ha, flat_set _ k _ (by rw [ups_len]; exact hk)]
    exact ((h1.below hb (by omega)).set1 _ _).set1 _ _
  · by_cases hik : i = k
    · subst hik
      rw [hs] at ht
      injection ht with ht
      rw [← ht]; exact hB
    · exact h5 i t (by omega) ht
/-- what toInts answers -/
def OutsR (w w' : World) (z : Ending) (a b c d e : Sn) (S : List Int) : Prop :=
  ((z = .returned (.tuple #[snV a b c d e, .int .i64 0]) ∧ ∀ (i : Nat) (s : Int), i < 5 → S[i]? = some s → s.natAbs < Big) ∨ (z = .returned (.tuple #[.agg zero10.toArray, .int .i64 2]) ∧ ∃ s ∈ S, Big ≤ s.natAbs)) ∧ Below w.heap.size w w'

set_option maxHeartbeats 4000000 in
theorem toInts_ok (w0 : World) (a b c d e : Sn) (S : List Int) (w : World) (hl : S.length = 5) (hS : ∀ (i : Nat) (r : Sn) (s : Int), [a, b, c, d, e][i]? = some r → S[i]? = some s → Sg w0 w r.s r.A r.n r.c r.xs s) :
    Calls Tryz.prog 32 #[snV a b c d e] w fun z w' => OutsR w w' z a b c d e S := by
  have Hx := Lib.hid (And.intro hl hS)
  clear hl hS
  have hI0 : Hid (TiI w [a, b, c, d, e] S 0 (XTi w a b c d e) ∧ (XTi w a b c d e).rangeAt w.heap.size 0 (snL a b c d e)) := by
    have e0 := (Bk.new w (snL a b c d e) 72).below ((Below.refl _ _).alloc (Nat.le_refl _) (.cells zero10.toArray 36)) (by simp)
    have e1 := e0.below ((Below.refl _ _).alloc (Nat.le_refl _) (.cells zero10.toArray 36)) (by simp; omega)
    have k0 := (Bk.new (w.alloc (.cells (snL a b c d e).toArray 72)) zero10 36).below ((Below.refl _ _).alloc (Nat.le_refl _) (.cells zero10.toArray 36)) (by simp)
    have k1 := Bk.new ((w.alloc (.cells (snL a b c d e).toArray 72)).alloc (.cells zero10.toArray 36)) zero10 36
    simp only [World.size_alloc] at k0 k1
    exact ⟨⟨k1, k0, (((Below.refl _ _).alloc (Nat.le_refl _) _).alloc (by simp) _).alloc (by simp; omega) _, by simp [XTi], fun i s hi => absurd hi (by omega)⟩, e1.range⟩
  go_enter Tryz.func32, Tryz.ntmps32
  go_wp2_with (first | (refine wpList_load_mid rfl 72 _ rfl w.heap.size 0 rfl (snL a b c d e) _ hI0.out.2 Tryz.underlying72 rfl (by kernel_rfl) ?_))
  go_loopw [5, 6, 7, 8, 10] (fun _ _ _ _ kv wr => ∃ k : Nat, k ≤ 5 ∧ kv = .int .i64 k ∧ Hid (TiI w [a, b, c, d, e] S k wr)) (fun _ _ _ _ kv _ => 5 - (intOf kv).toNat)
  case atStart => exact ⟨0, Nat.zero_le _, rfl, hI0.out.1⟩
  case round =>
    clear hI0
    obtain ⟨k, hk, rfl, H⟩ := hrel
    by_cases hlt : k < 5
    · obtain ⟨r, hr⟩ : ∃ r, [a, b, c, d, e][k]? = some r := ⟨_, List.getElem?_eq_getElem hlt⟩
      obtain ⟨s, hs⟩ : ∃ s, S[k]? = some s := ⟨_, List.getElem?_eq_getElem (by rw [Hx.out.1]; exact hlt)⟩
      have hsg := Hx.out.2 k r s hr hs
      have hki : (k : Int) < 5 := by omega
      have hix := index_sn a b c d e k r hr
      have HQ := Lib.hid (And.intro hr (And.intro hs (And.intro hsg hix)))
      clear hr hs hsg hix
      go_wp2_with (first | (refine wpList_index rfl rfl (.agg #[.bool r.s, .slice r.A r.n r.c]) HQ.out.2.2.2 ?_))
      have hbA : Below wr.heap.size wr (wr.alloc (.cells #[.bool r.s, .slice r.A r.n r.c] 59)) := (Below.refl _ _).alloc (Nat.le_refl _) _
      have hsg2 : Sg w0 (wr.alloc (.cells #[.bool r.s, .slice r.A r.n r.c] 59)) r.s r.A r.n r.c r.xs s := HQ.out.2.2.1.later (Nat.le_refl _) (H.out.2.2.1.alloc H.out.2.2.1.size _)
      refine (toInt_ok w0 r.s r.A r.n r.c r.xs s _ hsg2 (by have := HQ.out.2.2.1.sl.1.2.1; have := HQ.out.2.2.1.sl.1.2.2.1; omega)).mono ?_
      rintro z w3 ⟨hz, hb3⟩
      have hbb := hbA.trans (hb3.mono hbA.size)
      have hv : V r.xs = s.natAbs := by rw [HQ.out.2.2.1.2.2.1, sgn_abs]
      rcases hz with ⟨rfl, h1, -⟩ | ⟨rfl, h1⟩
      · rw [hv] at h1
        have hN := H.out.next hlt HQ.out.1 HQ.out.2.1 h1 (hbb.trans ((show Below w3.heap.size w3 (w3.alloc (.cells #[.bool r.s, .slice r.A r.n r.c] 32)) from (Below.refl _ _).alloc (Nat.le_refl _) _).mono hbb.size))
        obtain ⟨x0, x1, hx0, hx1⟩ := sncs_get2' (ups [a, b, c, d, e] k) k (by rw [ups_len]; exact hlt)
        have hB3 := (H.out.1.below hbb (by have := H.out.2.2.2.1; omega)).below (show Below w3.heap.size w3 (w3.alloc (.cells #[.bool r.s, .slice r.A r.n r.c] 32)) from (Below.refl _ _).alloc (Nat.le_refl _) _) (by have := hbb.size; have := H.out.2.2.2.1; omega)
        obtain ⟨p0, f0⟩ := hB3 _ _ hx0
        obtain ⟨p1, f1⟩ := hB3 _ _ hx1
        rw [Nat.mul_comm 2 k] at hN p0 f0 p1 f1
        have HN := Lib.hid hN
        clear hN hB3 hx0 hx1 hv h1 hbb hb3 hsg2 hbA H HQ
        go_wp2_with (fail)
        go_roundw
        case rel => exact ⟨k + 1, by omega, by go_num, HN⟩
        case measure => simp [intOf]; omega
      · rw [hv] at h1
        have hZ := (H.out.2.1.below hbb (by have := H.out.2.2.2.1; omega)).below (show Below w3.heap.size w3 (w3.alloc (.cells #[.bool false, .slice none 0 0] 32)) from (Below.refl _ _).alloc (Nat.le_refl _) _) (by have := hbb.size; have := H.out.2.2.2.1; omega)
        have HP := Lib.hid (And.intro hZ.there (And.intro (show ∃ s ∈ S, Big ≤ s.natAbs from ⟨s, List.mem_of_getElem? HQ.out.2.1, h1⟩) (H.out.2.2.1.trans ((hbb.alloc hbb.size (.cells #[.bool false, .slice none 0 0] 32)).mono H.out.2.2.1.size))))
        clear hZ hv h1 hbb hb3 hsg2 hbA H HQ
        go_wp2_with (first | (refine wpList_store_mid rfl 36 _ _ rfl (w.heap.size + 1) 0 zero10.toArray rfl rfl HP.out.1 (by kernel_rfl) (by simp [zero10, Value.oneCell']) ?_))
        have hl := run_loadVar_mid (P := Tryz.prog) ((w3.alloc (.cells #[.bool false, .slice none 0 0] 32)).setCells (w.heap.size + 1) 0 zero10) (w.heap.size + 1) 0 36 zero10 _ (World.rangeAt_setCells_same _ _ _ _ HP.out.1) Tryz.underlying36 rfl (by kernel_rfl)
        exact bodyPost_ret (v := .tuple #[.agg zero10.toArray, .int .i64 2]) (by simp [results, Tryz.results32, Act.put, asAddr, hl]) rfl ⟨.inr ⟨rfl, HP.out.2.1⟩, below_setCells HP.out.2.2 (by omega) _ _ HP.out.2.2.size⟩
    · obtain rfl : k = 5 := by omega
      have hki : ¬ ((5 : Nat) : Int) < 5 := by omega
      have h1 := H.out.1
      rw [ups_all rfl] at h1
      have HP := Lib.hid (And.intro h1.range (And.intro H.out.2.1.there H.out))
      clear h1 H
      go_wp2_with (first | (refine wpList_load_mid rfl 36 _ rfl (w.heap.size + 2) 0 rfl (snL a b c d e) _ HP.out.1 Tryz.underlying36 rfl (by kernel_rfl) ?_) | (refine wpList_store_mid rfl 36 _ _ rfl (w.heap.size + 1) 0 (snL a b c d e).toArray rfl rfl HP.out.2.1 (by kernel_rfl) (by simp [Value.oneCell']) ?_))
      have hl := run_loadVar_mid (P := Tryz.prog) (wr.setCells (w.heap.size + 1) 0 (snL a b c d e)) (w.heap.size + 1) 0 36 (snL a b c d e) _ (World.rangeAt_setCells_same _ _ _ _ HP.out.2.1) Tryz.underlying36 rfl (by kernel_rfl)
      exact bodyPost_ret (v := .tuple #[snV a b c d e, .int .i64 0]) (by simp [results, Tryz.results32, Act.put, asAddr, hl]) rfl ⟨.inl ⟨rfl, HP.out.2.2.2.2.2.2⟩, below_setCells HP.out.2.2.2.2.1 (by omega) _ _ HP.out.2.2.2.2.1.size⟩
end Go.Proofs.YthpgdpkemnhneaaGreatDoor
