/- The contract of words.Cmp. -/
import Derived.Test.YtdjeoionafkanaaDoorZCmpU
import Derived.Test.YtdjeoionafkanaaDoorP1
import Derived.Test.YtdjeoionafkanaaDoorZNeg
namespace Go.Proofs.YtdjeoionafkanaaDoor
open Go.RowKit Go.Shelf
set_option linter.unusedVariables false
set_option maxRecDepth 10000
attribute [local go_sem] Oper.semAt_some

/-- Between two rounds of Cmp. -/
def ICmp (w : World) (pb n c n' c' : Nat) (A A' : Option Addr) (xs ys : List Nat) (k : Nat) (W : World) : Prop :=
  V (xs.drop (n - k)) = V (ys.drop (n - k)) ∧ Wd W w.heap.size (.slice A' n' c') ∧ Wd W (w.heap.size + 1) (.int .i64 0) ∧ Wd W (w.heap.size + 2) (.int .i64 0) ∧ Wd W pb (.slice A n c) ∧ Below w.heap.size w W
def IxCmp (w : World) (z : Int) (cd : Code) (k : Nat) (W : World) : Prop :=
  cd = .ret ∧ Wd W (w.heap.size + 1) (.int .i64 z) ∧ Wd W (w.heap.size + 2) (.int .i64 0) ∧ Below w.heap.size w W
theorem ICmp_own {w : World} {pb n c n' c' : Nat} {A A' : Option Addr} {xs ys : List Nat} {B : Nat} (hB : w.heap.size ≤ B) : OwnFrom B (ICmp w pb n c n' c' A A' xs ys) := by
  rintro k W W' row ⟨h1, h2, h3, h4, h5, h6⟩ hg hr
  have hr2 : ∀ j, row = some j → ∃ o : Obj, W.heap[j]? = some o ∧ o.isCells = false := fun j e => (hr j e).2
  exact ⟨h1, h2.kept hg hr2, h3.kept hg hr2, h4.kept hg hr2, h5.kept hg hr2, h6.grown hg h6.size (fun j e => by have := (hr j e).1; omega)⟩
theorem IxCmp_own {w : World} {z : Int} {B : Nat} (hB : w.heap.size ≤ B) (cd : Code) : OwnFrom B (IxCmp w z cd) := by
  rintro k W W' row ⟨h1, h3, h4, h6⟩ hg hr
  have hr2 : ∀ j, row = some j → ∃ o : Obj, W.heap[j]? = some o ∧ o.isCells = false := fun j e => (hr j e).2
  exact ⟨h1, h3.kept hg hr2, h4.kept hg hr2, h6.grown hg h6.size (fun j e => by have := (hr j e).1; omega)⟩
theorem ICmp_reads {w : World} {pb n c n' c' : Nat} {A A' : Option Addr} {xs ys : List Nat} (hx : Sl w A n c xs) (k : Nat) (W : World) (h : ICmp w pb n c n' c' A A' xs ys k W) :
    Reads pb A n c (fun k => xs.getD (n - 1 - k) 0) k W := by
  obtain ⟨h1, h2, h3, h4, h5, h6⟩ := h
  refine ⟨h5.1, fun hk => ?_⟩
  have hl := hx.1
  have hlt : n - 1 - k < xs.length := by omega
  obtain ⟨b, o, e, _, hc⟩ := (hx.below h6).2.2.2.2.at (uvs_get (List.getElem?_eq_getElem hlt))
  refine ⟨b, o, e, ?_⟩
  rw [hc]
  show some (Value.int .u64 ((xs[n - 1 - k] : Nat) : Int)) = some (.int .u64 ((xs.getD (n - 1 - k) 0 : Nat) : Int))
  rw [List.getD_eq_getElem?_getD, List.getElem?_eq_getElem hlt]
  rfl
theorem cmpI_ne {a b : Nat} (h : a ≠ b) : cmpI a b ≠ 0 := by
  rcases Nat.lt_or_ge a b with h1 | h1
  · rw [cmpI_lt h1]; decide
  · rw [cmpI_gt (by omega)]; decide

/-- how Cmp is left -/
theorem Cmp_leave {w W : World} {z : Int} {tmps : Array Value} {D : Nat} (hD : w.heap.size + 2 < D) (h3 : Wd W (w.heap.size + 1) (.int .i64 z)) (h4 : Wd W (w.heap.size + 2) (.int .i64 0)) (h6 : Below w.heap.size w W) (hcol : W.heap[D]? = some (.deferred (some []))) :
    ∀ tmps : Array Value, tmps.getD 4 undef = .pointer (some ⟨w.heap.size + 1, 0, none⟩) → tmps.getD 5 undef = .pointer (some ⟨w.heap.size + 1 + 1, 0, none⟩) →
    ∃ v, (results Tryd.f13 tmps).run Tryd.prog (W.putObj D (.deferred none)) = .ok v (W.putObj D (.deferred none)) ∧
      (Ending.returned v = .returned (.tuple #[.int .i64 z, .int .i64 0]) ∧ Below w.heap.size w (W.putObj D (.deferred none))) := by
  intro tmps e4 e5
  have c3 : (W.putObj D (.deferred none)).cell? ⟨w.heap.size + 1, 0, none⟩ = some (.int .i64 z) := (World.cell?_of_block (a := ⟨w.heap.size + 1, 0, none⟩) (World.putObj_heap_other (by show w.heap.size + 1 ≠ D; omega))).trans h3.1
  have c4 : (W.putObj D (.deferred none)).cell? ⟨w.heap.size + 2, 0, none⟩ = some (.int .i64 0) := (World.cell?_of_block (a := ⟨w.heap.size + 2, 0, none⟩) (World.putObj_heap_other (by show w.heap.size + 2 ≠ D; omega))).trans h4.1
  refine ⟨.tuple #[.int .i64 z, .int .i64 0], ?_, rfl, below_putObj h6 (by omega) _⟩
  simp only [Array.getD_eq_getD_getElem?] at e4 e5
  simp [results, Tryd.f13, go_sem, e4, e5, c3, c4]

set_option maxHeartbeats 2000000 in
theorem OCmp_any (A A' : Option Addr) (n c c' : Nat) (xs ys : List Nat) (z : Int) (w : World) (hz : cmpI (V xs) (V ys) = z) (hn : n ≤ 4096) (hx : Sl w A n c xs) (hy : Sl w A' n c' ys) :
    Calls Tryd.prog 13 #[.slice A n c, .slice A' n c'] w fun e w' => e = .returned (.tuple #[.int .i64 z, .int .i64 0]) ∧ Below w.heap.size w w' := by
  have Hk := Lib.hid (chk_two n hn)
  have Hx := Lib.hid (And.intro hx hy)
  have hl := hx.1
  have hl' := hy.1
  clear hx hy
  refine (callsIn_wide (n := 5)).1 ?_
  refine callsIn_of_wp_marks Tryd.func13 rfl trivial ?_ rfl
  simp only [Tryd.ntmps13, List.size_toArray, List.length_cons, List.length_nil, Nat.reduceAdd, Nat.reduceSub, Array.replicate_succ, Array.replicate_zero, List.push_toArray, List.append_toArray, List.nil_append, List.cons_append]
  gi_wp2_with (first
    | (refine ⟨trivial, ?_⟩; gi_at_call 66; refine (callsIn_wide.2 (checkLengths_two n n _ _ (by simp))).mono ?_; rintro e w' ⟨rfl, rfl⟩; rw [Hk.out])
    | (refine ⟨trivial, ?_⟩; gi_at_call 67; refine (callsIn_wide.2 (fromBack_any (.slice none 0 0) _ _ _ _)).mono ?_; rintro e w' ⟨rfl, rfl⟩))
  have hI0 : ICmp w (w.heap.size + 1 + 1 + 1 + 1) n c n c' A A' xs ys 0 (((((w.alloc (Obj.cells #[Value.slice A' n c'] 22)).alloc (Obj.cells #[Value.int IntKind.i64 0] 3)).alloc (Obj.cells #[Value.int IntKind.i64 0] 25)).alloc (Obj.cells #[Value.int IntKind.i64 ↑n, Value.int IntKind.i64 ↑n] 3)).alloc (Obj.cells #[Value.slice A n c] 22)) := by
    have q0 := ((((Wd.new w (.slice A' n c') 22).alloc (Obj.cells #[Value.int IntKind.i64 0] 3)).alloc (Obj.cells #[Value.int IntKind.i64 0] 25)).alloc (Obj.cells #[Value.int IntKind.i64 ↑n, Value.int IntKind.i64 ↑n] 3)).alloc (Obj.cells #[Value.slice A n c] 22)
    have q1 := (((Wd.new (w.alloc (Obj.cells #[Value.slice A' n c'] 22)) (.int .i64 0) 3).alloc (Obj.cells #[Value.int IntKind.i64 0] 25)).alloc (Obj.cells #[Value.int IntKind.i64 ↑n, Value.int IntKind.i64 ↑n] 3)).alloc (Obj.cells #[Value.slice A n c] 22)
    have q2 := ((Wd.new ((w.alloc (Obj.cells #[Value.slice A' n c'] 22)).alloc (Obj.cells #[Value.int IntKind.i64 0] 3)) (.int .i64 0) 25).alloc (Obj.cells #[Value.int IntKind.i64 ↑n, Value.int IntKind.i64 ↑n] 3)).alloc (Obj.cells #[Value.slice A n c] 22)
    have q4 := Wd.new ((((w.alloc (Obj.cells #[Value.slice A' n c'] 22)).alloc (Obj.cells #[Value.int IntKind.i64 0] 3)).alloc (Obj.cells #[Value.int IntKind.i64 0] 25)).alloc (Obj.cells #[Value.int IntKind.i64 ↑n, Value.int IntKind.i64 ↑n] 3)) (.slice A n c) 22
    simp only [World.size_alloc] at q1 q2 q4
    refine ⟨?_, q0, q1, q2, q4, (((((Below.refl _ w).alloc (Nat.le_refl _) _).alloc (by simp) _).alloc (by simp; omega) _).alloc (by simp; omega) _).alloc (by simp; omega) _⟩
    rw [Nat.sub_zero, V_drop_all xs n (by omega), V_drop_all ys n (by omega)]
  refine wpIn_rounds (F := Fence.wide) (n := 5) rfl (by decide) (gf := 143) (lb := #[.pointer (some ⟨w.heap.size + 1 + 1 + 1 + 1, 0, none⟩)]) rfl trivial (fun args w => run_callFunc_enter Tryd.func143 (by kernel_rfl) (by kernel_rfl) args w)
    (fromBack_rounds Fence.wide 4 trivial rfl (by decide) (w.heap.size + 1 + 1 + 1 + 1) A n c (fun k => xs.getD (n - 1 - k) 0) hn _) (Below.refl _ _) (fun _ => rfl)
    (ICmp w (w.heap.size + 1 + 1 + 1 + 1) n c n c' A A' xs ys) (IxCmp w z) (ICmp_own (by simp; omega)) (fun cd => IxCmp_own (by simp; omega) cd) (ICmp_reads Hx.out.1) hI0
    (fun k => { tmps := #[Value.slice A n c, Value.slice A' n c', undef, Value.pointer (some { block := w.heap.size, off := 0 }),
          Value.pointer (some { block := w.heap.size + 1, off := 0 }),
          Value.pointer (some { block := w.heap.size + 1 + 1, off := 0 }), Value.int IntKind.i64 0, .int .i64 ((n - 1 - k : Nat) : Int), .int .u64 (xs.getD (n - 1 - k) 0 : Int), undef,
          Value.slice A n c, Value.int IntKind.i64 ↑n, Value.slice A' n c', Value.int IntKind.i64 ↑n,
          Value.slice (some { block := w.heap.size + 1 + 1 + 1, off := 0 }) 2 2, Value.int IntKind.i64 0,
          Value.int IntKind.i64 0, Value.bool false, undef, Value.slice A n c,
          Value.func (Fn.func 143) #[] #[Value.pointer (some { block := w.heap.size + 1 + 1 + 1 + 1, off := 0 })],
          .int .i64 ((n - 1 - k : Nat) : Int), .int .u64 (xs.getD (n - 1 - k) 0 : Int), undef, undef, undef, undef, undef, undef, undef, undef, undef], defers := [] }) ?assign ?body ?done ?stop
  case assign =>
    intro l k W K hK
    gi_wp2
    exact hK
  case body =>
    rintro l k W ⟨h1, h2, h3, h4, h5, h6⟩ hk
    obtain ⟨i, hi⟩ : ∃ i, n - 1 - k = i := ⟨_, rfl⟩
    have hin : (i : Int) < n := by omega
    have hix : i < xs.length := by omega
    have hiy : i < ys.length := by omega
    have gx := List.getElem?_eq_getElem hix
    have gy := List.getElem?_eq_getElem hiy
    have gd : xs.getD i 0 = xs[i] := by rw [List.getD_eq_getElem?_getD, gx]; rfl
    rw [hi, gd]
    obtain ⟨b, o, rfl, _, hcy⟩ := (Hx.out.2.below h6).2.2.2.2.at (uvs_get gy)
    generalize xs[i] = x at *
    generalize ys[i] = y at *
    have c2 := h2.1
    have c3 := h3.1
    have f3 := h3.2
    have c4 := h4.1
    have f4 := h4.2
    have hki : n - k = i + 1 := by omega
    rw [hki] at h1
    by_cases hxy : x = y
    · subst hxy
      have hnext : V (xs.drop i) = V (ys.drop i) := by rw [V_drop _ _ _ gx, V_drop _ _ _ gy, h1]
      have Hst := Lib.hid (show ICmp w (w.heap.size + 1 + 1 + 1 + 1) n c n c' A (some ⟨b, o, none⟩) xs ys (k + 1) W from ⟨by rw [show n - (k + 1) = i by omega]; exact hnext, h2, h3, h4, h5, h6⟩)
      have Hcmp := Lib.hid (cmpU_ok x x)
      clear gx gy gd h1 h2 h3 h4 h5 h6 hnext hix hiy hki hi hI0 hl hl' hz
      gi_wp2_with (refine ⟨trivial, ?_⟩; gi_at_call 68; refine CallsIn.mono (CallsIn.inRound l (callsIn_wide.2 (Hcmp.out _))) ?_; rintro e w' ⟨rfl, rfl⟩; rw [cmpI_eq rfl])
      exact ⟨KeepsFrom.refl _ _, Hst.out⟩
    · have hne := cmpI_ne hxy
      have hcmp : cmpI (V xs) (V ys) = cmpI x y := by
        rcases Nat.lt_or_ge x y with h | h
        · rw [cmpI_lt h, cmpI_lt (cmp_top Hx.out.1.2.2.2.1 gx gy h1 h)]
        · rw [cmpI_gt (show y < x by omega), cmpI_gt (cmp_top Hx.out.2.2.2.2.1 gy gx h1.symm (by omega))]
      have Hcmp := Lib.hid (cmpU_ok x y)
      rw [← hcmp, hz] at Hcmp hne
      have hzb : (z == 0) = false := by simpa using hne
      have hzb2 : (z != 0) = true := by rw [bne, hzb]; rfl
      have e4 : (W.setCell ⟨w.heap.size + 1, 0, none⟩ (.int .i64 z)).cell? ⟨w.heap.size + 1 + 1, 0, none⟩ = some (.int .i64 0) := (h4.far (p := ⟨w.heap.size + 1, 0, none⟩) (by show w.heap.size + 2 ≠ w.heap.size + 1; omega) _).1
      have e5 : (W.setCell ⟨w.heap.size + 1, 0, none⟩ (.int .i64 z)).frozen? ⟨w.heap.size + 1 + 1, 0, none⟩ = false := (h4.far (p := ⟨w.heap.size + 1, 0, none⟩) (by show w.heap.size + 2 ≠ w.heap.size + 1; omega) _).2
      have Hst := Lib.hid (show (∀ B, KeepsFrom B W ((W.setCell ⟨w.heap.size + 1, 0, none⟩ (.int .i64 z)).setCell ⟨w.heap.size + 1 + 1, 0, none⟩ (.int .i64 0))) ∧ IxCmp w z .ret (k + 1) ((W.setCell ⟨w.heap.size + 1, 0, none⟩ (.int .i64 z)).setCell ⟨w.heap.size + 1 + 1, 0, none⟩ (.int .i64 0)) from
        ⟨fun B => ((KeepsOthers.setCell W _ _).trans (KeepsOthers.setCell _ _ _)).from B, rfl, (h3.set _).far (p := ⟨w.heap.size + 1 + 1, 0, none⟩) (by show w.heap.size + 1 ≠ w.heap.size + 2; omega) _, ((h4.far (p := ⟨w.heap.size + 1, 0, none⟩) (by show w.heap.size + 2 ≠ w.heap.size + 1; omega) _)).set _, (h6.setCell (p := ⟨w.heap.size + 1, 0, none⟩) (by simp) _).setCell (p := ⟨w.heap.size + 1 + 1, 0, none⟩) (by simp; omega) _⟩)
      clear gx gy gd h1 h2 h3 h4 h5 h6 hix hiy hki hi hI0 hl hl' hcmp hne hxy hz
      gi_wp2_with (refine ⟨trivial, ?_⟩; gi_at_call 68; refine CallsIn.mono (CallsIn.inRound l (callsIn_wide.2 (Hcmp.out _))) ?_; rintro e w' ⟨rfl, rfl⟩)
      exact ⟨Hst.out.1 _, Hst.out.2⟩
  case done =>
    rintro D W hD ⟨h1, h2, h3, h4, h5, h6⟩ hcol
    have he : V xs = V ys := by
      rw [Nat.sub_self, List.drop_zero, List.drop_zero] at h1
      exact h1
    rw [cmpI_eq he] at hz
    subst hz
    have f3 := h3.2
    have c3 := h3.1
    have e4 : (W.setCell ⟨w.heap.size + 1, 0, none⟩ (.int .i64 0)).cell? ⟨w.heap.size + 1 + 1, 0, none⟩ = some (.int .i64 0) := (h4.far (p := ⟨w.heap.size + 1, 0, none⟩) (by show w.heap.size + 2 ≠ w.heap.size + 1; omega) _).1
    have e5 : (W.setCell ⟨w.heap.size + 1, 0, none⟩ (.int .i64 0)).frozen? ⟨w.heap.size + 1 + 1, 0, none⟩ = false := (h4.far (p := ⟨w.heap.size + 1, 0, none⟩) (by show w.heap.size + 2 ≠ w.heap.size + 1; omega) _).2
    have hD2 : w.heap.size + 2 < D := by simp at hD; omega
    have k3 : Wd ((W.setCell ⟨w.heap.size + 1, 0, none⟩ (.int .i64 0)).setCell ⟨w.heap.size + 1 + 1, 0, none⟩ (.int .i64 0)) (w.heap.size + 1) (.int .i64 0) := (h3.set _).far (p := ⟨w.heap.size + 1 + 1, 0, none⟩) (by show w.heap.size + 1 ≠ w.heap.size + 2; omega) _
    have k4 : Wd ((W.setCell ⟨w.heap.size + 1, 0, none⟩ (.int .i64 0)).setCell ⟨w.heap.size + 1 + 1, 0, none⟩ (.int .i64 0)) (w.heap.size + 2) (.int .i64 0) := ((h4.far (p := ⟨w.heap.size + 1, 0, none⟩) (by show w.heap.size + 2 ≠ w.heap.size + 1; omega) _)).set _
    have kc : ((W.setCell ⟨w.heap.size + 1, 0, none⟩ (.int .i64 0)).setCell ⟨w.heap.size + 1 + 1, 0, none⟩ (.int .i64 0)).heap[D]? = some (.deferred (some [])) := by
      rw [Below.heap_setCell _ ⟨w.heap.size + 1 + 1, 0, none⟩ _ _ (by show D ≠ w.heap.size + 2; omega), Below.heap_setCell _ ⟨w.heap.size + 1, 0, none⟩ _ _ (by show D ≠ w.heap.size + 1; omega)]
      exact hcol
    have HF := Lib.hid (And.intro (Cmp_leave (w := w) (z := 0) (tmps := #[]) hD2 k3 k4 ((h6.setCell (p := ⟨w.heap.size + 1, 0, none⟩) (by simp) _).setCell (p := ⟨w.heap.size + 1 + 1, 0, none⟩) (by simp; omega) _) kc) kc)
    clear h1 h2 h3 h4 h5 h6 k3 k4 kc hcol hI0 hD hl hl' he
    gi_wp2
    exact ⟨by simp, .inl ⟨_, _, rfl, run_takeDeferred HF.out.2, HF.out.1 _ rfl rfl⟩⟩
  case stop =>
    rintro D cd k W hD ⟨rfl, h3, h4, h6⟩ hcol
    have hD2 : w.heap.size + 2 < D := by simp at hD; omega
    have H := Cmp_leave (tmps := #[]) hD2 h3 h4 h6 hcol
    refine wpIn_ret ?_
    exact ⟨by simp, .inl ⟨_, _, rfl, run_takeDeferred hcol, H _ rfl rfl⟩⟩
theorem OCmp_ok (A A' : Option Addr) (n c c' : Nat) (xs ys : List Nat) (w : World) (hn : n ≤ 4096) (hx : Sl w A n c xs) (hy : Sl w A' n c' ys) :
    Calls Tryd.prog 13 #[.slice A n c, .slice A' n c'] w fun e w' => e = .returned (.tuple #[.int .i64 (cmpI (V xs) (V ys)), .int .i64 0]) ∧ Below w.heap.size w w' := OCmp_any A A' n c c' xs ys _ w rfl hn hx hy
end Go.Proofs.YtdjeoionafkanaaDoor
