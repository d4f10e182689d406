/- Pieces of the proofs, together: Gather, Gath, WideP, Col, Held, PW, SW, NMul, NSq. -/
import Derived.RangeFuncBox
import Derived.Maps.OwnIn
import Derived.Deep.AppendLies
import Derived.OrdersHeld
import Derived.RegionTactic
import Derived.Deep.RegionHeld
import Derived.Test.YthpgdpkemnhneaaGreatDoorP1

namespace Go.Proofs.YthpgdpkemnhneaaGreatDoor
open Go.RowKit Go.Shelf
set_option linter.unusedVariables false
set_option maxRecDepth 10000

def RoundsG (n : Nat) (P : Program) (gf : Nat) (lb : Array Value) (encs : Nat → Array Value) (N : Nat) (R : World → Prop) : Prop :=
  ∀ (l : Nat) (J : Nat → World → Prop) (W : World), (∀ k A B, J k A → A.grownBy B (some W.heap.size) → J k B) → (∀ k A, J k A → R A) →
    (∀ k W1, J k W1 → k < N → W.heap.size < W1.heap.size → YieldAt Fence.wide (n - 1) P l (encs k) W1 fun e W' => e = .returned (.bool true) ∧ J (k + 1) W' ∧ W'.heap[W.heap.size]? = W1.heap[W.heap.size]?) →
    J 0 W →
    CallsIn Fence.wide n P gf (#[.func (.yield l) #[] #[]] ++ lb) W fun e W' => (∃ v, e = .returned v) ∧ J N W'

/-- How the body of a round is left. -/
def roundPostG (B : Nat) (I : Nat → World → Prop) (k : Nat) (W : World) : Exit → Act → World → Prop
  | .normal, _, W' => KeepsFrom B W W' ∧ I (k + 1) W' ∧ W'.heap[B + 2]? = W.heap[B + 2]?
  | _, _, _ => False

theorem wpIn_roundsG {n : Nat} {P : Program} {g : Operand} {ps : Array Tmp} {assign body : Code} {Q : Exit → Act → World → Prop} {a : Act} {w : World}
    {gf : Nat} {lb : Array Value} (hg : a.eval g = .func (.func gf) #[] lb) (eg : ∀ args w, (callFunc gf args).run P w = .ok (.enter gf args) w)
    {encs : Nat → Array Value} {R : World → Prop} {N : Nat} (hseq : RoundsG (n - 1) P gf lb encs N R) (hps : ∀ x, (encs x).size = ps.size)
    (I : Nat → World → Prop) (hI : OwnFrom w.heap.size I) (hIg : ∀ k A B, I k A → A.grownBy B (some (w.heap.size + 2)) → I k B) (hR : ∀ k W, I k W → R W) (h0 : I 0 w) (a₁ : Nat → Act)
    (hassign : ∀ (l : Nat) (k : Nat) (W : World) (K : Act → World → Prop), K (a₁ k) W →
      assign.wpIn (Fence.wide.inRound l) (n - 1 - 1) P (Exit.then K (fun _ _ _ => False)) { tmps := (ps.zip (encs k)).foldl (fun t (p, v) => t.setIfInBounds p v) a.tmps, defers := [] } W)
    (hbody : ∀ (l : Nat) (k : Nat) (W : World), I k W → k < N → w.heap.size + 2 < W.heap.size → body.wpIn (Fence.wide.inRound l) (n - 1 - 1) P (roundPostG w.heap.size I k W) (a₁ k) W)
    (hdone : ∀ (D : Nat) (W : World), w.heap.size ≤ D → I N W → W.heap[D]? = some (.deferred (some [])) → Q .normal { a with defers := { target := .collected D, args := #[] } :: a.defers } W) :
    (Code.rangeFunc g ps assign body).wpIn Fence.wide n P Q a w := by
  refine wpIn_rangeFunc fun fn hfn => ?_
  rw [show Fence.wide.round = none from rfl]
  obtain ⟨rec, hrec⟩ : ∃ rec : LoopState → Option Code → Loop, rec = fun st pe => { state := st, pending := pe, fn, tmps := a.tmps, params := ps, assign, body, defers := w.heap.size } := ⟨_, rfl⟩
  obtain ⟨W1, hW1⟩ : ∃ W1, (w.alloc (.deferred (some []))).alloc (.loop (rec .ready none)) = W1 := ⟨_, rfl⟩
  have hL1 : W1.heap[w.heap.size + 1]? = some (.loop (rec .ready none)) := by
    have := World.alloc_heap_new (w.alloc (.deferred (some []))) (.loop (rec .ready none))
    rwa [World.size_alloc, hW1] at this
  have hK1 : W1.heap[w.heap.size]? = some (.deferred (some [])) := by
    rw [← hW1]
    exact (Below.heap_alloc _ _ _ (by simp)).trans (World.alloc_heap_new w _)
  have hI1 : I 0 W1 := by rw [← hW1]; exact hI.alloc _ (hI.alloc _ h0)
  have hsz : W1.heap.size = w.heap.size + 2 := by rw [← hW1]; simp
  refine ⟨w.heap.size + 1, [{ target := .collected w.heap.size, args := #[] }], W1, { target := .fn (.func gf) lb, args := #[.func (.yield (w.heap.size + 1)) #[] #[]] }, W1, gf,
    #[.func (.yield (w.heap.size + 1)) #[] #[]] ++ lb, W1, ?_, ?_, ?_, ?_, (fun h => by cases h), ?_⟩
  · rw [← hW1, hrec]; exact run_enterLoop_outer _ _ _ _ _
  · simp only [resolve, hg]
    simp [go_sem]
  · intro f' hf'
    trivial
  · simp [invoke, go_sem, eg]
  · refine (hseq (w.heap.size + 1)
      (fun k W => I k W ∧ W.heap[w.heap.size + 1]? = some (.loop (rec .ready none)) ∧ W.heap[w.heap.size]? = some (.deferred (some [])))
      W1
      (fun k A B hs hg' => by
        rw [hsz] at hg'
        exact ⟨hIg k A B hs.1 hg', (hg'.block _ (Array.getElem?_eq_some_iff.1 hs.2.1).1 (by intro e; injection e with e; omega)).trans hs.2.1, (hg'.block _ (Array.getElem?_eq_some_iff.1 hs.2.2).1 (by intro e; injection e with e; omega)).trans hs.2.2⟩)
      (fun k W hk => hR k W hk.1)
      ?_ ⟨hI1, hL1, hK1⟩).mono ?_
    · rintro k W ⟨hi, hl, hk⟩ hlen hgs
      rw [hsz] at hgs
      have hlt : w.heap.size + 1 < W.heap.size := (Array.getElem?_eq_some_iff.1 hl).1
      have hy := run_yield (P := P) (args := encs k) hl (by rw [hrec]; exact hps k)
      rw [hrec] at hy
      refine ⟨fn, _, assign, body, hy, roundIn_of_wpIn hfn (hassign _ k W _ ⟨_, run_beginRound hl (by rw [hrec]), ?_⟩)⟩
      have hl2 : (W.putObj (w.heap.size + 1) (.loop { rec .ready none with state := .busy })).heap[w.heap.size + 1]? = some (.loop { rec .ready none with state := .busy }) := World.putObj_heap_same hlt
      have hk2 : (W.putObj (w.heap.size + 1) (.loop { rec .ready none with state := .busy })).heap[w.heap.size]? = some (.deferred (some [])) := (World.putObj_heap_other (by omega)).trans hk
      refine wpIn_mono (hbody _ k _ (hI.putObj _ hi (by omega) hl rfl) hlen (by simpa using hgs)) ?_
      rintro e a3 W3 hp
      cases e with
      | normal =>
        obtain ⟨hk3, hi3, hg3⟩ := hp
        have hl3 := hk3.same _ _ (by omega) hl2 rfl
        have hr := run_endRound (P := P) none hl3
        rw [hrec] at hr
        refine ⟨_, _, hr, rfl, ⟨hI.putObj _ hi3 (by omega) hl3 rfl, ?_, (World.putObj_heap_other (by omega)).trans (hk3.same _ _ (Nat.le_refl _) hk2 rfl)⟩, ?_⟩
        · rw [World.putObj_heap_same (Array.getElem?_eq_some_iff.1 hl3).1, hrec]
          rfl
        · rw [hsz, World.putObj_heap_other (by omega), hg3, World.putObj_heap_other (by omega)]
      | ret => exact hp.elim
      | exit id => exact hp.elim
      | goto t => exact hp.elim
      | panic ch => exact hp.elim
      | outgrown => exact hp.elim
    · rintro e W2 ⟨⟨v, rfl⟩, ⟨hi, hl, hk⟩⟩
      exact ⟨none, _, by have := run_endLoop (P := P) hl (by rw [hrec]; simp); rw [hrec] at this; exact this, hdone _ _ (Nat.le_refl _) (hI.putObj _ hi (by omega) hl rfl) ((World.putObj_heap_other (by omega)).trans hk)⟩
end Go.Proofs.YthpgdpkemnhneaaGreatDoor

namespace Go.Proofs.YthpgdpkemnhneaaGreatDoor
open Go.RowKit Go.Shelf
set_option linter.unusedVariables false
set_option maxRecDepth 10000
attribute [local go_sem] Oper.semAt_some

/-- Between two rounds of gathered. -/
def IGath (w : World) (pz : Nat) (ws : Nat → Nat) (k : Nat) (W : World) : Prop :=
  ∃ v, Boxed W pz 23 v ∧ W.ownsRow w.heap.size 44 1 v k (uvs ((List.range k).map ws)) ∧ v.ownBlock ≠ some (pz + 3) ∧ pz + 3 ≠ pz ∧ w.heap.size ≤ pz ∧ Below w.heap.size w W
theorem own_off {W W' : World} {row : Option Nat} {base n : Nat} {v : Value} {vs : List Value} (h : W.ownsRow base 44 1 v n vs) (hg : W.grownBy W' row) (hr : ∀ r, row = some r → v.ownBlock ≠ some r) : W'.ownsRow base 44 1 v n vs := by
  refine h.kept hg ?_
  cases hb : v.ownBlock with
  | none => exact .inl rfl
  | some gb => exact .inr fun e => hr gb e.symm (by rw [hb])
theorem IGath_own {w : World} {pz : Nat} {ws : Nat → Nat} {B : Nat} (hB : w.heap.size ≤ B) : OwnFrom B (IGath w pz ws) := by
  rintro k W W' row ⟨v, h1, h2, h3, h4, h5, h6⟩ hg hr
  refine ⟨v, ?_, ?_, h3, h4, h5, h6.grown hg h6.size (fun j hj => by have := (hr j hj).1; omega)⟩
  · refine (hg.block pz h1.lt ?_).trans h1
    intro e
    obtain ⟨_, o, ho, hc⟩ := hr pz e.symm
    rw [show W.heap[pz]? = _ from h1] at ho
    cases ho; cases hc
  · refine own_off h2 hg fun r e hb => ?_
    obtain ⟨_, o, ho, hc⟩ := hr r e
    rcases h2.2 with ⟨rfl, _⟩ | ⟨g, cap, cur, rfl, _, hgb, _⟩
    · cases hb
    · obtain rfl : g = r := by simpa [Value.ownBlock] using hb
      rw [hgb] at ho; cases ho; cases hc
theorem IGath_grows {w : World} {pz : Nat} {ws : Nat → Nat} (k : Nat) (W W' : World) (h : IGath w pz ws k W) (hg : W.grownBy W' (some (pz + 3))) : IGath w pz ws k W' := by
  obtain ⟨v, h1, h2, h3, h4, h5, h6⟩ := h
  refine ⟨v, (hg.block pz h1.lt (by intro e; injection e with e; omega)).trans h1, own_off h2 hg (fun r e => by injection e with e; subst e; exact h3), h3, h4, h5, h6.grown hg h6.size (fun j hj => by cases hj; omega)⟩

theorem Nt.put {w W : World} {v : Value} {x D : Nat} (h : Nt w W v x) (hcol : W.heap[D]? = some (.deferred (some []))) : Nt w (W.putObj D (.deferred none)) v x := by
  obtain ⟨n, zs, ⟨h1, h2, h3⟩, h4⟩ := h
  exact ⟨n, zs, ⟨h1, h2, ownsRow_putObj h3 _ hcol rfl⟩, h4⟩
set_option maxHeartbeats 2000000 in
theorem gathered_ok (gf : Nat) (lb : Array Value) (ws : Nat → Nat) (N : Nat) (R : World → Prop) (w : World) (hN : N ≤ 20000) (hws : ∀ k, ws k < B64)
    (eg : ∀ args w, (callFunc gf args).run Tryz.prog w = .ok (.enter gf args) w)
    (hseq : RoundsG 5 Tryz.prog gf lb (fun k => #[.int .u64 (ws k : Int)]) N R) (hR : ∀ W, Below w.heap.size w W → R W) :
    Calls Tryz.prog 76 #[.func (.func gf) #[] lb, .int .i64 N] w fun e w' => (4097 < N ∧ e = .returned (.tuple #[.slice none 0 0, .int .i64 2]) ∧ Below w.heap.size w w') ∨ (N ≤ 4097 ∧ Rs w w' e (V ((List.range N).map ws))) := by
  obtain ⟨i0, hi, hz0, hz1, hz2⟩ := info_parts Tryz.info44
  have HS := Lib.hid (And.intro hseq (And.intro hR (And.intro hws eg)))
  clear hseq hR hws eg
  by_cases hbig : 4097 < N
  · have hb1 : (4096 : Int) < (N : Int) - 1 := by omega
    go_enter Tryz.func76, Tryz.ntmps76
    go_wp2
    go_ret2
    exact .inl ⟨hbig, rfl, Below.refl _ _⟩
  · have hb1 : ¬ (4096 : Int) < (N : Int) - 1 := by omega
    have hb2 : (N : Int) - 1 ≤ (4096 : Int) := by omega
    have hN2 : N ≤ 4097 := by omega
    clear hbig
    refine (callsIn_wide (n := 6)).1 ?_
    refine callsIn_of_wp_marks Tryz.func76 rfl trivial ?_ rfl
    simp only [Tryz.ntmps76, List.size_toArray, List.length_cons, List.length_nil, Nat.reduceAdd, Nat.reduceSub, Array.replicate_succ, Array.replicate_zero, List.push_toArray, List.append_toArray, List.nil_append, List.cons_append]
    gi_wp2_with (gi_at_make; refine wpListIn_make_own _ rfl _ _ 23 rfl w.heap.size 44 i0 (.int .u64 0) 1 Tryz.underlying23 hi hz0 hz1 .i64 .i64 _ N rfl rfl rfl (by rw [hz2]; omega) (by unfold maxLen; omega) (Nat.le_refl _) ?_)
    intro w1 hown hgrow
    have hb0 := below_of_grown hgrow (Nat.le_refl _)
    have hI0 : IGath w w1.heap.size ws 0 (w1.alloc (.cells #[.slice (some ⟨w.heap.size, 0, none⟩) 0 N] 23)) :=
      ⟨_, Boxed.new w1 _ _, hown.alloc _, by have h9 : w.heap.size < w1.heap.size := (hown.lt w.heap.size rfl).2; simp [Value.ownBlock]; omega, by omega, hb0.size, hb0.alloc hb0.size _⟩
    have HI0 := Lib.hid (And.intro hI0 hb0)
    clear hown hgrow hI0 hb0
    gi_wp2
    refine wpIn_roundsG (n := 6) (gf := gf) (lb := lb) rfl HS.out.2.2.2 (encs := fun k => #[.int .u64 (ws k : Int)]) HS.out.1 (fun _ => rfl)
      (IGath w w1.heap.size ws) (IGath_own (by have := HI0.out.2.size; simp; omega)) (fun k A B h hg => IGath_grows k A B h (by rw [World.size_alloc] at hg; exact hg)) (fun k W h => HS.out.2.1 W (by obtain ⟨v, _, _, _, _, _, h6⟩ := h; exact h6)) HI0.out.1
      (fun k => { tmps := #[.func (.func gf) #[] lb, .int .i64 N, undef, undef, .slice none 0 0, .int .i64 0, .pointer (some ⟨w1.heap.size, 0, none⟩), .int .u64 (ws k : Int), .int .i64 N, .int .i64 ((N : Int) - 1), .bool false, .int .i64 N, .slice (some ⟨w.heap.size, 0, none⟩) 0 N, .func (.func gf) #[] lb, .int .u64 (ws k : Int), undef, undef, undef, undef, undef, undef, undef, undef], defers := [] }) ?assign ?body ?done
    case assign =>
      intro l k W K hK
      gi_wp2
      exact hK
    case body =>
      rintro l k W ⟨v, h1, h2, h3, h4, h5, h6⟩ hk hgs
      rw [World.size_alloc] at hgs
      have c1 := h1.cell
      have hx := HS.out.2.2.1 k
      generalize hw : ws k = x at *
      have Hw := Lib.hid hw
      have H1 := Lib.hid (And.intro h1 (And.intro h2 (And.intro h3 (And.intro h5 (And.intro h6 hx)))))
      clear hw h1 h3 h4 h6 hx
      have hWs := H1.out.1.lt
      gi_wp2_with (gi_at_builtin; refine wpListIn_append_own_at _ rfl (.tmp 15) (.tmp 17) 23 rfl w.heap.size 44 i0 (.int .u64 0) 1 8 Tryz.underlying23 hi hz0 hz1 hz2 rfl (by omega) v k _ rfl (h2.alloc _) ⟨W.heap.size, 0, none⟩ 1 1 [.int .u64 (x : Int)] rfl rfl (World.news_of_block (cs := #[.int .u64 (x : Int)]) (t := 44) (fr := (0, 0)) (heap_alloc_new W _)) (by simp [Value.oneCell']) (by unfold maxLen; omega) (by omega) (by simp; omega) ?_)
      intro v' W2 hown2 hgrow2 hnil2 hblk2
      have hne : 23 ≠ 44 := by decide
      obtain ⟨b1, b2, b3, b4, b5⟩ := H1.out.1.appended hne H1.out.2.1 H1.out.2.2.2.2.1.size H1.out.2.2.2.1 hown2 hgrow2
      have c2 := b1.cell
      have f2 := b1.frozen
      have HP : Hid (KeepsFrom (w1.heap.size + 1) W (W2.setCell ⟨w1.heap.size, 0, none⟩ v') ∧ IGath w w1.heap.size ws (k + 1) (W2.setCell ⟨w1.heap.size, 0, none⟩ v') ∧ (W2.setCell ⟨w1.heap.size, 0, none⟩ v').heap[w1.heap.size + 3]? = W.heap[w1.heap.size + 3]?) := by
        refine ⟨b4.from _, ⟨v', b2, ?_, ?_, by omega, H1.out.2.2.2.1, H1.out.2.2.2.2.1.trans b5⟩, ?_⟩
        · rw [List.range_succ, List.map_append, uvs_append, List.map_singleton, Hw.out]
          exact b3
        · rcases hblk2 with e | e
          · rw [e]; exact H1.out.2.2.1
          · rw [e]; simp; omega
        · rw [Below.heap_setCell _ _ _ _ (by simp), hgrow2.block _ (by simp; omega) (H1.out.2.2.1 ∘ Eq.symm)]
          exact Below.heap_alloc W _ _ (by omega)
      obtain ⟨A', c', rfl, _⟩ := own_form hown2
      clear b1 b2 b3 b4 b5 hown2 hgrow2 hblk2 hnil2 h2 H1
      gi_wp2
      exact HP.out
    case done =>
      rintro D W hD ⟨v, h1, h2, h3, h4, h5, h6⟩ hcol
      have c1 := h1.cell
      obtain ⟨A, c, rfl, _⟩ := own_form h2
      have hnw : Nw w W (.slice A N c) N ((List.range N).map ws) := ⟨by simp, fun x hx => by
        obtain ⟨j, _, rfl⟩ := List.mem_map.1 hx
        exact HS.out.2.2.1 j, h2⟩
      have Hf := Lib.hid (And.intro hnw h6)
      clear h1 h2 h3 h4 h5 h6 hnw
      gi_wp2_with (refine ⟨trivial, ?_⟩; gi_at_call 95; refine (callsIn_wide.2 (result_ok w A N c _ W (by omega) Hf.out.1)).mono ?_)
      rintro e W' ⟨(⟨v2, rfl, hN3, hlt⟩ | ⟨rfl, hbg⟩), rfl⟩
      · have HV := Lib.hid (And.intro hN3 hlt)
        clear hN3 hlt
        gi_wp2
        refine leaves_marked2 (F := Fence.wide) (n := 6) (fn := Tryz.f76) rfl hcol ?_
        exact .inr ⟨hN2, .inl ⟨v2, rfl, HV.out.1.put hcol, HV.out.2⟩, below_putObj Hf.out.2 (by have := HI0.out.2.size; simp at hD; omega) _⟩
      · have HV := Lib.hid hbg
        clear hbg
        gi_wp2
        refine leaves_marked2 (F := Fence.wide) (n := 6) (fn := Tryz.f76) rfl hcol ?_
        exact .inr ⟨hN2, .inr ⟨rfl, HV.out⟩, below_putObj Hf.out.2 (by have := HI0.out.2.size; simp at hD; omega) _⟩
end Go.Proofs.YthpgdpkemnhneaaGreatDoor

namespace Go.Proofs.YthpgdpkemnhneaaGreatDoor
open Go.RowKit
set_option linter.unusedVariables false

theorem Wide_ok (a b : Nat) (ha : a < B64) (hb : b < B64) : ∃ h l : Nat, (a * b = h * B64 + l ∧ l < B64) ∧
    ∀ w, Calls Tryz.prog 105 #[.int .u64 a, .int .u64 b] w fun e w' => e = .returned (.tuple #[.int .u64 (h : Int), .int .u64 (l : Int)]) ∧ Below w.heap.size w w' := by
  obtain ⟨h, l, hf, hcall⟩ := times_any a b ha hb
  refine ⟨h, l, ⟨hf.1, hf.2.1⟩, fun w => ?_⟩
  have Hc := Lib.hid hcall
  clear hf hcall ha hb
  go_enter Tryz.func105, Tryz.ntmps105
  go_wp2_with (fail)
  refine (Hc.out _).mono ?_
  rintro e w1 ⟨rfl, hb⟩
  go_wp2_with (fail)
  go_quiet (fail)
  go_wp2
  exact bodyPost_ret (v := .tuple #[.int .u64 (h : Int), .int .u64 (l : Int)]) (by simp [results, Tryz.results105, go_sem]) rfl ⟨rfl, below_drewN (hb.alloc hb.size _) _⟩
end Go.Proofs.YthpgdpkemnhneaaGreatDoor

namespace Go.Proofs.YthpgdpkemnhneaaGreatDoor
open Go.RowKit
set_option linter.unusedVariables false
set_option maxRecDepth 10000

/-- the value of a column -/
def cv (l m h : Nat) : Nat := l + B64 * (m + B64 * h)
/-- how great a column may be -/
def B3 : Nat := B64 * (B64 * B64)
abbrev colV (l m h : Nat) : Value := .agg #[.int .u64 (l : Int), .int .u64 (m : Int), .int .u64 (h : Int)]

theorem cv_high {l m h : Nat} (hs : cv l m h < B3) : h < B64 := by
  unfold cv B3 at hs
  rcases Nat.lt_or_ge h B64 with h1 | h1
  · exact h1
  · have h2 : B64 * B64 ≤ B64 * h := Nat.mul_le_mul_left _ h1
    have h3 : B64 * (B64 * B64) ≤ B64 * (m + B64 * h) := Nat.mul_le_mul_left _ (by omega)
    omega
theorem col_sum {l m h l' m' h' s0 d0 s1 d1 : Nat} (e0 : l + l' = s0 + d0 * B64) (e1 : m + m' + d0 = s1 + d1 * B64) : cv l m h + cv l' m' h' = cv s0 s1 (h + (h' + d1)) := by
  unfold cv
  generalize B64 = b at *
  grind
theorem wide_cv {a b h l : Nat} (e : a * b = h * B64 + l) : cv l h 0 = a * b := by
  rw [e]
  unfold cv
  rw [Nat.mul_zero, Nat.add_zero, Nat.mul_comm]
  omega
theorem next_cv (l m h : Nat) (hl : l < B64) : cv m h 0 = cv l m h / B64 ∧ l = cv l m h % B64 := by
  unfold cv
  rw [Nat.mul_zero, Nat.add_zero]
  constructor
  · rw [Nat.add_mul_div_left _ _ B64_pos, Nat.div_eq_of_lt hl, Nat.zero_add]
  · rw [Nat.add_mul_mod_self_left, Nat.mod_eq_of_lt hl]

/-- block g holds a column, and may be written -/
def C3 (w : World) (g : Nat) (l m h : Nat) : Prop :=
  w.cell? ⟨g, 0, none⟩ = some (.int .u64 (l : Int)) ∧ w.cell? ⟨g, 1, none⟩ = some (.int .u64 (m : Int)) ∧ w.cell? ⟨g, 2, none⟩ = some (.int .u64 (h : Int)) ∧
  w.frozen? ⟨g, 0, none⟩ = false ∧ w.frozen? ⟨g, 1, none⟩ = false ∧ w.frozen? ⟨g, 2, none⟩ = false
section
variable {w w' : World} {g l m h : Nat}
theorem C3.lt (k : C3 w g l m h) : g < w.heap.size := World.block_lt_of_cell? w (a := ⟨g, 0, none⟩) k.1
theorem C3.block (k : C3 w g l m h) (hb : w'.heap[g]? = w.heap[g]?) : C3 w' g l m h :=
  ⟨(World.cell?_of_block (a := ⟨g, 0, none⟩) hb).trans k.1, (World.cell?_of_block (a := ⟨g, 1, none⟩) hb).trans k.2.1, (World.cell?_of_block (a := ⟨g, 2, none⟩) hb).trans k.2.2.1,
    (World.frozen?_of_block (a := ⟨g, 0, none⟩) hb).trans k.2.2.2.1, (World.frozen?_of_block (a := ⟨g, 1, none⟩) hb).trans k.2.2.2.2.1, (World.frozen?_of_block (a := ⟨g, 2, none⟩) hb).trans k.2.2.2.2.2⟩
theorem C3.below {B : Nat} (k : C3 w g l m h) (hb : Below B w w') (hg : g < B) : C3 w' g l m h := k.block (hb.block g hg)
theorem C3.new (w : World) (l m h : Nat) (t : TypeId) : C3 (w.alloc (.cells #[.int .u64 (l : Int), .int .u64 (m : Int), .int .u64 (h : Int)] t)) w.heap.size l m h := ⟨by simp, by simp, by simp, by simp, by simp, by simp⟩
theorem C3.alloc (k : C3 w g l m h) (o : Obj) : C3 (w.alloc o) g l m h := k.block (Below.heap_alloc w o g k.lt)
theorem C3.drewN (k : C3 w g l m h) (n : Nat) : C3 (w.drewN n) g l m h := k
/-- three stores -/
abbrev set3 (w : World) (g l m h : Nat) : World := ((w.setCell ⟨g, 0, none⟩ (.int .u64 (l : Int))).setCell ⟨g, 1, none⟩ (.int .u64 (m : Int))).setCell ⟨g, 2, none⟩ (.int .u64 (h : Int))
theorem C3.set (k : C3 w g l m h) (l' m' h' : Nat) : C3 (set3 w g l' m' h') g l' m' h' := by
  obtain ⟨c0, c1, c2, f0, f1, f2⟩ := k
  refine ⟨?_, ?_, ?_, by simp [set3, World.frozen?_setCell, f0], by simp [set3, World.frozen?_setCell, f1], by simp [set3, World.frozen?_setCell, f2]⟩
  · rw [set3, World.cell?_setCell_other _ _ _ _ (by simp), World.cell?_setCell_other _ _ _ _ (by simp), World.cell?_setCell_same' _ _ _ (by rw [c0]; rfl)]
  · rw [set3, World.cell?_setCell_other _ _ _ _ (by simp), World.cell?_setCell_same' _ _ _ (by rw [World.cell?_setCell_other _ _ _ _ (by simp), c1]; rfl)]
  · rw [set3, World.cell?_setCell_same' _ _ _ (by rw [World.cell?_setCell_other _ _ _ _ (by simp), World.cell?_setCell_other _ _ _ _ (by simp), c2]; rfl)]
theorem grown_set3 (w : World) (g l m h : Nat) : w.grownBy (set3 w g l m h) (some g) :=
  grown_trans (grown_trans (grown_set w g 0 _) (grown_set _ g 1 _)) (grown_set _ g 2 _)
theorem below_set3 {B : Nat} {w W : World} (hb : Below B w W) {g : Nat} (hg : B ≤ g) (l m h : Nat) : Below B w (set3 W g l m h) :=
  ((hb.setCell (p := ⟨g, 0, none⟩) hg _).setCell (p := ⟨g, 1, none⟩) hg _).setCell (p := ⟨g, 2, none⟩) hg _
end

set_option maxHeartbeats 1000000 in
theorem colplus_any (l m h l' m' h' : Nat) (hl : l < B64) (hm : m < B64) (hl' : l' < B64) (hm' : m' < B64) (hs : cv l m h + cv l' m' h' < B3) : ∃ l2 m2 h2 : Nat, (cv l2 m2 h2 = cv l m h + cv l' m' h' ∧ l2 < B64 ∧ m2 < B64 ∧ h2 < B64) ∧
    ∀ w, Calls Tryz.prog 98 #[colV l m h, colV l' m' h'] w fun e w' => e = .returned (colV l2 m2 h2) ∧ Below w.heap.size w w' := by
  obtain ⟨s0, d0, hf0, hc0⟩ := add64_zero l l' hl hl'
  obtain ⟨s1, d1, hf1, hc1⟩ := add64_any m m' d0 hm hm' hf0.2.2
  have hsum := col_sum (h := h) (h' := h') hf0.1 hf1.1
  rw [hsum] at hs
  have hlt := cv_high hs
  have h1 : (h' : Int) + (d1 : Int) = ((h' + d1 : Nat) : Int) := by omega
  have h2 : (h : Int) + ((h' + d1 : Nat) : Int) = ((h + (h' + d1) : Nat) : Int) := by omega
  obtain ⟨k1, hk1⟩ : ∃ k1, k1 = h' + d1 := ⟨_, rfl⟩
  obtain ⟨k2, hk2⟩ : ∃ k2, k2 = h + (h' + d1) := ⟨_, rfl⟩
  rw [← hk2] at hsum hlt h2
  rw [← hk1] at h1 h2
  have hw1 : IntKind.u64.wrap (k1 : Int) = (k1 : Int) := by rw [IntKind.wrap_u64]; have : B64 = 18446744073709551616 := rfl; omega
  have hw2 : IntKind.u64.wrap (k2 : Int) = (k2 : Int) := by rw [IntKind.wrap_u64]; have : B64 = 18446744073709551616 := rfl; omega
  refine ⟨s0, s1, k2, ⟨hsum.symm, hf0.2.1, hf1.2.1, hlt⟩, fun w => ?_⟩
  clear hsum hs hlt hk1 hk2 hf0 hf1 hl hm hl' hm'
  go_enter Tryz.func98, Tryz.ntmps98
  go_wp2
  exact bodyPost_ret (v := colV s0 s1 k2) (by simp [results, Tryz.results98, go_sem]) rfl ⟨rfl, (((Below.refl _ _).alloc (Nat.le_refl _) _).alloc (by simp) _).alloc (by simp; omega) _⟩

set_option maxHeartbeats 1000000 in
theorem wide_any (a b : Nat) (ha : a < B64) (hb : b < B64) : ∃ l m : Nat, (cv l m 0 = a * b ∧ l < B64 ∧ m < B64) ∧
    ∀ w, Calls Tryz.prog 99 #[.int .u64 a, .int .u64 b] w fun e w' => e = .returned (colV l m 0) ∧ Below w.heap.size w w' := by
  obtain ⟨h, l, hf, hc⟩ := Wide_ok a b ha hb
  have hh : h < B64 := high_lt B64 h l (by rw [← hf.1]; have := Nat.mul_lt_mul'' ha hb; exact this)
  refine ⟨l, h, ⟨wide_cv hf.1, hf.2, hh⟩, fun w => ?_⟩
  have Hc := Lib.hid hc
  clear hc hf hh ha hb
  go_enter Tryz.func99, Tryz.ntmps99
  go_wp2_with (fail)
  refine (Hc.out _).mono ?_
  rintro e w1 ⟨rfl, hb1⟩
  have hb2 : Below w.heap.size w w1 := ((Below.refl _ w).alloc (Nat.le_refl _) _).trans (hb1.mono (by simp))
  obtain ⟨c0, c1, c2, f0, f1, f2⟩ := (C3.new w 0 0 0 130).below hb1 (by simp)
  have H := Lib.hid hb2
  have e0 : (w1.setCell ⟨w.heap.size, 0, none⟩ (.int .u64 (l : Int))).cell? ⟨w.heap.size, 0, none⟩ = some (.int .u64 (l : Int)) := World.cell?_setCell_same' _ _ _ (by rw [c0]; rfl)
  have e1 : ((w1.setCell ⟨w.heap.size, 0, none⟩ (.int .u64 (l : Int))).setCell ⟨w.heap.size, 1, none⟩ (.int .u64 (h : Int))).cell? ⟨w.heap.size, 1, none⟩ = some (.int .u64 (h : Int)) := World.cell?_setCell_same' _ _ _ (by rw [World.cell?_setCell_other _ _ _ _ (by simp), c1]; rfl)
  have e2 : (((w1.setCell ⟨w.heap.size, 0, none⟩ (.int .u64 (l : Int))).setCell ⟨w.heap.size, 1, none⟩ (.int .u64 (h : Int))).setCell ⟨w.heap.size, 2, none⟩ (.int .u64 0)).cell? ⟨w.heap.size, 2, none⟩ = some (.int .u64 0) := World.cell?_setCell_same' _ _ _ (by rw [World.cell?_setCell_other _ _ _ _ (by simp), World.cell?_setCell_other _ _ _ _ (by simp), c2]; rfl)
  clear hb1 hb2
  go_wp2
  exact bodyPost_ret (v := colV l h 0) (by simp [results, Tryz.results99, go_sem, e0, e1, e2]) rfl ⟨rfl, below_set3 H.out (Nat.le_refl _) _ _ _⟩

set_option maxHeartbeats 400000 in
theorem next_any (l m h : Nat) (w : World) :
    Calls Tryz.prog 100 #[colV l m h] w fun e w' => e = .returned (colV m h 0) ∧ Below w.heap.size w w' := by
  go_enter Tryz.func100, Tryz.ntmps100
  go_wp2
  exact bodyPost_ret (v := colV m h 0) (by simp [results, Tryz.results100, go_sem]) rfl ⟨rfl, ((Below.refl _ _).alloc (Nat.le_refl _) _).alloc (by simp) _⟩
end Go.Proofs.YthpgdpkemnhneaaGreatDoor

namespace Go.Proofs.YthpgdpkemnhneaaGreatDoor
open Go.RowKit
set_option linter.unusedVariables false

section
variable {P : Program} {ops : Array Oper} {Q : Exit → Act → World → Prop} {md : Region.Mode} {S : World → Prop} {z : Nat}

/-- Whatever order is picked from here on, and S holds behind every operation that is carried out ahead of z. -/
def wpAnyL (P : Program) (md : Region.Mode) (ops : Array Oper) (Q : Exit → Act → World → Prop) (S : World → Prop) (z : Nat) : Nat → Array Bool → Act → World → Prop
  | 0, listed, a, w => Region.ready md ops listed = [] ∧ Q .normal a w
  | fuel + 1, listed, a, w =>
    (Region.ready md ops listed = [] → Q .normal a w) ∧
    ∀ i ∈ Region.ready md ops listed, wpOp P ops Q i (fun a' w' => (i ≠ z → S w') ∧ wpAnyL P md ops Q S z fuel (listed.setIfInBounds i true) a' w') a w

theorem wpAny_of_L : ∀ (fuel : Nat) (listed : Array Bool) (a : Act) (w : World), wpAnyL P md ops Q S z fuel listed a w → wpAny P md ops Q fuel listed a w
  | 0, _, _, _, h => h
  | fuel + 1, _, _, _, h => ⟨h.1, fun i hi => wpOp_mono (fun a' w' h' => wpAny_of_L fuel _ a' w' h'.2) (h.2 i hi)⟩

theorem wpAnyL_first {i : Nat} {oi oz : Oper} {v : Value} (hi : ops[i]? = some oi) (hz : ops[z]? = some oz) (hdep : ∃ e ∈ oz.after, Region.binds md e = true ∧ e.on = i) (hzi : z ≠ i)
    (hsel : ∀ (j : Nat) (o : Oper) cs b, ops[j]? = some o → o.op ≠ .select cs b) (hQ : ∀ c a w, Q (.panic c) (a.put oi.dst v) w → Q (.panic c) a w) :
    ∀ (fuel : Nat) (listed : Array Bool) (a : Act) (w : World),
      (∀ j oj, ops[j]? = some oj → j ≠ i → listed.getD j true = false → (∀ e ∈ oj.after, Region.binds md e = true → e.on ≠ i) → oi.apart ops oj = true) →
      i ∈ Region.ready md ops listed → YieldsIf P ops S oi v a → S w →
      wpAnyL P md ops Q S z fuel (listed.setIfInBounds i true) (a.put oi.dst v) w → wpAnyL P md ops Q S z (fuel + 1) listed a w := by
  intro fuel
  induction fuel with
  | zero =>
    intro listed a w _ hr hy hS H
    refine ⟨fun h => (by rw [h] at hr; cases hr), fun j hj => ?_⟩
    by_cases hji : j = i
    · subst hji; exact hy.wpOp hi hS ⟨fun _ => hS, H⟩
    · have := ready_mono hj hji
      rw [H.1] at this
      cases this
  | succ fuel ih =>
    intro listed a w hfree hr hy hS H
    refine ⟨fun h => (by rw [h] at hr; cases hr), fun j hj => ?_⟩
    by_cases hji : j = i
    · subst hji; exact hy.wpOp hi hS ⟨fun _ => hS, H⟩
    · have h1 := H.2 j (ready_mono hj hji)
      obtain ⟨hjun, oj, hoj, hall⟩ := mem_ready.1 hj
      have hnot : ∀ e ∈ oj.after, Region.binds md e = true → e.on ≠ i := fun e he hb heq => by
        have h1 := hall e he hb
        have h0 := (mem_ready.1 hr).1
        rw [heq] at h1
        rcases Nat.lt_or_ge i listed.size with h' | h'
        · simp [h'] at h0 h1; rw [h0] at h1; cases h1
        · simp [Array.getElem?_eq_none h'] at h1
      have hjz : j ≠ z := fun e => by
        subst e
        rw [hz] at hoj
        cases hoj
        obtain ⟨e', he', hb', ho'⟩ := hdep
        exact hnot e' he' hb' ho'
      have h2 := wpOp_putIf hoj (hfree j oj hoj hji hjun hnot) (fun cs b => hsel i oi cs b hi) (fun cs b => hsel j oj cs b hoj) hQ hy h1
      have hfree' : ∀ k ok, ops[k]? = some ok → k ≠ i → (listed.setIfInBounds j true).getD k true = false →
          (∀ e ∈ ok.after, Region.binds md e = true → e.on ≠ i) → oi.apart ops ok = true := fun k ok hk hki hun hno => by
        refine hfree k ok hk hki ?_ hno
        by_cases hjk : j = k
        · subst hjk; exact hjun
        · rw [getD_set_ne true hjk] at hun; exact hun
      refine wpOp_mono (fun a' w' h3 => ⟨fun hz' => h3.2.1 hz', ih (listed.setIfInBounds j true) a' w' hfree' (ready_mono hr (Ne.symm hji)) h3.1 (h3.2.1 hjz) ?_⟩) h2
      rw [Array.setIfInBounds_comm _ _ hji]
      exact h3.2.2

/-- Take number i first. -/
theorem wpAnyL_take {i : Nat} {oi oz : Oper} {v : Value} {fuel : Nat} {listed : Array Bool} {a : Act} {w : World} (hi : ops[i]? = some oi) (hz : ops[z]? = some oz)
    (hdep : (oz.after.toList.any fun e => Region.binds md e && (e.on == i)) = true) (hzi : (z == i) = false)
    (hs : Region.noSelect ops = true) (hf : Region.free md ops listed i = true) (hr : (Region.ready md ops listed).contains i = true)
    (hQ : ∀ c a w, Q (.panic c) (a.put oi.dst v) w → Q (.panic c) a w) (hS : S w) (hy : YieldsIf P ops S oi v a)
    (h : wpAnyL P md ops Q S z fuel (listed.setIfInBounds i true) (a.put oi.dst v) w) : wpAnyL P md ops Q S z (fuel + 1) listed a w := by
  obtain ⟨e, he, h1⟩ := List.any_eq_true.1 hdep
  rw [Bool.and_eq_true] at h1
  exact wpAnyL_first hi hz ⟨e, by simpa using he, h1.1, by simpa using h1.2⟩ (by simpa using hzi) (Region.noSelect_spec hs) hQ fuel listed a w (Region.free_spec hi hf) (by simpa using hr) hy hS h

/-- One alone may come up. -/
theorem wpAnyL_one {i : Nat} {o : Oper} {fuel : Nat} {listed : Array Bool} {a : Act} {w : World} (ho : ops[i]? = some o) (hr : Region.ready md ops listed = [i])
    (h : ∀ K' : Act → World → Prop, Shut (∀ a w, (i ≠ z → S w) → wpAnyL P md ops Q S z fuel (listed.setIfInBounds i true) a w → K' a w) → if Region.wanted o (yielded ops a.tmps) = true then Oper.wp P o a w K' Q else K' (a.put o.dst undef) w) :
    wpAnyL P md ops Q S z (fuel + 1) listed a w := by
  refine ⟨fun h0 => (by rw [hr] at h0; cases h0), fun j hj => ?_⟩
  rw [hr, List.mem_singleton] at hj
  subst hj
  exact wpOp_step ho (fun K' hK => h K' (fun a w hS hW => hK a w ⟨hS, hW⟩))
theorem wpAnyL_done {listed : Array Bool} {a : Act} {w : World} (hr : Region.ready md ops listed = []) (h : Q .normal a w) :
    ∀ fuel, wpAnyL P md ops Q S z fuel listed a w
  | 0 => ⟨hr, h⟩
  | _ + 1 => ⟨fun _ => h, by rw [hr]; simp⟩
theorem wp_region_L {id : Nat} {a : Act} {w : World} (z : Nat) (S : World → Prop) (hm : P.follows .mixedOrders = true)
    (h : wpAnyL P .any ops Q S z ops.size (Array.replicate ops.size false) a w.drew) : (Code.region id ops true).wp P Q a w :=
  wp_region_any hm (wpAny_of_L _ _ _ _ h)
end
end Go.Proofs.YthpgdpkemnhneaaGreatDoor

namespace Go.Proofs.YthpgdpkemnhneaaGreatDoor
open Go.RowKit Go.Shelf
set_option linter.unusedVariables false
set_option linter.unusedSimpArgs false
set_option maxRecDepth 10000
attribute [local go_sem] Oper.semAt_some

theorem col_room {xs ys : List Nat} (hx : Ws xs) (hy : Ws ys) (hn : xs.length ≤ 4096) (k i : Nat) (hi : i ≤ xs.length) : cry (fun k => pc xs ys k xs.length) k + pc xs ys k i < B3 := by
  have h1 : ∀ k, pc xs ys k xs.length ≤ 4096 * (B64 * B64) := fun k => Nat.le_trans (pc_le xs ys hx hy k xs.length) (Nat.mul_le_mul_right _ hn)
  have h2 := cry_le (fun k => pc xs ys k xs.length) 4096 h1 k
  have h3 := Nat.le_trans (pc_le xs ys hx hy k i) (Nat.mul_le_mul_right _ (Nat.le_trans hi hn))
  have h4 : 2 * 4096 * B64 + 4096 * (B64 * B64) < B3 := by decide
  omega
theorem pc_step {xs ys : List Nat} {k i x y : Nat} (hik : i ≤ k) (hx : xs[i]? = some x) (hy : ys[k - i]? = some y) : pc xs ys k (i + 1) = pc xs ys k i + x * y := by
  rw [pc, if_pos hik, List.getD_eq_getElem?_getD, List.getD_eq_getElem?_getD, hx, hy]
  rfl
theorem pc_end {xs ys : List Nat} {k i : Nat} (h : xs.length = i ∨ k < i) (hi : i ≤ xs.length) : pc xs ys k xs.length = pc xs ys k i := by
  rcases h with h | h
  · rw [h]
  · exact pc_beyond xs ys k h hi

/-- what the iterator of a product reads -/
def RPW (B0 px py : Nat) (A A' : Option Addr) (n m c c' : Nat) (xs ys : List Nat) (W : World) : Prop := Cap W B0 px A n c xs ∧ Cap W B0 py A' m c' ys ∧ B0 ≤ W.heap.size ∧ px < B0 ∧ py < B0
theorem cell_set3 {w : World} {g l m h : Nat} {p : Addr} (hp : p.block ≠ g) : (set3 w g l m h).cell? p = w.cell? p := by
  rw [set3, World.cell?_setCell_other _ _ _ _ (fun e => hp (by rw [← e])), World.cell?_setCell_other _ _ _ _ (fun e => hp (by rw [← e])), World.cell?_setCell_other _ _ _ _ (fun e => hp (by rw [← e]))]

set_option maxHeartbeats 4000000 in
theorem prod_rounds (B0 px py : Nat) (A A' : Option Addr) (n m c c' : Nat) (xs ys : List Nat) (hn : n ≤ 4096) (hm : m ≤ 4096) (hl : xs.length = n) :
    RoundsG 5 Tryz.prog 104 #[.pointer (some ⟨px, 0, none⟩), .pointer (some ⟨py, 0, none⟩)] (fun k => #[.int .u64 (wrd (fun k => pc xs ys k xs.length) k : Int)]) (n + m) (RPW B0 px py A A' n m c c' xs ys) := by
  intro l J W hJg hR hY h0
  refine callsIn_of_wp Tryz.func104 rfl trivial ?_ rfl
  simp only [Tryz.ntmps104, List.size_toArray, List.length_cons, List.length_nil, Nat.reduceAdd, Nat.reduceSub, Array.replicate_succ, Array.replicate_zero, List.push_toArray, List.append_toArray, List.nil_append, List.cons_append]
  obtain ⟨hX, hYy, hB0, hp1, hp2⟩ := hR 0 W h0
  have c1 := hX.1.1
  have c2 := hYy.1.1
  have l1 := hX.1.lt
  have l2 := hYy.1.lt
  have hJ1 : J 0 (W.alloc (.cells #[.int .u64 0, .int .u64 0, .int .u64 0] 130)) := hJg 0 _ _ h0 (World.grownBy_alloc W _ _)
  have hC1 : C3 (W.alloc (.cells #[.int .u64 0, .int .u64 0, .int .u64 0] 130)) W.heap.size 0 0 0 := C3.new W 0 0 0 _
  obtain ⟨N, hN, hN2⟩ : ∃ N : Nat, (n : Int) + (m : Int) = (N : Int) ∧ N = n + m := ⟨n + m, by omega, rfl⟩
  rw [← hN2] at hY ⊢
  have hN3 : N ≤ 8192 := by omega
  have HN := Lib.hid hN2
  clear hN2
  have HJ := Lib.hid (And.intro hJ1 hC1)
  have HA := Lib.hid (And.intro hJg (And.intro hR hY))
  clear hX hYy hJ1 hC1 hJg hR hY h0
  gi_wp2
  generalize W.heap.size = g at *
  gi_loopw [12] (fun kv wr => ∃ k : Nat, k ≤ N ∧ kv = .int .i64 k ∧ ∃ a b d, Hid (J k wr ∧ C3 wr g a b d ∧ cv a b d = cry (fun k => pc xs ys k xs.length) k ∧ a < B64 ∧ b < B64)) (fun kv _ => N - (intOf kv).toNat)
  case atStart => exact ⟨0, by omega, rfl, 0, 0, 0, HJ.out.1, HJ.out.2, rfl, by decide, by decide⟩
  case round =>
    clear HJ
    obtain ⟨k, hk, rfl, a, b, d, hH⟩ := hrel
    by_cases hlt : k < N
    · obtain ⟨hX, hYy, hB1, _, _⟩ := HA.out.2.1 k wr hH.out.1
      have c1 := hX.1.1
      have c2 := hYy.1.1
      obtain ⟨wo, hwo⟩ : ∃ wo : World, wo = wr := ⟨_, rfl⟩
      have hki : (k : Int) < (N : Int) := by omega
      obtain ⟨i0, hi0, hi1⟩ : ∃ i0 : Nat, (i0 = 0 ∧ k + 1 ≤ m ∨ k + 1 = i0 + m ∧ m ≤ k) ∧ True := by
        rcases Nat.lt_or_ge k m with h | h
        · exact ⟨0, .inl ⟨rfl, by omega⟩, trivial⟩
        · exact ⟨k + 1 - m, .inr ⟨by omega, h⟩, trivial⟩
      have hz0 : pc xs ys k i0 = 0 := by
        rcases hi0 with ⟨rfl, _⟩ | ⟨h, _⟩
        · rfl
        · exact pc_low xs ys k i0 (by rw [hYy.2.1]; omega)
      have HS : Hid (wo.grownBy wr (some g) ∧ C3 wr g a b d ∧ cv a b d = cry (fun k => pc xs ys k xs.length) k + pc xs ys k i0 ∧ a < B64 ∧ b < B64 ∧ J k wo) :=
        ⟨by rw [hwo]; exact World.grownBy.refl wr _, hH.out.2.1, by rw [hz0]; exact hH.out.2.2.1, hH.out.2.2.2.1, hH.out.2.2.2.2, by rw [hwo]; exact hH.out.1⟩
      clear hX hYy hB1 hH hi1 hz0
      have HL := Lib.hid (show k < i0 + m ∧ i0 ≤ k + 1 by omega)
      have hcase : (¬ (0 : Int) < (k : Int) - m + 1 ∧ i0 = 0) ∨ ((0 : Int) < (k : Int) - m + 1 ∧ (k : Int) - m + 1 = (i0 : Int)) := by omega
      have HI := Lib.hid (show i0 ≤ n by have := HN.out; omega)
      clear hi0
      rcases hcase with ⟨hcm, rfl⟩ | ⟨hcm, hcm2⟩
      all_goals
        gi_wp2
        gi_loopw [6] (fun iv wi => ∃ i : Nat, i ≤ n ∧ i ≤ k + 1 ∧ iv = .int .i64 i ∧ ∃ a b d, Hid (k < i + m ∧ wo.grownBy wi (some g) ∧ C3 wi g a b d ∧ cv a b d = cry (fun k => pc xs ys k xs.length) k + pc xs ys k i ∧ a < B64 ∧ b < B64 ∧ J k wo)) (fun iv _ => n - (intOf iv).toNat)
        case atStart => exact ⟨_, HI.out, HL.out.2, rfl, a, b, d, HL.out.1, HS.out⟩
        case round =>
          clear HS HL HI
          obtain ⟨i, hin, hik, rfl, a, b, d, hH⟩ := hrel
          have hJi := HA.out.1 k _ _ hH.out.2.2.2.2.2.2 hH.out.2.1
          obtain ⟨hX, hYy, hB2, _, _⟩ := HA.out.2.1 k wr hJi
          have c1 := hX.1.1
          have c2 := hYy.1.1
          by_cases hcond : i < n ∧ i ≤ k
          · obtain ⟨x, bx, ox, rfl, hbx, hx, _, hgx, hcx⟩ := hX.at2 hcond.1
            obtain ⟨j, hj, hj2⟩ : ∃ j : Nat, (k : Int) - (i : Int) = (j : Int) ∧ j = k - i := ⟨k - i, by omega, rfl⟩
            obtain ⟨y, bby, oy, rfl, hby, hy, _, hgy, hcy⟩ := hYy.at2 (show j < m by have := hH.out.1; omega)
            have hst := pc_step hcond.2 hgx (by rw [← hj2]; exact hgy)
            obtain ⟨l1, m1, ⟨e1, e2, e3⟩, hw⟩ := wide_any x y hx hy
            have hroom := col_room hX.2.2.1 hYy.2.2.1 (by rw [hl]; exact hn) k (i + 1) (by rw [hl]; exact hcond.1)
            obtain ⟨a2, b2, d2, ⟨e4, e5, e6, e7⟩, hp⟩ := colplus_any a b d l1 m1 0 hH.out.2.2.2.2.1 hH.out.2.2.2.2.2.1 e2 e3 (by rw [e1, hH.out.2.2.2.1, Nat.add_assoc, ← hst]; exact hroom)
            rw [e1, hH.out.2.2.2.1, Nat.add_assoc, ← hst] at e4
            have Hw := Lib.hid hw
            have Hp := Lib.hid hp
            have HE := Lib.hid (And.intro e4 (And.intro e5 e6))
            have hi1 : (i : Int) < n := by omega
            have hi2 : (i : Int) ≤ k := by omega
            have hj3 : (j : Int) < m := by have := hH.out.1; omega
            have hj4 : IntKind.i64.wrap (j : Int) = (j : Int) := IntWalk.i64_in _ (by omega)
            have hj5 : IntKind.i64.wrap ((k : Int) - (i : Int)) = (j : Int) := by rw [hj]; exact hj4
            obtain ⟨s0, s1, s2, f0, f1, f2⟩ := hH.out.2.2.1
            have lg := hH.out.2.2.1.lt
            have lx := hX.1.lt
            have ly := hYy.1.lt
            have PK := Lib.hid (fun (w' : World) (hb : Below wr.heap.size wr w') => show (w'.cell? ⟨g, 0, none⟩ = some (.int .u64 (a : Int)) ∧ w'.cell? ⟨g, 1, none⟩ = some (.int .u64 (b : Int)) ∧ w'.cell? ⟨g, 2, none⟩ = some (.int .u64 (d : Int)) ∧ w'.cell? ⟨px, 0, none⟩ = some (.slice (some ⟨bx, ox, none⟩) n c) ∧ w'.cell? ⟨py, 0, none⟩ = some (.slice (some ⟨bby, oy, none⟩) m c') ∧ w'.cell? ⟨bx, ox + i, none⟩ = some (.int .u64 (x : Int)) ∧ w'.cell? ⟨bby, oy + j, none⟩ = some (.int .u64 (y : Int))) ∧ w'.frozen? ⟨g, 0, none⟩ = false ∧ w'.frozen? ⟨g, 1, none⟩ = false ∧ w'.frozen? ⟨g, 2, none⟩ = false from
              ⟨⟨(hb.cell (p := ⟨g, 0, none⟩) lg).trans s0, (hb.cell (p := ⟨g, 1, none⟩) lg).trans s1, (hb.cell (p := ⟨g, 2, none⟩) lg).trans s2, (hb.cell (p := ⟨px, 0, none⟩) lx).trans c1, (hb.cell (p := ⟨py, 0, none⟩) ly).trans c2, (hb.cell (p := ⟨bx, ox + i, none⟩) (Nat.lt_of_lt_of_le hbx hB2)).trans hcx, (hb.cell (p := ⟨bby, oy + j, none⟩) (Nat.lt_of_lt_of_le hby hB2)).trans hcy⟩,
                (hb.frozen (p := ⟨g, 0, none⟩) lg).trans f0, (hb.frozen (p := ⟨g, 1, none⟩) lg).trans f1, (hb.frozen (p := ⟨g, 2, none⟩) lg).trans f2⟩)
            clear hX hYy hgx hgy hst e1 e2 e3 hw hroom e4 e5 e6 e7 hp hj2 hx hy
            gi_wp2
            refine wpIn_wide.2 ?_
            have hmix : Tryz.prog.follows Departure.mixedOrders = true := by kernel_rfl
            refine wp_region_L 13 (fun w' => w'.cell? ⟨g, 0, none⟩ = some (.int .u64 (a : Int)) ∧ w'.cell? ⟨g, 1, none⟩ = some (.int .u64 (b : Int)) ∧ w'.cell? ⟨g, 2, none⟩ = some (.int .u64 (d : Int)) ∧ w'.cell? ⟨px, 0, none⟩ = some (.slice (some ⟨bx, ox, none⟩) n c) ∧ w'.cell? ⟨py, 0, none⟩ = some (.slice (some ⟨bby, oy, none⟩) m c') ∧ w'.cell? ⟨bx, ox + i, none⟩ = some (.int .u64 (x : Int)) ∧ w'.cell? ⟨bby, oy + j, none⟩ = some (.int .u64 (y : Int))) hmix ?_
            have HS0 := Lib.hid (show (fun w' : World => w'.cell? ⟨g, 0, none⟩ = some (.int .u64 (a : Int)) ∧ w'.cell? ⟨g, 1, none⟩ = some (.int .u64 (b : Int)) ∧ w'.cell? ⟨g, 2, none⟩ = some (.int .u64 (d : Int)) ∧ w'.cell? ⟨px, 0, none⟩ = some (.slice (some ⟨bx, ox, none⟩) n c) ∧ w'.cell? ⟨py, 0, none⟩ = some (.slice (some ⟨bby, oy, none⟩) m c') ∧ w'.cell? ⟨bx, ox + i, none⟩ = some (.int .u64 (x : Int)) ∧ w'.cell? ⟨bby, oy + j, none⟩ = some (.int .u64 (y : Int))) wr.drew from ⟨s0, s1, s2, c1, c2, hcx, hcy⟩)
            refine wpAnyL_take (i := 0) (v := ?_) rfl rfl (by kernel_rfl) (by kernel_rfl) (by kernel_rfl) (by kernel_rfl) (by kernel_rfl) (fun _ _ _ h => h) HS0.out (Or.inl ⟨by rfl, ?_⟩) ?_
            rotate_left
            · rintro w ⟨q0, q1, q2, q3, q4, q5, q6⟩; go_simp; try with_reducible rfl
            try simp only [Act.put, List.setIfInBounds_toArray, List.set_cons_zero, List.set_cons_succ]
            refine wpAnyL_take (i := 1) (v := ?_) rfl rfl (by kernel_rfl) (by kernel_rfl) (by kernel_rfl) (by kernel_rfl) (by kernel_rfl) (fun _ _ _ h => h) HS0.out (Or.inl ⟨by rfl, ?_⟩) ?_
            rotate_left
            · rintro w ⟨q0, q1, q2, q3, q4, q5, q6⟩; go_simp; try with_reducible rfl
            try simp only [Act.put, List.setIfInBounds_toArray, List.set_cons_zero, List.set_cons_succ]
            refine wpAnyL_take (i := 2) (v := ?_) rfl rfl (by kernel_rfl) (by kernel_rfl) (by kernel_rfl) (by kernel_rfl) (by kernel_rfl) (fun _ _ _ h => h) HS0.out (Or.inl ⟨by rfl, ?_⟩) ?_
            rotate_left
            · rintro w ⟨q0, q1, q2, q3, q4, q5, q6⟩; go_simp; try with_reducible rfl
            try simp only [Act.put, List.setIfInBounds_toArray, List.set_cons_zero, List.set_cons_succ]
            refine wpAnyL_take (i := 3) (v := ?_) rfl rfl (by kernel_rfl) (by kernel_rfl) (by kernel_rfl) (by kernel_rfl) (by kernel_rfl) (fun _ _ _ h => h) HS0.out (Or.inl ⟨by rfl, ?_⟩) ?_
            rotate_left
            · rintro w ⟨q0, q1, q2, q3, q4, q5, q6⟩; go_simp; try with_reducible rfl
            try simp only [Act.put, List.setIfInBounds_toArray, List.set_cons_zero, List.set_cons_succ]
            refine wpAnyL_take (i := 4) (v := ?_) rfl rfl (by kernel_rfl) (by kernel_rfl) (by kernel_rfl) (by kernel_rfl) (by kernel_rfl) (fun _ _ _ h => h) HS0.out (Or.inl ⟨by rfl, ?_⟩) ?_
            rotate_left
            · rintro w ⟨q0, q1, q2, q3, q4, q5, q6⟩; go_simp; try with_reducible rfl
            try simp only [Act.put, List.setIfInBounds_toArray, List.set_cons_zero, List.set_cons_succ]
            refine wpAnyL_take (i := 5) (v := ?_) rfl rfl (by kernel_rfl) (by kernel_rfl) (by kernel_rfl) (by kernel_rfl) (by kernel_rfl) (fun _ _ _ h => h) HS0.out (Or.inl ⟨by rfl, ?_⟩) ?_
            rotate_left
            · rintro w ⟨q0, q1, q2, q3, q4, q5, q6⟩; go_simp; try with_reducible rfl
            try simp only [Act.put, List.setIfInBounds_toArray, List.set_cons_zero, List.set_cons_succ]
            refine wpAnyL_take (i := 6) (v := ?_) rfl rfl (by kernel_rfl) (by kernel_rfl) (by kernel_rfl) (by kernel_rfl) (by kernel_rfl) (fun _ _ _ h => h) HS0.out (Or.inl ⟨by rfl, ?_⟩) ?_
            rotate_left
            · rintro w ⟨q0, q1, q2, q3, q4, q5, q6⟩; go_simp; try with_reducible rfl
            try simp only [Act.put, List.setIfInBounds_toArray, List.set_cons_zero, List.set_cons_succ]
            refine wpAnyL_take (i := 7) (v := ?_) rfl rfl (by kernel_rfl) (by kernel_rfl) (by kernel_rfl) (by kernel_rfl) (by kernel_rfl) (fun _ _ _ h => h) HS0.out (Or.inl ⟨by rfl, ?_⟩) ?_
            rotate_left
            · rintro w ⟨q0, q1, q2, q3, q4, q5, q6⟩; go_simp; try with_reducible rfl
            try simp only [Act.put, List.setIfInBounds_toArray, List.set_cons_zero, List.set_cons_succ]
            refine wpAnyL_take (i := 8) (v := ?_) rfl rfl (by kernel_rfl) (by kernel_rfl) (by kernel_rfl) (by kernel_rfl) (by kernel_rfl) (fun _ _ _ h => h) HS0.out (Or.inl ⟨by rfl, ?_⟩) ?_
            rotate_left
            · rintro w ⟨q0, q1, q2, q3, q4, q5, q6⟩; go_simp; try with_reducible rfl
            try simp only [Act.put, List.setIfInBounds_toArray, List.set_cons_zero, List.set_cons_succ]
            refine wpAnyL_take (i := 9) (v := ?_) rfl rfl (by kernel_rfl) (by kernel_rfl) (by kernel_rfl) (by kernel_rfl) (by kernel_rfl) (fun _ _ _ h => h) HS0.out (Or.inl ⟨by rfl, ?_⟩) ?_
            rotate_left
            · rintro w ⟨q0, q1, q2, q3, q4, q5, q6⟩; go_simp; try with_reducible rfl
            try simp only [Act.put, List.setIfInBounds_toArray, List.set_cons_zero, List.set_cons_succ]
            refine wpAnyL_take (i := 10) (v := ?_) rfl rfl (by kernel_rfl) (by kernel_rfl) (by kernel_rfl) (by kernel_rfl) (by kernel_rfl) (fun _ _ _ h => h) HS0.out (Or.inl ⟨by rfl, ?_⟩) ?_
            rotate_left
            · rintro w ⟨q0, q1, q2, q3, q4, q5, q6⟩; go_simp; try with_reducible rfl
            try simp only [Act.put, List.setIfInBounds_toArray, List.set_cons_zero, List.set_cons_succ]
            refine wpAnyL_one (i := 11) rfl (by kernel_rfl) (fun K hK => ?_)
            go_simp
            refine (Hw.out _).mono ?_
            rintro e w1 ⟨rfl, hb1⟩
            have hB1 := belowA hb1
            obtain ⟨hz, y0, y1, y2⟩ := PK.out w1 hB1
            refine hK.out _ _ (fun _ => hz) ?_
            clear hK K hb1
            try simp only [Act.put, List.setIfInBounds_toArray, List.set_cons_zero, List.set_cons_succ]
            refine wpAnyL_one (i := 12) rfl (by kernel_rfl) (fun K hK => ?_)
            go_simp
            refine (Hp.out _).mono ?_
            rintro e w2 ⟨rfl, hb2⟩
            have hB2' := hB1.trans (hb2.mono hB1.size)
            obtain ⟨hz2, x0, x1, x2⟩ := PK.out w2 hB2'
            obtain ⟨v0, v1, v2, v3, v4, v5, v6⟩ := hz2
            refine hK.out _ _ (fun _ => ⟨v0, v1, v2, v3, v4, v5, v6⟩) ?_
            clear hK K hb2
            try simp only [Act.put, List.setIfInBounds_toArray, List.set_cons_zero, List.set_cons_succ]
            refine wpAnyL_one (i := 13) rfl (by kernel_rfl) (fun K hK => ?_)
            go_simp
            refine hK.out _ _ (fun h => absurd rfl h) ?_
            clear hK K
            try simp only [Act.put, List.setIfInBounds_toArray, List.set_cons_zero, List.set_cons_succ]
            refine wpAnyL_done (by kernel_rfl) ?_ _
            have HNew : Hid (k < (i + 1) + m ∧ wo.grownBy (set3 w2 g a2 b2 d2) (some g) ∧ C3 (set3 w2 g a2 b2 d2) g a2 b2 d2 ∧ cv a2 b2 d2 = cry (fun k => pc xs ys k xs.length) k + pc xs ys k (i + 1) ∧ a2 < B64 ∧ b2 < B64 ∧ J k wo) :=
              ⟨by have := hH.out.1; omega, grown_trans (grown_below hH.out.2.1 (hB2'.mono hH.out.2.1.size)) (grown_set3 _ _ _ _ _), (hH.out.2.2.1.below hB2' lg).set _ _ _, HE.out.1, HE.out.2.1, HE.out.2.2, hH.out.2.2.2.2.2.2⟩
            clear hH PK HE hB1 hB2' s0 s1 s2 f0 f1 f2 HS0
            gi_wp2
            go_roundw
            case rel => exact ⟨i + 1, by omega, by omega, by go_num, a2, b2, d2, HNew⟩
            case measure => simp [intOf]; omega
          · have hfull : pc xs ys k xs.length = pc xs ys k i := pc_end (by rw [hl]; omega) (by rw [hl]; exact hin)
            have hcv : cv a b d = cry (fun k => pc xs ys k xs.length) k + (fun k => pc xs ys k xs.length) k := by rw [hH.out.2.2.2.1, ← hfull]
            have hnx := next_cv a b d hH.out.2.2.2.2.1
            rw [hcv] at hnx
            have ha : a = wrd (fun k => pc xs ys k xs.length) k := hnx.2
            have hcy : cv b d 0 = cry (fun k => pc xs ys k xs.length) (k + 1) := hnx.1
            have lg := hH.out.2.2.1.lt
            obtain ⟨fn, tmps, assign, body, hyy, hRd⟩ := HA.out.2.2 k wr hJi hlt lg
            rw [← ha] at hyy
            obtain ⟨s0, s1, s2, f0, f1, f2⟩ := hH.out.2.2.1
            have hdl : d < B64 := cv_high (by rw [hcv]; exact col_room hX.2.2.1 hYy.2.2.1 (by rw [hl]; exact hn) k _ (Nat.le_refl _))
            have HC := Lib.hid (And.intro hH.out.2.2.1 (And.intro hcy (And.intro hH.out.2.2.2.2.2.1 (And.intro lg hdl))))
            have hcase : ¬ (i : Int) < n ∨ ((i : Int) < n ∧ ¬ (i : Int) ≤ k) := by omega
            clear hH hX hYy hfull hdl hcv hnx ha hcy hJi hB2 hcond
            rcases hcase with hc3 | ⟨hc3, hc4⟩
            all_goals
              gi_wp2
              refine hRd.mono ?_
              clear hRd hyy
              rintro e W3 ⟨rfl, hJ3, hg3⟩
              have hC3 := HC.out.1.block hg3
              have hC3b := hC3
              obtain ⟨t0, t1, t2, t3, t4, t5⟩ := hC3b
              have HJ3 := Lib.hid (And.intro hJ3 (And.intro hC3 hC3.lt))
              clear s0 s1 s2 f0 f1 f2 hJ3 hg3
              gi_wp2_with (refine ⟨trivial, ?_⟩; gi_at_call 100; refine (callsIn_wide.2 (next_any a b d _)).mono ?_; rintro e w4 ⟨rfl, hb4⟩; have hC4 := HJ3.out.2.1.below hb4 HJ3.out.2.2; have hC4b := hC4; obtain ⟨u0', u1', u2', u3', u4', u5'⟩ := hC4b; have HC4 := Lib.hid (And.intro hC4 hb4); clear hC4 hb4)
              have HNew : Hid (J (k + 1) (set3 w4 g b d 0) ∧ C3 (set3 w4 g b d 0) g b d 0 ∧ cv b d 0 = cry (fun k => pc xs ys k xs.length) (k + 1) ∧ b < B64 ∧ d < B64) :=
                ⟨HA.out.1 _ _ _ HJ3.out.1 (grown_trans (grown_below (World.grownBy.refl W3 _) HC4.out.2) (grown_set3 _ _ _ _ _)), HC4.out.1.set _ _ _, HC.out.2.1, HC.out.2.2.1, HC.out.2.2.2.2⟩
              go_roundw
              case rel => exact ⟨k + 1, by omega, by go_num, b, d, 0, HNew⟩
              case measure => simp [intOf]; omega
    · obtain rfl : k = N := by omega
      have hki : ¬ (k : Int) < (k : Int) := by omega
      gi_wp2
      go_end0
      exact ⟨⟨_, rfl⟩, hH.out.1⟩

set_option maxHeartbeats 400000 in
theorem productWords_any (A A' : Option Addr) (n m c c' : Nat) (w : World) :
    Calls Tryz.prog 94 #[.slice A n c, .slice A' m c'] w fun e w' => e = .returned (.func (.func 104) #[] #[.pointer (some ⟨w.heap.size, 0, none⟩), .pointer (some ⟨w.heap.size + 1, 0, none⟩)]) ∧ (w.alloc (.cells #[.slice A n c] 23)).alloc (.cells #[.slice A' m c'] 23) = w' := by
  go_enter Tryz.func94, Tryz.ntmps94
  go_wp2
  go_ret
  exact ⟨rfl, rfl⟩
end Go.Proofs.YthpgdpkemnhneaaGreatDoor

namespace Go.Proofs.YthpgdpkemnhneaaGreatDoor
open Go.RowKit Go.Shelf
set_option linter.unusedVariables false
set_option linter.unusedSimpArgs false
set_option maxRecDepth 10000
attribute [local go_sem] Oper.semAt_some

set_option maxHeartbeats 2000000 in
/-- the closure: the column at block g becomes that plus twice the argument -/
theorem addTwice_any (a b d p q r g : Nat) (ha : a < B64) (hb : b < B64) (hp : p < B64) (hq : q < B64) (hs : cv a b d + cv p q r + cv p q r < B3) : ∃ a2 b2 d2 : Nat, (cv a2 b2 d2 = cv a b d + cv p q r + cv p q r ∧ a2 < B64 ∧ b2 < B64 ∧ d2 < B64) ∧
    ∀ w, C3 w g a b d → Calls Tryz.prog 97 #[colV p q r, .pointer (some ⟨g, 0, none⟩)] w fun e w' => (∃ v, e = .returned v) ∧ C3 w' g a2 b2 d2 ∧ w.grownBy w' (some g) := by
  obtain ⟨a1, b1, d1, ⟨e1, e2, e3, e4⟩, hc1⟩ := colplus_any a b d p q r ha hb hp hq (by omega)
  obtain ⟨a2, b2, d2, ⟨e5, e6, e7, e8⟩, hc2⟩ := colplus_any a1 b1 d1 p q r e2 e3 hp hq (by rw [e1]; exact hs)
  rw [e1] at e5
  refine ⟨a2, b2, d2, ⟨e5, e6, e7, e8⟩, fun w hC => ?_⟩
  have H1 := Lib.hid hc1
  have H2 := Lib.hid hc2
  have hlt := hC.lt
  have hCa : C3 (w.alloc (.cells #[.int .u64 (p : Int), .int .u64 (q : Int), .int .u64 (r : Int)] 130)) g a b d := hC.alloc _
  have hPa : C3 (w.alloc (.cells #[.int .u64 (p : Int), .int .u64 (q : Int), .int .u64 (r : Int)] 130)) w.heap.size p q r := C3.new w p q r _
  have HC := Lib.hid (And.intro hC (And.intro hCa hPa))
  obtain ⟨s0, s1, s2, f0, f1, f2⟩ := hCa
  obtain ⟨p0, p1, p2, _⟩ := hPa
  have hmix : Tryz.prog.follows Departure.mixedOrders = true := by kernel_rfl
  clear e1 e2 e3 e4 e5 e6 e7 e8 hc1 hc2 hs ha hb hp hq hC
  go_enter Tryz.func97, Tryz.ntmps97
  go_wp2
  refine wp_region_L 5 (fun w' => w'.cell? ⟨g, 0, none⟩ = some (.int .u64 (a : Int)) ∧ w'.cell? ⟨g, 1, none⟩ = some (.int .u64 (b : Int)) ∧ w'.cell? ⟨g, 2, none⟩ = some (.int .u64 (d : Int)) ∧ w'.cell? ⟨w.heap.size, 0, none⟩ = some (.int .u64 (p : Int)) ∧ w'.cell? ⟨w.heap.size, 1, none⟩ = some (.int .u64 (q : Int)) ∧ w'.cell? ⟨w.heap.size, 2, none⟩ = some (.int .u64 (r : Int))) hmix ?_
  have HS0 := Lib.hid (show (fun w' : World => w'.cell? ⟨g, 0, none⟩ = some (.int .u64 (a : Int)) ∧ w'.cell? ⟨g, 1, none⟩ = some (.int .u64 (b : Int)) ∧ w'.cell? ⟨g, 2, none⟩ = some (.int .u64 (d : Int)) ∧ w'.cell? ⟨w.heap.size, 0, none⟩ = some (.int .u64 (p : Int)) ∧ w'.cell? ⟨w.heap.size, 1, none⟩ = some (.int .u64 (q : Int)) ∧ w'.cell? ⟨w.heap.size, 2, none⟩ = some (.int .u64 (r : Int))) (w.alloc (.cells #[.int .u64 (p : Int), .int .u64 (q : Int), .int .u64 (r : Int)] 130)).drew from ⟨s0, s1, s2, p0, p1, p2⟩)
  refine wpAnyL_take (i := 0) (v := ?_) rfl rfl (by kernel_rfl) (by kernel_rfl) (by kernel_rfl) (by kernel_rfl) (by kernel_rfl) (fun _ _ _ h => h) HS0.out (Or.inl ⟨by rfl, ?_⟩) ?_
  rotate_left
  · rintro w ⟨q0, q1, q2, q3, q4, q5⟩; go_simp; try with_reducible rfl
  try simp only [Act.put, List.setIfInBounds_toArray, List.set_cons_zero, List.set_cons_succ]
  refine wpAnyL_take (i := 1) (v := ?_) rfl rfl (by kernel_rfl) (by kernel_rfl) (by kernel_rfl) (by kernel_rfl) (by kernel_rfl) (fun _ _ _ h => h) HS0.out (Or.inl ⟨by rfl, ?_⟩) ?_
  rotate_left
  · rintro w ⟨q0, q1, q2, q3, q4, q5⟩; go_simp; try with_reducible rfl
  try simp only [Act.put, List.setIfInBounds_toArray, List.set_cons_zero, List.set_cons_succ]
  refine wpAnyL_take (i := 3) (v := ?_) rfl rfl (by kernel_rfl) (by kernel_rfl) (by kernel_rfl) (by kernel_rfl) (by kernel_rfl) (fun _ _ _ h => h) HS0.out (Or.inl ⟨by rfl, ?_⟩) ?_
  rotate_left
  · rintro w ⟨q0, q1, q2, q3, q4, q5⟩; go_simp; try with_reducible rfl
  try simp only [Act.put, List.setIfInBounds_toArray, List.set_cons_zero, List.set_cons_succ]
  have PK := Lib.hid (fun (w' : World) (hbw : Below (w.heap.size + 1) (w.alloc (.cells #[.int .u64 (p : Int), .int .u64 (q : Int), .int .u64 (r : Int)] 130)) w') => And.intro (HC.out.2.1.below hbw (by omega)) (HC.out.2.2.below hbw (by omega)))
  refine wpAnyL_one (i := 2) rfl (by kernel_rfl) (fun K hK => ?_)
  go_simp
  refine (H1.out _).mono ?_
  rintro e w1 ⟨rfl, hb1⟩
  have hB1 : Below (w.heap.size + 1) (w.alloc (.cells #[.int .u64 (p : Int), .int .u64 (q : Int), .int .u64 (r : Int)] 130)) w1 := by have := belowA hb1; rw [World.size_alloc] at this; exact this
  obtain ⟨⟨z0, z1, z2, _⟩, z3, z4, z5, _⟩ := PK.out w1 hB1
  refine hK.out _ _ (fun _ => ⟨z0, z1, z2, z3, z4, z5⟩) ?_
  clear hK K
  try simp only [Act.put, List.setIfInBounds_toArray, List.set_cons_zero, List.set_cons_succ]
  refine wpAnyL_one (i := 4) rfl (by kernel_rfl) (fun K hK => ?_)
  go_simp
  refine (H2.out _).mono ?_
  rintro e w2 ⟨rfl, hb2⟩
  have hB2 := hB1.trans (hb2.mono (by have := hB1.size; simpa using this))
  obtain ⟨⟨y0, y1, y2, x0, x1, x2⟩, y3, y4, y5, _⟩ := PK.out w2 hB2
  refine hK.out _ _ (fun _ => ⟨y0, y1, y2, y3, y4, y5⟩) ?_
  clear hK K
  try simp only [Act.put, List.setIfInBounds_toArray, List.set_cons_zero, List.set_cons_succ]
  refine wpAnyL_one (i := 5) rfl (by kernel_rfl) (fun K hK => ?_)
  go_simp
  refine hK.out _ _ (fun h => absurd rfl h) ?_
  clear hK K
  try simp only [Act.put, List.setIfInBounds_toArray, List.set_cons_zero, List.set_cons_succ]
  refine wpAnyL_done (by kernel_rfl) ?_ _
  have HE : Hid (C3 (set3 w2 g a2 b2 d2) g a2 b2 d2 ∧ w.grownBy (set3 w2 g a2 b2 d2) (some g)) :=
    ⟨(HC.out.2.1.below hB2 (by omega)).set _ _ _, grown_trans (grown_below (World.grownBy_alloc w _ _) (hB2.mono (by omega))) (grown_set3 _ _ _ _ _)⟩
  clear PK HC HS0 hB1 hB2
  go_wp2
  go_end0
  exact ⟨⟨_, rfl⟩, HE.out⟩

/-- what the iterator of a square reads -/
def RSW (B0 px : Nat) (A : Option Addr) (n c : Nat) (xs : List Nat) (W : World) : Prop := Cap W B0 px A n c xs ∧ B0 ≤ W.heap.size ∧ px < B0
theorem grown_new3 {w w' : World} {g g' : Nat} (h : w.grownBy w' (some g)) (hg : w.heap.size ≤ g') (l m h' : Nat) : w.grownBy (set3 w' g' l m h') (some g) :=
  ⟨(grown_set3 w' g' l m h').os.trans h.os, (grown_set3 w' g' l m h').tape.trans h.tape, (grown_set3 w' g' l m h').output.trans h.output, Nat.le_trans h.size (grown_set3 w' g' l m h').size,
    fun i hi hr => ((grown_set3 w' g' l m h').block i (Nat.lt_of_lt_of_le hi h.size) (by intro e; injection e with e; omega)).trans (h.block i hi hr)⟩
theorem C3.far {w : World} {g g' l m h a b d : Nat} (k : C3 w g l m h) (hne : g ≠ g') : C3 (set3 w g' a b d) g l m h :=
  k.block ((grown_set3 w g' a b d).block g k.lt (by intro e; injection e with e; exact hne e))
theorem pc_zero (xs ys : List Nat) (k : Nat) : pc xs ys k 0 = 0 := rfl

set_option maxHeartbeats 8000000 in
theorem square_rounds (B0 px : Nat) (A : Option Addr) (n c : Nat) (xs : List Nat) (hn : n ≤ 4096) (hl : xs.length = n) :
    RoundsG 5 Tryz.prog 96 #[.pointer (some ⟨px, 0, none⟩)] (fun k => #[.int .u64 (wrd (fun k => pc xs xs k xs.length) k : Int)]) (2 * n) (RSW B0 px A n c xs) := by
  intro l J W hJg hR hY h0
  refine callsIn_of_wp Tryz.func96 rfl trivial ?_ rfl
  simp only [Tryz.ntmps96, List.size_toArray, List.length_cons, List.length_nil, Nat.reduceAdd, Nat.reduceSub, Array.replicate_succ, Array.replicate_zero, List.push_toArray, List.append_toArray, List.nil_append, List.cons_append]
  obtain ⟨hX, hB0, hp1⟩ := hR 0 W h0
  have c1 := hX.1.1
  have l1 := hX.1.lt
  have hJ1 : J 0 (W.alloc (.cells #[.int .u64 0, .int .u64 0, .int .u64 0] 130)) := hJg 0 _ _ h0 (World.grownBy_alloc W _ _)
  have hC1 : C3 (W.alloc (.cells #[.int .u64 0, .int .u64 0, .int .u64 0] 130)) W.heap.size 0 0 0 := C3.new W 0 0 0 _
  obtain ⟨N, hN, hN2⟩ : ∃ N : Nat, (2 : Int) * (n : Int) = (N : Int) ∧ N = 2 * n := ⟨2 * n, by omega, rfl⟩
  rw [← hN2] at hY ⊢
  have hN3 : N ≤ 8192 := by omega
  have HN := Lib.hid hN2
  clear hN2
  have HJ := Lib.hid (And.intro hJ1 hC1)
  have HA := Lib.hid (And.intro hJg (And.intro hR hY))
  clear hX hJ1 hC1 hJg hR hY h0
  gi_wp2
  generalize W.heap.size = g at *
  gi_loopw [12] (fun kv wr => ∃ k : Nat, k ≤ N ∧ kv = .int .i64 k ∧ ∃ a b d, Hid (J k wr ∧ C3 wr g a b d ∧ cv a b d = cry (fun k => pc xs xs k xs.length) k ∧ a < B64 ∧ b < B64)) (fun kv _ => N - (intOf kv).toNat)
  case atStart => exact ⟨0, by omega, rfl, 0, 0, 0, HJ.out.1, HJ.out.2, rfl, by decide, by decide⟩
  case round =>
    clear HJ
    obtain ⟨k, hk, rfl, a, b, d, hH⟩ := hrel
    by_cases hlt : k < N
    · obtain ⟨hX, hB1, _⟩ := HA.out.2.1 k wr hH.out.1
      have c1 := hX.1.1
      have l1 := hX.1.lt
      obtain ⟨wo, hwo⟩ : ∃ wo : World, wo = wr := ⟨_, rfl⟩
      have hki : (k : Int) < (N : Int) := by omega
      have lg := hH.out.2.1.lt
      obtain ⟨pb, hpb⟩ : ∃ pb : Nat, wr.heap.size = pb := ⟨_, rfl⟩
      have hgp : g ≠ pb := by omega
      have l1b : px < pb := by omega
      have lgb : g < pb := by omega
      obtain ⟨i0, hi0⟩ : ∃ i0 : Nat, (i0 = 0 ∧ k + 1 ≤ n ∨ k + 1 = i0 + n ∧ n ≤ k) := by
        rcases Nat.lt_or_ge k n with h | h
        · exact ⟨0, .inl ⟨rfl, by omega⟩⟩
        · exact ⟨k + 1 - n, .inr ⟨by omega, h⟩⟩
      have hz0 : pc xs xs k i0 = 0 := by
        rcases hi0 with ⟨rfl, _⟩ | ⟨h, _⟩
        · rfl
        · exact pc_low xs xs k i0 (by rw [hl]; omega)
      have hNn := HN.out
      have HL := Lib.hid (show k < i0 + n ∧ 2 * i0 ≤ k + 1 by omega)
      have hcase : (¬ (0 : Int) < (k : Int) - n + 1 ∧ i0 = 0) ∨ ((0 : Int) < (k : Int) - n + 1 ∧ (k : Int) - n + 1 = (i0 : Int)) := by omega
      have HS : Hid (wo.grownBy (wr.alloc (.cells #[.int .u64 0, .int .u64 0, .int .u64 0] 130)) (some g) ∧ C3 (wr.alloc (.cells #[.int .u64 0, .int .u64 0, .int .u64 0] 130)) pb 0 0 0 ∧ cv 0 0 0 = pc xs xs k i0 ∧ 0 < B64 ∧ 0 < B64 ∧ J k wo ∧ wo.heap.size = pb ∧ C3 (wr.alloc (.cells #[.int .u64 0, .int .u64 0, .int .u64 0] 130)) g a b d) :=
        ⟨by rw [hwo]; exact World.grownBy_alloc wr _ _, by rw [← hpb]; exact C3.new wr 0 0 0 _, by rw [hz0]; rfl, by decide, by decide, by rw [hwo]; exact hH.out.1, by rw [hwo]; exact hpb, hH.out.2.1.alloc _⟩
      have HC0 := Lib.hid hH.out.2.2
      clear hX hB1 hH hz0 hi0 hNn
      rcases hcase with ⟨hcm, rfl⟩ | ⟨hcm, hcm2⟩
      all_goals
        gi_wp2
        gi_loopw [7] (fun iv wi => ∃ i : Nat, iv = .int .i64 i ∧ 2 * i ≤ k + 1 ∧ ∃ p q r, Hid (k < i + n ∧ wo.grownBy wi (some g) ∧ C3 wi pb p q r ∧ cv p q r = pc xs xs k i ∧ p < B64 ∧ q < B64 ∧ J k wo ∧ wo.heap.size = pb ∧ C3 wi g a b d)) (fun iv _ => k - (intOf iv).toNat)
        case atStart => exact ⟨_, rfl, HL.out.2, 0, 0, 0, HL.out.1, HS.out⟩
        case round =>
          clear HS HL
          obtain ⟨i, rfl, hik, p, q, r, hH⟩ := hrel
          have hJi := HA.out.1 k _ _ hH.out.2.2.2.2.2.2.1 hH.out.2.1
          obtain ⟨hX, hB2, _⟩ := HA.out.2.1 k wr hJi
          have c1 := hX.1.1
          obtain ⟨j, hj, hj2⟩ : ∃ j : Nat, (k : Int) - (i : Int) = (j : Int) ∧ i + j = k := ⟨k - i, by omega, by omega⟩
          have hj4 : IntKind.i64.wrap (j : Int) = (j : Int) := IntWalk.i64_in _ (by omega)
          have hj5 : IntKind.i64.wrap ((k : Int) - (i : Int)) = (j : Int) := by rw [hj]; exact hj4
          have hl' : pb < wr.heap.size := hH.out.2.2.1.lt
          by_cases hcond : i < j
          · have hjn : j < n := by have := hH.out.1; omega
            obtain ⟨x, bx, ox, rfl, hbx, hx, _, hgx, hcx⟩ := hX.at2 (show i < n by omega)
            obtain ⟨y, by', oy, he, hby, hy, _, hgy, hcy⟩ := hX.at2 hjn
            injection he with he
            injection he with he1 he2
            subst he1 he2
            have hst := pc_step (k := k) (show i ≤ k by omega) hgx (show xs[k - i]? = some y by rw [show k - i = j by omega]; exact hgy)
            obtain ⟨l1', m1, ⟨e1, e2, e3⟩, hw⟩ := wide_any x y hx hy
            have hroom := col_room hX.2.2.1 hX.2.2.1 (by rw [hl]; exact hn) k (i + 1) (by rw [hl]; omega)
            obtain ⟨p2, q2, r2, ⟨e4, e5, e6, e7⟩, hpl⟩ := colplus_any p q r l1' m1 0 hH.out.2.2.2.2.1 hH.out.2.2.2.2.2.1 e2 e3 (by rw [e1, hH.out.2.2.2.1, ← hst]; omega)
            rw [e1, hH.out.2.2.2.1, ← hst] at e4
            have Hw := Lib.hid hw
            have Hp := Lib.hid hpl
            have HE := Lib.hid (And.intro e4 (And.intro e5 (And.intro e6 (show k < (i + 1) + n by omega))))
            have hi1 : (i : Int) < (j : Int) := by omega
            have hi2 : (i : Int) < (n : Int) := by omega
            have hj3 : (j : Int) < (n : Int) := by omega
            obtain ⟨s0, s1, s2, f0, f1, f2⟩ := hH.out.2.2.1
            have lx := hX.1.lt
            have PK := Lib.hid (fun (w' : World) (hb : Below wr.heap.size wr w') => show ((fun w' => w'.cell? ⟨pb, 0, none⟩ = some (.int .u64 (p : Int)) ∧ w'.cell? ⟨pb, 1, none⟩ = some (.int .u64 (q : Int)) ∧ w'.cell? ⟨pb, 2, none⟩ = some (.int .u64 (r : Int)) ∧ w'.cell? ⟨px, 0, none⟩ = some (.slice (some ⟨bx, ox, none⟩) n c) ∧ w'.cell? ⟨bx, ox + i, none⟩ = some (.int .u64 (x : Int)) ∧ w'.cell? ⟨bx, ox + j, none⟩ = some (.int .u64 (y : Int))) w') ∧ w'.frozen? ⟨pb, 0, none⟩ = false ∧ w'.frozen? ⟨pb, 1, none⟩ = false ∧ w'.frozen? ⟨pb, 2, none⟩ = false from
              ⟨⟨(hb.cell (p := ⟨pb, 0, none⟩) hl').trans s0, (hb.cell (p := ⟨pb, 1, none⟩) hl').trans s1, (hb.cell (p := ⟨pb, 2, none⟩) hl').trans s2, (hb.cell (p := ⟨px, 0, none⟩) lx).trans c1, (hb.cell (p := ⟨bx, ox + i, none⟩) (Nat.lt_of_lt_of_le hbx hB2)).trans hcx, (hb.cell (p := ⟨bx, ox + j, none⟩) (Nat.lt_of_lt_of_le hby hB2)).trans hcy⟩,
                (hb.frozen (p := ⟨pb, 0, none⟩) hl').trans f0, (hb.frozen (p := ⟨pb, 1, none⟩) hl').trans f1, (hb.frozen (p := ⟨pb, 2, none⟩) hl').trans f2⟩)
            have Hj2 := Lib.hid hj2
            clear hX hgx hgy hst e1 e2 e3 hw hroom e4 e5 e6 e7 hpl hx hy hj2
            gi_wp2
            refine wpIn_wide.2 ?_
            have hmix : Tryz.prog.follows Departure.mixedOrders = true := by kernel_rfl
            refine wp_region_L 13 (fun w' => w'.cell? ⟨pb, 0, none⟩ = some (.int .u64 (p : Int)) ∧ w'.cell? ⟨pb, 1, none⟩ = some (.int .u64 (q : Int)) ∧ w'.cell? ⟨pb, 2, none⟩ = some (.int .u64 (r : Int)) ∧ w'.cell? ⟨px, 0, none⟩ = some (.slice (some ⟨bx, ox, none⟩) n c) ∧ w'.cell? ⟨bx, ox + i, none⟩ = some (.int .u64 (x : Int)) ∧ w'.cell? ⟨bx, ox + j, none⟩ = some (.int .u64 (y : Int))) hmix ?_
            have HS0 := Lib.hid (show (fun w' : World => w'.cell? ⟨pb, 0, none⟩ = some (.int .u64 (p : Int)) ∧ w'.cell? ⟨pb, 1, none⟩ = some (.int .u64 (q : Int)) ∧ w'.cell? ⟨pb, 2, none⟩ = some (.int .u64 (r : Int)) ∧ w'.cell? ⟨px, 0, none⟩ = some (.slice (some ⟨bx, ox, none⟩) n c) ∧ w'.cell? ⟨bx, ox + i, none⟩ = some (.int .u64 (x : Int)) ∧ w'.cell? ⟨bx, ox + j, none⟩ = some (.int .u64 (y : Int))) wr.drew from ⟨s0, s1, s2, c1, hcx, hcy⟩)
            refine wpAnyL_take (i := 0) (v := ?_) rfl rfl (by kernel_rfl) (by kernel_rfl) (by kernel_rfl) (by kernel_rfl) (by kernel_rfl) (fun _ _ _ h => h) HS0.out (Or.inl ⟨by rfl, ?_⟩) ?_
            rotate_left
            · rintro w ⟨q0, q1, q2, q3, q4, q5⟩; go_simp; try with_reducible rfl
            try simp only [Act.put, List.setIfInBounds_toArray, List.set_cons_zero, List.set_cons_succ]
            refine wpAnyL_take (i := 1) (v := ?_) rfl rfl (by kernel_rfl) (by kernel_rfl) (by kernel_rfl) (by kernel_rfl) (by kernel_rfl) (fun _ _ _ h => h) HS0.out (Or.inl ⟨by rfl, ?_⟩) ?_
            rotate_left
            · rintro w ⟨q0, q1, q2, q3, q4, q5⟩; go_simp; try with_reducible rfl
            try simp only [Act.put, List.setIfInBounds_toArray, List.set_cons_zero, List.set_cons_succ]
            refine wpAnyL_take (i := 2) (v := ?_) rfl rfl (by kernel_rfl) (by kernel_rfl) (by kernel_rfl) (by kernel_rfl) (by kernel_rfl) (fun _ _ _ h => h) HS0.out (Or.inl ⟨by rfl, ?_⟩) ?_
            rotate_left
            · rintro w ⟨q0, q1, q2, q3, q4, q5⟩; go_simp; try with_reducible rfl
            try simp only [Act.put, List.setIfInBounds_toArray, List.set_cons_zero, List.set_cons_succ]
            refine wpAnyL_take (i := 3) (v := ?_) rfl rfl (by kernel_rfl) (by kernel_rfl) (by kernel_rfl) (by kernel_rfl) (by kernel_rfl) (fun _ _ _ h => h) HS0.out (Or.inl ⟨by rfl, ?_⟩) ?_
            rotate_left
            · rintro w ⟨q0, q1, q2, q3, q4, q5⟩; go_simp; try with_reducible rfl
            try simp only [Act.put, List.setIfInBounds_toArray, List.set_cons_zero, List.set_cons_succ]
            refine wpAnyL_take (i := 4) (v := ?_) rfl rfl (by kernel_rfl) (by kernel_rfl) (by kernel_rfl) (by kernel_rfl) (by kernel_rfl) (fun _ _ _ h => h) HS0.out (Or.inl ⟨by rfl, ?_⟩) ?_
            rotate_left
            · rintro w ⟨q0, q1, q2, q3, q4, q5⟩; go_simp; try with_reducible rfl
            try simp only [Act.put, List.setIfInBounds_toArray, List.set_cons_zero, List.set_cons_succ]
            refine wpAnyL_take (i := 5) (v := ?_) rfl rfl (by kernel_rfl) (by kernel_rfl) (by kernel_rfl) (by kernel_rfl) (by kernel_rfl) (fun _ _ _ h => h) HS0.out (Or.inl ⟨by rfl, ?_⟩) ?_
            rotate_left
            · rintro w ⟨q0, q1, q2, q3, q4, q5⟩; go_simp; try with_reducible rfl
            try simp only [Act.put, List.setIfInBounds_toArray, List.set_cons_zero, List.set_cons_succ]
            refine wpAnyL_take (i := 6) (v := ?_) rfl rfl (by kernel_rfl) (by kernel_rfl) (by kernel_rfl) (by kernel_rfl) (by kernel_rfl) (fun _ _ _ h => h) HS0.out (Or.inl ⟨by rfl, ?_⟩) ?_
            rotate_left
            · rintro w ⟨q0, q1, q2, q3, q4, q5⟩; go_simp; try with_reducible rfl
            try simp only [Act.put, List.setIfInBounds_toArray, List.set_cons_zero, List.set_cons_succ]
            refine wpAnyL_take (i := 7) (v := ?_) rfl rfl (by kernel_rfl) (by kernel_rfl) (by kernel_rfl) (by kernel_rfl) (by kernel_rfl) (fun _ _ _ h => h) HS0.out (Or.inl ⟨by rfl, ?_⟩) ?_
            rotate_left
            · rintro w ⟨q0, q1, q2, q3, q4, q5⟩; go_simp; try with_reducible rfl
            try simp only [Act.put, List.setIfInBounds_toArray, List.set_cons_zero, List.set_cons_succ]
            refine wpAnyL_take (i := 8) (v := ?_) rfl rfl (by kernel_rfl) (by kernel_rfl) (by kernel_rfl) (by kernel_rfl) (by kernel_rfl) (fun _ _ _ h => h) HS0.out (Or.inl ⟨by rfl, ?_⟩) ?_
            rotate_left
            · rintro w ⟨q0, q1, q2, q3, q4, q5⟩; go_simp; try with_reducible rfl
            try simp only [Act.put, List.setIfInBounds_toArray, List.set_cons_zero, List.set_cons_succ]
            refine wpAnyL_take (i := 9) (v := ?_) rfl rfl (by kernel_rfl) (by kernel_rfl) (by kernel_rfl) (by kernel_rfl) (by kernel_rfl) (fun _ _ _ h => h) HS0.out (Or.inl ⟨by rfl, ?_⟩) ?_
            rotate_left
            · rintro w ⟨q0, q1, q2, q3, q4, q5⟩; go_simp; try with_reducible rfl
            try simp only [Act.put, List.setIfInBounds_toArray, List.set_cons_zero, List.set_cons_succ]
            refine wpAnyL_take (i := 10) (v := ?_) rfl rfl (by kernel_rfl) (by kernel_rfl) (by kernel_rfl) (by kernel_rfl) (by kernel_rfl) (fun _ _ _ h => h) HS0.out (Or.inl ⟨by rfl, ?_⟩) ?_
            rotate_left
            · rintro w ⟨q0, q1, q2, q3, q4, q5⟩; go_simp; try with_reducible rfl
            try simp only [Act.put, List.setIfInBounds_toArray, List.set_cons_zero, List.set_cons_succ]
            refine wpAnyL_one (i := 11) rfl (by kernel_rfl) (fun K hK => ?_)
            go_simp
            refine (Hw.out _).mono ?_
            rintro e w1 ⟨rfl, hb1⟩
            have hB1 := belowA hb1
            obtain ⟨hz, y0, y1, y2⟩ := PK.out w1 hB1
            refine hK.out _ _ (fun _ => hz) ?_
            clear hK K
            try simp only [Act.put, List.setIfInBounds_toArray, List.set_cons_zero, List.set_cons_succ]
            refine wpAnyL_one (i := 12) rfl (by kernel_rfl) (fun K hK => ?_)
            go_simp
            refine (Hp.out _).mono ?_
            rintro e w2 ⟨rfl, hb2⟩
            have hB2' := hB1.trans (hb2.mono hB1.size)
            obtain ⟨⟨v0, v1, v2, v3, v4, v5⟩, x0, x1, x2⟩ := PK.out w2 hB2'
            refine hK.out _ _ (fun _ => ⟨v0, v1, v2, v3, v4, v5⟩) ?_
            clear hK K
            try simp only [Act.put, List.setIfInBounds_toArray, List.set_cons_zero, List.set_cons_succ]
            refine wpAnyL_one (i := 13) rfl (by kernel_rfl) (fun K hK => ?_)
            go_simp
            refine hK.out _ _ (fun h => absurd rfl h) ?_
            clear hK K
            try simp only [Act.put, List.setIfInBounds_toArray, List.set_cons_zero, List.set_cons_succ]
            refine wpAnyL_done (by kernel_rfl) ?_ _
            have HNew : Hid (k < (i + 1) + n ∧ wo.grownBy (set3 w2 pb p2 q2 r2) (some g) ∧ C3 (set3 w2 pb p2 q2 r2) pb p2 q2 r2 ∧ cv p2 q2 r2 = pc xs xs k (i + 1) ∧ p2 < B64 ∧ q2 < B64 ∧ J k wo ∧ wo.heap.size = pb ∧ C3 (set3 w2 pb p2 q2 r2) g a b d) :=
              ⟨HE.out.2.2.2, grown_new3 (grown_below hH.out.2.1 (hB2'.mono hH.out.2.1.size)) (by rw [hH.out.2.2.2.2.2.2.2.1]; omega) _ _ _, (hH.out.2.2.1.below hB2' hl').set _ _ _, HE.out.1, HE.out.2.1, HE.out.2.2.1, hH.out.2.2.2.2.2.2.1, hH.out.2.2.2.2.2.2.2.1, (hH.out.2.2.2.2.2.2.2.2.below hB2' hH.out.2.2.2.2.2.2.2.2.lt).far hgp⟩
            clear hH PK HE hB1 hB2' s0 s1 s2 f0 f1 f2 HS0
            gi_wp2
            go_roundw
            case rel => exact ⟨i + 1, by go_num, by have := Hj2.out; omega, p2, q2, r2, HNew⟩
            case measure => simp [intOf]; have := Hj2.out; omega
          · have hi3 : ¬ (i : Int) < (j : Int) := by omega
            have hcc : 2 * i = k ∨ 2 * i = k + 1 := by omega
            have hroom := col_room hX.2.2.1 hX.2.2.1 (by rw [hl]; exact hn) k xs.length (Nat.le_refl _)
            have lgr := hH.out.2.2.2.2.2.2.2.2.lt
            obtain ⟨p0, p1, p2', pf0, pf1, pf2⟩ := hH.out.2.2.1
            rcases hcc with hev | hod
            · have hin : i < n := by have := HN.out; omega
              have hev' := pc_even xs k i hev
              obtain ⟨x, bx, ox, rfl, hbx, hx, _, hgx, hcx⟩ := hX.at2 hin
              have hgd : xs.getD i 0 = x := by rw [List.getD_eq_getElem?_getD, hgx]; rfl
              rw [hgd] at hev'
              have hrm : cv a b d + cv p q r + cv p q r + x * x < B3 := by rw [hH.out.2.2.2.1, HC0.out.1]; rw [hev'] at hroom; omega
              obtain ⟨a2, b2, d2, ⟨e1, e2, e3, e4⟩, hat⟩ := addTwice_any a b d p q r g HC0.out.2.1 HC0.out.2.2 hH.out.2.2.2.2.1 hH.out.2.2.2.2.2.1 (by omega)
              obtain ⟨l1', m1, ⟨w1', w2', w3'⟩, hwd⟩ := wide_any x x hx hx
              obtain ⟨ta, tb, td, ⟨e5, e6, e7, e8⟩, hpl⟩ := colplus_any a2 b2 d2 l1' m1 0 e2 e3 w2' w3' (by rw [e1, w1']; exact hrm)
              have hfin : cv ta tb td = cry (fun k => pc xs xs k xs.length) k + (fun k => pc xs xs k xs.length) k := by
                show _ = _ + pc xs xs k xs.length
                rw [e5, e1, w1', hH.out.2.2.2.1, HC0.out.1, hev']; omega
              have Hat := Lib.hid hat
              have Hw := Lib.hid hwd
              have Hp := Lib.hid hpl
              have HF := Lib.hid (And.intro hfin (And.intro e6 (And.intro e7 e8)))
              have hk1 : (k : Int).tmod 2 = 0 := by rw [Int.tmod_eq_emod_of_nonneg (by omega)]; omega
              have hk2 : (k : Int) % 2 = 0 := by omega
              have hk3 : (k : Int).tdiv 2 = (i : Int) := by rw [Int.tdiv_eq_ediv_of_nonneg (by omega)]; omega
              have hk4 : (k : Int) / 2 = (i : Int) := by omega
              have hk5 : IntKind.i64.wrap (i : Int) = (i : Int) := IntWalk.i64_in _ (by omega)
              have hi2 : (i : Int) < (n : Int) := by omega
              clear hrm e1 e2 e3 e4 hat w1' w2' w3' hwd e5 e6 e7 e8 hpl hfin hev' hgd hroom hX hcond hj2 hev
              gi_wp2_with (refine ⟨trivial, ?_⟩; gi_at_call 97; refine (callsIn_wide.2 (Hat.out wr hH.out.2.2.2.2.2.2.2.2)).mono ?_; rintro e w1 ⟨⟨vv, rfl⟩, hC1, hg1⟩; have HG1 := Lib.hid (And.intro (grown_trans hH.out.2.1 hg1) hC1); have hJ1' := HA.out.1 k _ _ hH.out.2.2.2.2.2.2.1 HG1.out.1; have hXR := HA.out.2.1 k w1 hJ1'; obtain ⟨x', bx', ox', hAe', hbx', hx', _, hgx', hcx'⟩ := hXR.1.at2 hin; rw [hgx] at hgx'; injection hgx' with hgx'; subst hgx'; injection hAe' with hAe'; injection hAe' with hAe1 hAe2; subst hAe1; subst hAe2; have c1' := hXR.1.1.1; have lx := hXR.1.1.lt; have lb := Nat.lt_of_lt_of_le hbx' hXR.2.1; clear hC1 hg1 hXR hbx' hx')
              have hC1 := HG1.out.2
              have lgw := hC1.lt
              obtain ⟨s0, s1, s2, f0, f1, f2⟩ := hC1
              have PK := Lib.hid (fun (w' : World) (hb : Below w1.heap.size w1 w') => show ((fun w' => w'.cell? ⟨g, 0, none⟩ = some (.int .u64 (a2 : Int)) ∧ w'.cell? ⟨g, 1, none⟩ = some (.int .u64 (b2 : Int)) ∧ w'.cell? ⟨g, 2, none⟩ = some (.int .u64 (d2 : Int)) ∧ w'.cell? ⟨px, 0, none⟩ = some (.slice (some ⟨bx, ox, none⟩) n c) ∧ w'.cell? ⟨bx, ox + i, none⟩ = some (.int .u64 (x : Int))) w') ∧ w'.frozen? ⟨g, 0, none⟩ = false ∧ w'.frozen? ⟨g, 1, none⟩ = false ∧ w'.frozen? ⟨g, 2, none⟩ = false from
                ⟨⟨(hb.cell (p := ⟨g, 0, none⟩) lgw).trans s0, (hb.cell (p := ⟨g, 1, none⟩) lgw).trans s1, (hb.cell (p := ⟨g, 2, none⟩) lgw).trans s2, (hb.cell (p := ⟨px, 0, none⟩) lx).trans c1', (hb.cell (p := ⟨bx, ox + i, none⟩) lb).trans hcx'⟩,
                  (hb.frozen (p := ⟨g, 0, none⟩) lgw).trans f0, (hb.frozen (p := ⟨g, 1, none⟩) lgw).trans f1, (hb.frozen (p := ⟨g, 2, none⟩) lgw).trans f2⟩)
              refine wpIn_wide.2 ?_
              have hmix : Tryz.prog.follows Departure.mixedOrders = true := by kernel_rfl
              refine wp_region_L 13 (fun w' => w'.cell? ⟨g, 0, none⟩ = some (.int .u64 (a2 : Int)) ∧ w'.cell? ⟨g, 1, none⟩ = some (.int .u64 (b2 : Int)) ∧ w'.cell? ⟨g, 2, none⟩ = some (.int .u64 (d2 : Int)) ∧ w'.cell? ⟨px, 0, none⟩ = some (.slice (some ⟨bx, ox, none⟩) n c) ∧ w'.cell? ⟨bx, ox + i, none⟩ = some (.int .u64 (x : Int))) hmix ?_
              have HS0 := Lib.hid (show (fun w' : World => w'.cell? ⟨g, 0, none⟩ = some (.int .u64 (a2 : Int)) ∧ w'.cell? ⟨g, 1, none⟩ = some (.int .u64 (b2 : Int)) ∧ w'.cell? ⟨g, 2, none⟩ = some (.int .u64 (d2 : Int)) ∧ w'.cell? ⟨px, 0, none⟩ = some (.slice (some ⟨bx, ox, none⟩) n c) ∧ w'.cell? ⟨bx, ox + i, none⟩ = some (.int .u64 (x : Int))) w1.drew from ⟨s0, s1, s2, c1', hcx'⟩)
              refine wpAnyL_take (i := 0) (v := ?_) rfl rfl (by kernel_rfl) (by kernel_rfl) (by kernel_rfl) (by kernel_rfl) (by kernel_rfl) (fun _ _ _ h => h) HS0.out (Or.inl ⟨by rfl, ?_⟩) ?_
              rotate_left
              · rintro w ⟨q0, q1, q2, q3, q4⟩; go_simp; try with_reducible rfl
              try simp only [Act.put, List.setIfInBounds_toArray, List.set_cons_zero, List.set_cons_succ]
              refine wpAnyL_take (i := 1) (v := ?_) rfl rfl (by kernel_rfl) (by kernel_rfl) (by kernel_rfl) (by kernel_rfl) (by kernel_rfl) (fun _ _ _ h => h) HS0.out (Or.inl ⟨by rfl, ?_⟩) ?_
              rotate_left
              · rintro w ⟨q0, q1, q2, q3, q4⟩; go_simp; try with_reducible rfl
              try simp only [Act.put, List.setIfInBounds_toArray, List.set_cons_zero, List.set_cons_succ]
              refine wpAnyL_take (i := 2) (v := ?_) rfl rfl (by kernel_rfl) (by kernel_rfl) (by kernel_rfl) (by kernel_rfl) (by kernel_rfl) (fun _ _ _ h => h) HS0.out (Or.inl ⟨by rfl, ?_⟩) ?_
              rotate_left
              · rintro w ⟨q0, q1, q2, q3, q4⟩; go_simp; try with_reducible rfl
              try simp only [Act.put, List.setIfInBounds_toArray, List.set_cons_zero, List.set_cons_succ]
              refine wpAnyL_take (i := 3) (v := ?_) rfl rfl (by kernel_rfl) (by kernel_rfl) (by kernel_rfl) (by kernel_rfl) (by kernel_rfl) (fun _ _ _ h => h) HS0.out (Or.inl ⟨by rfl, ?_⟩) ?_
              rotate_left
              · rintro w ⟨q0, q1, q2, q3, q4⟩; go_simp; try with_reducible rfl
              try simp only [Act.put, List.setIfInBounds_toArray, List.set_cons_zero, List.set_cons_succ]
              refine wpAnyL_take (i := 4) (v := ?_) rfl rfl (by kernel_rfl) (by kernel_rfl) (by kernel_rfl) (by kernel_rfl) (by kernel_rfl) (fun _ _ _ h => h) HS0.out (Or.inl ⟨by rfl, ?_⟩) ?_
              rotate_left
              · rintro w ⟨q0, q1, q2, q3, q4⟩; go_simp; try with_reducible rfl
              try simp only [Act.put, List.setIfInBounds_toArray, List.set_cons_zero, List.set_cons_succ]
              refine wpAnyL_take (i := 5) (v := ?_) rfl rfl (by kernel_rfl) (by kernel_rfl) (by kernel_rfl) (by kernel_rfl) (by kernel_rfl) (fun _ _ _ h => h) HS0.out (Or.inl ⟨by rfl, ?_⟩) ?_
              rotate_left
              · rintro w ⟨q0, q1, q2, q3, q4⟩; go_simp; try with_reducible rfl
              try simp only [Act.put, List.setIfInBounds_toArray, List.set_cons_zero, List.set_cons_succ]
              refine wpAnyL_take (i := 6) (v := ?_) rfl rfl (by kernel_rfl) (by kernel_rfl) (by kernel_rfl) (by kernel_rfl) (by kernel_rfl) (fun _ _ _ h => h) HS0.out (Or.inl ⟨by rfl, ?_⟩) ?_
              rotate_left
              · rintro w ⟨q0, q1, q2, q3, q4⟩; go_simp; try with_reducible rfl
              try simp only [Act.put, List.setIfInBounds_toArray, List.set_cons_zero, List.set_cons_succ]
              refine wpAnyL_take (i := 7) (v := ?_) rfl rfl (by kernel_rfl) (by kernel_rfl) (by kernel_rfl) (by kernel_rfl) (by kernel_rfl) (fun _ _ _ h => h) HS0.out (Or.inl ⟨by rfl, ?_⟩) ?_
              rotate_left
              · rintro w ⟨q0, q1, q2, q3, q4⟩; go_simp; try with_reducible rfl
              try simp only [Act.put, List.setIfInBounds_toArray, List.set_cons_zero, List.set_cons_succ]
              refine wpAnyL_take (i := 8) (v := ?_) rfl rfl (by kernel_rfl) (by kernel_rfl) (by kernel_rfl) (by kernel_rfl) (by kernel_rfl) (fun _ _ _ h => h) HS0.out (Or.inl ⟨by rfl, ?_⟩) ?_
              rotate_left
              · rintro w ⟨q0, q1, q2, q3, q4⟩; go_simp; try with_reducible rfl
              try simp only [Act.put, List.setIfInBounds_toArray, List.set_cons_zero, List.set_cons_succ]
              refine wpAnyL_take (i := 9) (v := ?_) rfl rfl (by kernel_rfl) (by kernel_rfl) (by kernel_rfl) (by kernel_rfl) (by kernel_rfl) (fun _ _ _ h => h) HS0.out (Or.inl ⟨by rfl, ?_⟩) ?_
              rotate_left
              · rintro w ⟨q0, q1, q2, q3, q4⟩; go_simp; try with_reducible rfl
              try simp only [Act.put, List.setIfInBounds_toArray, List.set_cons_zero, List.set_cons_succ]
              refine wpAnyL_take (i := 10) (v := ?_) rfl rfl (by kernel_rfl) (by kernel_rfl) (by kernel_rfl) (by kernel_rfl) (by kernel_rfl) (fun _ _ _ h => h) HS0.out (Or.inl ⟨by rfl, ?_⟩) ?_
              rotate_left
              · rintro w ⟨q0, q1, q2, q3, q4⟩; go_simp; try with_reducible rfl
              try simp only [Act.put, List.setIfInBounds_toArray, List.set_cons_zero, List.set_cons_succ]
              refine wpAnyL_one (i := 11) rfl (by kernel_rfl) (fun K hK => ?_)
              go_simp
              refine (Hw.out _).mono ?_
              rintro e w2 ⟨rfl, hb1⟩
              have hB1 := belowA hb1
              obtain ⟨hz, y0, y1, y2⟩ := PK.out w2 hB1
              refine hK.out _ _ (fun _ => hz) ?_
              clear hK K
              try simp only [Act.put, List.setIfInBounds_toArray, List.set_cons_zero, List.set_cons_succ]
              refine wpAnyL_one (i := 12) rfl (by kernel_rfl) (fun K hK => ?_)
              go_simp
              refine (Hp.out _).mono ?_
              rintro e w3 ⟨rfl, hb2⟩
              have hB2' := hB1.trans (hb2.mono hB1.size)
              obtain ⟨⟨v0, v1, v2, v3, v4⟩, x0, x1, x2⟩ := PK.out w3 hB2'
              refine hK.out _ _ (fun _ => ⟨v0, v1, v2, v3, v4⟩) ?_
              clear hK K
              try simp only [Act.put, List.setIfInBounds_toArray, List.set_cons_zero, List.set_cons_succ]
              refine wpAnyL_one (i := 13) rfl (by kernel_rfl) (fun K hK => ?_)
              go_simp
              refine hK.out _ _ (fun h => absurd rfl h) ?_
              clear hK K
              try simp only [Act.put, List.setIfInBounds_toArray, List.set_cons_zero, List.set_cons_succ]
              refine wpAnyL_done (by kernel_rfl) ?_ _
              obtain ⟨tw, htw⟩ : ∃ tw, ((w3.setCell ⟨g, 0, none⟩ (.int .u64 (ta : Int))).setCell ⟨g, 1, none⟩ (.int .u64 (tb : Int))).setCell ⟨g, 2, none⟩ (.int .u64 (td : Int)) = tw := ⟨_, rfl⟩
              have hgT : wo.grownBy tw (some g) := by rw [← htw]; exact grown_trans (grown_below HG1.out.1 (hB2'.mono HG1.out.1.size)) (grown_set3 _ _ _ _ _)
              have hT := Lib.hid (And.intro (HA.out.1 k _ _ hH.out.2.2.2.2.2.2.1 hgT) (And.intro (show C3 tw g ta tb td by rw [← htw]; exact (HG1.out.2.below hB2' lgw).set _ _ _) HF.out))
              rw [htw]
              clear hH PK HF hB1 hB2' s0 s1 s2 f0 f1 f2 HS0 htw hgT p0 p1 p2' pf0 pf1 pf2 lgr HG1 hJ1' c1 c1' hcx hcx' hgx y0 y1 y2 hz v0 v1 v2 v3 v4 x0 x1 x2 lx lb lgw hbx HC0 Hat Hw Hp
              have hnx := next_cv ta tb td hT.out.2.2.2.1
              rw [hT.out.2.2.1] at hnx
              have hta : ta = wrd (fun k => pc xs xs k xs.length) k := hnx.2
              have hcy : cv tb td 0 = cry (fun k => pc xs xs k xs.length) (k + 1) := hnx.1
              have lg' := hT.out.2.1.lt
              obtain ⟨fn, tmps, assign, body, hyy, hRd⟩ := HA.out.2.2 k tw hT.out.1 hlt lg'
              rw [← hta] at hyy
              obtain ⟨s0, s1, s2, f0, f1, f2⟩ := hT.out.2.1
              have HC := Lib.hid (And.intro hT.out.2.1 (And.intro hcy hT.out.2.2.2.2))
              clear hT hnx hta hcy
              gi_wp2
              refine hRd.mono ?_
              clear hRd hyy
              rintro e W3 ⟨rfl, hJ3, hg3⟩
              have hC3 := HC.out.1.block hg3
              have hC3b := hC3
              obtain ⟨t0, t1, t2, t3, t4, t5⟩ := hC3b
              have HJ3 := Lib.hid (And.intro hJ3 (And.intro hC3 hC3.lt))
              clear s0 s1 s2 f0 f1 f2 hJ3 hg3 hC3
              gi_wp2_with (refine ⟨trivial, ?_⟩; gi_at_call 100; refine (callsIn_wide.2 (next_any ta tb td _)).mono ?_; rintro e w4 ⟨rfl, hb4⟩; have hC4 := HJ3.out.2.1.below hb4 HJ3.out.2.2; have hC4b := hC4; obtain ⟨u0', u1', u2', u3', u4', u5'⟩ := hC4b; have HC4 := Lib.hid (And.intro hC4 hb4); clear hC4 hb4)
              have HNew : Hid (J (k + 1) (set3 w4 g tb td 0) ∧ C3 (set3 w4 g tb td 0) g tb td 0 ∧ cv tb td 0 = cry (fun k => pc xs xs k xs.length) (k + 1) ∧ tb < B64 ∧ td < B64) :=
                ⟨HA.out.1 _ _ _ HJ3.out.1 (grown_trans (grown_below (World.grownBy.refl W3 _) HC4.out.2) (grown_set3 _ _ _ _ _)), HC4.out.1.set _ _ _, HC.out.2.1, HC.out.2.2.1, HC.out.2.2.2⟩
              go_roundw
              case rel => exact ⟨k + 1, by omega, by go_num, tb, td, 0, HNew⟩
              case measure => simp [intOf]; omega
            · have hev' := pc_odd xs k i hod
              obtain ⟨ta, tb, td, ⟨e1, e2, e3, e4⟩, hat⟩ := addTwice_any a b d p q r g HC0.out.2.1 HC0.out.2.2 hH.out.2.2.2.2.1 hH.out.2.2.2.2.2.1 (by rw [hH.out.2.2.2.1, HC0.out.1]; rw [hev'] at hroom; omega)
              have hfin : cv ta tb td = cry (fun k => pc xs xs k xs.length) k + (fun k => pc xs xs k xs.length) k := by
                show _ = _ + pc xs xs k xs.length
                rw [e1, hH.out.2.2.2.1, HC0.out.1, hev']; omega
              have Hat := Lib.hid hat
              have HF := Lib.hid (And.intro hfin (And.intro e2 (And.intro e3 e4)))
              have hk1 : (k : Int).tmod 2 = 1 := by rw [Int.tmod_eq_emod_of_nonneg (by omega)]; omega
              have hk2 : (k : Int) % 2 = 1 := by omega
              clear e1 e2 e3 e4 hat hfin hev' hroom hX hcond hj2 hod
              have lwr := lgr
              gi_wp2_with (refine ⟨trivial, ?_⟩; gi_at_call 97; refine (callsIn_wide.2 (Hat.out wr hH.out.2.2.2.2.2.2.2.2)).mono ?_; rintro e tw ⟨⟨vv, rfl⟩, hC1, hg1⟩; have hT := Lib.hid (And.intro (HA.out.1 k _ _ hH.out.2.2.2.2.2.2.1 (grown_trans hH.out.2.1 hg1)) (And.intro hC1 HF.out)); have hTc := hT.out.2.1; obtain ⟨s0, s1, s2, f0, f1, f2⟩ := hTc; obtain ⟨fn, tmps, assign, body, hyy, hRd⟩ := HA.out.2.2 k tw hT.out.1 hlt hT.out.2.1.lt; rw [← (show ta = wrd (fun k => pc xs xs k xs.length) k from by have := (next_cv ta tb td HF.out.2.1).2; rw [HF.out.1] at this; exact this)] at hyy; clear hC1 hg1)
              have hnx := next_cv ta tb td hT.out.2.2.2.1
              rw [hT.out.2.2.1] at hnx
              have hta : ta = wrd (fun k => pc xs xs k xs.length) k := hnx.2
              have hcy : cv tb td 0 = cry (fun k => pc xs xs k xs.length) (k + 1) := hnx.1
              have HC := Lib.hid (And.intro hT.out.2.1 (And.intro hcy hT.out.2.2.2.2))
              clear hT hnx hta hcy hH HF p0 p1 p2' pf0 pf1 pf2 lgr lwr c1 HC0 Hat
              refine hRd.mono ?_
              clear hRd hyy
              rintro e W3 ⟨rfl, hJ3, hg3⟩
              have hC3 := HC.out.1.block hg3
              have hC3b := hC3
              obtain ⟨t0, t1, t2, t3, t4, t5⟩ := hC3b
              have HJ3 := Lib.hid (And.intro hJ3 (And.intro hC3 hC3.lt))
              clear s0 s1 s2 f0 f1 f2 hJ3 hg3 hC3
              gi_wp2_with (refine ⟨trivial, ?_⟩; gi_at_call 100; refine (callsIn_wide.2 (next_any ta tb td _)).mono ?_; rintro e w4 ⟨rfl, hb4⟩; have hC4 := HJ3.out.2.1.below hb4 HJ3.out.2.2; have hC4b := hC4; obtain ⟨u0', u1', u2', u3', u4', u5'⟩ := hC4b; have HC4 := Lib.hid (And.intro hC4 hb4); clear hC4 hb4)
              have HNew : Hid (J (k + 1) (set3 w4 g tb td 0) ∧ C3 (set3 w4 g tb td 0) g tb td 0 ∧ cv tb td 0 = cry (fun k => pc xs xs k xs.length) (k + 1) ∧ tb < B64 ∧ td < B64) :=
                ⟨HA.out.1 _ _ _ HJ3.out.1 (grown_trans (grown_below (World.grownBy.refl W3 _) HC4.out.2) (grown_set3 _ _ _ _ _)), HC4.out.1.set _ _ _, HC.out.2.1, HC.out.2.2.1, HC.out.2.2.2⟩
              go_roundw
              case rel => exact ⟨k + 1, by omega, by go_num, tb, td, 0, HNew⟩
              case measure => simp [intOf]; omega
    · obtain rfl : k = N := by omega
      have hki : ¬ (k : Int) < (k : Int) := by omega
      gi_wp2
      go_end0
      exact ⟨⟨_, rfl⟩, hH.out.1⟩
end Go.Proofs.YthpgdpkemnhneaaGreatDoor

namespace Go.Proofs.YthpgdpkemnhneaaGreatDoor
open Go.RowKit Go.Shelf
set_option linter.unusedVariables false
set_option maxRecDepth 10000

theorem Big_pos : 0 < Big := Nat.pow_pos B64_pos
/-- numbers with so many words have a product that is too large -/
theorem mul_big {xs ys : List Nat} {n m : Nat} (hx : Cn xs) (hy : Cn ys) (hn : xs.length = n) (hm : ys.length = m) (h0 : 0 < n) (h1 : 0 < m) (h : 4097 < n + m) : Big ≤ V xs * V ys := by
  obtain ⟨a, rfl⟩ : ∃ a, n = a + 1 := ⟨n - 1, by omega⟩
  obtain ⟨b, rfl⟩ : ∃ b, m = b + 1 := ⟨m - 1, by omega⟩
  have h2 := Nat.mul_le_mul (V_ge hx hn) (V_ge hy hm)
  rw [← Nat.pow_add] at h2
  have hM : Most = 4096 := rfl
  exact Nat.le_trans (Nat.pow_le_pow_right B64_pos (show Most ≤ a + b by rw [hM]; omega)) h2
theorem mul_words {xs ys : List Nat} (hx : Ws xs) (hy : Ws ys) : V ((List.range (xs.length + ys.length)).map (wrd (fun k => pc xs ys k xs.length))) = V xs * V ys :=
  V_product _ _ _ (Ps_product xs ys) (by rw [Nat.pow_add]; exact Nat.mul_lt_mul'' (V_lt xs hx) (V_lt ys hy))
theorem Cap_new {w w1 : World} {A : Option Addr} {n c : Nat} {xs : List Nat} {p B0 : Nat} (hx : Sl w A n c xs) (hd : Wd w1 p (.slice A n c)) (hb : Below w.heap.size w w1) (hB : w.heap.size ≤ B0) : Cap w1 B0 p A n c xs :=
  ⟨hd, hx.1, hx.2.2.2.1, (hx.2.2.2.2.below hb).more hB⟩

set_option maxHeartbeats 2000000 in
theorem NMul_ok (A A' : Option Addr) (n n' c c' : Nat) (xs ys : List Nat) (w : World) (hn : n ≤ 4096) (hn' : n' ≤ 4096) (hx : Sl w A n c xs) (hy : Sl w A' n' c' ys) :
    Calls Tryz.prog 67 #[.slice A n c, .slice A' n' c'] w fun e w' => Rs w w' e (V xs * V ys) := by
  have Hx := Lib.hid (And.intro hx hy)
  have Hk := Lib.hid (chkS_two (A := A) (A' := A') (c := c) (c' := c') hn hn')
  clear hx hy
  go_enter Tryz.func67, Tryz.ntmps67
  go_wp2_with (fail)
  refine (checkSizes_two A A' _ _ c c' _ _ w rfl).mono ?_
  rintro e w1 ⟨rfl, hb1⟩
  rw [Hk.out]
  have H1 := Lib.hid (And.intro (Hx.out.1.below hb1) (And.intro (Hx.out.2.below hb1) hb1))
  clear hb1
  go_wp2_with (fail)
  refine (used_ok A n c xs w1 (by omega) H1.out.1).mono ?_
  rintro e w2 ⟨k, rfl, hk, hH, rfl⟩
  go_wp2_with (fail)
  refine (used_ok A' n' c' ys w1 (by omega) H1.out.2.1).mono ?_
  rintro e w2 ⟨k', rfl, hk', hH', rfl⟩
  have Hs := Lib.hid (And.intro (H1.out.1.tk hk) (H1.out.2.1.tk hk'))
  rcases Nat.eq_zero_or_pos k with rfl | hk0
  · go_wp2_with (fail)
    go_ret2
    have hv := hH.out.1
    rw [List.take_zero] at hv
    refine ⟨.inl ⟨_, rfl, ?_, ?_⟩, H1.out.2.2⟩
    · rw [← hv]; simpa [V] using Nt.nil w w1
    · rw [← hv]; simpa [V] using Big_pos
  · have e0 : ((k : Int) == 0) = false := by simp; omega
    rcases Nat.eq_zero_or_pos k' with rfl | hk0'
    · go_wp2_with (fail)
      go_ret2
      have hv := hH'.out.1
      rw [List.take_zero] at hv
      refine ⟨.inl ⟨_, rfl, ?_, ?_⟩, H1.out.2.2⟩
      · rw [← hv]; simpa [V] using Nt.nil w w1
      · rw [← hv]; simpa [V] using Big_pos
    · have e1 : ((k' : Int) == 0) = false := by simp; omega
      obtain ⟨N, hN, hN2⟩ : ∃ N : Nat, (k : Int) + (k' : Int) = (N : Int) ∧ N = k + k' := ⟨k + k', by omega, rfl⟩
      have HN := Lib.hid hN2
      have hN3 : N ≤ 8192 := by omega
      clear hN2
      go_wp2_with (fail)
      refine (productWords_any A A' k k' c c' w1).mono ?_
      rintro e w2 ⟨rfl, hw2⟩
      have hb2 : Below w1.heap.size w1 w2 := by rw [← hw2]; exact ((Below.refl _ _).alloc (Nat.le_refl _) _).alloc (by simp) _
      have hsz : w2.heap.size = w1.heap.size + 2 := by rw [← hw2]; simp
      have hd1 : Wd w2 w1.heap.size (.slice A k c) := by rw [← hw2]; exact (Wd.new w1 _ _).alloc _
      have hd2 : Wd w2 (w1.heap.size + 1) (.slice A' k' c') := by rw [← hw2]; have := Wd.new (w1.alloc (.cells #[.slice A k c] 23)) (.slice A' k' c') 23; rw [World.size_alloc] at this; exact this
      have HB := Lib.hid (And.intro hb2 (And.intro hsz (And.intro hd1 hd2)))
      clear hb2 hsz hd1 hd2 hw2
      have hR : ∀ W, Below w2.heap.size w2 W → RPW w2.heap.size w1.heap.size (w1.heap.size + 1) A A' k k' c c' (xs.take k) (ys.take k') W := fun W hW =>
        ⟨Cap_new Hs.out.1 (HB.out.2.2.1.below hW (by have := HB.out.2.1; omega)) (HB.out.1.trans (hW.mono HB.out.1.size)) HB.out.1.size, Cap_new Hs.out.2 (HB.out.2.2.2.below hW (by have := HB.out.2.1; omega)) (HB.out.1.trans (hW.mono HB.out.1.size)) HB.out.1.size, hW.size, by have := HB.out.2.1; omega, by have := HB.out.2.1; omega⟩
      have HG := Lib.hid (gathered_ok 104 #[.pointer (some ⟨w1.heap.size, 0, none⟩), .pointer (some ⟨w1.heap.size + 1, 0, none⟩)] (wrd (fun k_1 => pc (xs.take k) (ys.take k') k_1 (xs.take k).length)) N _ w2 (by omega) (fun k => wrd_lt _ k) (fun args w => run_callFunc_enter Tryz.func104 (by kernel_rfl) (by kernel_rfl) args w)
        (by rw [HN.out]; exact prod_rounds w2.heap.size w1.heap.size (w1.heap.size + 1) A A' k k' c c' (xs.take k) (ys.take k') (by omega) (by omega) Hs.out.1.1) hR)
      clear hR
      go_wp2_with (fail)
      refine HG.out.mono ?_
      rintro e w3 hres
      have hwd : V ((List.range N).map (wrd (fun k_1 => pc (xs.take k) (ys.take k') k_1 (xs.take k).length))) = V xs * V ys := by
        have := mul_words Hs.out.1.2.2.2.1 Hs.out.2.2.2.2.1
        rw [Hs.out.1.1, Hs.out.2.1, ← HN.out, hH.out.1, hH'.out.1] at this
        rw [Hs.out.1.1]
        exact this
      rw [hwd] at hres
      have hb12 := H1.out.2.2.trans (HB.out.1.mono H1.out.2.2.size)
      rcases hres with ⟨hbig, rfl, hb3⟩ | ⟨_, hR3⟩
      · have HF := Lib.hid (And.intro (show Big ≤ V xs * V ys by have := mul_big hH.out.2 hH'.out.2 Hs.out.1.1 Hs.out.2.1 hk0 hk0' (by have := HN.out; omega); rw [hH.out.1, hH'.out.1] at this; exact this) (hb12.trans (hb3.mono hb12.size)))
        clear hb3 hb12 hwd hbig
        go_wp2_with (fail)
        go_ret2
        exact ⟨.inr ⟨rfl, HF.out.1⟩, HF.out.2⟩
      · obtain ⟨hR4, hb4⟩ := hR3.from hb12
        clear hR3 hwd hb12
        rcases hR4 with ⟨v, rfl, h5, h6⟩ | ⟨rfl, h5⟩
        · have HF := Lib.hid (And.intro h5 (And.intro h6 hb4))
          clear h5 h6 hb4
          go_wp2_with (fail)
          go_ret2
          exact ⟨.inl ⟨v, rfl, HF.out.1, HF.out.2.1⟩, HF.out.2.2⟩
        · have HF := Lib.hid (And.intro h5 hb4)
          clear h5 hb4
          go_wp2_with (fail)
          go_ret2
          exact ⟨.inr ⟨rfl, HF.out.1⟩, HF.out.2⟩
end Go.Proofs.YthpgdpkemnhneaaGreatDoor

namespace Go.Proofs.YthpgdpkemnhneaaGreatDoor
open Go.RowKit Go.Shelf
set_option linter.unusedVariables false
set_option maxRecDepth 10000

set_option maxHeartbeats 400000 in
theorem squareWords_any (A : Option Addr) (n c : Nat) (w : World) :
    Calls Tryz.prog 77 #[.slice A n c] w fun e w' => e = .returned (.func (.func 96) #[] #[.pointer (some ⟨w.heap.size, 0, none⟩)]) ∧ w.alloc (.cells #[.slice A n c] 23) = w' := by
  go_enter Tryz.func77, Tryz.ntmps77
  go_wp2
  go_ret
  exact ⟨rfl, rfl⟩

set_option maxHeartbeats 2000000 in
theorem NSquare_ok (A : Option Addr) (n c : Nat) (xs : List Nat) (w : World) (hn : n ≤ 4096) (hx : Sl w A n c xs) :
    Calls Tryz.prog 40 #[.slice A n c] w fun e w' => Rs w w' e (V xs * V xs) := by
  have Hx := Lib.hid hx
  have Hk := Lib.hid (chkS_one (A := A) (c := c) hn)
  clear hx
  go_enter Tryz.func40, Tryz.ntmps40
  go_wp2_with (fail)
  refine (checkSizes_one A _ c _ _ w rfl).mono ?_
  rintro e w1 ⟨rfl, hb1⟩
  rw [Hk.out]
  have H1 := Lib.hid (And.intro (Hx.out.below hb1) hb1)
  clear hb1
  go_wp2_with (fail)
  refine (used_ok A n c xs w1 (by omega) H1.out.1).mono ?_
  rintro e w2 ⟨k, rfl, hk, hH, rfl⟩
  have Hs := Lib.hid (H1.out.1.tk hk)
  obtain ⟨N, hN, hN2⟩ : ∃ N : Nat, (2 : Int) * (k : Int) = (N : Int) ∧ N = 2 * k := ⟨2 * k, by omega, rfl⟩
  have HN := Lib.hid hN2
  have hN3 : N ≤ 8192 := by omega
  clear hN2
  go_wp2_with (fail)
  refine (squareWords_any A k c w1).mono ?_
  rintro e w2 ⟨rfl, hw2⟩
  have hb2 : Below w1.heap.size w1 w2 := by rw [← hw2]; exact (Below.refl _ _).alloc (Nat.le_refl _) _
  have hsz : w2.heap.size = w1.heap.size + 1 := by rw [← hw2]; simp
  have hd1 : Wd w2 w1.heap.size (.slice A k c) := by rw [← hw2]; exact Wd.new w1 _ _
  have HB := Lib.hid (And.intro hb2 (And.intro hsz hd1))
  clear hb2 hsz hd1 hw2
  have hR : ∀ W, Below w2.heap.size w2 W → RSW w2.heap.size w1.heap.size A k c (xs.take k) W := fun W hW =>
    ⟨Cap_new Hs.out (HB.out.2.2.below hW (by have := HB.out.2.1; omega)) (HB.out.1.trans (hW.mono HB.out.1.size)) HB.out.1.size, hW.size, by have := HB.out.2.1; omega⟩
  have HG := Lib.hid (gathered_ok 96 #[.pointer (some ⟨w1.heap.size, 0, none⟩)] (wrd (fun k_1 => pc (xs.take k) (xs.take k) k_1 (xs.take k).length)) N _ w2 (by omega) (fun k => wrd_lt _ k) (fun args w => run_callFunc_enter Tryz.func96 (by kernel_rfl) (by kernel_rfl) args w)
    (by rw [HN.out]; exact square_rounds w2.heap.size w1.heap.size A k c (xs.take k) (by omega) Hs.out.1) hR)
  clear hR
  go_wp2_with (fail)
  refine HG.out.mono ?_
  rintro e w3 hres
  have hwd : V ((List.range N).map (wrd (fun k_1 => pc (xs.take k) (xs.take k) k_1 (xs.take k).length))) = V xs * V xs := by
    have := mul_words Hs.out.2.2.2.1 Hs.out.2.2.2.1
    rw [Hs.out.1, ← Nat.two_mul, ← HN.out, hH.out.1] at this
    rw [Hs.out.1]
    exact this
  rw [hwd] at hres
  have hb12 := H1.out.2.trans (HB.out.1.mono H1.out.2.size)
  rcases hres with ⟨hbig, rfl, hb3⟩ | ⟨_, hR3⟩
  · have HF := Lib.hid (And.intro (show Big ≤ V xs * V xs by have := mul_big hH.out.2 hH.out.2 Hs.out.1 Hs.out.1 (by have := HN.out; omega) (by have := HN.out; omega) (by have := HN.out; omega); rw [hH.out.1] at this; exact this) (hb12.trans (hb3.mono hb12.size)))
    clear hb3 hb12 hwd hbig
    go_wp2_with (fail)
    go_ret2
    exact ⟨.inr ⟨rfl, HF.out.1⟩, HF.out.2⟩
  · obtain ⟨hR4, hb4⟩ := hR3.from hb12
    clear hR3 hwd hb12
    rcases hR4 with ⟨v, rfl, h5, h6⟩ | ⟨rfl, h5⟩
    · have HF := Lib.hid (And.intro h5 (And.intro h6 hb4))
      clear h5 h6 hb4
      go_wp2_with (fail)
      go_ret2
      exact ⟨.inl ⟨v, rfl, HF.out.1, HF.out.2.1⟩, HF.out.2.2⟩
    · have HF := Lib.hid (And.intro h5 hb4)
      clear h5 hb4
      go_wp2_with (fail)
      go_ret2
      exact ⟨.inr ⟨rfl, HF.out.1⟩, HF.out.2⟩
end Go.Proofs.YthpgdpkemnhneaaGreatDoor
