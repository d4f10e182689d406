/- A region that draws its order of evaluation INSIDE A ROUND: what is shown outside of any round serves, where nothing is deferred. -/
import Derived.Test.YtekikolhnfofeaaBack
namespace Go.Proofs.Ytekikolhnfofeaa
open Go.RowKit Go.Shelf
set_option linter.unusedVariables false

/-- no operation defers a call -/
def NoDefer (ops : Array Oper) : Prop := ∀ (i : Nat) (o : Oper), ops[i]? = some o → ∀ c, o.op ≠ Op.defer c
def noDefer (ops : Array Oper) : Bool := ops.toList.all fun o => match o.op with | .defer _ => false | _ => true
theorem NoDefer.of {ops : Array Oper} (h : noDefer ops = true) : NoDefer ops := by
  intro i o hi c hc
  have hm : o ∈ ops.toList := by
    obtain ⟨hlt, he⟩ := Array.getElem?_eq_some_iff.1 hi
    rw [← he]; exact Array.getElem_mem_toList hlt
  have := List.all_eq_true.1 h o hm
  rw [hc] at this
  cases this

theorem uponIn_inRound {F : Fence} {n : Nat} {P : Program} {o : Oper} {a : Act} {next : Act → World → Prop} {Q : Exit → Act → World → Prop} {l : Nat} {r : Result Next}
    (h : o.uponIn F n P a next Q r) : o.uponIn (F.inRound l) n P a next Q r := by
  cases r with
  | ok x w => cases x <;> exact h
  | halt x w => cases x <;> exact h

theorem wpIn_inRound {F : Fence} {n : Nat} {P : Program} {o : Oper} {a : Act} {w : World} {next : Act → World → Prop} {Q : Exit → Act → World → Prop} {l : Nat}
    (hro : F.round = none) (hd : ∀ c, o.op ≠ Op.defer c) (h : o.wpIn F n P a w next Q) : o.wpIn (F.inRound l) n P a w next Q := by
  unfold Oper.wpIn at *
  refine ⟨h.1, uponIn_inRound ?_⟩
  have h2 := h.2
  rw [hro, Oper.semAt_none] at h2
  rw [Fence.inRound_round, Oper.semAt_some l _ _ hd]
  exact h2

theorem wpOpIn_inRound {F : Fence} {n : Nat} {P : Program} {ops : Array Oper} {Q : Exit → Act → World → Prop} {i : Nat} {K : Act → World → Prop} {a : Act} {w : World} {l : Nat}
    (hro : F.round = none) (hd : NoDefer ops) (h : wpOpIn F n P ops Q i K a w) : wpOpIn (F.inRound l) n P ops Q i K a w := by
  unfold wpOpIn at *
  cases ho : ops[i]? with
  | none => simp only [ho] at h ⊢; exact h
  | some o =>
    simp only [ho] at h ⊢
    by_cases hw : Region.wanted o (yielded ops a.tmps) = true
    · simp only [hw, if_true] at h ⊢
      exact wpIn_inRound hro (hd i o ho) h
    · simp only [hw] at h ⊢
      exact h

theorem wpAnyIn_inRound {F : Fence} {n : Nat} {P : Program} {md : Region.Mode} {ops : Array Oper} {Q : Exit → Act → World → Prop} {l : Nat} (hro : F.round = none) (hd : NoDefer ops) :
    ∀ (fuel : Nat) (listed : Array Bool) (a : Act) (w : World), wpAnyIn F n P md ops Q fuel listed a w → wpAnyIn (F.inRound l) n P md ops Q fuel listed a w := by
  intro fuel
  induction fuel with
  | zero => intro listed a w h; exact h
  | succ fuel ih =>
    intro listed a w h
    exact ⟨h.1, fun i hi => wpOpIn_inRound hro hd (wpOpIn_mono (fun a w => ih _ a w) (h.2 i hi))⟩

/-- a region that draws its order, walked inside a round, where it ends as it should in one way alone -/
theorem region_inRound {n : Nat} {P : Program} {ops : Array Oper} {Q : Exit → Act → World → Prop} {l id : Nat} {a : Act} {w : World} (hm : P.follows .mixedOrders = true) (hd : NoDefer ops)
    (h : wpAnyIn Fence.wide n P .any ops (fun e a w => match e with | .normal => Q .normal a w | _ => False) ops.size (Array.replicate ops.size false) a w.drew) :
    (Code.region id ops true).wpIn (Fence.wide.inRound l) n P Q a w :=
  Code.wpIn_mono (fun e a w he => by cases e <;> first | exact he | exact he.elim)
    (wpIn_region_any (Q := fun e a w => match e with | .normal => Q .normal a w | _ => False) hm (wpAnyIn_inRound rfl hd _ _ _ _ h))
/-- a region whose walk ends as it should in one way alone -/
theorem region_plain {F : Fence} {n : Nat} {P : Program} {ops : Array Oper} {Q : Exit → Act → World → Prop} {id : Nat} {b : Bool} {a : Act} {w : World}
    (h : (Code.region id ops b).wpIn F n P (fun e a w => match e with | .normal => Q .normal a w | _ => False) a w) : (Code.region id ops b).wpIn F n P Q a w :=
  Code.wpIn_mono (fun e a w he => by cases e <;> first | exact he | exact he.elim) h
/-- three results are returned, where a range over a function has left its mark -/
theorem leaves_marked3 {F : Fence} {n : Nat} {P : Program} {fn : Func} {tmps : Array Value} {R : Ending → World → Prop} {D : Nat} {W : World} {t u v : Tmp} (hr : fn.results = #[.tmp t, .tmp u, .tmp v]) (hcol : W.heap[D]? = some (.deferred (some [])))
    (h : R (.returned (.tuple #[tmps.getD t undef, tmps.getD u undef, tmps.getD v undef])) (W.putObj D (.deferred none))) : LeavesInM F n P fn tmps R [{ target := .collected D, args := #[] }] .returning W :=
  ⟨by simp, .inl ⟨_, _, rfl, run_takeDeferred hcol, ⟨_, results_tmp3 hr _ _ _, h⟩⟩⟩
theorem leaves_marked2 {F : Fence} {n : Nat} {P : Program} {fn : Func} {tmps : Array Value} {R : Ending → World → Prop} {D : Nat} {W : World} {t u : Tmp} (hr : fn.results = #[.tmp t, .tmp u]) (hcol : W.heap[D]? = some (.deferred (some [])))
    (h : R (.returned (.tuple #[tmps.getD t undef, tmps.getD u undef])) (W.putObj D (.deferred none))) : LeavesInM F n P fn tmps R [{ target := .collected D, args := #[] }] .returning W :=
  ⟨by simp, .inl ⟨_, _, rfl, run_takeDeferred hcol, ⟨_, results_tmp2 hr _ _ _, h⟩⟩⟩
theorem RowAt.put {W : World} {g : Nat} {zs : List Nat} (h : RowAt W g zs) {D : Nat} (hD : g ≠ D) (o : Obj) : RowAt (W.putObj D o) g zs := (World.putObj_heap_other hD).trans h
theorem below_putObj {B D : Nat} {w W : World} (h : Below B w W) (hD : B ≤ D) (o : Obj) : Below B w (W.putObj D o) :=
  ⟨h.os, h.tape, h.output, by rw [World.putObj]; simpa using h.size, fun k hk => (World.putObj_heap_other (by omega)).trans (h.block k hk)⟩
theorem KeepsOthers_drewN (W : World) (m : Nat) : KeepsOthers W (W.drewN m) := ⟨Nat.le_refl _, fun _ _ h _ => h⟩
end Go.Proofs.Ytekikolhnfofeaa
