/- Pieces of the proofs, together: Base, InfoU, Range, Word, Val, BackM, NatM, Tk, Mem, Used, DigM, Dig, PlusL, Zer, Times, One, Short, Row, Cut, Plus, Minus, RWord, SameR, RNat, NTrim, Lift, RSum, RCmp, Num, NRowM. -/
import Derived.WalkKit
import Derived.WalkSpells
import Derived.WalkLawsBesides
import Derived.Maps.AppendAt
import Derived.Lib.Hide
import Derived.Deep.QuietTactic
import Derived.BigQuiet
import Derived.RangeFuncNested
import Derived.RangeFuncBound
import Derived.RangeFuncCalls
import Derived.RangeFuncLeaves
import Derived.RangeFuncWrites
import Derived.Shelf.Bits.Mul64
import Derived.Laws.Externs
import Derived.Shelf.Abstract
import Derived.Shelf.RegionOpen
import Derived.OwnWalkIn
import Derived.TacticsInMore
import Derived.LoopNIn
import Derived.LoopIn
import Derived.Laws.CopyOwn
import Derived.Deep.RegionWith
import Derived.Deep.RegionHeld3
import Derived.Deep.AppendLies
import Derived.Test.YthpgdpkemnhneaaGreatDoorProg

namespace Go.Proofs.YthpgdpkemnhneaaGreatDoor
open Go.RowKit
set_option linter.unusedVariables false

/-- The values of a row of words. -/
def uvs (xs : List Nat) : List Value := xs.map fun x : Nat => Value.int .u64 (x : Int)
/-- The values of a row of ints. -/
def ivs (xs : List Int) : List Value := xs.map fun x : Int => Value.int .i64 x

theorem uvs_length (xs : List Nat) : (uvs xs).length = xs.length := List.length_map _
theorem ivs_length (xs : List Int) : (ivs xs).length = xs.length := List.length_map _
theorem uvs_append (xs ys : List Nat) : uvs (xs ++ ys) = uvs xs ++ uvs ys := List.map_append
theorem uvs_get {xs : List Nat} {k x : Nat} (h : xs[k]? = some x) : (uvs xs)[k]? = some (.int .u64 (x : Int)) := by simp [uvs, h]
theorem uvs_one (xs : List Nat) : ∀ u ∈ uvs xs, u.oneCell' = true := by
  intro u hu
  obtain ⟨_, _, rfl⟩ := List.mem_map.1 hu
  rfl

/-- The slice at A holds the cells vs, and lies below block B. -/
def Rd (w : World) (B : Nat) (A : Option Addr) (vs : List Value) : Prop :=
  vs ≠ [] → ∃ b o, A = some ⟨b, o, none⟩ ∧ b < B ∧ ∀ j u, vs[j]? = some u → w.cell? ⟨b, o + j, none⟩ = some u

section
variable {w w' : World} {B B' : Nat} {A : Option Addr} {vs : List Value}
theorem Rd.nil : Rd w B A [] := fun h => absurd rfl h
theorem Rd.at {k : Nat} {u : Value} (h : Rd w B A vs) (hk : vs[k]? = some u) : ∃ b o, A = some ⟨b, o, none⟩ ∧ b < B ∧ w.cell? ⟨b, o + k, none⟩ = some u := by
  obtain ⟨b, o, e, hb, hc⟩ := h (by rintro rfl; simp at hk)
  exact ⟨b, o, e, hb, hc k u hk⟩
theorem Rd.keep (h : Rd w B A vs) (hk : ∀ p : Addr, p.block < B → w'.cell? p = w.cell? p) : Rd w' B A vs := fun hn => by
  obtain ⟨b, o, e, hb, hc⟩ := h hn
  exact ⟨b, o, e, hb, fun j u hu => (hk ⟨b, o + j, none⟩ hb).trans (hc j u hu)⟩
theorem Rd.more (h : Rd w B A vs) (hB : B ≤ B') : Rd w B' A vs := fun hn => by
  obtain ⟨b, o, e, hb, hc⟩ := h hn
  exact ⟨b, o, e, by omega, hc⟩
theorem Rd.below (h : Rd w B A vs) (hb : Below B w w') : Rd w' B A vs := h.keep fun _ hp => hb.cell hp
theorem Rd.drew (h : Rd w B A vs) : Rd w.drew B A vs := h
theorem Rd.drewN (h : Rd w B A vs) (k : Nat) : Rd (w.drewN k) B A vs := h
theorem Rd.alloc (h : Rd w B A vs) (hB : B ≤ w.heap.size) (o : Obj) : Rd (w.alloc o) B A vs := h.keep fun p hp => World.cell?_alloc_lt w o p (by omega)
theorem Rd.setCell (h : Rd w B A vs) {p : Addr} (hB : B ≤ p.block) (u : Value) : Rd (w.setCell p u) B A vs :=
  h.keep fun q hq => World.cell?_setCell_other w p q u (fun e => by subst e; omega)
theorem Rd.take (h : Rd w B A vs) (k : Nat) : Rd w B A (vs.take k) := fun hn => by
  obtain ⟨b, o, e, hb, hc⟩ := h (by rintro rfl; simp at hn)
  refine ⟨b, o, e, hb, fun j u hu => hc j u ?_⟩
  rw [List.getElem?_take] at hu
  split at hu
  · exact hu
  · cases hu
theorem Rd.drop (h : Rd w B A vs) {k cap : Nat} (hc : vs.length ≤ cap) : Rd w B (if cap = k then A else A.map (·.add k)) (vs.drop k) := fun hn => by
  have hlt : k < vs.length := by
    rcases Nat.lt_or_ge k vs.length with h1 | h1
    · exact h1
    · exact absurd (List.drop_of_length_le h1) hn
  obtain ⟨b, o, rfl, hb, hcell⟩ := h (by rintro rfl; simp at hn)
  rw [if_neg (by omega)]
  refine ⟨b, o + k, by simp [Addr.add_lit], hb, fun j u hu => ?_⟩
  rw [Nat.add_assoc]
  exact hcell _ u (by rw [← hu, List.getElem?_drop])
theorem Rd.of_own {base : Nat} {e : TypeId} {n c : Nat} (h : w.ownsRow base e 1 (.slice A n c) n vs) : Rd w w.heap.size A vs := by
  intro hn
  rcases h.2 with ⟨hv, h0⟩ | ⟨g, cap, cur, hv, _, hg, _⟩
  · have := h.1
    exact absurd (List.eq_nil_of_length_eq_zero (by omega)) hn
  · injection hv with hA
    subst hA
    refine ⟨g, 0, rfl, (Array.getElem?_eq_some_iff.1 hg).1, fun j u hu => ?_⟩
    have := h.cells (g := g) rfl j u hu
    rwa [Addr.add_lit] at this
end

theorem Rd.grown {w w' : World} {B g : Nat} {A : Option Addr} {vs : List Value} (h : Rd w B A vs) (hg : w.grownBy w' (some g)) (hB : B ≤ w.heap.size) (hgB : B ≤ g) : Rd w' B A vs :=
  h.keep fun p hp => World.cell?_of_block (hg.block p.block (by omega) (by intro e; injection e with e; omega))
/-- One new cell. -/
theorem Rd.one (w : World) (v : Value) (t : TypeId) : Rd (w.alloc (.cells #[v] t)) (w.heap.size + 1) (some ⟨w.heap.size, 0, none⟩) [v] := by
  intro _
  refine ⟨w.heap.size, 0, rfl, by omega, fun j u hu => ?_⟩
  match j, hu with
  | 0, hu =>
    simp at hu
    subst hu
    simp

/-- What an owned row's value is. -/
theorem own_form {w : World} {base : Nat} {e : TypeId} {v : Value} {n : Nat} {vs : List Value} (h : w.ownsRow base e 1 v n vs) :
    ∃ A c, v = .slice A n c ∧ n ≤ c ∧ c ≤ maxLen ∧ vs.length = n ∧ Rd w w.heap.size A vs := by
  have h0 := h
  rcases h.2 with ⟨rfl, rfl⟩ | ⟨g, cap, cur, rfl, _, hg, h1, h2, _⟩
  · exact ⟨none, 0, rfl, Nat.le_refl _, by simp [maxLen], by simpa using h.1, Rd.of_own h0⟩
  · exact ⟨_, cap, rfl, h1, h2, by simpa using h.1, Rd.of_own h0⟩

theorem own_base {w : World} {base base' : Nat} {e : TypeId} {v : Value} {n size : Nat} {vs : List Value} (h : w.ownsRow base e size v n vs) (hb : base' ≤ base) : w.ownsRow base' e size v n vs := by
  refine ⟨h.1, ?_⟩
  rcases h.2 with h2 | ⟨g, cap, cur, hv, hg, r⟩
  · exact .inl h2
  · exact .inr ⟨g, cap, cur, hv, by omega, r⟩
theorem own_below {w w' : World} {base B : Nat} {e : TypeId} {v : Value} {n size : Nat} {vs : List Value} (h : w.ownsRow base e size v n vs) (hb : Below B w w') (hB : w.heap.size ≤ B) : w'.ownsRow base e size v n vs := by
  refine ⟨h.1, ?_⟩
  rcases h.2 with h2 | ⟨g, cap, cur, hv, hg, hh, r⟩
  · exact .inl h2
  · have := (Array.getElem?_eq_some_iff.1 hh).1
    exact .inr ⟨g, cap, cur, hv, hg, (hb.block g (by omega)).trans hh, r⟩
theorem own_drewN {w : World} {base : Nat} {e : TypeId} {v : Value} {n size : Nat} {vs : List Value} (h : w.ownsRow base e size v n vs) (k : Nat) : (w.drewN k).ownsRow base e size v n vs := h
theorem below_drewN {B : Nat} {a w : World} (h : Below B a w) (n : Nat) : Below B a (w.drewN n) := ⟨h.os, h.tape, h.output, h.size, h.block⟩
theorem below_of_grown {B : Nat} {a w : World} (h : a.grownBy w none) (hB : B ≤ a.heap.size) : Below B a w := (Below.refl B a).grown h hB (by intro k hk; cases hk)

theorem grown_trans {a b c : World} {r : Option Nat} (h : a.grownBy b r) (k : b.grownBy c r) : a.grownBy c r :=
  ⟨k.os.trans h.os, k.tape.trans h.tape, k.output.trans h.output, Nat.le_trans h.size k.size, fun i hi hr => (k.block i (Nat.lt_of_lt_of_le hi h.size) hr).trans (h.block i hi hr)⟩
theorem grown_below {a b c : World} {r : Option Nat} (h : a.grownBy b r) (k : Below a.heap.size b c) : a.grownBy c r :=
  ⟨k.os.trans h.os, k.tape.trans h.tape, k.output.trans h.output, Nat.le_trans h.size k.size, fun i hi hr => (k.block i hi).trans (h.block i hi hr)⟩
theorem grown_drewN {a b : World} {r : Option Nat} (h : a.grownBy b r) (n : Nat) : a.grownBy (b.drewN n) r := ⟨h.os, h.tape, h.output, h.size, h.block⟩
theorem grown_drew {a b : World} {r : Option Nat} (h : a.grownBy b r) : a.grownBy b.drew r := ⟨h.os, h.tape, h.output, h.size, h.block⟩
theorem grown_some {a b : World} (h : a.grownBy b none) (r : Option Nat) : a.grownBy b r := ⟨h.os, h.tape, h.output, h.size, fun i hi _ => h.block i hi (by simp)⟩
theorem grown_set (w : World) (g i : Nat) (u : Value) : w.grownBy (w.setCell ⟨g, i, none⟩ u) (some g) :=
  ⟨rfl, rfl, rfl, by simp [World.setCell], fun k _ hr => Below.heap_setCell _ _ _ _ (by intro e; exact hr (by rw [e]))⟩
/-- The word (or whatever) in a variable's own block g, that may be written. -/
def Wd (a : World) (g : Nat) (v : Value) : Prop := a.cell? ⟨g, 0, none⟩ = some v ∧ a.frozen? ⟨g, 0, none⟩ = false
theorem Wd.below {a b : World} {g B : Nat} {v : Value} (h : Wd a g v) (hb : Below B a b) (hg : g < B) : Wd b g v :=
  ⟨(hb.cell (p := ⟨g, 0, none⟩) hg).trans h.1, (hb.frozen (p := ⟨g, 0, none⟩) hg).trans h.2⟩
theorem Wd.lt {a : World} {g : Nat} {v : Value} (h : Wd a g v) : g < a.heap.size := World.block_lt_of_cell? a (a := ⟨g, 0, none⟩) h.1
theorem Wd.grown {a b : World} {g r : Nat} {v : Value} (h : Wd a g v) (hg : a.grownBy b (some r)) (hne : g ≠ r) : Wd b g v :=
  ⟨hg.cell h.1 (by intro e; injection e with e; exact hne e), (World.frozen?_of_block (a := ⟨g, 0, none⟩) (hg.block g h.lt (by intro e; injection e with e; exact hne e))).trans h.2⟩
theorem Wd.new (w : World) (v : Value) (t : TypeId) : Wd (w.alloc (.cells #[v] t)) w.heap.size v := ⟨by simp, by simp⟩
theorem Wd.alloc {a : World} {g : Nat} {v : Value} (h : Wd a g v) (o : Obj) : Wd (a.alloc o) g v := h.grown (World.grownBy_alloc a o (some a.heap.size)) (by have := h.lt; omega)
theorem Wd.drewN {a : World} {g : Nat} {v : Value} (h : Wd a g v) (k : Nat) : Wd (a.drewN k) g v := h
theorem Wd.set {a : World} {g : Nat} {v : Value} (h : Wd a g v) (u : Value) : Wd (a.setCell ⟨g, 0, none⟩ u) g u :=
  ⟨World.cell?_setCell_same' _ _ _ (by rw [h.1]; rfl), by rw [World.frozen?_setCell]; exact h.2⟩
/-- An own row beside a written block below it. -/
theorem own_kept {w w' : World} {base g : Nat} {e : TypeId} {v : Value} {n size : Nat} {vs : List Value} (h : w.ownsRow base e size v n vs) (hg : w.grownBy w' (some g)) (hlt : g < base) : w'.ownsRow base e size v n vs :=
  h.kept hg (by
    cases hb : v.ownBlock with
    | none => exact .inl rfl
    | some gb => exact .inr (by have := (h.lt gb hb).1; intro e; injection e with e; omega))
/-- A function with a body is entered. -/
theorem run_callFunc_enter {P : Program} {f : FuncId} {fn : Func} (hf : P.funcs[f]? = some fn) (hname : (fn.name == "runtime.NumGoroutine") = false) (hb : fn.body.isNone = false) (args : Array Value) (w : World) :
    Sem.run P (callFunc f args) w = .ok (Next.enter f args) w := by
  have h1 : fn.name ≠ "runtime.NumGoroutine" := by simpa using hname
  have h2 : fn.body ≠ none := by intro e; rw [e] at hb; cases hb
  simp [callFunc, hf, h1, h2]

section
variable {P : Program} (w : World)

theorem run_append_none (base : Nat) (t ty e : TypeId) (i : TypeInfo) (size : Nat) (ht : P.underlying t = some (.slice e)) (hi : P.info? e = some i)
    (v : Value) (n : Nat) (xs : List Value) (hown : w.ownsRow base e size v n xs) (c : Nat) : (Builtin.append_ #[t, t] ty #[v, .slice none 0 c]).run P w = .ok v w := by
  rcases hown.2 with ⟨rfl, rfl⟩ | ⟨g, cap, cur, rfl, _, _, hnc, _⟩
  · simp [Builtin.append_, run_underlying ht, sizeOf, typeInfo, hi, Builtin.lenOf, Builtin.firstCells]
  · simp [Builtin.append_, run_underlying ht, sizeOf, typeInfo, hi, Builtin.lenOf, Builtin.firstCells, hnc, storeCells]

/-- 'append(v, s...)', v the call's own row, s whatever slice, nil too; elements of one cell and 8 bytes. -/
theorem run_append_rd (base : Nat) (t ty e : TypeId) (i : TypeInfo) (z : Value) (ht : P.underlying t = some (.slice e)) (hi : P.info? e = some i) (hz : i.zero = some z)
    (hsize : i.size = 1) (hby : i.bytes = 8) (hzs : z.cells.size = 1)
    (v : Value) (n : Nat) (xs : List Value) (hown : w.ownsRow base e 1 v n xs)
    (B : Nat) (A : Option Addr) (m c : Nat) (news : List Value) (hm : news.length = m) (hr : Rd w B A news) (h1 : ∀ u ∈ news, u.oneCell' = true)
    (hlen : n + m ≤ 17592186044416) (hbase : base ≤ w.heap.size) :
    ∃ v' w', (Builtin.append_ #[t, t] ty #[v, .slice A m c]).run P w = .ok v' w' ∧ w'.ownsRow base e 1 v' (n + m) (xs ++ news) ∧ w.grownBy w' v.ownBlock ∧
      (v'.ownBlock = v.ownBlock ∨ v'.ownBlock = some w.heap.size) := by
  have hnil : m = 0 → news = [] := fun h => List.eq_nil_of_length_eq_zero (by omega)
  rcases A with _ | ad
  · have hn : news = [] := by
      by_cases h : news = []
      · exact h
      · obtain ⟨b, o, hA, _⟩ := hr h
        cases hA
    subst hn
    obtain rfl : m = 0 := by simpa using hm.symm
    exact ⟨v, w, run_append_none w base t ty e i 1 ht hi v n xs hown c, by simpa using hown, World.grownBy.refl w _, .inl rfl⟩
  · have hcells : ∀ j u, news[j]? = some u → w.cell? (ad.add j) = some u := by
      intro j u hu
      obtain ⟨b, o, hA, _, hc⟩ := hr (by rintro rfl; simp at hu)
      injection hA with hA
      subst hA
      rw [Addr.add_lit]
      exact hc j u hu
    obtain ⟨v', w', hrun, h2, h3, _, h5⟩ := run_append_own_at (P := P) w base t ty e i z 1 8 ht hi hz hsize hby hzs (by decide) v n xs hown ad m c news (by omega) hcells h1 (by unfold maxLen; omega) (by omega) hbase
    exact ⟨v', w', hrun, h2, h3, h5⟩

theorem wpList_append_rd {ops : Array Oper} {rest : List Oper} {o : Oper} {a : Act} {Q : Exit → Act → World → Prop} (hgd : o.guard = none) (s x : Operand) (t : TypeId)
    (ho : o.op = .call { callee := .builtin .append, args := #[s, x], argTypes := #[t, t] })
    (base : Nat) (e : TypeId) (i : TypeInfo) (z : Value) (ht : P.underlying t = some (.slice e)) (hi : P.info? e = some i) (hz : i.zero = some z)
    (hsize : i.size = 1) (hby : i.bytes = 8) (hzs : z.cells.size = 1)
    (v : Value) (n : Nat) (xs : List Value) (hs : a.eval s = v) (hown : w.ownsRow base e 1 v n xs)
    (B : Nat) (A : Option Addr) (m c : Nat) (news : List Value) (hx : a.eval x = .slice A m c) (hm : news.length = m) (hr : Rd w B A news) (h1 : ∀ u ∈ news, u.oneCell' = true)
    (hlen : n + m ≤ 17592186044416) (hbase : base ≤ w.heap.size)
    (h : ∀ v' w', w'.ownsRow base e 1 v' (n + m) (xs ++ news) → w.grownBy w' v.ownBlock → (v'.ownBlock = v.ownBlock ∨ v'.ownBlock = some w.heap.size) → wpList P ops Q rest (a.put o.dst v') w') : wpList P ops Q (o :: rest) a w := by
  refine wpList_plain hgd fun K hK => ?_
  obtain ⟨v', w', hrun, h2, h3, h4⟩ := run_append_rd (P := P) w base t o.type e i z ht hi hz hsize hby hzs v n xs hown B A m c news hm hr h1 hlen hbase
  unfold Oper.wp execOp
  simp only [ho, resolve, invoke, builtin, Sem.run_bind, Sem.run_pure, Result.andThen_ok, List.map_toArray, List.map_cons, List.map_nil, hs, hx, hrun]
  exact hK _ _ (h v' w' h2 h3 h4)
end
end Go.Proofs.YthpgdpkemnhneaaGreatDoor

namespace Go.Proofs.YthpgdpkemnhneaaGreatDoor
open Go.RowKit
theorem Tryz.info44 : (Tryz.prog.info? 44).map (fun i => (i.zero, i.size, i.bytes)) = some (some (.int .u64 0), 1, 8) := by kernel_rfl
end Go.Proofs.YthpgdpkemnhneaaGreatDoor

namespace Go.Proofs.YthpgdpkemnhneaaGreatDoor
open Go.RowKit
set_option linter.unusedVariables false
variable {F : Fence} {n : Nat} {P : Program}

/-- The contract of an iterator that goes through N rounds, round k with the values encs k. -/
def Rounds (F : Fence) (n : Nat) (P : Program) (g : Nat) (lb : Array Value) (encs : Nat → Array Value) (N : Nat) (R : Nat → World → Prop) (w : World) : Prop :=
  ∀ (l : Nat) (J Jx : Nat → World → Prop) (W : World), Below w.heap.size w W → AbidesFrom W.heap.size J → AbidesFrom W.heap.size Jx → (∀ k W1, J k W1 → R k W1) →
    (∀ k W1, J k W1 → k < N → YieldAt F (n - 1) P l (encs k) W1 fun e W' => (e = .returned (.bool true) ∧ J (k + 1) W') ∨ (e = .returned (.bool false) ∧ Jx (k + 1) W')) →
    J 0 W →
    CallsIn F n P g (#[.func (.yield l) #[] #[]] ++ lb) W fun e W' => (∃ v, e = .returned v) ∧ (J N W' ∨ ∃ k, Jx k W')

/-- How the body of a round may be left. -/
def roundPost (B : Nat) (I : Nat → World → Prop) (Ix : Code → Nat → World → Prop) (k : Nat) (W : World) : Exit → Act → World → Prop
  | .normal, _, W' => KeepsFrom B W W' ∧ I (k + 1) W'
  | .ret, _, W' => KeepsFrom B W W' ∧ Ix .ret (k + 1) W'
  | .exit id, _, W' => KeepsFrom B W W' ∧ Ix (.exit id) (k + 1) W'
  | .goto t, _, W' => KeepsFrom B W W' ∧ Ix (.goto t) (k + 1) W'
  | .panic _, _, _ => False
  | .outgrown, _, _ => False

theorem wpIn_rounds {g : Operand} {ps : Array Tmp} {assign body : Code} {Q : Exit → Act → World → Prop} {a : Act} {w : World}
    (hro : F.round = none) (h1 : 1 ≤ n) {gf : Nat} {lb : Array Value} (hg : a.eval g = .func (.func gf) #[] lb) (hFg : F.fn gf) (eg : ∀ args w, (callFunc gf args).run P w = .ok (.enter gf args) w)
    {encs : Nat → Array Value} {R : Nat → World → Prop} {N : Nat} {w0 : World} (hseq : Rounds F (n - 1) P gf lb encs N R w0) (hb0 : Below w0.heap.size w0 w) (hps : ∀ x, (encs x).size = ps.size)
    (I : Nat → World → Prop) (Ix : Code → Nat → World → Prop) (hI : OwnFrom w.heap.size I) (hIx : ∀ c, OwnFrom w.heap.size (Ix c)) (hR : ∀ k W, I k W → R k W) (h0 : I 0 w) (a₁ : Nat → Act)
    (hassign : ∀ (l : Nat) (k : Nat) (W : World) (K : Act → World → Prop), K (a₁ k) W →
      assign.wpIn (F.inRound l) (n - 1 - 1) P (Exit.then K (fun _ _ _ => False)) { tmps := (ps.zip (encs k)).foldl (fun t (p, v) => t.setIfInBounds p v) a.tmps, defers := [] } W)
    (hbody : ∀ (l : Nat) (k : Nat) (W : World), I k W → k < N → body.wpIn (F.inRound l) (n - 1 - 1) P (roundPost w.heap.size I Ix k W) (a₁ k) W)
    (hdone : ∀ (D : Nat) (W : World), w.heap.size ≤ D → I N W → W.heap[D]? = some (.deferred (some [])) → Q .normal { a with defers := { target := .collected D, args := #[] } :: a.defers } W)
    (hstop : ∀ (D : Nat) (c : Code) (k : Nat) (W : World), w.heap.size ≤ D → Ix c k W → W.heap[D]? = some (.deferred (some [])) → c.wpIn F n P Q { a with defers := { target := .collected D, args := #[] } :: a.defers } W) :
    (Code.rangeFunc g ps assign body).wpIn F n P Q a w := by
  refine wpIn_rangeFunc fun fn hfn => ?_
  rw [hro]
  obtain ⟨rec, hrec⟩ : ∃ rec : LoopState → Option Code → Loop, rec = fun st pe => { state := st, pending := pe, fn, tmps := a.tmps, params := ps, assign, body, defers := w.heap.size } := ⟨_, rfl⟩
  obtain ⟨W1, hW1⟩ : ∃ W1, (w.alloc (.deferred (some []))).alloc (.loop (rec .ready none)) = W1 := ⟨_, rfl⟩
  have hL1 : W1.heap[w.heap.size + 1]? = some (.loop (rec .ready none)) := by
    have := World.alloc_heap_new (w.alloc (.deferred (some []))) (.loop (rec .ready none))
    rwa [World.size_alloc, hW1] at this
  have hK1 : W1.heap[w.heap.size]? = some (.deferred (some [])) := by
    rw [← hW1]
    exact (Below.heap_alloc _ _ _ (by simp)).trans (World.alloc_heap_new w _)
  have hI1 : I 0 W1 := by rw [← hW1]; exact hI.alloc _ (hI.alloc _ h0)
  have hsz : W1.heap.size = w.heap.size + 2 := by rw [← hW1]; simp
  have hb1 : Below w0.heap.size w0 W1 := by
    rw [← hW1]
    exact hb0.trans ((((Below.refl _ w).alloc (Nat.le_refl _) _).alloc (by simp) _).mono hb0.size)
  refine ⟨w.heap.size + 1, [{ target := .collected w.heap.size, args := #[] }], W1, { target := .fn (.func gf) lb, args := #[.func (.yield (w.heap.size + 1)) #[] #[]] }, W1, gf,
    #[.func (.yield (w.heap.size + 1)) #[] #[]] ++ lb, W1, ?_, ?_, ?_, ?_, fun _ => h1, ?_⟩
  · rw [← hW1, hrec]; exact run_enterLoop_outer _ _ _ _ _
  · simp only [resolve, hg]
    simp [go_sem]
  · intro f' hf'
    simp [Target.leads] at hf'
    subst hf'
    exact hFg
  · simp [invoke, go_sem, eg]
  · have walkless : ∀ {A : World} {row : Option Nat}, (∀ r, row = some r → W1.heap.size ≤ r ∧ ∃ o : Obj, A.heap[r]? = some o ∧ o.isWalk = true) → (∀ r, row = some r → w.heap.size ≤ r ∧ ∃ o : Obj, A.heap[r]? = some o ∧ o.isCells = false) :=
      fun hr r e => by
        obtain ⟨hB, o, ho, hw⟩ := hr r e
        exact ⟨by omega, o, ho, Obj.not_cells_of_walk hw⟩
    refine (hseq (w.heap.size + 1)
      (fun k W => I k W ∧ W.heap[w.heap.size + 1]? = some (.loop (rec .ready none)) ∧ W.heap[w.heap.size]? = some (.deferred (some [])))
      (fun k W => ∃ c, Ix c k W ∧ W.heap[w.heap.size + 1]? = some (.loop (rec .done (some c))) ∧ W.heap[w.heap.size]? = some (.deferred (some [])))
      W1 hb1
      (fun s A B row hs hg' hr => ⟨hI s A B row hs.1 hg' (walkless hr), (grownBy_keeps hg' (fun r e => (hr r e).2) hs.2.1 rfl).trans hs.2.1, (grownBy_keeps hg' (fun r e => (hr r e).2) hs.2.2 rfl).trans hs.2.2⟩)
      (fun s A B row hs hg' hr => by
        obtain ⟨c, hc, hl, hk⟩ := hs
        exact ⟨c, hIx c s A B row hc hg' (walkless hr), (grownBy_keeps hg' (fun r e => (hr r e).2) hl rfl).trans hl, (grownBy_keeps hg' (fun r e => (hr r e).2) hk rfl).trans hk⟩)
      (fun k W hk => hR k W hk.1)
      ?_ ⟨hI1, hL1, hK1⟩).mono ?_
    · rintro k W ⟨hi, hl, hk⟩ hlen
      have hlt : w.heap.size + 1 < W.heap.size := (Array.getElem?_eq_some_iff.1 hl).1
      have hy := run_yield (P := P) (args := encs k) hl (by rw [hrec]; exact hps k)
      rw [hrec] at hy
      refine ⟨fn, _, assign, body, hy, roundIn_of_wpIn hfn (hassign _ k W _ ⟨_, run_beginRound hl (by rw [hrec]), ?_⟩)⟩
      have hl2 : (W.putObj (w.heap.size + 1) (.loop { rec .ready none with state := .busy })).heap[w.heap.size + 1]? = some (.loop { rec .ready none with state := .busy }) := World.putObj_heap_same hlt
      have hk2 : (W.putObj (w.heap.size + 1) (.loop { rec .ready none with state := .busy })).heap[w.heap.size]? = some (.deferred (some [])) := (World.putObj_heap_other (by omega)).trans hk
      refine wpIn_mono (hbody _ k _ (hI.putObj _ hi (by omega) hl rfl) hlen) ?_
      have fin : ∀ (jump : Option Code) (W3 : World), KeepsFrom w.heap.size (W.putObj (w.heap.size + 1) (.loop { rec .ready none with state := .busy })) W3 →
          (Instr.endRound (w.heap.size + 1) jump).run P W3 = .ok (.bool jump.isNone) (W3.putObj (w.heap.size + 1) (.loop (rec (if jump.isNone then .ready else .done) jump))) ∧
          W3.heap[w.heap.size + 1]? = some (.loop { rec .ready none with state := .busy }) ∧
          (W3.putObj (w.heap.size + 1) (.loop (rec (if jump.isNone then .ready else .done) jump))).heap[w.heap.size + 1]? = some (.loop (rec (if jump.isNone then .ready else .done) jump)) ∧
          (W3.putObj (w.heap.size + 1) (.loop (rec (if jump.isNone then .ready else .done) jump))).heap[w.heap.size]? = some (.deferred (some [])) := fun jump W3 hk3 => by
        have hl3 := hk3.same _ _ (by omega) hl2 rfl
        have := run_endRound (P := P) jump hl3
        rw [hrec] at this ⊢
        exact ⟨this, by rw [hrec] at hl3; exact hl3, World.putObj_heap_same (Array.getElem?_eq_some_iff.1 hl3).1, (World.putObj_heap_other (by omega)).trans (hk3.same _ _ (Nat.le_refl _) hk2 rfl)⟩
      rintro e a3 W3 hp
      cases e with
      | normal =>
        obtain ⟨hk3, hi3⟩ := hp
        obtain ⟨hr, hl3, hl4, hk4⟩ := fin none W3 hk3
        exact ⟨_, _, hr, .inl ⟨rfl, hI.putObj _ hi3 (by omega) hl3 rfl, hl4, hk4⟩⟩
      | ret =>
        obtain ⟨hk3, hi3⟩ := hp
        obtain ⟨hr, hl3, hl4, hk4⟩ := fin (some .ret) W3 hk3
        exact ⟨_, _, hr, .inr ⟨rfl, .ret, (hIx _).putObj _ hi3 (by omega) hl3 rfl, hl4, hk4⟩⟩
      | exit id =>
        obtain ⟨hk3, hi3⟩ := hp
        obtain ⟨hr, hl3, hl4, hk4⟩ := fin (some (.exit id)) W3 hk3
        exact ⟨_, _, hr, .inr ⟨rfl, .exit id, (hIx _).putObj _ hi3 (by omega) hl3 rfl, hl4, hk4⟩⟩
      | goto t =>
        obtain ⟨hk3, hi3⟩ := hp
        obtain ⟨hr, hl3, hl4, hk4⟩ := fin (some (.goto t)) W3 hk3
        exact ⟨_, _, hr, .inr ⟨rfl, .goto t, (hIx _).putObj _ hi3 (by omega) hl3 rfl, hl4, hk4⟩⟩
      | panic ch => exact hp.elim
      | outgrown => exact hp.elim
    · rintro e W2 ⟨⟨v, rfl⟩, (⟨hi, hl, hk⟩ | ⟨k, c, hi, hl, hk⟩)⟩
      · exact ⟨none, _, by have := run_endLoop (P := P) hl (by rw [hrec]; simp); rw [hrec] at this; exact this, hdone _ _ (Nat.le_refl _) (hI.putObj _ hi (by omega) hl rfl) ((World.putObj_heap_other (by omega)).trans hk)⟩
      · exact ⟨some c, _, by have := run_endLoop (P := P) hl (by rw [hrec]; simp); rw [hrec] at this; exact this, hstop _ c k _ (Nat.le_refl _) ((hIx c).putObj _ hi (by omega) hl rfl) ((World.putObj_heap_other (by omega)).trans hk)⟩
end Go.Proofs.YthpgdpkemnhneaaGreatDoor

namespace Go.Proofs.YthpgdpkemnhneaaGreatDoor
open Go.RowKit
set_option linter.unusedVariables false

/-- the base of words -/
def B64 : Nat := 18446744073709551616

open Go.Shelf in
def lays264_ren : Go.Shelf.Ren := ⟨fun | 264 => 90 | n => n, fun | 53 => 44 | 46 => 43 | n => n, fun | n => n⟩
theorem lays264 : Go.Proofs.Lays.n264 Tryz.prog lays264_ren := {
  mixed := by kernel_rfl
  f264 := Tryz.func90.trans (congrArg some (by kernel_rfl))
  t46 := Tryz.underlying43
  a46 := Tryz.isAgg43
  z46 := Tryz.sizeOf43
  v46 := Tryz.zeroValue43
  t53 := Tryz.underlying44
  a53 := Tryz.isAgg44
  z53 := Tryz.sizeOf44
  v53 := Tryz.zeroValue44 }

theorem mul64_any (x y : Nat) (hx : x < B64) (hy : y < B64) : ∃ h l : Nat, (x * y = h * B64 + l ∧ l < B64 ∧ h + 2 ≤ B64) ∧
    ∀ w, Calls Tryz.prog 90 #[.int .u64 x, .int .u64 y] w fun e w' => e = .returned (.tuple #[.int .u64 (h : Int), .int .u64 (l : Int)]) ∧ w = w' := by
  refine ⟨x * y / B64, x * y % B64, ⟨?_, ?_, ?_⟩, fun w => (Any.bits_Mul64 lays264 x y hx hy w).mono fun e w' h => ⟨h.1, h.2.symm⟩⟩
  · have := Nat.div_add_mod (x * y) B64
    rw [Nat.mul_comm B64] at this
    exact this.symm
  · exact Nat.mod_lt _ (by decide)
  · have h1 : x * y ≤ (B64 - 1) * (B64 - 1) := Nat.mul_le_mul (by omega) (by omega)
    have h2 : (B64 - 1) * (B64 - 1) < (B64 - 1) * B64 := Nat.mul_lt_mul_of_pos_left (by decide) (by decide)
    have h3 : x * y / B64 < B64 - 1 := Nat.div_lt_of_lt_mul (Nat.lt_of_le_of_lt h1 (Nat.lt_of_lt_of_eq h2 (Nat.mul_comm _ _)))
    have h4 : 2 ≤ B64 := by decide
    omega

theorem add64_any (x y c : Nat) (hx : x < B64) (hy : y < B64) (hc : c ≤ 1) : ∃ s d : Nat, (x + y + c = s + d * B64 ∧ s < B64 ∧ d ≤ 1) ∧
    ∀ w, (callFunc 91 #[.int .u64 x, .int .u64 y, .int .u64 c]).run Tryz.prog w = .ok (.value (.tuple #[.int .u64 (s : Int), .int .u64 (d : Int)])) w := by
  refine ⟨(x + y + c) % B64, (x + y + c) / B64, ⟨?_, Nat.mod_lt _ (by decide), ?_⟩, fun w => ?_⟩
  · have := Nat.mod_add_div (x + y + c) B64
    rw [Nat.mul_comm B64] at this
    exact this.symm
  · have : (x + y + c) / B64 < 2 := Nat.div_lt_of_lt_mul (by omega)
    omega
  · rw [run_callFunc_extern Tryz.func91 (by kernel_rfl) (by kernel_rfl) (by kernel_rfl) (e := add64Entry) (by kernel_rfl), run_add64 x y c (by omega) (by omega) (by omega) (by omega)]
    simp only [Result.andThen, B64]
    congr 5

theorem add64_zero (x y : Nat) (hx : x < B64) (hy : y < B64) : ∃ s d : Nat, (x + y = s + d * B64 ∧ s < B64 ∧ d ≤ 1) ∧
    ∀ w, (callFunc 91 #[.int .u64 x, .int .u64 y, .int .u64 0]).run Tryz.prog w = .ok (.value (.tuple #[.int .u64 (s : Int), .int .u64 (d : Int)])) w :=
  add64_any x y 0 hx hy (by omega)

/-- the model's entry for Sub64 -/
def subEntry : Array Value → Sem Value := fun args => do
  let (x, y, b) ← Extern.MathBitsCarry.three "Sub64" args
  pure (Extern.MathBitsCarry.pair ((x + Extern.MathBitsCarry.m64 - y - b) % Extern.MathBitsCarry.m64) (if x < y + b then 1 else 0))
theorem run_subEntry {P : Program} (x y b : Nat) (hb : b ≤ 1) (w : World) :
    (subEntry #[.int .u64 x, .int .u64 y, .int .u64 b]).run P w =
      .ok (.tuple #[.int .u64 (((x + B64 - y - b) % B64 : Nat) : Int), .int .u64 ((if x < y + b then 1 else 0 : Nat) : Int)]) w := by
  have : b = 0 ∨ b = 1 := by omega
  rcases this with rfl | rfl <;> rfl

theorem sub64_any (x y c : Nat) (hx : x < B64) (hy : y < B64) (hc : c ≤ 1) : ∃ s d : Nat, (x + d * B64 = s + y + c ∧ s < B64 ∧ d ≤ 1) ∧
    ∀ w, (callFunc 92 #[.int .u64 x, .int .u64 y, .int .u64 c]).run Tryz.prog w = .ok (.value (.tuple #[.int .u64 (s : Int), .int .u64 (d : Int)])) w := by
  refine ⟨(x + B64 - y - c) % B64, if x < y + c then 1 else 0, ⟨?_, Nat.mod_lt _ (by decide), by split <;> omega⟩, fun w => ?_⟩
  · have hB : 0 < B64 := by decide
    split
    · rename_i h
      rw [Nat.mod_eq_of_lt (by omega)]
      omega
    · rename_i h
      rw [show x + B64 - y - c = (x - y - c) + B64 by omega, Nat.add_mod_right, Nat.mod_eq_of_lt (by omega)]
      omega
  · rw [run_callFunc_extern Tryz.func92 (by kernel_rfl) (by kernel_rfl) (by kernel_rfl) (e := subEntry) (by kernel_rfl), run_subEntry x y c hc]
    rfl

theorem sub64_zero (x y : Nat) (hx : x < B64) (hy : y < B64) : ∃ s d : Nat, (x + d * B64 = s + y ∧ s < B64 ∧ d ≤ 1) ∧
    ∀ w, (callFunc 92 #[.int .u64 x, .int .u64 y, .int .u64 0]).run Tryz.prog w = .ok (.value (.tuple #[.int .u64 (s : Int), .int .u64 (d : Int)])) w :=
  sub64_any x y 0 hx hy (by omega)

theorem returned_agg2 {a b c d : Int} (h : a = b) (k : c = d) : Ending.returned (.agg #[.int .u64 a, .int .u64 c]) = .returned (.agg #[.int .u64 b, .int .u64 d]) := by rw [h, k]

set_option maxHeartbeats 400000 in
theorem times_any (a b : Nat) (ha : a < B64) (hb : b < B64) : ∃ h l : Nat, (a * b = h * B64 + l ∧ l < B64 ∧ h + 2 ≤ B64) ∧
    ∀ w, Calls Tryz.prog 107 #[.int .u64 a, .int .u64 b] w fun e w' => e = .returned (.agg #[.int .u64 (h : Int), .int .u64 (l : Int)]) ∧ Below w.heap.size w w' := by
  obtain ⟨h, l, hf, hcall⟩ := mul64_any a b ha hb
  refine ⟨h, l, hf, fun w => ?_⟩
  have Hc := Lib.hid hcall
  clear hf hcall ha hb
  go_enter Tryz.func107, Tryz.ntmps107
  go_wp2_with (go_at_call 90; refine (Hc.out _).mono ?_; rintro e w' ⟨rfl, rfl⟩)
  exact bodyPost_ret (v := .agg #[.int .u64 (h : Int), .int .u64 (l : Int)]) (by simp [results, Tryz.results107, go_sem]) rfl ⟨rfl, (Below.refl _ _).alloc (Nat.le_refl _) _⟩

theorem prod_room1 (b x y c : Nat) (hx : x < b) (hy : y < b) (hc : c < b) : x * y + c < b * b := by
  have h1 : x * y ≤ (b - 1) * y := Nat.mul_le_mul_right _ (by omega)
  have h2 : (b - 1) * y + y = b * y := by rw [← Nat.succ_mul]; congr 1; omega
  have h3 : b * y + b ≤ b * b := by rw [← Nat.mul_succ]; exact Nat.mul_le_mul_left _ hy
  omega
theorem prod_room2 (b x y c d : Nat) (hx : x < b) (hy : y < b) (hc : c < b) (hd : d < b) : x * y + c + d < b * b := by
  have h1 : x * y ≤ (b - 1) * (b - 1) := Nat.mul_le_mul (by omega) (by omega)
  have h2 : (b - 1) * (b - 1) + (b - 1) = (b - 1) * b := by rw [← Nat.mul_succ]; congr 1; omega
  have h3 : (b - 1) * b + b = b * b := by rw [← Nat.succ_mul]; congr 1; omega
  omega
theorem high_lt (b h l : Nat) (h0 : h * b + l < b * b) : h < b := by
  rcases Nat.lt_or_ge h b with h1 | h1
  · exact h1
  · have := Nat.mul_le_mul_right b h1
    omega

theorem sub_room (b x y c h l d z s : Nat) (hx : x < b) (hy : y < b) (hc : c < b) (hs : x * y + c = h * b + l) (h1 : z + d * b = s + l) (h2 : s < b) (h3 : d ≤ 1) (hz : z < b) : h + d < b := by
  have g1 : x * y ≤ (b - 1) * (b - 1) := Nat.mul_le_mul (by omega) (by omega)
  have g2 : (b - 1) * (b - 1) + (b - 1) = (b - 1) * b := by rw [← Nat.mul_succ]; congr 1; omega
  have g3 : h * b + l ≤ (b - 1) * b := by omega
  rcases Nat.lt_or_ge h (b - 1) with h4 | h4
  · omega
  · have g4 := Nat.mul_le_mul_right b h4
    have hl : l = 0 := by omega
    have hd : d = 0 := by
      rcases Nat.eq_zero_or_pos d with h5 | h5
      · exact h5
      · have : d = 1 := by omega
        subst this
        omega
    have h6 : h < b := high_lt b h l (by
      have : (b - 1) * b + b = b * b := by rw [← Nat.succ_mul]; congr 1; omega
      omega)
    omega

end Go.Proofs.YthpgdpkemnhneaaGreatDoor

namespace Go.Proofs.YthpgdpkemnhneaaGreatDoor
open Go.RowKit
set_option linter.unusedVariables false

/-- the value of a row -/
def V : List Nat → Nat
  | [] => 0
  | x :: xs => x + B64 * V xs
/-- all are words -/
def Ws (xs : List Nat) : Prop := ∀ x ∈ xs, x < B64

theorem V_snoc (xs : List Nat) (x : Nat) : V (xs ++ [x]) = V xs + x * B64 ^ xs.length := by
  induction xs with
  | nil => simp [V]
  | cons y ys ih =>
    rw [List.cons_append, V, ih, List.length_cons, Nat.pow_succ, V]
    generalize B64 = b
    grind
theorem V_take_succ (xs : List Nat) (k : Nat) (h : k < xs.length) : V (xs.take (k + 1)) = V (xs.take k) + xs[k] * B64 ^ k := by
  rw [List.take_succ_eq_append_getElem h, V_snoc, List.length_take, Nat.min_eq_left (by omega)]
theorem vlt (b y v p : Nat) (h1 : y < b) (h2 : v < p) : y + b * v < p * b := by
  have h3 : b * (v + 1) ≤ b * p := Nat.mul_le_mul_left _ h2
  rw [Nat.mul_succ] at h3
  rw [Nat.mul_comm p]
  omega
theorem V_lt (xs : List Nat) (h : Ws xs) : V xs < B64 ^ xs.length := by
  induction xs with
  | nil => simp [V]
  | cons y ys ih =>
    have h1 : y < B64 := h y (by simp)
    have h2 : V ys < B64 ^ ys.length := ih fun x hx => h x (by simp [hx])
    rw [List.length_cons, Nat.pow_succ]
    exact vlt _ _ _ _ h1 h2
theorem digit_inj (b x y p q : Nat) (hx : x < b) (hy : y < b) (h : x + b * p = y + b * q) : x = y ∧ p = q := by
  have hm : x = y := by
    have := congrArg (· % b) h
    simpa [Nat.mod_eq_of_lt hx, Nat.mod_eq_of_lt hy] using this
  subst hm
  exact ⟨rfl, Nat.eq_of_mul_eq_mul_left (show 0 < b by omega) (by omega)⟩
theorem V_inj : ∀ (xs ys : List Nat), Ws xs → Ws ys → xs.length = ys.length → V xs = V ys → xs = ys
  | [], [], _, _, _, _ => rfl
  | [], _ :: _, _, _, h, _ => by simp at h
  | _ :: _, [], _, _, h, _ => by simp at h
  | x :: xs, y :: ys, hx, hy, hl, hv => by
    obtain ⟨h1, h2⟩ := digit_inj B64 x y (V xs) (V ys) (hx x (List.mem_cons_self ..)) (hy y (List.mem_cons_self ..)) hv
    rw [h1, V_inj xs ys (fun z hz => hx z (List.mem_cons_of_mem _ hz)) (fun z hz => hy z (List.mem_cons_of_mem _ hz)) (Nat.succ.inj hl) h2]
theorem Ws_snoc {xs : List Nat} {x : Nat} (h : Ws xs) (hx : x < B64) : Ws (xs ++ [x]) := by
  intro z hz
  rcases List.mem_append.1 hz with h1 | h1
  · exact h z h1
  · rw [List.mem_singleton] at h1; subst h1; exact hx
theorem Ws_nil : Ws [] := fun _ h => by cases h

/-- one step of a sum -/
theorem step_add {z k x y c s d a b e : Nat} (h : x + y + c = s + d * B64) (i : z + c * B64 ^ k = a + b + e) : z + s * B64 ^ k + d * B64 ^ (k + 1) = a + x * B64 ^ k + (b + y * B64 ^ k) + e := by
  rw [Nat.pow_succ]
  generalize B64 = b at *
  grind
/-- one step of a difference -/
theorem step_sub {z k x y c s d a b e : Nat} (h : x + d * B64 = s + y + c) (i : a + c * B64 ^ k = z + b + e) : a + x * B64 ^ k + d * B64 ^ (k + 1) = z + s * B64 ^ k + (b + y * B64 ^ k) + e := by
  rw [Nat.pow_succ]
  generalize B64 = b at *
  grind
/-- one step of a product -/
theorem step_mul {z k x w c s d a e : Nat} (h : x * w + c = d * B64 + s) (i : z + c * B64 ^ k = a * w + e) : z + s * B64 ^ k + d * B64 ^ (k + 1) = (a + x * B64 ^ k) * w + e := by
  rw [Nat.pow_succ]
  generalize B64 = b at *
  grind
/-- one step of a product that is added -/
theorem step_addmul {z k x w y c s d a e : Nat} (h : x * w + y + c = d * B64 + s) (i : z + c * B64 ^ k = e + a * w) : z + s * B64 ^ k + d * B64 ^ (k + 1) = (e + y * B64 ^ k) + (a + x * B64 ^ k) * w := by
  rw [Nat.pow_succ]
  generalize B64 = b at *
  grind
/-- one step of a product that is taken away -/
theorem step_submul {z k x w y c s d a e : Nat} (h : y + d * B64 = s + (x * w + c)) (i : e + c * B64 ^ k = z + a * w) : (e + y * B64 ^ k) + d * B64 ^ (k + 1) = (z + s * B64 ^ k) + (a + x * B64 ^ k) * w := by
  rw [Nat.pow_succ]
  generalize B64 = b at *
  grind

/-- The slice (A, n, c) holds the row xs. -/
def Sl (w : World) (A : Option Addr) (n c : Nat) (xs : List Nat) : Prop := xs.length = n ∧ n ≤ c ∧ c ≤ 9223372036854775807 ∧ Ws xs ∧ Rd w w.heap.size A (uvs xs)
/-- The variable at block p holds the slice (A, n, c), and this the row xs. -/
def Cap (a : World) (B0 : Nat) (p : Nat) (A : Option Addr) (n c : Nat) (xs : List Nat) : Prop := Wd a p (.slice A n c) ∧ xs.length = n ∧ Ws xs ∧ Rd a B0 A (uvs xs)
theorem Cap.below {a b : World} {B B0 p : Nat} {A : Option Addr} {n c : Nat} {xs : List Nat} (h : Cap a B0 p A n c xs) (hb : Below B a b) (hp : p < B) (h0 : B0 ≤ B) : Cap b B0 p A n c xs :=
  ⟨h.1.below hb hp, h.2.1, h.2.2.1, h.2.2.2.below (hb.mono h0)⟩
theorem Cap.grown {a b : World} {B0 p g : Nat} {A : Option Addr} {n c : Nat} {xs : List Nat} (h : Cap a B0 p A n c xs) (hg : a.grownBy b (some g)) (hp : p ≠ g) (h0 : B0 ≤ a.heap.size) (hg0 : B0 ≤ g) : Cap b B0 p A n c xs :=
  ⟨h.1.grown hg hp, h.2.1, h.2.2.1, h.2.2.2.grown hg h0 hg0⟩
theorem Cap.at {a : World} {B0 p : Nat} {A : Option Addr} {n c : Nat} {xs : List Nat} (h : Cap a B0 p A n c xs) {k : Nat} (hk : k < n) :
    ∃ x b o, A = some ⟨b, o, none⟩ ∧ x < B64 ∧ V (xs.take (k + 1)) = V (xs.take k) + x * B64 ^ k ∧ xs[k]? = some x ∧ a.cell? ⟨b, o + k, none⟩ = some (.int .u64 (x : Int)) := by
  have hl : k < xs.length := by rw [h.2.1]; exact hk
  have hg : xs[k]? = some xs[k] := List.getElem?_eq_getElem hl
  obtain ⟨b, o, e, _, hc⟩ := h.2.2.2.at (uvs_get hg)
  exact ⟨xs[k], b, o, e, h.2.2.1 _ (List.getElem_mem hl), V_take_succ xs k hl, hg, hc⟩
theorem Cap.at2 {a : World} {B0 p : Nat} {A : Option Addr} {n c : Nat} {xs : List Nat} (h : Cap a B0 p A n c xs) {k : Nat} (hk : k < n) :
    ∃ x b o, A = some ⟨b, o, none⟩ ∧ b < B0 ∧ x < B64 ∧ V (xs.take (k + 1)) = V (xs.take k) + x * B64 ^ k ∧ xs[k]? = some x ∧ a.cell? ⟨b, o + k, none⟩ = some (.int .u64 (x : Int)) := by
  have hl : k < xs.length := by rw [h.2.1]; exact hk
  have hg : xs[k]? = some xs[k] := List.getElem?_eq_getElem hl
  obtain ⟨b, o, e, hb, hc⟩ := h.2.2.2.at (uvs_get hg)
  exact ⟨xs[k], b, o, e, hb, h.2.2.1 _ (List.getElem_mem hl), V_take_succ xs k hl, hg, hc⟩
/-- v is a new row zs of n words. -/
def Nw (w w' : World) (v : Value) (n : Nat) (zs : List Nat) : Prop := zs.length = n ∧ Ws zs ∧ w'.ownsRow w.heap.size 44 1 v n (uvs zs)
theorem Sl.get {w : World} {A : Option Addr} {n c : Nat} {xs : List Nat} (h : Sl w A n c xs) {k : Nat} (hk : k < n) :
    ∃ x, xs[k]? = some x ∧ x < B64 ∧ V (xs.take (k + 1)) = V (xs.take k) + x * B64 ^ k := by
  have hl : k < xs.length := by rw [h.1]; exact hk
  exact ⟨xs[k], List.getElem?_eq_getElem hl, h.2.2.2.1 _ (List.getElem_mem hl), V_take_succ xs k hl⟩
theorem Sl.below {w w' : World} {A : Option Addr} {n c : Nat} {xs : List Nat} (h : Sl w A n c xs) (hb : Below w.heap.size w w') : Sl w' A n c xs :=
  ⟨h.1, h.2.1, h.2.2.1, h.2.2.2.1, (h.2.2.2.2.below hb).more hb.size⟩
theorem Sl.take_all {w : World} {A : Option Addr} {n c : Nat} {xs : List Nat} (h : Sl w A n c xs) : xs.take n = xs := List.take_of_length_le (by rw [h.1]; exact Nat.le_refl _)
theorem Nw.sl {w w' : World} {v : Value} {n : Nat} {zs : List Nat} (h : Nw w w' v n zs) : ∃ A c, v = .slice A n c ∧ Sl w' A n c zs := by
  obtain ⟨A, c, e, h1, h2, _, h4⟩ := own_form h.2.2
  exact ⟨A, c, e, h.1, h1, by unfold maxLen at h2; exact h2, h.2.1, h4⟩
end Go.Proofs.YthpgdpkemnhneaaGreatDoor

namespace Go.Proofs.YthpgdpkemnhneaaGreatDoor
open Go.RowKit Go.Shelf
set_option linter.unusedVariables false
attribute [local go_sem] Oper.semAt_some

/-- Block g is just the row zs. -/
def RowAt (W : World) (g : Nat) (zs : List Nat) : Prop := W.heap[g]? = some (.cells (uvs zs).toArray 44 (0, 0))

theorem RowAt.own {w W : World} {g : Nat} {zs : List Nat} (h : RowAt W g zs) (hg : w.heap.size ≤ g) (hl : zs.length ≤ 4096) : W.ownsRow w.heap.size 44 1 (.slice (some ⟨g, 0, none⟩) zs.length zs.length) zs.length (uvs zs) :=
  ⟨by rw [uvs_length]; omega, .inr ⟨g, zs.length, _, rfl, hg, h, Nat.le_refl _, by unfold maxLen; omega, by simp [uvs_length], by rw [Nat.mul_one]; exact List.take_of_length_le (by simp [uvs_length])⟩⟩
theorem RowAt.cell {W : World} {g : Nat} {zs : List Nat} (h : RowAt W g zs) {i x : Nat} (hi : zs[i]? = some x) : W.cell? ⟨g, i, none⟩ = some (.int .u64 (x : Int)) := by
  rw [cell_of_row W g i _ _ _ h]
  simpa using uvs_get hi

theorem RowAt.lt {W : World} {g : Nat} {zs : List Nat} (h : RowAt W g zs) : g < W.heap.size := (Array.getElem?_eq_some_iff.1 h).1
theorem RowAt.frozen {W : World} {g : Nat} {zs : List Nat} (h : RowAt W g zs) (i : Nat) : W.frozen? ⟨g, i, none⟩ = false := by
  unfold RowAt at h
  simp [World.frozen?, h]
theorem RowAt.set {W : World} {g : Nat} {zs : List Nat} (h : RowAt W g zs) (i x : Nat) : RowAt (W.setCell ⟨g, i, none⟩ (.int .u64 (x : Int))) g (zs.set i x) := by
  unfold RowAt at h ⊢
  simp [World.setCell, Array.getElem?_modify, h, uvs]
theorem RowAt.far {W : World} {g : Nat} {zs : List Nat} (h : RowAt W g zs) {p : Addr} (hp : g ≠ p.block) (u : Value) : RowAt (W.setCell p u) g zs := (Below.heap_setCell W p u g hp).trans h
theorem RowAt.alloc {W : World} {g : Nat} {zs : List Nat} (h : RowAt W g zs) (o : Obj) : RowAt (W.alloc o) g zs := (Below.heap_alloc W o g h.lt).trans h
theorem RowAt.kept {W W' : World} {row : Option Nat} {g : Nat} {zs : List Nat} (h : RowAt W g zs) (hg : W.grownBy W' row) (hrow : ∀ r, row = some r → ∃ o : Obj, W.heap[r]? = some o ∧ o.isCells = false) : RowAt W' g zs :=
  (hg.block g h.lt (fun e => by
    obtain ⟨o, ho, hc⟩ := hrow g e.symm
    unfold RowAt at h
    rw [h] at ho
    cases ho
    cases hc)).trans h
theorem Wd.kept {W W' : World} {row : Option Nat} {g : Nat} {v : Value} (h : Wd W g v) (hg : W.grownBy W' row) (hrow : ∀ r, row = some r → ∃ o : Obj, W.heap[r]? = some o ∧ o.isCells = false) : Wd W' g v :=
  ⟨cell_kept h.1 hg hrow, (frozen_kept h.1 hg hrow).trans h.2⟩
theorem Wd.far {a : World} {g : Nat} {v : Value} (h : Wd a g v) {p : Addr} (hp : g ≠ p.block) (u : Value) : Wd (a.setCell p u) g v :=
  ⟨(World.cell?_setCell_other a p _ u (fun e => hp (by rw [e]))).trans h.1, by rw [World.frozen?_setCell]; exact h.2⟩
theorem V_drop (xs : List Nat) (i x : Nat) (h : xs[i]? = some x) : V (xs.drop i) = x + B64 * V (xs.drop (i + 1)) := by
  obtain ⟨hi, hx⟩ := List.getElem?_eq_some_iff.1 h
  rw [List.drop_eq_getElem_cons hi, V, hx]
theorem V_drop_all (xs : List Nat) (i : Nat) (h : xs.length ≤ i) : V (xs.drop i) = 0 := by rw [List.drop_of_length_le h]; rfl
theorem drop_set (zs : List Nat) (i x : Nat) : (zs.set i x).drop (i + 1) = zs.drop (i + 1) := by
  rw [List.drop_set]
  simp
theorem Ws_set {zs : List Nat} (h : Ws zs) (i x : Nat) (hx : x < B64) : Ws (zs.set i x) := fun y hy => by
  rcases List.mem_or_eq_of_mem_set hy with h1 | h1
  · exact h y h1
  · rw [h1]; exact hx
theorem Tryz.size1 : (Tryz.prog.info? 44).map (·.size) = some 1 := by kernel_rfl
end Go.Proofs.YthpgdpkemnhneaaGreatDoor

namespace Go.Proofs.YthpgdpkemnhneaaGreatDoor
open Go.RowKit
set_option linter.unusedVariables false

/-- the row is canonical: its highest word is not 0 -/
def Cn (xs : List Nat) : Prop := ∀ m, xs.length = m + 1 → xs[m]? ≠ some 0
theorem Cn_nil : Cn [] := fun m h => by simp at h
theorem B64_pos : 0 < B64 := by decide
theorem B64_one : 1 < B64 := by decide
theorem V_ge {xs : List Nat} {m : Nat} (h : Cn xs) (hl : xs.length = m + 1) : B64 ^ m ≤ V xs := by
  have hm : m < xs.length := by omega
  have h1 := V_take_succ xs m hm
  rw [List.take_of_length_le (by omega)] at h1
  have h2 := h m hl
  rw [List.getElem?_eq_getElem hm] at h2
  have h3 : 0 < xs[m] := Nat.pos_of_ne_zero fun e => h2 (by rw [e])
  have h4 := Nat.le_mul_of_pos_left (B64 ^ m) h3
  omega
theorem Cn_of_ge {xs : List Nat} (hw : Ws xs) (h : ∀ m, xs.length = m + 1 → B64 ^ m ≤ V xs) : Cn xs := by
  intro m hl h0
  have hm : m < xs.length := by omega
  have h1 := V_take_succ xs m hm
  rw [List.take_of_length_le (by omega)] at h1
  rw [List.getElem?_eq_getElem hm] at h0
  injection h0 with h0
  rw [h0, Nat.zero_mul, Nat.add_zero] at h1
  have h2 := V_lt (xs.take m) (fun x hx => hw x (List.mem_of_mem_take hx))
  rw [List.length_take, Nat.min_eq_left (by omega)] at h2
  have := h m hl
  omega
/-- the number of words of a canonical row -/
theorem Cn_len {xs : List Nat} (hw : Ws xs) (h : Cn xs) (k : Nat) : xs.length ≤ k ↔ V xs < B64 ^ k := by
  constructor
  · intro hk
    exact Nat.lt_of_lt_of_le (V_lt xs hw) (Nat.pow_le_pow_right B64_pos hk)
  · intro hv
    cases hx : xs.length with
    | zero => omega
    | succ m =>
      have h1 := V_ge h hx
      by_cases hk : m + 1 ≤ k
      · exact hk
      · have := Nat.pow_le_pow_right B64_pos (show k ≤ m by omega)
        omega
theorem Cn_inj {xs ys : List Nat} (hx : Ws xs) (hy : Ws ys) (cx : Cn xs) (cy : Cn ys) (h : V xs = V ys) : xs = ys := by
  refine V_inj xs ys hx hy ?_ h
  have h1 := (Cn_len hx cx ys.length).2 (by rw [h]; exact V_lt ys hy)
  have h2 := (Cn_len hy cy xs.length).2 (by rw [← h]; exact V_lt xs hx)
  omega
theorem V_zero {xs : List Nat} (hx : Ws xs) (cx : Cn xs) : V xs = 0 ↔ xs = [] := by
  constructor
  · intro h; exact Cn_inj hx (fun _ h => by cases h) cx Cn_nil h
  · rintro rfl; rfl

theorem getD_out {xs : List Nat} {i : Nat} (h : xs.length ≤ i) : xs.getD i 0 = 0 := by
  rw [List.getD_eq_getElem?_getD, List.getElem?_eq_none h, Option.getD_none]
/-- a sum of f over the first n places, each with its power -/
def Ps (f : Nat → Nat) : Nat → Nat
  | 0 => 0
  | k + 1 => Ps f k + f k * B64 ^ k
/-- the sum of the first i products of column k -/
def pc (xs ys : List Nat) (k : Nat) : Nat → Nat
  | 0 => 0
  | i + 1 => pc xs ys k i + (if i ≤ k then xs.getD i 0 * ys.getD (k - i) 0 else 0)
theorem pc_beyond (xs ys : List Nat) (k : Nat) {i j : Nat} (h : k < i) (hj : i ≤ j) : pc xs ys k j = pc xs ys k i := by
  induction j with
  | zero => have : i = 0 := by omega
            subst this; rfl
  | succ j ih =>
    by_cases hi : i = j + 1
    · rw [hi]
    · rw [pc, if_neg (by omega), Nat.add_zero]
      exact ih (by omega)
theorem pc_full (xs ys : List Nat) (k : Nat) {i j : Nat} (h : xs.length ≤ i) (hj : i ≤ j) : pc xs ys k j = pc xs ys k i := by
  induction j with
  | zero => have : i = 0 := by omega
            subst this; rfl
  | succ j ih =>
    by_cases hi : i = j + 1
    · rw [hi]
    · rw [pc, getD_out (show xs.length ≤ j by omega), Nat.zero_mul, ite_self, Nat.add_zero]
      exact ih (by omega)
theorem pc_low (xs ys : List Nat) (k i : Nat) (h : i + ys.length ≤ k + 1) : pc xs ys k i = 0 := by
  induction i with
  | zero => rfl
  | succ i ih =>
    rw [pc, ih (by omega), getD_out (show ys.length ≤ k - i by omega), Nat.mul_zero, ite_self]
/-- the sum of a shifted row -/
theorem Ps_shift (ys : List Nat) (i : Nat) (a : Nat) (k : Nat) : Ps (fun k => if i ≤ k then a * ys.getD (k - i) 0 else 0) (i + k) = a * B64 ^ i * V (ys.take k) := by
  induction k with
  | zero =>
    have : ∀ j, j ≤ i → Ps (fun k => if i ≤ k then a * ys.getD (k - i) 0 else 0) j = 0 := by
      intro j
      induction j with
      | zero => intro _; rfl
      | succ j ih =>
        intro hj
        rw [Ps, ih (by omega), if_neg (by omega), Nat.zero_mul]
    rw [Nat.add_zero, this i (Nat.le_refl _)]
    simp [V]
  | succ k ih =>
    rw [← Nat.add_assoc, Ps, ih, if_pos (by omega), Nat.add_sub_cancel_left]
    by_cases hk : k < ys.length
    · rw [V_take_succ ys k hk, List.getD_eq_getElem?_getD, List.getElem?_eq_getElem hk, Option.getD_some, Nat.pow_add]
      generalize B64 ^ i = p
      generalize B64 ^ k = q
      generalize V (ys.take k) = v
      grind
    · rw [getD_out (by omega), List.take_of_length_le (show ys.length ≤ k by omega), List.take_of_length_le (show ys.length ≤ k + 1 by omega)]
      simp
theorem Ps_add (f g : Nat → Nat) (k : Nat) : Ps (fun k => f k + g k) k = Ps f k + Ps g k := by
  induction k with
  | zero => rfl
  | succ k ih =>
    rw [Ps, Ps, Ps, ih, Nat.add_mul]
    omega
theorem Ps_zero (k : Nat) : Ps (fun _ => 0) k = 0 := by
  induction k with
  | zero => rfl
  | succ k ih => rw [Ps, ih, Nat.zero_mul]
/-- the columns add up to the product -/
theorem Ps_pc (xs ys : List Nat) (N : Nat) (i : Nat) (hN : i + ys.length ≤ N) : Ps (fun k => pc xs ys k i) N = V (xs.take i) * V ys := by
  induction i with
  | zero => simp [pc, Ps_zero, V]
  | succ i ih =>
    have h1 : (fun k => pc xs ys k (i + 1)) = fun k => pc xs ys k i + (if i ≤ k then xs.getD i 0 * ys.getD (k - i) 0 else 0) := rfl
    rw [h1, Ps_add, ih (by omega)]
    obtain ⟨j, rfl⟩ : ∃ j, N = i + j := ⟨N - i, by omega⟩
    rw [Ps_shift, List.take_of_length_le (show ys.length ≤ j by omega)]
    by_cases hi : i < xs.length
    · rw [V_take_succ xs i hi, List.getD_eq_getElem?_getD, List.getElem?_eq_getElem hi, Option.getD_some, Nat.add_mul]
    · rw [getD_out (by omega), List.take_of_length_le (show xs.length ≤ i by omega), List.take_of_length_le (show xs.length ≤ i + 1 by omega)]
      simp
theorem Ps_product (xs ys : List Nat) : Ps (fun k => pc xs ys k xs.length) (xs.length + ys.length) = V xs * V ys := by
  rw [Ps_pc xs ys _ _ (Nat.le_refl _), List.take_length]

/-- what is carried into column k, of columns f -/
def cry (f : Nat → Nat) : Nat → Nat
  | 0 => 0
  | k + 1 => (cry f k + f k) / B64
/-- word k of the columns' sum -/
def wrd (f : Nat → Nat) (k : Nat) : Nat := (cry f k + f k) % B64
theorem cry_ps (f : Nat → Nat) (k : Nat) : Ps (wrd f) k + cry f k * B64 ^ k = Ps f k := by
  induction k with
  | zero => simp [Ps, cry]
  | succ k ih =>
    rw [Ps, Ps, ← ih, wrd, cry, Nat.pow_succ]
    have h := Nat.div_add_mod (cry f k + f k) B64
    generalize (cry f k + f k) / B64 = q at *
    generalize (cry f k + f k) % B64 = r at *
    generalize B64 ^ k = p
    generalize Ps (wrd f) k = s
    generalize B64 = b at *
    have h2 : (b * q + r) * p = (cry f k + f k) * p := by rw [h]
    rw [Nat.add_mul, Nat.add_mul] at h2
    have h3 : b * q * p = q * (p * b) := by rw [Nat.mul_comm b q, Nat.mul_assoc, Nat.mul_comm b p]
    omega
theorem wrd_lt (f : Nat → Nat) (k : Nat) : wrd f k < B64 := Nat.mod_lt _ B64_pos
theorem V_words (f : Nat → Nat) (k : Nat) : V ((List.range k).map f) = Ps f k := by
  induction k with
  | zero => rfl
  | succ k ih => rw [List.range_succ, List.map_append, List.map_singleton, V_snoc, ih, Ps]; simp
/-- the words of a product, all of them -/
theorem V_product (f : Nat → Nat) (N x : Nat) (h : Ps f N = x) (hx : x < B64 ^ N) : V ((List.range N).map (wrd f)) = x := by
  rw [V_words]
  have h1 := cry_ps f N
  rw [h] at h1
  rcases Nat.eq_zero_or_pos (cry f N) with h2 | h2
  · rw [h2] at h1; omega
  · have := Nat.le_mul_of_pos_left (B64 ^ N) h2
    omega
/-- columns are small -/
theorem pc_le (xs ys : List Nat) (hx : Ws xs) (hy : Ws ys) (k i : Nat) : pc xs ys k i ≤ i * (B64 * B64) := by
  induction i with
  | zero => simp [pc]
  | succ i ih =>
    rw [pc, Nat.add_mul, Nat.one_mul]
    refine Nat.add_le_add ih ?_
    split
    · refine Nat.mul_le_mul ?_ ?_
      · by_cases hi : i < xs.length
        · rw [List.getD_eq_getElem?_getD, List.getElem?_eq_getElem hi, Option.getD_some]; exact Nat.le_of_lt (hx _ (List.getElem_mem hi))
        · rw [getD_out (by omega)]; omega
      · by_cases hi : k - i < ys.length
        · rw [List.getD_eq_getElem?_getD, List.getElem?_eq_getElem hi, Option.getD_some]; exact Nat.le_of_lt (hy _ (List.getElem_mem hi))
        · rw [getD_out (by omega)]; omega
    · omega
theorem cry_le (f : Nat → Nat) (M : Nat) (hf : ∀ k, f k ≤ M * (B64 * B64)) (k : Nat) : cry f k ≤ 2 * M * B64 := by
  induction k with
  | zero => simp [cry]
  | succ k ih =>
    rw [cry]
    have h1 := hf k
    have h2 : cry f k + f k ≤ B64 * (2 * M * B64) := by
      have h3 : 2 * M * B64 ≤ M * (B64 * B64) := by
        have : 2 * (M * B64) ≤ B64 * (M * B64) := Nat.mul_le_mul_right _ (by decide)
        have e1 : 2 * M * B64 = 2 * (M * B64) := Nat.mul_assoc _ _ _
        have e2 : M * (B64 * B64) = B64 * (M * B64) := by rw [← Nat.mul_assoc, Nat.mul_comm]
        omega
      have e3 : B64 * (2 * M * B64) = 2 * (M * (B64 * B64)) := by
        generalize B64 = b
        grind
      omega
    exact Nat.div_le_of_le_mul h2
theorem pc_sym (xs : List Nat) (k : Nat) (j : Nat) (h : j ≤ k + 1) : pc xs xs k (k + 1) = pc xs xs k (k + 1 - j) + pc xs xs k j := by
  induction j with
  | zero => simp [pc]
  | succ j ih =>
    have h1 := ih (by omega)
    have e : pc xs xs k (k - j + 1) = pc xs xs k (k - j) + xs.getD j 0 * xs.getD (k - j) 0 := by rw [pc, if_pos (by omega), show k - (k - j) = j by omega, Nat.mul_comm]
    rw [show k + 1 - j = (k - j) + 1 by omega, e] at h1
    rw [show k + 1 - (j + 1) = k - j by omega, h1]
    rw [show pc xs xs k (j + 1) = pc xs xs k j + xs.getD j 0 * xs.getD (k - j) 0 by rw [pc, if_pos (by omega)]]
    omega
theorem pc_all (xs : List Nat) (k : Nat) : pc xs xs k xs.length = pc xs xs k (k + 1) := by
  rcases Nat.lt_or_ge k xs.length with h | h
  · exact pc_beyond xs xs k (Nat.lt_succ_self k) h
  · exact (pc_full xs xs k (Nat.le_refl _) (by omega)).symm
/-- a column of a square: twice its pairs, and the middle -/
theorem pc_odd (xs : List Nat) (k j : Nat) (h : 2 * j = k + 1) : pc xs xs k xs.length = pc xs xs k j + pc xs xs k j := by
  rw [pc_all, pc_sym xs k j (by omega), show k + 1 - j = j by omega]
theorem pc_even (xs : List Nat) (k j : Nat) (h : 2 * j = k) : pc xs xs k xs.length = pc xs xs k j + pc xs xs k j + xs.getD j 0 * xs.getD j 0 := by
  rw [pc_all, pc_sym xs k j (by omega), show k + 1 - j = j + 1 by omega, pc, if_pos (by omega), show k - j = j by omega]
  omega

/-- powers, read from the highest bit on -/
theorem pow_half (x k i : Nat) : x ^ (k / 2 ^ i) = x ^ (k / 2 ^ (i + 1)) * x ^ (k / 2 ^ (i + 1)) * (if k / 2 ^ i % 2 = 1 then x else 1) := by
  have h : k / 2 ^ (i + 1) = k / 2 ^ i / 2 := by rw [Nat.pow_succ, Nat.div_div_eq_div_mul]
  rw [h]
  generalize k / 2 ^ i = m
  rw [← Nat.pow_add]
  split
  · rw [← Nat.pow_succ]
    congr 1
    omega
  · rw [Nat.mul_one]
    congr 1
    omega
theorem pow_big (x k i : Nat) (h : 1 < x ^ (k / 2 ^ i)) : x ^ (k / 2 ^ i) ≤ x ^ k := by
  rcases Nat.eq_zero_or_pos x with rfl | hx
  · rcases Nat.eq_zero_or_pos (k / 2 ^ i) with h0 | h0
    · rw [h0] at h; simp at h
    · rw [Nat.zero_pow h0] at h; omega
  · exact Nat.pow_le_pow_right hx (Nat.div_le_self _ _)
end Go.Proofs.YthpgdpkemnhneaaGreatDoor

namespace Go.Proofs.YthpgdpkemnhneaaGreatDoor
open Go.RowKit
set_option linter.unusedVariables false

theorem uvs_take (xs : List Nat) (m : Nat) : uvs (xs.take m) = (uvs xs).take m := by simp [uvs]
theorem Ws_take {xs : List Nat} (h : Ws xs) (k : Nat) : Ws (xs.take k) := fun x hx => h x (List.mem_of_mem_take hx)
theorem Nw.later {w w0 w1 w2 : World} {v : Value} {n : Nat} {zs : List Nat} (h : Nw w w1 v n zs) (h0 : w0.heap.size ≤ w.heap.size) (hb : Below w1.heap.size w1 w2) : Nw w0 w2 v n zs :=
  ⟨h.1, h.2.1, own_base (own_below h.2.2 hb (Nat.le_refl _)) h0⟩
end Go.Proofs.YthpgdpkemnhneaaGreatDoor

namespace Go.Proofs.YthpgdpkemnhneaaGreatDoor
open Go.RowKit
set_option linter.unusedVariables false

theorem below2 {w a b : World} (h1 : Below w.drew.heap.size w.drew a) (h2 : Below a.heap.size a b) : Below w.heap.size w b :=
  (show Below w.heap.size w a from ⟨h1.os, h1.tape, h1.output, h1.size, h1.block⟩).trans (h2.mono h1.size)
theorem belowA {w a : World} (h1 : Below w.drew.heap.size w.drew a) : Below w.heap.size w a := ⟨h1.os, h1.tape, h1.output, h1.size, h1.block⟩
theorem belowB {w a : World} {o : Obj} (h1 : Below (w.alloc o).drew.heap.size (w.alloc o).drew a) : Below w.heap.size w a :=
  ((Below.refl _ w).alloc (Nat.le_refl _) o).trans (Below.mono ⟨h1.os, h1.tape, h1.output, h1.size, h1.block⟩ (by simp))
theorem belowC {w a b : World} {o : Obj} (h1 : Below w.heap.size w a) (h2 : Below (a.alloc o).heap.size (a.alloc o) b) : Below w.heap.size w b :=
  (h1.alloc h1.size o).trans (h2.mono (by have := h1.size; simp; omega))
theorem use_ {p q : Prop} (h : p) (k : p → q) : q := k h
theorem blk2 {W w1 : World} {a b : Value} {t : TypeId} (hb : Below (W.alloc (.cells #[a, b] t)).heap.size (W.alloc (.cells #[a, b] t)) w1) :
    w1.cell? ⟨W.heap.size, 0, none⟩ = some a ∧ w1.cell? ⟨W.heap.size, 1, none⟩ = some b ∧ w1.frozen? ⟨W.heap.size, 0, none⟩ = false ∧ w1.frozen? ⟨W.heap.size, 1, none⟩ = false ∧ W.heap.size < w1.heap.size := by
  refine ⟨(hb.cell (p := ⟨W.heap.size, 0, none⟩) (by simp)).trans ?_, (hb.cell (p := ⟨W.heap.size, 1, none⟩) (by simp)).trans ?_, (hb.frozen (p := ⟨W.heap.size, 0, none⟩) (by simp)).trans ?_, (hb.frozen (p := ⟨W.heap.size, 1, none⟩) (by simp)).trans ?_, ?_⟩
  · simp
  · simp
  · simp
  · simp
  · have := hb.size
    simp at this
    omega
theorem blk2d {W w1 : World} {a b : Value} {t : TypeId} (hb : Below (W.alloc (.cells #[a, b] t)).drew.heap.size (W.alloc (.cells #[a, b] t)).drew w1) :
    w1.cell? ⟨W.heap.size, 0, none⟩ = some a ∧ w1.cell? ⟨W.heap.size, 1, none⟩ = some b ∧ w1.frozen? ⟨W.heap.size, 0, none⟩ = false ∧ w1.frozen? ⟨W.heap.size, 1, none⟩ = false ∧ W.heap.size < w1.heap.size :=
  blk2 (W := W) (a := a) (b := b) (t := t) ⟨hb.os, hb.tape, hb.output, hb.size, hb.block⟩
theorem blk2c {W w1 : World} {g : Nat} {a b : Value} (h1 : W.cell? ⟨g, 0, none⟩ = some a) (h2 : W.cell? ⟨g, 1, none⟩ = some b) (h3 : W.frozen? ⟨g, 0, none⟩ = false) (h4 : W.frozen? ⟨g, 1, none⟩ = false) (hg : g < W.heap.size) (hb : Below W.heap.size W w1) :
    w1.cell? ⟨g, 0, none⟩ = some a ∧ w1.cell? ⟨g, 1, none⟩ = some b ∧ w1.frozen? ⟨g, 0, none⟩ = false ∧ w1.frozen? ⟨g, 1, none⟩ = false ∧ g < w1.heap.size :=
  ⟨(hb.cell (p := ⟨g, 0, none⟩) hg).trans h1, (hb.cell (p := ⟨g, 1, none⟩) hg).trans h2, (hb.frozen (p := ⟨g, 0, none⟩) hg).trans h3, (hb.frozen (p := ⟨g, 1, none⟩) hg).trans h4, Nat.lt_of_lt_of_le hg hb.size⟩
/-- two stores into a new block of two cells -/
theorem Below.set2 {w W : World} (h : Below w.heap.size w W) {g : Nat} (hg : w.heap.size ≤ g) (a b : Value) : Below w.heap.size w ((W.setCell ⟨g, 0, none⟩ a).setCell ⟨g, 1, none⟩ b) :=
  (h.setCell (p := ⟨g, 0, none⟩) hg _).setCell (p := ⟨g, 1, none⟩) hg _
theorem keep4 {a b c d e : Prop} (h : a ∧ b ∧ c ∧ d ∧ e) : a ∧ b ∧ c ∧ d := ⟨h.1, h.2.1, h.2.2.1, h.2.2.2.1⟩
theorem fin_word {w W : World} {g : Nat} {v : Value} (h : Wd w g v) (hg : g < w.heap.size) (hB : Below w.heap.size w W) (u : Value) : Wd (W.setCell ⟨g, 0, none⟩ u) g u ∧ w.grownBy (W.setCell ⟨g, 0, none⟩ u) (some g) :=
  ⟨(h.below hB hg).set u, grown_trans (grown_below (World.grownBy.refl w _) hB) (grown_set _ _ _ _)⟩
end Go.Proofs.YthpgdpkemnhneaaGreatDoor

namespace Go.Proofs.YthpgdpkemnhneaaGreatDoor
open Go.RowKit
set_option linter.unusedVariables false
set_option maxRecDepth 10000

/-- The values of a list of slices. -/
def svs (ls : List (Option Addr × Nat × Nat)) : List Value := ls.map fun s => .slice s.1 s.2.1 s.2.2
theorem svs_get {ls : List (Option Addr × Nat × Nat)} {k : Nat} {s : Option Addr × Nat × Nat} (h : ls[k]? = some s) : (svs ls)[k]? = some (.slice s.1 s.2.1 s.2.2) := by simp [svs, h]
/-- the error of a list of numbers -/
def chkS (ls : List (Option Addr × Nat × Nat)) : Int := if ls.any (fun s => decide (4096 < s.2.1)) then 2 else 0
theorem anyS_succ (p : Option Addr × Nat × Nat → Bool) (ls : List (Option Addr × Nat × Nat)) (k : Nat) (h : k < ls.length) : (ls.take (k + 1)).any p = ((ls.take k).any p || p ls[k]) := by
  rw [List.take_succ_eq_append_getElem h, List.any_append]; simp
theorem anyS_get (p : Option Addr × Nat × Nat → Bool) (ls : List (Option Addr × Nat × Nat)) (k : Nat) (h : k < ls.length) (hp : p ls[k] = true) : ls.any p = true := List.any_eq_true.2 ⟨_, List.getElem_mem h, hp⟩

set_option maxHeartbeats 400000 in
theorem checkSizes_any (ls : List (Option Addr × Nat × Nat)) (A : Option Addr) (m c : Nat) (w : World) (hl : ls.length = m) (hm : m ≤ 100000) (hr : Rd w w.heap.size A (svs ls)) :
    Calls Tryz.prog 20 #[.slice A m c] w fun e w' => e = .returned (.int .i64 (chkS ls)) ∧ w = w' := by
  have Hr := Lib.hid (And.intro hr hl)
  clear hr hl
  go_enter Tryz.func20, Tryz.ntmps20
  go_wp2
  go_loop [4, 7] (fun _ i => ∃ k : Nat, k ≤ m ∧ i = .int .i64 k ∧ (ls.take k).any (fun s => decide (4096 < s.2.1)) = false) (fun _ i => m - (intOf i).toNat)
  case atStart => exact ⟨0, Nat.zero_le _, rfl, rfl⟩
  case round =>
    obtain ⟨k, hk, rfl, hno⟩ := hrel
    have Hno := Lib.hid hno
    clear hno
    by_cases hlt : k < m
    · have hkl : k < ls.length := by rw [Hr.out.2]; exact hlt
      obtain ⟨b, o, rfl, _, hcx⟩ := Hr.out.1.at (svs_get (List.getElem?_eq_getElem hkl))
      have Hs := Lib.hid (anyS_succ (fun s => decide (4096 < s.2.1)) ls k hkl)
      have Hy := Lib.hid (anyS_get (fun s => decide (4096 < s.2.1)) ls k hkl)
      generalize ls[k] = z at *
      obtain ⟨za, zn, zc⟩ := z
      have hki : (k : Int) < m := by omega
      clear hkl
      by_cases hz : 4096 < zn
      · have hzi : (4096 : Int) < zn := by omega
        go_wp2
        go_ret
        refine ⟨?_, rfl⟩
        have := Hy.out (by simpa using hz)
        simp [chkS, this]
      · have hzi : ¬ (4096 : Int) < zn := by omega
        go_wp2
        go_round
        case rel => exact ⟨k + 1, by omega, by go_num, by rw [Hs.out, Hno.out]; simpa using hz⟩
        case measure => simp [intOf]; omega
    · have hno := Hno.out
      rw [List.take_of_length_le (by rw [Hr.out.2]; omega)] at hno
      have H0 := Lib.hid hno
      clear hno
      go_wp2
      go_ret
      refine ⟨?_, rfl⟩
      simp [chkS, H0.out]

/-- checkSizes of two new cells -/
theorem checkSizes_two (A A' : Option Addr) (n n' c c' : Nat) (t : TypeId) (b : Nat) (w : World) (hb : b = w.heap.size) :
    Calls Tryz.prog 20 #[.slice (some ⟨b, 0, none⟩) 2 2] (w.alloc (.cells #[.slice A n c, .slice A' n' c'] t)) fun e w' => e = .returned (.int .i64 (chkS [(A, n, c), (A', n', c')])) ∧ Below w.heap.size w w' := by
  subst hb
  refine (checkSizes_any [(A, n, c), (A', n', c')] _ 2 2 _ rfl (by omega) (fun _ => ⟨w.heap.size, 0, rfl, by simp, fun j u hj => ?_⟩)).mono (by rintro e w' ⟨rfl, rfl⟩; exact ⟨rfl, (Below.refl _ _).alloc (Nat.le_refl _) _⟩)
  match j, hj with
  | 0, hj => simp [svs] at hj; subst hj; simp
  | 1, hj => simp [svs] at hj; subst hj; simp
theorem checkSizes_one (A : Option Addr) (n c : Nat) (t : TypeId) (b : Nat) (w : World) (hb : b = w.heap.size) :
    Calls Tryz.prog 20 #[.slice (some ⟨b, 0, none⟩) 1 1] (w.alloc (.cells #[.slice A n c] t)) fun e w' => e = .returned (.int .i64 (chkS [(A, n, c)])) ∧ Below w.heap.size w w' := by
  subst hb
  refine (checkSizes_any [(A, n, c)] _ 1 1 _ rfl (by omega) (fun _ => ⟨w.heap.size, 0, rfl, by simp, fun j u hj => ?_⟩)).mono (by rintro e w' ⟨rfl, rfl⟩; exact ⟨rfl, (Below.refl _ _).alloc (Nat.le_refl _) _⟩)
  match j, hj with
  | 0, hj => simp [svs] at hj; subst hj; simp
theorem chkS_two {A A' : Option Addr} {n n' c c' : Nat} (h : n ≤ 4096) (h' : n' ≤ 4096) : chkS [(A, n, c), (A', n', c')] = 0 := by
  simp only [chkS, List.any_cons, List.any_nil, Bool.or_false, Bool.or_eq_true, decide_eq_true_eq]
  rw [if_neg (by omega)]
theorem chkS_two_big {A A' : Option Addr} {n n' c c' : Nat} (h : 4096 < n ∨ 4096 < n') : chkS [(A, n, c), (A', n', c')] = 2 := by
  simp only [chkS, List.any_cons, List.any_nil, Bool.or_false, Bool.or_eq_true, decide_eq_true_eq]
  rw [if_pos h]
theorem chkS_one {A : Option Addr} {n c : Nat} (h : n ≤ 4096) : chkS [(A, n, c)] = 0 := by
  simp only [chkS, List.any_cons, List.any_nil, Bool.or_false, decide_eq_true_eq]
  rw [if_neg (by omega)]
theorem chkS_one_big {A : Option Addr} {n c : Nat} (h : 4096 < n) : chkS [(A, n, c)] = 2 := by
  simp only [chkS, List.any_cons, List.any_nil, Bool.or_false, decide_eq_true_eq]
  rw [if_pos h]

theorem Sl.tk {w : World} {A : Option Addr} {n c : Nat} {xs : List Nat} (h : Sl w A n c xs) {k : Nat} (hk : k ≤ n) : Sl w A k c (xs.take k) :=
  ⟨by rw [List.length_take, h.1]; omega, by have := h.2.1; omega, h.2.2.1, Ws_take h.2.2.2.1 k, by rw [uvs_take]; exact h.2.2.2.2.take k⟩
theorem Nw.tk {w w' : World} {A : Option Addr} {n c : Nat} {zs : List Nat} (h : Nw w w' (.slice A n c) n zs) {k : Nat} (hk : k ≤ n) : Nw w w' (.slice A k c) k (zs.take k) := by
  obtain ⟨h1, h2, h3, h4⟩ := h
  refine ⟨by rw [List.length_take]; omega, Ws_take h2 k, by rw [uvs_length, List.length_take]; omega, ?_⟩
  rcases h4 with ⟨e, h0⟩ | ⟨g, cap, cur, e, hg, hh, hn, hc, hs, ht⟩
  · injection e with e1 e2 e3
    subst e1 e3
    have : k = 0 := by omega
    subst this
    exact .inl ⟨rfl, rfl⟩
  · injection e with e1 e2 e3
    subst e1 e3
    refine .inr ⟨g, c, cur, rfl, hg, hh, by omega, hc, hs, ?_⟩
    rw [Nat.mul_one] at ht ⊢
    rw [uvs_take, ← ht, List.take_take, Nat.min_eq_left hk]

/-- what is cut off is 0 -/
theorem V_cut (xs : List Nat) (k : Nat) (h : xs[k]? = some 0) (hv : V (xs.take (k + 1)) = V xs) : V (xs.take k) = V xs := by
  obtain ⟨hk, h0⟩ := List.getElem?_eq_some_iff.1 h
  rw [V_take_succ xs k hk, h0] at hv
  omega

set_option maxHeartbeats 400000 in
theorem used_ok (A : Option Addr) (n c : Nat) (xs : List Nat) (w : World) (hn : n ≤ 100000) (hx : Sl w A n c xs) :
    Calls Tryz.prog 23 #[.slice A n c] w fun e w' => ∃ k, e = .returned (.slice A k c) ∧ k ≤ n ∧ Hid (V (xs.take k) = V xs ∧ Cn (xs.take k)) ∧ w = w' := by
  have hnc := hx.2.1
  have Hx := Lib.hid hx
  clear hx
  go_enter Tryz.func23, Tryz.ntmps23
  go_wp2
  go_loop [3] (fun kv => ∃ k : Nat, k ≤ n ∧ kv = .int .i64 k ∧ Hid (V (xs.take k) = V xs)) (fun kv => (intOf kv).toNat)
  case atStart => exact ⟨n, Nat.le_refl _, rfl, by rw [Hx.out.take_all]; rfl⟩
  case round =>
    obtain ⟨k, hk, rfl, hH⟩ := hrel
    rcases Nat.eq_zero_or_pos k with rfl | hpos
    · have h0 : ¬ (0 : Int) < ((0 : Nat) : Int) := by omega
      go_wp2
      go_ret
      exact ⟨0, rfl, by omega, ⟨hH.out, by simpa using Cn_nil⟩, rfl⟩
    · obtain ⟨m, rfl⟩ : ∃ m, k = m + 1 := ⟨k - 1, by omega⟩
      have hml : m < xs.length := by rw [Hx.out.1]; omega
      have hg := List.getElem?_eq_getElem hml
      obtain ⟨b, o, rfl, hb, hcx⟩ := Hx.out.2.2.2.2.at (uvs_get hg)
      generalize xs[m] = x at *
      have Hg := Lib.hid hg
      have hmi : ((m + 1 : Nat) : Int) - 1 = (m : Int) := by omega
      have hmi2 : (m : Int) + 1 - 1 = (m : Int) := by omega
      have hmn : (m : Int) < (n : Int) := by omega
      clear hg hml
      by_cases hx0 : x = 0
      · subst hx0
        have hv : Hid (V (xs.take m) = V xs) := V_cut xs m Hg.out hH.out
        clear hH
        go_wp2
        go_round
        case rel => exact ⟨m, by omega, rfl, hv⟩
        case measure => simp [intOf]
      · have hxb : ((x : Int) == 0) = false := by simp; omega
        have Hx0 := Lib.hid hx0
        clear hx0
        go_wp2
        go_ret
        refine ⟨m + 1, rfl, hk, ⟨hH.out, fun m' h => ?_⟩, rfl⟩
        have hl : (xs.take (m + 1)).length = m + 1 := by rw [List.length_take, Hx.out.1]; omega
        have : m' = m := by omega
        subst this
        rw [List.getElem?_take, if_pos (by omega), Hg.out]
        intro e
        injection e with e
        exact Hx0.out e

/-- the most words, and the least number that is too large -/
def Most : Nat := 4096
def Big : Nat := B64 ^ Most
theorem Cn_big {xs : List Nat} (hw : Ws xs) (h : Cn xs) : xs.length ≤ 4096 ↔ V xs < Big := Cn_len hw h Most
/-- v is a new canonical number x -/
def Nt (w w' : World) (v : Value) (x : Nat) : Prop := ∃ n zs, Nw w w' v n zs ∧ Cn zs ∧ V zs = x
/-- what a call answers whose result is x, or too large -/
def Rs (w w' : World) (e : Ending) (x : Nat) : Prop :=
  ((∃ v, e = .returned (.tuple #[v, .int .i64 0]) ∧ Nt w w' v x ∧ x < Big) ∨ (e = .returned (.tuple #[.slice none 0 0, .int .i64 2]) ∧ Big ≤ x)) ∧ Below w.heap.size w w'
theorem Nt.later {w w0 w1 w2 : World} {v : Value} {x : Nat} (h : Nt w w1 v x) (h0 : w0.heap.size ≤ w.heap.size) (hb : Below w1.heap.size w1 w2) : Nt w0 w2 v x := by
  obtain ⟨n, zs, h1, h2⟩ := h
  exact ⟨n, zs, h1.later h0 hb, h2⟩
theorem Nt.base {w w0 w1 : World} {v : Value} {x : Nat} (h : Nt w w1 v x) (h0 : w0.heap.size ≤ w.heap.size) : Nt w0 w1 v x := h.later h0 (Below.refl _ _)
theorem Nt.nil (w w' : World) : Nt w w' (.slice none 0 0) 0 := ⟨0, [], ⟨rfl, Ws_nil, World.ownsRow_nil _ _ _ _⟩, Cn_nil, rfl⟩
theorem Rs.from {w w0 w' : World} {e : Ending} {x : Nat} (h : Rs w w' e x) (hb : Below w0.heap.size w0 w) : Rs w0 w' e x := by
  obtain ⟨h1, h2⟩ := h
  refine ⟨?_, hb.trans (h2.mono hb.size)⟩
  rcases h1 with ⟨v, e1, h3, h4⟩ | h3
  · exact .inl ⟨v, e1, h3.base hb.size, h4⟩
  · exact .inr h3
/-- the row that a number is -/
theorem Nt.sl {w w' : World} {v : Value} {x : Nat} (h : Nt w w' v x) : ∃ A n c zs, v = .slice A n c ∧ Sl w' A n c zs ∧ Cn zs ∧ V zs = x ∧ Nw w w' (.slice A n c) n zs := by
  obtain ⟨n, zs, h1, h2, h3⟩ := h
  obtain ⟨A, c, rfl, hs⟩ := h1.sl
  exact ⟨A, n, c, zs, rfl, hs, h2, h3, h1⟩
theorem Nt.size {n : Nat} {zs : List Nat} (hw : Ws zs) (hc : Cn zs) (hl : zs.length = n) (h : V zs < Big) : n ≤ 4096 := by
  rw [← hl]; exact (Cn_big hw hc).2 h

set_option maxHeartbeats 400000 in
theorem result_ok (w0 : World) (A : Option Addr) (n c : Nat) (xs : List Nat) (w : World) (hn : n ≤ 100000) (hx : Nw w0 w (.slice A n c) n xs) :
    Calls Tryz.prog 95 #[.slice A n c] w fun e w' => ((∃ v, e = .returned (.tuple #[v, .int .i64 0]) ∧ Nt w0 w v (V xs) ∧ V xs < Big) ∨ (e = .returned (.tuple #[.slice none 0 0, .int .i64 2]) ∧ Big ≤ V xs)) ∧ w = w' := by
  obtain ⟨A', c', he, hs⟩ := hx.sl
  injection he with e1 e2 e3
  subst e1 e3
  have Hx := Lib.hid (And.intro hx hs)
  clear hx hs
  go_enter Tryz.func95, Tryz.ntmps95
  go_wp2_with (fail)
  refine (used_ok A n c xs w hn Hx.out.2).mono ?_
  rintro e w1 ⟨k, rfl, hk, hH, rfl⟩
  by_cases h4 : 4096 < k
  · have h4i : (4096 : Int) < k := by omega
    go_wp2_with (fail)
    go_ret2
    refine ⟨.inr ⟨rfl, ?_⟩, rfl⟩
    have hw := Ws_take Hx.out.1.2.1 k
    rcases Nat.lt_or_ge (V xs) Big with h | h
    · have := (Cn_big hw hH.out.2).2 (by rw [hH.out.1]; exact h)
      rw [List.length_take, Hx.out.1.1] at this
      omega
    · exact h
  · have h4i : ¬ (4096 : Int) < k := by omega
    go_wp2_with (fail)
    go_ret2
    refine ⟨.inl ⟨_, rfl, ⟨k, xs.take k, Hx.out.1.tk hk, hH.out.2, hH.out.1⟩, ?_⟩, rfl⟩
    have hw := Ws_take Hx.out.1.2.1 k
    rw [← hH.out.1]
    exact (Cn_big hw hH.out.2).1 (by rw [List.length_take]; omega)
end Go.Proofs.YthpgdpkemnhneaaGreatDoor

namespace Go.Proofs.YthpgdpkemnhneaaGreatDoor
open Go.RowKit
set_option linter.unusedVariables false

/-- the base of the digits -/
def H32 : Nat := 4294967296
theorem H32_sq : H32 * H32 = B64 := rfl
theorem H32_pos : 0 < H32 := by decide
/-- the value of digits -/
def VD : List Nat → Nat
  | [] => 0
  | x :: xs => x + H32 * VD xs
/-- all are digits -/
def Dg (xs : List Nat) : Prop := ∀ x ∈ xs, x < H32
theorem Dg.ws {xs : List Nat} (h : Dg xs) : Ws xs := fun x hx => Nat.lt_trans (h x hx) (by decide)
theorem Dg_nil : Dg [] := fun _ h => by cases h
theorem Dg_snoc {xs : List Nat} {x : Nat} (h : Dg xs) (hx : x < H32) : Dg (xs ++ [x]) := by
  intro z hz
  rcases List.mem_append.1 hz with h1 | h1
  · exact h z h1
  · rw [List.mem_singleton] at h1; subst h1; exact hx
theorem Dg_append {xs ys : List Nat} (h : Dg xs) (k : Dg ys) : Dg (xs ++ ys) := fun z hz => by
  rcases List.mem_append.1 hz with h1 | h1
  · exact h z h1
  · exact k z h1
theorem Dg_take {xs : List Nat} (h : Dg xs) (k : Nat) : Dg (xs.take k) := fun x hx => h x (List.mem_of_mem_take hx)
theorem Dg_drop {xs : List Nat} (h : Dg xs) (k : Nat) : Dg (xs.drop k) := fun x hx => h x (List.mem_of_mem_drop hx)
theorem VD_append (xs ys : List Nat) : VD (xs ++ ys) = VD xs + H32 ^ xs.length * VD ys := by
  induction xs with
  | nil => simp [VD]
  | cons y zs ih =>
    rw [List.cons_append, VD, ih, List.length_cons, Nat.pow_succ, VD]
    generalize H32 = b
    grind
theorem VD_snoc (xs : List Nat) (x : Nat) : VD (xs ++ [x]) = VD xs + x * H32 ^ xs.length := by
  rw [VD_append, VD, VD, Nat.mul_zero, Nat.add_zero, Nat.mul_comm]
theorem VD_lt (xs : List Nat) (h : Dg xs) : VD xs < H32 ^ xs.length := by
  induction xs with
  | nil => simp [VD]
  | cons y ys ih =>
    have h1 : y < H32 := h y (by simp)
    have h2 : VD ys < H32 ^ ys.length := ih fun x hx => h x (by simp [hx])
    rw [List.length_cons, Nat.pow_succ]
    exact vlt _ _ _ _ h1 h2
theorem VD_take_succ (xs : List Nat) (k x : Nat) (h : xs[k]? = some x) : VD (xs.take (k + 1)) = VD (xs.take k) + x * H32 ^ k := by
  have hk : k < xs.length := (List.getElem?_eq_some_iff.1 h).1
  rw [List.take_add_one, h]
  show VD (xs.take k ++ [x]) = _
  rw [VD_snoc, List.length_take, Nat.min_eq_left (by omega)]
theorem VD_zeros (n : Nat) : VD (List.replicate n 0) = 0 := by
  induction n with
  | zero => rfl
  | succ n ih => rw [List.replicate_succ, VD, ih]; rfl
theorem pow_H (n : Nat) : H32 ^ (2 * n) = B64 ^ n := by rw [Nat.pow_mul, ← H32_sq, Nat.pow_two]
/-- the digit at i, 0 beyond the end -/
def dig (xs : List Nat) (i : Nat) : Nat := xs.getD i 0
theorem dig_lt {xs : List Nat} (h : Dg xs) (i : Nat) : dig xs i < H32 := by
  unfold dig
  rw [List.getD_eq_getElem?_getD]
  cases hx : xs[i]? with
  | none => exact H32_pos
  | some x => exact h x (List.mem_of_getElem? hx)
theorem VD_take_dig (xs : List Nat) (k : Nat) : VD (xs.take (k + 1)) = VD (xs.take k) + dig xs k * H32 ^ k := by
  unfold dig
  rw [List.getD_eq_getElem?_getD]
  cases hx : xs[k]? with
  | none =>
    have : xs.length ≤ k := List.getElem?_eq_none_iff.1 hx
    rw [List.take_of_length_le (by omega), List.take_of_length_le (by omega)]
    simp
  | some x => exact VD_take_succ xs k x hx
/-- one step of Digits -/
theorem digits_step {ds xs : List Nat} {k x : Nat} (hl : ds.length = 2 * k) (h : xs[k]? = some x) (hk : k < xs.length) (hv : VD ds = V (xs.take k)) : VD (ds ++ [x % H32, x / H32]) = V (xs.take (k + 1)) := by
  have hx : xs[k] = x := by rw [List.getElem?_eq_getElem hk] at h; injection h
  rw [VD_append, V_take_succ xs k hk, hx, hv, hl, pow_H, VD, VD, VD, Nat.mul_zero, Nat.add_zero, Nat.mod_add_div, Nat.mul_comm]
end Go.Proofs.YthpgdpkemnhneaaGreatDoor

namespace Go.Proofs.YthpgdpkemnhneaaGreatDoor
open Go.RowKit
set_option linter.unusedVariables false

theorem below_app {w wr w1 : World} {e : TypeId} {v : Value} {n size : Nat} {xs : List Value} {o : Obj} (h : Below w.heap.size w wr) (hown : wr.ownsRow w.heap.size e size v n xs) (hg : ((wr.alloc o).drew).grownBy w1 v.ownBlock) : Below w.heap.size w w1 :=
  ((h.alloc h.size o).drew).grown hg (by have := h.size; simp; omega) (fun k hk => (hown.lt k hk).1)
theorem below_app0 {w wr w1 : World} {e : TypeId} {v : Value} {n size : Nat} {xs : List Value} {o : Obj} (h : Below w.heap.size w wr) (hown : wr.ownsRow w.heap.size e size v n xs) (hg : (wr.alloc o).grownBy w1 v.ownBlock) : Below w.heap.size w w1 :=
  (h.alloc h.size o).grown hg (by have := h.size; simp; omega) (fun k hk => (hown.lt k hk).1)
theorem cell_app {w wr w1 : World} {e : TypeId} {v : Value} {n size : Nat} {xs : List Value} {o : Obj} {b i : Nat} {u : Value} (h : Below w.heap.size w wr) (hown : wr.ownsRow w.heap.size e size v n xs) (hg : ((wr.alloc o).drew).grownBy w1 v.ownBlock) (hb : b < w.heap.size) (hc : wr.cell? ⟨b, i, none⟩ = some u) :
    w1.cell? ⟨b, i, none⟩ = some u := by
  have hs := h.size
  rw [hg.cell_far _ (by show b < (wr.alloc o).heap.size; simp; omega) (fun e => by have := (hown.lt b e.symm).1; omega)]
  show (wr.alloc o).cell? _ = _
  rw [World.cell?_alloc_lt wr o _ (by show b < _; omega)]
  exact hc

/-- the halves of a word, in the walk's forms -/
theorem halves (x : Nat) (h : x < B64) : ∃ r q : Nat, (r = x % H32 ∧ q = x / H32) ∧ r < H32 ∧ q < H32 ∧ (x : Int) % 4294967296 = r ∧ (x : Int).tmod 4294967296 = r ∧ (x : Int) / 4294967296 = q ∧ (x : Int).tdiv 4294967296 = q ∧ IntKind.u64.wrap (q : Int) = q := by
  have hB : B64 = 18446744073709551616 := rfl
  have hH : H32 = 4294967296 := rfl
  rw [hB] at h
  rw [hH]
  refine ⟨x % 4294967296, x / 4294967296, ⟨rfl, rfl⟩, by omega, by omega, by omega, ?_, by omega, ?_, ?_⟩
  · rw [Int.tmod_eq_emod_of_nonneg (by omega)]; omega
  · rw [Int.tdiv_eq_ediv_of_nonneg (by omega)]; omega
  · rw [IntKind.wrap_u64]; omega

set_option maxHeartbeats 400000 in
theorem Digits_ok (A : Option Addr) (n c : Nat) (xs : List Nat) (w : World) (hn : n ≤ 4096) (hx : Sl w A n c xs) :
    Calls Tryz.prog 49 #[.slice A n c] w fun e w' => ∃ v ds, e = .returned v ∧ Nw w w' v (2 * n) ds ∧ Dg ds ∧ VD ds = V xs ∧ Below w.heap.size w w' := by
  obtain ⟨i0, hi, hz0, hz1, hz2⟩ := info_parts Tryz.info44
  have Hx := Lib.hid hx
  clear hx
  go_enter Tryz.func49, Tryz.ntmps49
  go_wp2
  go_loopw [3, 4] (fun v i wr => ∃ (k : Nat) (ds : List Nat), k ≤ n ∧ i = .int .i64 k ∧ wr.ownsRow w.heap.size 44 1 v (2 * k) (uvs ds) ∧ Hid (Dg ds ∧ ds.length = 2 * k ∧ VD ds = V (xs.take k) ∧ Below w.heap.size w wr)) (fun _ i _ => n - (intOf i).toNat)
  case atStart => exact ⟨0, [], by omega, rfl, World.ownsRow_nil _ _ _ _, Dg_nil, rfl, by simp [VD, V], Below.refl _ _⟩
  case round =>
    obtain ⟨k, ds, hk, rfl, hown, hH⟩ := hrel
    by_cases hlt : k < n
    · obtain ⟨b, o, rfl, hb, hcx⟩ := (Hx.out.2.2.2.2.below hH.out.2.2.2).at (uvs_get (List.getElem?_eq_getElem (show k < xs.length by rw [Hx.out.1]; exact hlt)))
      have Hxk := Lib.hid (List.getElem?_eq_getElem (show k < xs.length by rw [Hx.out.1]; exact hlt))
      generalize xs[k]'(by rw [Hx.out.1]; exact hlt) = x at *
      have hki : (k : Int) < n := by omega
      obtain ⟨r, q, hrq, hrH, hqH, e1, e2, e3, e4, e5⟩ := halves x (Hx.out.2.2.2.1 x (List.mem_of_getElem? Hxk.out))
      have HR := Lib.hid (And.intro hrq (And.intro hrH hqH))
      clear hrq hrH hqH
      have Hb := Lib.hid (And.intro hb hH.out.2.2.2)
      go_wp2
      go_region_held3 (fun w' => w'.cell? ⟨b, o + k, none⟩ = some (.int .u64 (x : Int)))
        (first | go_keep | exact cell_app Hb.out.2 hown hgrow Hb.out.1 hcx)
        ((refine step_append_lies _ (by rfl) _ _ 22 (by rfl) w.heap.size 44 i0 _ 1 8 Tryz.underlying22 hi hz0 hz1 hz2 rfl (by omega) u3 (2 * k) (uvs ds) (by rfl) ((hown.alloc _).drew) ⟨wr.heap.size, 0, none⟩ 2 2 [.int .u64 (r : Int), .int .u64 (q : Int)] (by rfl) (by rfl) (World.news_of_block (cs := #[.int .u64 (r : Int), .int .u64 (q : Int)]) (t := 44) (fr := (0, 0)) (heap_alloc_new wr _)) (by simp [Value.oneCell']) (by omega) (by unfold maxLen; omega) (by omega) (by have := Hb.out.2.size; simp; omega) (wr.heap.size + 1) (by simp) ?_; intro gg cap w1 hown1 hgrow hat hlt1))
      have hst := digits_step hH.out.2.1 Hxk.out (by rw [Hx.out.1]; exact hlt) hH.out.2.2.1
      rw [← HR.out.1.1, ← HR.out.1.2] at hst
      have HN : Hid (Dg (ds ++ [r, q]) ∧ (ds ++ [r, q]).length = 2 * (k + 1) ∧ VD (ds ++ [r, q]) = V (xs.take (k + 1)) ∧ Below w.heap.size w w1) :=
        ⟨Dg_append hH.out.1 (fun z hz => by simp at hz; rcases hz with rfl | rfl; exact HR.out.2.1; exact HR.out.2.2), by simp [hH.out.2.1]; omega, hst, below_app Hb.out.2 hown hgrow⟩
      have hown2 : w1.ownsRow w.heap.size 44 1 (.slice (some ⟨gg, 0, none⟩) (2 * k + 2) cap) (2 * (k + 1)) (uvs (ds ++ [r, q])) := by
        rw [uvs_append]
        exact hown1
      clear hst hH hown hown1 hgrow hat hlt1 e1 e2 e3 e4 e5
      go_wp2
      go_roundw
      case rel => exact ⟨k + 1, ds ++ [r, q], by omega, by go_num, hown2, HN⟩
      case measure => simp [intOf]; omega
    · go_wp2
      go_ret
      have hkn : k = n := by omega
      subst hkn
      obtain ⟨h1, h2, h3, h4⟩ := hH.out
      rw [Hx.out.take_all] at h3
      exact ⟨_, ds, rfl, ⟨h2, h1.ws, hown⟩, h1, h3, h4⟩
end Go.Proofs.YthpgdpkemnhneaaGreatDoor

namespace Go.Proofs.YthpgdpkemnhneaaGreatDoor
open Go.RowKit
set_option linter.unusedVariables false

theorem dig_get {ds : List Nat} {i x : Nat} (h : ds[i]? = some x) : dig ds i = x := by
  unfold dig; rw [List.getD_eq_getElem?_getD, h]; rfl
theorem dig_none {ds : List Nat} {i : Nat} (h : ds.length ≤ i) : dig ds i = 0 := by
  unfold dig; rw [List.getD_eq_getElem?_getD, List.getElem?_eq_none h]; rfl

set_option maxHeartbeats 400000 in
theorem digit_any (A : Option Addr) (n c i : Nat) (ds : List Nat) (w : World) (hn : n ≤ 1000000) (hx : Sl w A n c ds) :
    Calls Tryz.prog 82 #[.slice A n c, .int .i64 i] w fun e w' => e = .returned (.int .u64 (dig ds i : Nat)) ∧ w = w' := by
  by_cases hlt : i < n
  · have hk : i < ds.length := by rw [hx.1]; exact hlt
    obtain ⟨b, o, rfl, hb, hcx⟩ := hx.2.2.2.2.at (uvs_get (List.getElem?_eq_getElem hk))
    rw [dig_get (List.getElem?_eq_getElem hk)]
    generalize ds[i] = x at *
    clear hx hk
    go_enter Tryz.func82, Tryz.ntmps82
    go_wp2
    go_ret
    exact ⟨rfl, rfl⟩
  · rw [dig_none (by rw [hx.1]; omega)]
    clear hx
    go_enter Tryz.func82, Tryz.ntmps82
    go_wp2
    go_ret
    exact ⟨rfl, rfl⟩

/-- one step of a sum of digits -/
theorem plus_step {out xs ys : List Nat} {k r q cy s : Nat} (hl : out.length = k) (hs : cy + dig xs k + dig ys k = s) (hr : r = s % H32) (hq : q = s / H32) (hv : VD out + cy * H32 ^ k = VD (xs.take k) + VD (ys.take k)) :
    VD (out ++ [r]) + q * H32 ^ (k + 1) = VD (xs.take (k + 1)) + VD (ys.take (k + 1)) := by
  have hrq : r + H32 * q = cy + dig xs k + dig ys k := by subst hr hq; rw [hs]; exact Nat.mod_add_div _ _
  rw [VD_snoc, VD_take_dig, VD_take_dig, hl, Nat.pow_succ]
  generalize dig xs k = a at *
  generalize dig ys k = b at *
  generalize VD (xs.take k) = u at *
  generalize VD (ys.take k) = v at *
  generalize VD out = t at *
  generalize H32 ^ k = p at *
  generalize H32 = h at *
  clear hs hr hq hl
  grind
theorem plus_carry {s cy a b : Nat} (h1 : cy ≤ 1) (h2 : a < H32) (h3 : b < H32) (hs : cy + a + b = s) : s < B64 ∧ s / H32 ≤ 1 := by
  have hH : H32 = 4294967296 := rfl
  have hB : B64 = 18446744073709551616 := rfl
  rw [hH] at h2 h3 ⊢
  exact ⟨by omega, by omega⟩
end Go.Proofs.YthpgdpkemnhneaaGreatDoor

namespace Go.Proofs.YthpgdpkemnhneaaGreatDoor
open Go.RowKit
set_option linter.unusedVariables false

theorem V_zeros (n : Nat) : V (List.replicate n 0) = 0 := by
  induction n with
  | zero => rfl
  | succ n ih => rw [List.replicate_succ, V, ih]; rfl
theorem Nw_zeros {w1 : World} {n g B : Nat} (h : w1.ownsRow B 44 1 (.slice (some ⟨g, 0, none⟩) n n) n (madeCells #[Value.int .u64 0] n).toList) (hn : n ≤ 9223372036854775807) :
    Sl w1 (some ⟨g, 0, none⟩) n n (List.replicate n 0) := by
  have hu : (madeCells #[Value.int .u64 0] n).toList = uvs (List.replicate n 0) := by
    refine List.ext_getElem (by simp [madeCells, uvs]) (fun i h1 h2 => ?_)
    simp [madeCells, uvs, Nat.mod_one]
  rw [hu] at h
  obtain ⟨A, c, e, h1, h2, _, h4⟩ := own_form h
  injection e with e1 e2 e3
  subst e1
  exact ⟨by simp, Nat.le_refl _, hn, fun x hx => by rw [List.eq_of_mem_replicate hx]; decide, h4⟩
end Go.Proofs.YthpgdpkemnhneaaGreatDoor

namespace Go.Proofs.YthpgdpkemnhneaaGreatDoor
open Go.RowKit
set_option linter.unusedVariables false
set_option maxRecDepth 10000

theorem VD_set (os : List Nat) (j o r : Nat) (h : os[j]? = some o) : VD (os.set j r) + o * H32 ^ j = VD os + r * H32 ^ j := by
  have hj : j < os.length := (List.getElem?_eq_some_iff.1 h).1
  have ho : os[j] = o := (List.getElem?_eq_some_iff.1 h).2
  have e1 : os = os.take j ++ os[j] :: os.drop (j + 1) := by rw [List.getElem_cons_drop hj, List.take_append_drop]
  have e2 : os.set j r = os.take j ++ r :: os.drop (j + 1) := by rw [List.set_eq_take_append_cons_drop, if_pos hj]
  have e3 : VD os = VD (os.take j) + H32 ^ j * (o + H32 * VD (os.drop (j + 1))) := by
    conv => lhs; rw [e1]
    rw [VD_append, List.length_take, Nat.min_eq_left (by omega), VD, ho]
  rw [e2, VD_append, List.length_take, Nat.min_eq_left (by omega), VD, e3]
  generalize H32 ^ j = p
  generalize H32 = h'
  grind
theorem Dg_set {os : List Nat} (h : Dg os) (j r : Nat) (hr : r < H32) : Dg (os.set j r) := fun x hx => by
  rcases List.mem_or_eq_of_mem_set hx with h1 | h1
  · exact h x h1
  · rw [h1]; exact hr

theorem Dg_zeros' (m : Nat) : Dg (List.replicate m 0) := fun x hx => by rw [List.eq_of_mem_replicate hx]; exact H32_pos
/-- the block that make has just made -/
theorem RowAt_zeros {w1 : World} {n g B : Nat} (h : w1.ownsRow B 44 1 (.slice (some ⟨g, 0, none⟩) n n) n (madeCells #[Value.int .u64 0] n).toList) : RowAt w1 g (List.replicate n 0) := by
  have hu : (madeCells #[Value.int .u64 0] n).toList = uvs (List.replicate n 0) := by
    refine List.ext_getElem (by simp [madeCells, uvs]) (fun i h1 h2 => ?_)
    simp [madeCells, uvs, Nat.mod_one]
  rw [hu] at h
  rcases h.2 with ⟨hv, h0⟩ | ⟨g', cap, cur, hv, _, hh, _, _, hcs, ht⟩
  · injection hv with hv
    cases hv
  · injection hv with h1 h2 h3
    injection h1 with h1
    injection h1 with h1
    subst h1
    subst h3
    rw [Nat.mul_one] at hcs ht
    rw [List.take_of_length_le (by simp [hcs])] at ht
    unfold RowAt
    rw [hh]
    congr 2
    exact Array.ext' (by simpa using ht)

/-- a sum of a carry, a digit and a product -/
theorem times_sum {cy o a b : Nat} (h1 : cy < H32) (h2 : o < H32) (h3 : a < H32) (h4 : b < H32) : ∃ t1 t2 t r q : Nat, t = cy + o + a * b ∧ r + H32 * q = t ∧ r < H32 ∧ q < H32 ∧
    (cy : Int) + o = t1 ∧ IntKind.u64.wrap ((cy : Int) + o) = t1 ∧ IntKind.u64.wrap (t1 : Int) = t1 ∧ (a : Int) * b = t2 ∧ IntKind.u64.wrap ((a : Int) * b) = t2 ∧ IntKind.u64.wrap (t2 : Int) = t2 ∧ (t1 : Int) + t2 = t ∧ IntKind.u64.wrap ((t1 : Int) + t2) = t ∧ IntKind.u64.wrap (t : Int) = t ∧
    (t : Int) % 4294967296 = r ∧ (t : Int).tmod 4294967296 = r ∧ (t : Int) / 4294967296 = q ∧ (t : Int).tdiv 4294967296 = q ∧ IntKind.u64.wrap (q : Int) = q := by
  have hH : H32 = 4294967296 := rfl
  have hp : a * b ≤ 4294967295 * 4294967295 := Nat.mul_le_mul (by omega) (by omega)
  have hlt : cy + o + a * b < B64 := by have hB : B64 = 18446744073709551616 := rfl; omega
  obtain ⟨r, q, ⟨hr, hq⟩, hrH, hqH, e1, e2, e3, e4, e5⟩ := halves _ hlt
  have hw : ∀ z : Nat, z < 18446744073709551616 → IntKind.u64.wrap (z : Int) = z := fun z hz => by rw [IntKind.wrap_u64]; omega
  have hB : B64 = 18446744073709551616 := rfl
  refine ⟨cy + o, a * b, cy + o + a * b, r, q, rfl, by rw [hr, hq]; exact Nat.mod_add_div _ _, hrH, hqH, by omega, ?_, ?_, by simp, ?_, ?_, by omega, ?_, ?_, e1, e2, e3, e4, e5⟩
  · rw [show (cy : Int) + o = ((cy + o : Nat) : Int) by omega]; exact hw _ (by omega)
  · exact hw _ (by omega)
  · rw [show (a : Int) * b = ((a * b : Nat) : Int) by simp]; exact hw _ (by omega)
  · exact hw _ (by omega)
  · rw [show ((cy + o : Nat) : Int) + ((a * b : Nat) : Int) = ((cy + o + a * b : Nat) : Int) by omega]; exact hw _ (by omega)
  · exact hw _ (by omega)

/-- one step of the inner loop -/
theorem times_step {os ys : List Nat} {i k o a b cy t r q u p P : Nat} (ho : os[p]? = some o) (hb : ys[k]? = some b) (hp : p = i + k) (ht : t = cy + o + a * b) (hrq : r + H32 * q = t) (hu : H32 ^ i = P)
    (hv : VD os + cy * H32 ^ p = u + a * VD (ys.take k) * P) : VD (os.set p r) + q * H32 ^ (i + (k + 1)) = u + a * VD (ys.take (k + 1)) * P := by
  have h1 := VD_set os p o r ho
  rw [VD_take_succ ys k b hb]
  subst hp
  subst hu
  rw [show i + (k + 1) = (i + k) + 1 by omega, Nat.pow_succ]
  have e : H32 ^ (i + k) = H32 ^ i * H32 ^ k := Nat.pow_add _ _ _
  rw [e] at h1 hv ⊢
  clear e
  generalize VD (os.set (i + k) r) = s at *
  generalize VD os = s0 at *
  generalize VD (ys.take k) = v at *
  generalize H32 ^ i = x at *
  generalize H32 ^ k = y at *
  generalize H32 = h at *
  clear ho hb
  subst ht
  grind
/-- the end of the inner loop -/
theorem times_end {os xs ys : List Nat} {i a cy m p P : Nat} (ho : os[p]? = some 0) (ha : xs[i]? = some a) (hp : p = i + m) (hm : ys.length = m) (hu : H32 ^ i = P) (hv : VD os + cy * H32 ^ p = VD (xs.take i) * VD ys + a * VD (ys.take m) * P) :
    VD (os.set p cy) = VD (xs.take (i + 1)) * VD ys := by
  have h1 := VD_set os p 0 cy ho
  rw [VD_take_succ xs i a ha]
  rw [show ys.take m = ys from List.take_of_length_le (by omega)] at hv
  rw [Nat.zero_mul, Nat.add_zero] at h1
  rw [h1, hv, Nat.add_mul, hu]
  congr 1
  rw [Nat.mul_assoc, Nat.mul_assoc, Nat.mul_comm P]

/-- What Times' loops keep. -/
def TI (w : World) (g n m : Nat) (os : List Nat) (i : Nat) (wr : World) : Prop := w.heap.size ≤ g ∧ RowAt wr g os ∧ os.length = n + m ∧ Dg os ∧ (∀ j, i + m ≤ j → j < n + m → os[j]? = some 0) ∧ Below w.heap.size w wr

theorem TI.set {w wr : World} {g n m i p r : Nat} {os : List Nat} (h : TI w g n m os i wr) (hp : p < i + m) (hr : r < H32) : TI w g n m (os.set p r) i (wr.setCell ⟨g, p, none⟩ (.int .u64 (r : Int))) := by
  obtain ⟨h0, h1, h2, h3, h4, h5⟩ := h
  exact ⟨h0, h1.set p r, by rw [List.length_set]; exact h2, Dg_set h3 p r hr, fun j h6 h7 => by rw [List.getElem?_set_ne (by omega)]; exact h4 j h6 h7, h5.setCell (p := ⟨g, p, none⟩) h0 _⟩
theorem TI.last {w wr : World} {g n m i p r : Nat} {os : List Nat} (h : TI w g n m os i wr) (hp : p = i + m) (hr : r < H32) : TI w g n m (os.set p r) (i + 1) (wr.setCell ⟨g, p, none⟩ (.int .u64 (r : Int))) := by
  obtain ⟨h0, h1, h2, h3, h4, h5⟩ := h
  exact ⟨h0, h1.set p r, by rw [List.length_set]; exact h2, Dg_set h3 p r hr, fun j h6 h7 => by rw [List.getElem?_set_ne (by omega)]; exact h4 j (by omega) h7, h5.setCell (p := ⟨g, p, none⟩) h0 _⟩

theorem TI.drewN {w wr : World} {g n m i : Nat} {os : List Nat} (h : TI w g n m os i wr) (k : Nat) : TI w g n m os i (wr.drewN k) := by
  obtain ⟨h0, h1, h2, h3, h4, h5⟩ := h
  exact ⟨h0, h1, h2, h3, h4, below_drewN h5 k⟩
theorem TI.nw {w wr : World} {g n m i N : Nat} {os : List Nat} (h : TI w g n m os i wr) (hN : N = n + m) (hb : N ≤ 200000) : Nw w wr (.slice (some ⟨g, 0, none⟩) N N) N os := by
  obtain ⟨h0, h1, h2, h3, h4, h5⟩ := h
  subst hN
  exact ⟨h2, h3.ws, by rw [uvs_length, h2, Nat.mul_one], .inr ⟨g, n + m, (uvs os).toArray, rfl, h0, h1, Nat.le_refl _, by unfold maxLen; omega, by simp [uvs_length, h2], by rw [Nat.mul_one]; exact List.take_of_length_le (by simp [uvs_length, h2])⟩⟩

set_option maxHeartbeats 1000000 in
theorem Times_ok (A A' : Option Addr) (n m c c' : Nat) (xs ys : List Nat) (w : World) (hn : n ≤ 100000) (hm : m ≤ 100000) (hx : Sl w A n c xs) (hy : Sl w A' m c' ys) (dx : Dg xs) (dy : Dg ys) :
    Calls Tryz.prog 80 #[.slice A n c, .slice A' m c'] w fun e w' => ∃ v out, e = .returned v ∧ Nw w w' v (n + m) out ∧ Dg out ∧ VD out = VD xs * VD ys ∧ Below w.heap.size w w' := by
  obtain ⟨i0, hi, hz0, hz1, hz2⟩ := info_parts Tryz.info44
  obtain ⟨N, hN, hN2⟩ : ∃ N : Nat, (n : Int) + (m : Int) = (N : Int) ∧ N = n + m := ⟨n + m, by omega, rfl⟩
  have HN := Lib.hid hN2
  have hN3 : N ≤ 200000 := by omega
  have Hx := Lib.hid (And.intro hx dx)
  have Hy := Lib.hid (And.intro hy dy)
  clear hx hy dx dy hN2
  go_enter Tryz.func80, Tryz.ntmps80
  go_wp2_with (at_make; refine wpList_make_full _ rfl _ _ 22 rfl w.heap.size 44 i0 (.int .u64 0) 1 Tryz.underlying22 hi hz0 hz1 .i64 .i64 _ _ N rfl rfl rfl rfl (by rw [hz2]; omega) (by unfold maxLen; omega) (Nat.le_refl _) ?_)
  intro w1 hown hgrow
  have hb1 := below_of_grown hgrow (Nat.le_refl _)
  have hrow := RowAt_zeros (by simpa using hown)
  have HT : Hid (TI w w.heap.size n m (List.replicate N 0) 0 w1) := ⟨Nat.le_refl _, hrow, by rw [List.length_replicate, HN.out], Dg_zeros' _, fun j _ h => by rw [List.getElem?_replicate, if_pos (by rw [HN.out]; exact h)], hb1⟩
  clear hown hgrow hb1 hrow
  generalize w.heap.size = g at *
  go_wp2
  go_loopw [6] (fun iv wr => ∃ (i : Nat) (os : List Nat), i ≤ n ∧ iv = .int .i64 i ∧ Hid (TI w g n m os i wr ∧ VD os = VD (xs.take i) * VD ys)) (fun iv _ => n - (intOf iv).toNat)
  case atStart => exact ⟨0, _, by omega, rfl, HT.out, by rw [VD_zeros]; simp [VD]⟩
  case round =>
    clear HT
    obtain ⟨i, os, hil, rfl, hH⟩ := hrel
    by_cases hlt : i < n
    · go_wp2
      obtain ⟨wo, hwo⟩ : ∃ wo : World, wo = wr := ⟨_, rfl⟩
      have hki : i < xs.length := by rw [Hx.out.1.1]; exact hlt
      have Ha := Lib.hid (List.getElem?_eq_getElem hki)
      have haH : xs[i] < H32 := Hx.out.2 _ (List.getElem_mem hki)
      obtain ⟨ba, oa, rfl, hba, hca⟩ := (Hx.out.1.2.2.2.2).at (uvs_get Ha.out)
      generalize xs[i] = a at *
      have HA := Lib.hid (And.intro haH (And.intro hba hca))
      clear haH hba hca hki hwo
      go_loopw [7, 8] (fun cv kv wi => ∃ (k cy : Nat) (os' : List Nat), k ≤ m ∧ kv = .int .i64 k ∧ cv = .int .u64 cy ∧ Hid (cy < H32 ∧ TI w g n m os' i wi ∧ VD os' + cy * H32 ^ (i + k) = VD (xs.take i) * VD ys + a * VD (ys.take k) * H32 ^ i)) (fun _ kv _ => m - (intOf kv).toNat)
      case atStart => exact ⟨0, 0, os, by omega, rfl, rfl, H32_pos, hH.out.1, by rw [hH.out.2]; simp [VD]⟩
      case round =>
        clear hH
        obtain ⟨k, cy, os', hkl, rfl, rfl, hI⟩ := hrel
        have hg1 := hI.out.2.1
        by_cases hlt2 : k < m
        · obtain ⟨p, hp, hp2⟩ : ∃ p : Nat, (i : Int) + (k : Int) = (p : Int) ∧ p = i + k := ⟨i + k, by omega, rfl⟩
          have hpN : p < N := by have := HN.out; omega
          have hpl : p < os'.length := by rw [hg1.2.2.1, ← HN.out]; exact hpN
          have ho := List.getElem?_eq_getElem hpl
          have hoH : os'[p] < H32 := hg1.2.2.2.1 _ (List.getElem_mem hpl)
          have hkb : k < ys.length := by rw [Hy.out.1.1]; exact hlt2
          have hb := List.getElem?_eq_getElem hkb
          have hbH : ys[k] < H32 := Hy.out.2 _ (List.getElem_mem hkb)
          obtain ⟨bb, ob, rfl, _, hcb⟩ := (Hy.out.1.2.2.2.2.below hg1.2.2.2.2.2).at (uvs_get hb)
          have hco := hg1.2.1.cell ho
          have hfo := hg1.2.1.frozen p
          have hca := (hg1.2.2.2.2.2.cell (p := ⟨ba, oa + i, none⟩) HA.out.2.1).trans HA.out.2.2
          generalize os'[p] = o at *
          generalize ys[k] = b at *
          obtain ⟨t1, t2, t, r, q, ht, hrq, hrH, hqH, s1, s2, s3, s4, s5, s6, s7, s8, s9, e1, e2, e3, e4, e5⟩ := times_sum hI.out.1 hoH HA.out.1 hbH
          have HS : Hid (q < H32 ∧ (∀ z, TI w g n m (os'.set p r) i ((wr.drewN z).setCell ⟨g, p, none⟩ (.int .u64 (r : Int)))) ∧ VD (os'.set p r) + q * H32 ^ (i + (k + 1)) = VD (xs.take i) * VD ys + a * VD (ys.take (k + 1)) * H32 ^ i) :=
            ⟨hqH, fun z => (hg1.drewN z).set (by omega) hrH, times_step ho hb hp2 ht hrq rfl (by rw [hp2]; exact hI.out.2.2)⟩
          have hp3 : IntKind.i64.wrap (p : Int) = (p : Int) := IntWalk.i64_in _ (by omega)
          have hp4 : (p : Int) < (N : Int) := by omega
          have hi4 : (i : Int) < (n : Int) := by omega
          have hk4 : (k : Int) < (m : Int) := by omega
          clear ho hb hoH hbH hpl hkb hg1 hI ht hrq hrH hqH hp2
          go_wp2
          go_quiet (fail)
          go_wp2
          go_roundw
          case rel => exact ⟨k + 1, q, os'.set p r, by omega, by go_num, rfl, HS.out.1, HS.out.2.1 nq, HS.out.2.2⟩
          case measure => simp [intOf]; omega
        · have hkm : k = m := by omega
          obtain ⟨p, hp, hp2⟩ : ∃ p : Nat, (i : Int) + (m : Int) = (p : Int) ∧ p = i + m := ⟨i + m, by omega, rfl⟩
          have hpN : p < N := by have := HN.out; omega
          have ho : os'[p]? = some 0 := hg1.2.2.2.2.1 p (by omega) (by have := HN.out; omega)
          have hco := hg1.2.1.cell ho
          have hfo := hg1.2.1.frozen p
          have HS : Hid (TI w g n m (os'.set p cy) (i + 1) (wr.setCell ⟨g, p, none⟩ (.int .u64 (cy : Int))) ∧ VD (os'.set p cy) = VD (xs.take (i + 1)) * VD ys) :=
            ⟨hg1.last hp2 hI.out.1, times_end ho Ha.out hp2 Hy.out.1.1 rfl (by rw [hp2, ← hkm]; have := hI.out.2.2; rw [hkm] at this ⊢; exact this)⟩
          have hp3 : IntKind.i64.wrap (p : Int) = (p : Int) := IntWalk.i64_in _ (by omega)
          have hp4 : (p : Int) < (N : Int) := by omega
          clear ho hg1 hI hp2 hkm
          go_wp2
          go_roundw
          case rel => exact ⟨i + 1, os'.set p cy, by omega, by go_num, HS⟩
          case measure => simp [intOf]; omega
    · have hin : i = n := by omega
      have Hin := Lib.hid hin
      clear hin
      go_wp2
      go_ret
      have hi := Hin.out
      subst hi
      obtain ⟨h1, h2⟩ := hH.out
      rw [List.take_of_length_le (by rw [Hx.out.1.1]; exact Nat.le_refl _)] at h2
      refine ⟨_, os, rfl, ?_, h1.2.2.2.1, h2, h1.2.2.2.2.2⟩
      have := h1.nw HN.out hN3
      rw [← HN.out]
      exact this
end Go.Proofs.YthpgdpkemnhneaaGreatDoor

namespace Go.Proofs.YthpgdpkemnhneaaGreatDoor
open Go.RowKit
set_option linter.unusedVariables false

/-- A slice of one new word. -/
theorem Sl_one (w : World) (x : Nat) (hx : x < B64) : Sl (w.alloc (.cells #[.int .u64 (x : Int)] 44)) (some ⟨w.heap.size, 0, none⟩) 1 1 [x] :=
  ⟨rfl, Nat.le_refl _, by omega, fun y hy => by rw [List.mem_singleton] at hy; subst hy; exact hx, fun _ => ⟨w.heap.size, 0, rfl, by simp, fun j u hj => by
    match j, hj with
    | 0, hj =>
      simp [uvs] at hj
      subst hj
      simp⟩⟩
theorem one_of {zs : List Nat} (h : zs.length = 1) (hw : Ws zs) : ∃ z, zs = [z] ∧ z < B64 ∧ V zs = z := by
  match zs, h with
  | [z], _ => exact ⟨z, rfl, hw z (by simp), by simp [V]⟩
theorem V_one (x : Nat) : V [x] = x := by simp [V]
abbrev W1 (w : World) (x : Nat) : World := w.alloc (.cells #[.int .u64 (x : Int)] 44)
theorem W1_below (w : World) (x : Nat) : Below w.heap.size w (W1 w x) := (Below.refl _ _).alloc (Nat.le_refl _) _
theorem W1_below2 (w : World) (x y : Nat) : Below w.heap.size w (W1 (W1 w x) y) := (W1_below w x).alloc (by simp) _
end Go.Proofs.YthpgdpkemnhneaaGreatDoor

namespace Go.Proofs.YthpgdpkemnhneaaGreatDoor
open Go.RowKit
set_option linter.unusedVariables false
set_option maxRecDepth 10000

theorem Sl.take_ {w : World} {A : Option Addr} {n c : Nat} {xs : List Nat} (h : Sl w A n c xs) {k : Nat} (hk : k ≤ n) : Sl w A k c (xs.take k) :=
  ⟨by rw [List.length_take, h.1]; omega, by have := h.2.1; omega, h.2.2.1, Ws_take h.2.2.2.1 k, by rw [uvs_take]; exact h.2.2.2.2.take k⟩

set_option maxHeartbeats 400000 in
theorem Short_ok (A : Option Addr) (n c : Nat) (xs : List Nat) (w : World) (hn : n ≤ 100000) (hx : Sl w A n c xs) (dx : Dg xs) :
    Calls Tryz.prog 83 #[.slice A n c] w fun e w' => ∃ k, e = .returned (.slice A k c) ∧ Hid (k ≤ n ∧ VD (xs.take k) = VD xs ∧ (∀ m, k = m + 1 → dig xs m ≠ 0)) ∧ w = w' := by
  have hnc := hx.2.1
  have Hx := Lib.hid (And.intro hx dx)
  clear hx dx
  go_enter Tryz.func83, Tryz.ntmps83
  go_wp2
  go_loop [3] (fun kv => ∃ k : Nat, k ≤ n ∧ kv = .int .i64 k ∧ Hid (VD (xs.take k) = VD xs)) (fun kv => (intOf kv).toNat)
  case atStart => exact ⟨n, Nat.le_refl _, rfl, by rw [Hx.out.1.take_all]; rfl⟩
  case round =>
    obtain ⟨k, hk, rfl, hH⟩ := hrel
    rcases Nat.eq_zero_or_pos k with rfl | hpos
    · have h0 : ¬ (0 : Int) < ((0 : Nat) : Int) := by omega
      go_wp2
      go_ret
      exact ⟨0, rfl, ⟨by omega, hH.out, fun m h => by omega⟩, rfl⟩
    · obtain ⟨m, rfl⟩ : ∃ m, k = m + 1 := ⟨k - 1, by omega⟩
      have hml : m < xs.length := by rw [Hx.out.1.1]; omega
      have hg := List.getElem?_eq_getElem hml
      obtain ⟨b, o, rfl, hb, hcx⟩ := Hx.out.1.2.2.2.2.at (uvs_get hg)
      generalize xs[m] = x at *
      have Hg := Lib.hid hg
      have hmi : ((m + 1 : Nat) : Int) - 1 = (m : Int) := by omega
      have hmi2 : (m : Int) + 1 - 1 = (m : Int) := by omega
      have hmn : (m : Int) < (n : Int) := by omega
      clear hg hml
      by_cases hx0 : x = 0
      · subst hx0
        have hv : Hid (VD (xs.take m) = VD xs) := by
          have h1 : VD (xs.take (m + 1)) = VD (xs.take m) := by simpa using VD_take_succ xs m 0 Hg.out
          exact h1.symm.trans hH.out
        clear hH
        go_wp2
        go_round
        case rel => exact ⟨m, by omega, rfl, hv⟩
        case measure => simp [intOf]
      · have hxb : ((x : Int) == 0) = false := by simp; omega
        have Hx0 := Lib.hid hx0
        clear hx0
        go_wp2
        go_ret
        refine ⟨m + 1, rfl, ⟨by omega, hH.out, fun m' h => ?_⟩, rfl⟩
        have : m' = m := by omega
        subst this
        rw [dig_get Hg.out]
        exact Hx0.out

end Go.Proofs.YthpgdpkemnhneaaGreatDoor

namespace Go.Proofs.YthpgdpkemnhneaaGreatDoor
open Go.RowKit
set_option linter.unusedVariables false
set_option maxRecDepth 10000

/-- two digits make a word, in the walk's forms -/
theorem joined (a b : Nat) (ha : a < H32) (hb : b < H32) : ∃ m z : Nat, z = a + b * H32 ∧ z < B64 ∧ IntKind.u64.wrap ((b : Int) * 4294967296) = m ∧ IntKind.u64.wrap ((a : Int) + m) = z ∧ (b : Int) * 4294967296 = m ∧ (a : Int) + m = z ∧ IntKind.u64.wrap (m : Int) = m ∧ IntKind.u64.wrap (z : Int) = z := by
  have hB : B64 = 18446744073709551616 := rfl
  have hH : H32 = 4294967296 := rfl
  rw [hH] at ha hb
  refine ⟨b * 4294967296, a + b * 4294967296, by rw [hH], by omega, ?_, ?_, by omega, by omega, ?_, ?_⟩ <;> (rw [IntKind.wrap_u64]; omega)
/-- one step of Row -/
theorem row_step {ds zs : List Nat} {j a b z : Nat} (ha : ds[2 * j]? = some a) (hb : ds[2 * j + 1]? = some b) (hz : z = a + b * H32) (hl : zs.length = j) (hv : V zs = VD (ds.take (2 * j))) : V (zs ++ [z]) = VD (ds.take (2 * (j + 1))) := by
  rw [show 2 * (j + 1) = 2 * j + 1 + 1 by omega, VD_take_succ ds _ b hb, VD_take_succ ds _ a ha, V_snoc, hv, hl, hz, Nat.pow_succ, pow_H]
  generalize B64 ^ j = p
  generalize H32 = h
  grind

set_option maxHeartbeats 400000 in
theorem Row_any (A : Option Addr) (N n c : Nat) (ds : List Nat) (w : World) (hN : N = 2 * n) (hn : n ≤ 50000) (hx : Sl w A N c ds) (hd : Dg ds) :
    Calls Tryz.prog 101 #[.slice A N c] w fun e w' => ∃ v zs, e = .returned v ∧ Nw w w' v n zs ∧ V zs = VD ds ∧ Below w.heap.size w w' := by
  obtain ⟨i0, hi, hz0, hz1, hz2⟩ := info_parts Tryz.info44
  have Hx := Lib.hid (And.intro hx hd)
  have HN := Lib.hid hN
  have hN1 : N ≤ 100000 := by omega
  clear hx hd hN
  go_enter Tryz.func101, Tryz.ntmps101
  go_wp2
  go_loopw [3, 4] (fun v iv wr => ∃ (j i : Nat) (zs : List Nat), j ≤ n ∧ iv = .int .i64 i ∧ wr.ownsRow w.heap.size 44 1 v j (uvs zs) ∧ Hid (i = 2 * j ∧ Ws zs ∧ zs.length = j ∧ V zs = VD (ds.take (2 * j)) ∧ Below w.heap.size w wr)) (fun _ i _ => N + 1 - (intOf i).toNat)
  case atStart => exact ⟨0, 0, [], by omega, rfl, World.ownsRow_nil _ _ _ _, rfl, Ws_nil, rfl, by simp [VD, V], Below.refl _ _⟩
  case round =>
    obtain ⟨j, i, zs, hj, rfl, hown, hH⟩ := hrel
    have hij := hH.out.1
    by_cases hlt : j < n
    · have l1 : 2 * j < ds.length := by rw [Hx.out.1.1, HN.out]; omega
      have l2 : 2 * j + 1 < ds.length := by rw [Hx.out.1.1, HN.out]; omega
      have g1 := List.getElem?_eq_getElem l1
      have g2 := List.getElem?_eq_getElem l2
      have a1 : ds[2 * j] < H32 := Hx.out.2 _ (List.getElem_mem l1)
      have a2 : ds[2 * j + 1] < H32 := Hx.out.2 _ (List.getElem_mem l2)
      generalize ds[2 * j] = a at *
      generalize ds[2 * j + 1] = b at *
      obtain ⟨m, z, hz, hzB, e1, e2, e3, e4, e5, e6⟩ := joined a b a1 a2
      obtain ⟨bk, o, rfl, hb, hcx⟩ := (Hx.out.1.2.2.2.2.below hH.out.2.2.2.2).at (uvs_get g1)
      obtain ⟨bk', o', he, _, hcy⟩ := (Hx.out.1.2.2.2.2.below hH.out.2.2.2.2).at (uvs_get g2)
      injection he with he
      injection he with he1 he2
      subst he1
      subst he2
      rw [← hij] at hcx hcy
      have hi1 : (i : Int) + 1 < (N : Int) := by have := HN.out; omega
      have hi2 : (i : Int) < (N : Int) := by omega
      have hi3 : IntKind.i64.wrap ((i : Int) + 1) = (i : Int) + 1 := IntWalk.i64_in _ (by omega)
      have hi4 : (0 : Int) ≤ (i : Int) + 1 := by omega
      have hi5 : ((i : Int) + 1).toNat = i + 1 := by omega
      have HG := Lib.hid (And.intro g1 (And.intro g2 (And.intro hz hzB)))
      have Hb := Lib.hid (And.intro hb hH.out.2.2.2.2)
      clear g1 g2 hz hzB a1 a2 l1 l2 hij
      go_wp2
      go_region_held3 (fun w' => w'.cell? ⟨bk, o + i, none⟩ = some (.int .u64 (a : Int)) ∧ w'.cell? ⟨bk, o + (i + 1), none⟩ = some (.int .u64 (b : Int)))
        (first | go_keep | exact ⟨cell_app Hb.out.2 hown hgrow Hb.out.1 hcx, cell_app Hb.out.2 hown hgrow Hb.out.1 hcy⟩)
        ((refine step_append_lies _ (by rfl) _ _ 22 (by rfl) w.heap.size 44 i0 _ 1 8 Tryz.underlying22 hi hz0 hz1 hz2 rfl (by omega) u3 j (uvs zs) (by rfl) ((hown.alloc _).drew) ⟨wr.heap.size, 0, none⟩ 1 1 [.int .u64 (z : Int)] (by rfl) (by rfl) (World.news_of_block (cs := #[.int .u64 (z : Int)]) (t := 44) (fr := (0, 0)) (heap_alloc_new wr _)) (by simp [Value.oneCell']) (by omega) (by unfold maxLen; omega) (by omega) (by have := Hb.out.2.size; simp; omega) (wr.heap.size + 1) (by simp) ?_; intro gg cap w1 hown1 hgrow hat hlt1))
      have HN2 : Hid (i + 2 = 2 * (j + 1) ∧ Ws (zs ++ [z]) ∧ (zs ++ [z]).length = j + 1 ∧ V (zs ++ [z]) = VD (ds.take (2 * (j + 1))) ∧ Below w.heap.size w w1) := by
        obtain ⟨g1, g2, g3, g4⟩ := HG.out
        obtain ⟨k1, k2, k3, k4, k5⟩ := hH.out
        exact ⟨by omega, Ws_snoc k2 g4, by simp [k3], row_step g1 g2 g3 k3 k4, below_app Hb.out.2 hown hgrow⟩
      have hown2 : w1.ownsRow w.heap.size 44 1 (.slice (some ⟨gg, 0, none⟩) (j + 1) cap) (j + 1) (uvs (zs ++ [z])) := by
        rw [uvs_append]
        exact hown1
      have him : i + 1 < N := by omega
      clear hH hown hown1 hgrow hat hlt1 e1 e2 e3 e4 e5 e6 hi1 hi3 hi4 hi5 HG Hb hcx hcy
      go_wp2
      go_roundw
      case rel => exact ⟨j + 1, i + 2, zs ++ [z], by omega, by go_num, hown2, HN2⟩
      case measure => simp [intOf]; omega
    · have hjn : j = n := by omega
      have hiN : N ≤ i := by have := HN.out; omega
      have hiN2 : ¬ ((i : Int) + 1 < N) := by omega
      have hi5 : i ≤ 100000 := by have := HN.out; omega
      have Hj := Lib.hid hjn
      clear hij hjn
      go_wp2
      go_ret
      obtain ⟨k1, k2, k3, k4, k5⟩ := hH.out
      have hj := Hj.out
      subst hj
      refine ⟨_, rfl, zs, ⟨k3, k2, hown⟩, ?_, k5⟩
      rw [k4, List.take_of_length_le (by rw [Hx.out.1.1, HN.out]; omega)]
theorem Row_ok (A : Option Addr) (n c : Nat) (ds : List Nat) (w : World) (hn : n ≤ 50000) (hx : Sl w A (2 * n) c ds) (hd : Dg ds) :
    Calls Tryz.prog 101 #[.slice A (2 * n) c] w fun e w' => ∃ v zs, e = .returned v ∧ Nw w w' v n zs ∧ V zs = VD ds ∧ Below w.heap.size w w' := Row_any A (2 * n) n c ds w rfl hn hx hd
end Go.Proofs.YthpgdpkemnhneaaGreatDoor

namespace Go.Proofs.YthpgdpkemnhneaaGreatDoor
open Go.RowKit
set_option linter.unusedVariables false
set_option maxRecDepth 10000

/-- digits, with zeros up to m -/
def pad (ds : List Nat) (m : Nat) : List Nat := ds ++ List.replicate (m - ds.length) 0
theorem pad_len (ds : List Nat) (m : Nat) : (pad ds m).length = max ds.length m := by simp [pad]; omega
theorem VD_pad (ds : List Nat) (m : Nat) : VD (pad ds m) = VD ds := by rw [pad, VD_append, VD_zeros]; simp
theorem Dg_zeros (m : Nat) : Dg (List.replicate m 0) := fun x hx => by rw [List.eq_of_mem_replicate hx]; exact H32_pos
theorem Dg_pad {ds : List Nat} (h : Dg ds) (m : Nat) : Dg (pad ds m) := Dg_append h (Dg_zeros _)
/-- a row and the word above it, out of digits -/
theorem cut_val {al zs : List Nat} {n a b hi : Nat} (ha : al[2 * n]? = some a) (hb : al[2 * n + 1]? = some b) (hv : V zs = VD (al.take (2 * n))) (hh : hi = a + b * H32) : V zs + hi * B64 ^ n = VD (al.take (2 * n + 2)) := by
  rw [VD_take_succ al _ b hb, VD_take_succ al _ a ha, hv, hh, Nat.pow_succ, pow_H]
  generalize B64 ^ n = p
  generalize H32 = h
  grind

set_option maxHeartbeats 400000 in
theorem Cut_any (A : Option Addr) (m c n : Nat) (ds : List Nat) (w : World) (hm : m ≤ 100000) (hn : n ≤ 10000) (hx : Sl w A m c ds) (hd : Dg ds) :
    Calls Tryz.prog 79 #[.slice A m c, .int .i64 n] w fun e w' => ∃ v zs, ∃ hi : Nat, e = .returned (.tuple #[v, .int .u64 hi]) ∧ Nw w w' v n zs ∧ hi < B64 ∧ V zs + hi * B64 ^ n = VD ((pad ds (2 * n + 2)).take (2 * n + 2)) ∧ Below w.heap.size w w' := by
  obtain ⟨i0, hi, hz0, hz1, hz2⟩ := info_parts Tryz.info44
  have hl := hx.1
  have hrd : Rd w w.heap.size A (uvs ds) := hx.2.2.2.2
  have hul : (uvs ds).length = m := by rw [uvs_length, hl]
  have Hx := Lib.hid (And.intro hx (And.intro hd (And.intro hrd hul)))
  clear hx hd hl hrd hul
  go_enter Tryz.func79, Tryz.ntmps79
  go_wp2_with (at_builtin; refine wpList_append_rd _ rfl (.tmp 7) (.tmp 8) 22 rfl w.heap.size 44 i0 (.int .u64 0) Tryz.underlying22 hi hz0 hz1 hz2 rfl _ 0 [] rfl (World.ownsRow_nil _ _ _ _) w.heap.size A m c (uvs ds) rfl Hx.out.2.2.2 Hx.out.2.2.1 (uvs_one _) (by omega) (by omega) ?_)
  intro v1 w1 hown1 hgrow1 hblk1
  have hb1 : Below w.heap.size w w1 := (Below.refl _ _).grown hgrow1 (Nat.le_refl _) (by intro k hk; cases hk)
  obtain ⟨A1, c1, rfl, hc1, hc2, _, hr1⟩ := own_form hown1
  have hN : ∃ N : Nat, (2 : Int) * (n : Int) = (N : Int) ∧ N = 2 * n := ⟨2 * n, by omega, rfl⟩
  obtain ⟨N, hN, hN2⟩ := hN
  have HN := Lib.hid hN2
  have hN3 : N ≤ 20000 := by omega
  have hs0 : w1.ownsRow w.heap.size 44 1 (.slice A1 m c1) m (uvs (ds ++ List.replicate (m - m) 0)) := by simpa using hown1
  clear hN2 hown1 hgrow1 hblk1 hr1 hc2
  go_wp2
  go_loopw [6] (fun v wr => ∃ (k c1 : Nat) (A1 : Option Addr) (al : List Nat), v = .slice A1 k c1 ∧ m ≤ k ∧ k ≤ max m (N + 2) ∧ wr.ownsRow w.heap.size 44 1 (.slice A1 k c1) k (uvs al) ∧ Hid (al = ds ++ List.replicate (k - m) 0 ∧ Below w.heap.size w wr)) (fun v _ => N + 2 - (match v with | .slice _ k _ => k | _ => 0))
  case atStart => exact ⟨m, c1, A1, _, by simp, by omega, by omega, hs0, rfl, hb1⟩
  case round =>
    clear hs0 hb1
    obtain ⟨k, c1, A1, al, rfl, hk1, hk2, hown, hH⟩ := hrel
    by_cases hlt : k < N + 2
    · go_wp2_with (at_builtin; refine wpList_append_rd _ rfl (.tmp 16) (.tmp 17) 22 rfl w.heap.size 44 i0 (.int .u64 0) Tryz.underlying22 hi hz0 hz1 hz2 rfl (.slice A1 k c1) k _ rfl (hown.alloc _) _ (some ⟨wr.heap.size, 0, none⟩) 1 1 [.int .u64 0] rfl rfl (Rd.one _ _ _) (by simp [Value.oneCell']) (by omega) (by have := hH.out.2.size; simp; omega) ?_)
      intro v' w2 hown2 hgrow hblk
      obtain ⟨A2, c2, rfl, _, _, _, _⟩ := own_form hown2
      have HN2 : Hid (al ++ [0] = ds ++ List.replicate (k + 1 - m) 0 ∧ Below w.heap.size w w2) := by
        obtain ⟨g1, g2⟩ := hH.out
        refine ⟨?_, below_app0 g2 hown hgrow⟩
        rw [g1, show k + 1 - m = (k - m) + 1 by omega, List.replicate_succ', List.append_assoc]
      have hown3 : w2.ownsRow w.heap.size 44 1 (.slice A2 (k + 1) c2) (k + 1) (uvs (al ++ [0])) := by
        rw [uvs_append]
        exact hown2
      clear hown hH hown2 hgrow hblk
      go_wp2
      go_roundw
      case rel => exact ⟨k + 1, c2, A2, al ++ [0], rfl, by omega, by omega, hown3, HN2⟩
      case measure => simp; omega
    · have hk3 : k = max m (N + 2) := by omega
      have Hk := Lib.hid hk3
      clear hk3
      obtain ⟨_, _, hv, hkc, _, hll, hrd⟩ := own_form hown
      injection hv with hv1 hv2 hv3
      subst hv1
      subst hv3
      rw [uvs_length] at hll
      have hal : al = pad ds (N + 2) := by
        rw [hH.out.1, pad, Hx.out.1.1, Hk.out]
        congr 2
        omega
      have hdg : Dg al := by rw [hal]; exact Dg_pad Hx.out.2.1 _
      have l1 : N < al.length := by omega
      have l2 : N + 1 < al.length := by omega
      have g1 := List.getElem?_eq_getElem l1
      have g2 := List.getElem?_eq_getElem l2
      have a1 : al[N] < H32 := hdg _ (List.getElem_mem l1)
      have a2 : al[N + 1] < H32 := hdg _ (List.getElem_mem l2)
      generalize al[N] = a at *
      generalize al[N + 1] = b at *
      obtain ⟨mm, z, hz, hzB, e1, e2, e3, e4, e5, e6⟩ := joined a b a1 a2
      obtain ⟨bk, o, rfl, hb, hcx⟩ := hrd.at (uvs_get g1)
      obtain ⟨bk', o', he, _, hcy⟩ := hrd.at (uvs_get g2)
      injection he with he
      injection he with he1 he2
      subst he1
      subst he2
      have hSl : Sl wr (some ⟨bk, o, none⟩) N c1 (al.take N) := ⟨by simp; omega, by omega, by unfold maxLen at *; omega, Ws_take hdg.ws N, by rw [uvs_take]; exact hrd.take N⟩
      have Hf := Lib.hid (And.intro hSl (And.intro (Dg_take hdg N) (And.intro g1 (And.intro g2 (And.intro hz (And.intro hzB (And.intro hal hb)))))))
      have hi1 : (N : Int) + 1 < (k : Int) := by omega
      have hi2 : (N : Int) < (k : Int) := by omega
      have hi3 : IntKind.i64.wrap ((N : Int) + 1) = (N : Int) + 1 := IntWalk.i64_in _ (by omega)
      have hi4 : (0 : Int) ≤ (N : Int) + 1 := by omega
      have hi5 : ((N : Int) + 1).toNat = N + 1 := by omega
      have hi6 : IntKind.i64.wrap (N : Int) = (N : Int) := IntWalk.i64_in _ (by omega)
      have hi7 : (N : Int) ≤ (c1 : Int) := by omega
      have Hb := Lib.hid hH.out.2
      clear hSl hal hdg g1 g2 hz hzB a1 a2 l1 l2 hll hrd hown hH hb hc1
      go_wp2
      go_region_held3 (fun w' => w'.cell? ⟨bk, o + N, none⟩ = some (.int .u64 (a : Int)) ∧ w'.cell? ⟨bk, o + (N + 1), none⟩ = some (.int .u64 (b : Int)))
        (first | go_keep | exact ⟨hcx, hcy⟩ | exact ⟨(hbw.cell (p := ⟨bk, o + N, none⟩) Hf.out.2.2.2.2.2.2.2).trans hcx, (hbw.cell (p := ⟨bk, o + (N + 1), none⟩) Hf.out.2.2.2.2.2.2.2).trans hcy⟩)
        ((go_at_call 101; refine (Row_any (some ⟨bk, o, none⟩) N n c1 (al.take N) wr.drew HN.out (by omega) Hf.out.1 Hf.out.2.1).mono ?_; rintro e w' ⟨v, zs, rfl, hnw, hv, hbw⟩))
      have HP : Hid (Nw w w' v n zs ∧ z < B64 ∧ V zs + z * B64 ^ n = VD ((pad ds (2 * n + 2)).take (2 * n + 2)) ∧ Below w.heap.size w w') := by
        obtain ⟨f1, f2, f3, f4, f5, f6, f7, f8⟩ := Hf.out
        have hsz : w.heap.size ≤ wr.drew.heap.size := Hb.out.size
        have hn2 := HN.out
        refine ⟨⟨hnw.1, hnw.2.1, own_base hnw.2.2 hsz⟩, f6, ?_, Hb.out.drew.trans (hbw.mono hsz)⟩
        rw [hn2] at f3 f4 f7 hv
        rw [← f7]
        exact cut_val f3 f4 hv f5
      clear hnw hv hbw Hf Hb hcx hcy e1 e2 e3 e4 e5 e6 hi3 hi4 hi5 hi6
      go_wp2
      go_ret2
      obtain ⟨h1, h2, h3, h4⟩ := HP.out
      exact ⟨v, zs, z, rfl, h1, h2, h3, h4⟩
theorem cut_small {ds : List Nat} {n : Nat} (h : VD ds < B64 ^ (n + 1)) : VD ((pad ds (2 * n + 2)).take (2 * n + 2)) = VD ds := by
  have h1 : VD (pad ds (2 * n + 2)) = VD ((pad ds (2 * n + 2)).take (2 * n + 2)) + H32 ^ ((pad ds (2 * n + 2)).take (2 * n + 2)).length * VD ((pad ds (2 * n + 2)).drop (2 * n + 2)) := by
    rw [← VD_append, List.take_append_drop]
  rw [VD_pad, List.length_take, pad_len, Nat.min_eq_left (by omega), show 2 * n + 2 = 2 * (n + 1) by omega, pow_H] at h1
  rw [show 2 * n + 2 = 2 * (n + 1) by omega]
  rcases Nat.eq_zero_or_pos (VD ((pad ds (2 * (n + 1))).drop (2 * (n + 1)))) with h2 | h2
  · rw [h2] at h1
    omega
  · have := Nat.mul_le_mul_left (B64 ^ (n + 1)) h2
    omega
/-- Cut, where all of the number is kept. -/
theorem Cut_ok (A : Option Addr) (m c n : Nat) (ds : List Nat) (w : World) (hm : m ≤ 100000) (hn : n ≤ 10000) (hx : Sl w A m c ds) (hd : Dg ds) (hs : VD ds < B64 ^ (n + 1)) :
    Calls Tryz.prog 79 #[.slice A m c, .int .i64 n] w fun e w' => ∃ v zs, ∃ hi : Nat, e = .returned (.tuple #[v, .int .u64 hi]) ∧ Nw w w' v n zs ∧ hi < B64 ∧ V zs + hi * B64 ^ n = VD ds ∧ Below w.heap.size w w' := by
  refine (Cut_any A m c n ds w hm hn hx hd).mono ?_
  rintro e w' ⟨v, zs, hi, h1, h2, h3, h4, h5⟩
  exact ⟨v, zs, hi, h1, h2, h3, by rw [h4, cut_small hs], h5⟩
end Go.Proofs.YthpgdpkemnhneaaGreatDoor

namespace Go.Proofs.YthpgdpkemnhneaaGreatDoor
open Go.RowKit
set_option linter.unusedVariables false
set_option maxRecDepth 10000

end Go.Proofs.YthpgdpkemnhneaaGreatDoor


namespace Go.Proofs.YthpgdpkemnhneaaGreatDoor
open Go.RowKit
set_option linter.unusedVariables false
set_option maxRecDepth 10000

/-- one step of a difference of digits -/
theorem minus_step {out xs ys : List Nat} {k a b r q bo bo' s : Nat} (hl : out.length = k) (ha : xs[k]? = some a) (hb : dig ys k = b) (hs : s + b + bo = a + H32) (hr : r = s % H32) (hq : q = s / H32) (hbo : bo' + q = 1)
    (hv : VD out + VD (ys.take k) = VD (xs.take k) + bo * H32 ^ k) : VD (out ++ [r]) + VD (ys.take (k + 1)) = VD (xs.take (k + 1)) + bo' * H32 ^ (k + 1) := by
  have hrq : r + H32 * q = s := by subst hr hq; exact Nat.mod_add_div _ _
  rw [VD_snoc, VD_take_dig, hb, VD_take_succ xs k a ha, hl, Nat.pow_succ]
  generalize VD (xs.take k) = u at *
  generalize VD (ys.take k) = v at *
  generalize VD out = t at *
  generalize H32 ^ k = p at *
  generalize H32 = h at *
  clear hr hq hl ha hb
  have e : r + b + bo = a + bo' * h := by
    have : h * q + bo' * h = h := by rw [Nat.mul_comm bo', ← Nat.mul_add, Nat.add_comm, hbo, Nat.mul_one]
    omega
  have e2 : r * p + b * p + bo * p = a * p + bo' * (p * h) := by
    have := congrArg (· * p) e
    simp only [Nat.add_mul] at this
    rw [this]
    congr 1
    rw [Nat.mul_assoc, Nat.mul_comm h]
  omega
theorem minus_bounds {a b bo : Nat} (ha : a < H32) (hb : b < H32) (hbo : bo ≤ 1) : ∃ s, s + b + bo = a + H32 ∧ s < 8589934592 ∧ s / H32 ≤ 1 := by
  have hH : H32 = 4294967296 := rfl
  rw [hH] at ha hb ⊢
  exact ⟨a + 4294967296 - b - bo, by omega, by omega, by omega⟩

set_option maxHeartbeats 400000 in
theorem Minus_ok (A A' : Option Addr) (n m c c' : Nat) (xs ys : List Nat) (w : World) (hn : n ≤ 100000) (hm : m ≤ 100000) (hx : Sl w A n c xs) (hy : Sl w A' m c' ys) (dx : Dg xs) (dy : Dg ys) :
    Calls Tryz.prog 48 #[.slice A n c, .slice A' m c'] w fun e w' => ∃ v out, ∃ bo : Nat, e = .returned (.tuple #[v, .bool ((bo : Int) == 1)]) ∧ bo ≤ 1 ∧ Nw w w' v n out ∧ Dg out ∧ VD out + VD (ys.take n) = VD xs + bo * H32 ^ n ∧ Below w.heap.size w w' := by
  obtain ⟨i0, hi, hz0, hz1, hz2⟩ := info_parts Tryz.info44
  have Hx := Lib.hid (And.intro hx dx)
  have Hy := Lib.hid (And.intro hy dy)
  clear hx hy dx dy
  go_enter Tryz.func48, Tryz.ntmps48
  go_wp2
  go_loopw [6, 7, 8] (fun v bv i wr => ∃ (k bo : Nat) (out : List Nat), k ≤ n ∧ i = .int .i64 k ∧ bv = .int .u64 bo ∧ wr.ownsRow w.heap.size 44 1 v k (uvs out) ∧ Hid (bo ≤ 1 ∧ Dg out ∧ out.length = k ∧ VD out + VD (ys.take k) = VD (xs.take k) + bo * H32 ^ k ∧ Below w.heap.size w wr)) (fun _ _ i _ => n - (intOf i).toNat)
  case atStart => exact ⟨0, 0, [], by omega, rfl, rfl, World.ownsRow_nil _ _ _ _, by decide, Dg_nil, rfl, by simp [VD], Below.refl _ _⟩
  case round =>
    obtain ⟨k, bo, out, hk, rfl, rfl, hown, hH⟩ := hrel
    by_cases hlt : k < n
    · have l1 : k < xs.length := by rw [Hx.out.1.1]; exact hlt
      have g1 := List.getElem?_eq_getElem l1
      have a1 : xs[k] < H32 := Hx.out.2 _ (List.getElem_mem l1)
      generalize xs[k] = a at *
      have hb := dig_lt Hy.out.2 k
      obtain ⟨bk, o, rfl, hbl, hcx⟩ := (Hx.out.1.2.2.2.2.below hH.out.2.2.2.2).at (uvs_get g1)
      obtain ⟨b, hbb⟩ : ∃ b, dig ys k = b := ⟨_, rfl⟩
      have Hd := Lib.hid (fun nn => digit_any A' m c' k ys (wr.drewN nn) (by omega) (show Sl wr A' m c' ys from Hy.out.1.below hH.out.2.2.2.2))
      rw [hbb] at hb Hd
      obtain ⟨s, hs, hs1, hs2⟩ := minus_bounds a1 hb hH.out.1
      obtain ⟨r, q, hrq, hrH, hqH, e1, e2, e3, e4, e5⟩ := halves s (by have : B64 = 18446744073709551616 := rfl; omega)
      have hq1 : q ≤ 1 := by rw [hrq.2]; exact hs2
      have f1 : ∃ t : Nat, (a : Int) + 4294967296 = (t : Int) ∧ IntKind.u64.wrap ((a : Int) + 4294967296) = (t : Int) ∧ IntKind.u64.wrap (t : Int) = (t : Int) ∧ t < 8589934592 ∧ t = a + H32 := by
        have hH : H32 = 4294967296 := rfl
        rw [hH] at a1
        exact ⟨a + 4294967296, by omega, by rw [IntKind.wrap_u64]; omega, by rw [IntKind.wrap_u64]; omega, by omega, by rw [hH]⟩
      obtain ⟨t, t1, t2, t3, t4, t5⟩ := f1
      have f2 : ∃ y : Nat, (t : Int) - (b : Int) = (y : Int) ∧ IntKind.u64.wrap ((t : Int) - (b : Int)) = (y : Int) ∧ IntKind.u64.wrap (y : Int) = (y : Int) ∧ y < 8589934592 ∧ (y : Int) - (bo : Int) = (s : Int) ∧ IntKind.u64.wrap ((y : Int) - (bo : Int)) = (s : Int) ∧ IntKind.u64.wrap (s : Int) = (s : Int) := by
        refine ⟨t - b, by omega, ?_, ?_, by omega, by omega, ?_, ?_⟩
        · rw [IntKind.wrap_u64]; omega
        · rw [IntKind.wrap_u64]; omega
        · rw [IntKind.wrap_u64]; omega
        · rw [IntKind.wrap_u64]; omega
      obtain ⟨y, y1, y2, y3, y4, y5, y6, y7⟩ := f2
      have f3 : ∃ p : Nat, (1 : Int) - (q : Int) = (p : Int) ∧ p ≤ 1 ∧ p + q = 1 := ⟨1 - q, by omega, by omega, by omega⟩
      obtain ⟨p, p1, p2, p3⟩ := f3
      have hki : (k : Int) < n := by omega
      have HF := Lib.hid (And.intro g1 (And.intro hbb (And.intro hs (And.intro hrq (And.intro hrH (And.intro p2 p3))))))
      clear g1 hbb hs hrq hrH hqH p2 p3 t5 a1 hb l1 hs2
      go_wp2
      go_quiet ((go_at_call 82; exact Calls.quiet_of_same ((Hd.out _).mono fun e w' h => ⟨h.1, h.2.symm⟩)))
      have hownd := own_drewN hown nq
      have hHd : Hid (bo ≤ 1 ∧ Dg out ∧ out.length = k ∧ VD out + VD (ys.take k) = VD (xs.take k) + bo * H32 ^ k ∧ Below w.heap.size w (wr.drewN nq)) := ⟨hH.out.1, hH.out.2.1, hH.out.2.2.1, hH.out.2.2.2.1, below_drewN hH.out.2.2.2.2 nq⟩
      clear hH hown Hd hcx
      generalize wr.drewN nq = wq at *
      go_wp2_with (at_builtin; refine wpList_append_rd _ rfl (.tmp 27) (.tmp 30) 22 rfl w.heap.size 44 i0 (.int .u64 0) Tryz.underlying22 hi hz0 hz1 hz2 rfl u6 k _ rfl (hownd.alloc _) _ (some ⟨wq.heap.size, 0, none⟩) 1 1 [.int .u64 (r : Int)] rfl rfl (Rd.one _ _ _) (by simp [Value.oneCell']) (by omega) (by have := hHd.out.2.2.2.2.size; simp; omega) ?_)
      intro v' w2 hown2 hgrow hblk
      have HN : Hid (p ≤ 1 ∧ Dg (out ++ [r]) ∧ (out ++ [r]).length = k + 1 ∧ VD (out ++ [r]) + VD (ys.take (k + 1)) = VD (xs.take (k + 1)) + p * H32 ^ (k + 1) ∧ Below w.heap.size w w2) := by
        obtain ⟨h1, h2, h3, h4, h5, h6, h7⟩ := HF.out
        obtain ⟨g1, g2, g3, g4, g5⟩ := hHd.out
        exact ⟨h6, Dg_snoc g2 h5, by simp [g3], minus_step g3 h1 h2 h3 h4.1 h4.2 h7 g4, below_app0 g5 hownd hgrow⟩
      have hown3 : w2.ownsRow w.heap.size 44 1 v' (k + 1) (uvs (out ++ [r])) := by
        rw [uvs_append]
        exact hown2
      clear hownd hHd hown2 hgrow hblk
      go_wp2
      go_roundw
      case rel => exact ⟨k + 1, p, out ++ [r], by omega, by go_num, rfl, hown3, HN⟩
      case measure => simp [intOf]; omega
    · have hkn : k = n := by omega
      have Hk := Lib.hid hkn
      clear hkn
      go_wp2
      go_ret2
      have hkn := Hk.out
      subst hkn
      obtain ⟨g1, g2, g3, g4, g5⟩ := hH.out
      rw [show xs.take k = xs from List.take_of_length_le (by rw [Hx.out.1.1]; exact Nat.le_refl _)] at g4
      exact ⟨_, out, bo, rfl, g1, ⟨g3, g2.ws, hown⟩, g2, g4, g5⟩
end Go.Proofs.YthpgdpkemnhneaaGreatDoor

namespace Go.Proofs.YthpgdpkemnhneaaGreatDoor
open Go.RowKit
set_option linter.unusedVariables false

/-- two new cells -/
theorem Rd.two (w : World) (a b : Value) (t : TypeId) : Rd (w.alloc (.cells #[a, b] t)) (w.heap.size + 1) (some ⟨w.heap.size, 0, none⟩) [a, b] := by
  intro _
  refine ⟨w.heap.size, 0, rfl, by omega, fun j u hu => ?_⟩
  match j, hu with
  | 0, hu => simp at hu; subst hu; simp
  | 1, hu => simp at hu; subst hu; simp
/-- two new digits -/
theorem Sl_two (w : World) (a b : Nat) (ha : a < B64) (hb : b < B64) : Sl (w.alloc (.cells #[.int .u64 (a : Int), .int .u64 (b : Int)] 44)) (some ⟨w.heap.size, 0, none⟩) 2 2 [a, b] :=
  ⟨rfl, Nat.le_refl _, by omega, fun y hy => by
    simp at hy
    rcases hy with rfl | rfl
    · exact ha
    · exact hb, by simpa [uvs] using Rd.two w (.int .u64 (a : Int)) (.int .u64 (b : Int)) 44⟩
set_option maxHeartbeats 400000 in
theorem Word_ok (x : Nat) (w : World) (hx : x < B64) :
    Calls Tryz.prog 81 #[.int .u64 x] w fun e w' => ∃ A ds, e = .returned (.slice A 2 2) ∧ Sl w' A 2 2 ds ∧ Dg ds ∧ VD ds = x ∧ Below w.heap.size w w' := by
  obtain ⟨r, q, hrq, hrH, hqH, e1, e2, e3, e4, e5⟩ := halves x hx
  have HR := Lib.hid (And.intro hrq (And.intro hrH hqH))
  have hx0 : (0 : Int) ≤ x := by omega
  clear hrq hrH hqH hx
  go_enter Tryz.func81, Tryz.ntmps81
  go_wp2
  go_ret
  obtain ⟨⟨h1, h2⟩, h3, h4⟩ := HR.out
  refine ⟨_, [r, q], rfl, Sl_two w r q (Nat.lt_trans h3 (by decide)) (Nat.lt_trans h4 (by decide)), fun y hy => by
    simp at hy
    rcases hy with rfl | rfl
    · exact h3
    · exact h4, ?_, (Below.refl _ _).alloc (Nat.le_refl _) _⟩
  rw [VD, VD, VD, h1, h2, Nat.mul_zero, Nat.add_zero, Nat.mod_add_div]

theorem mul_room {x y a P B : Nat} (hx : x < P) (hy : y < B) (ha : a < B) : x * y + a < P * B := by
  have h1 : (x + 1) * (y + 1) ≤ P * B := Nat.mul_le_mul hx hy
  have e : (x + 1) * (y + 1) = x * y + x + y + 1 := by grind
  have h2 : x * y + a ≤ x * (B - 1) + (B - 1) := Nat.add_le_add (Nat.mul_le_mul_left _ (by omega)) (by omega)
  have h3 : x * (B - 1) + (B - 1) = (x + 1) * (B - 1) := by rw [Nat.add_mul, Nat.one_mul]
  have h4 : (x + 1) * (B - 1) ≤ P * (B - 1) := Nat.mul_le_mul_right _ hx
  have h5 : P * (B - 1) + P = P * B := by
    obtain ⟨b, rfl⟩ : ∃ b, B = b + 1 := ⟨B - 1, by omega⟩
    rw [Nat.add_sub_cancel, Nat.mul_succ]
  omega
theorem V_below {xs : List Nat} {n : Nat} (h : Ws xs) (hl : xs.length = n) : V xs < B64 ^ n := by
  have := V_lt xs h
  rw [hl] at this
  exact this
end Go.Proofs.YthpgdpkemnhneaaGreatDoor

namespace Go.Proofs.YthpgdpkemnhneaaGreatDoor
open Go.RowKit
set_option linter.unusedVariables false

theorem take_eq_succ {xs ys : List Nat} {k x y : Nat} (hx : xs[k]? = some x) (hy : ys[k]? = some y) (h : xs.take k = ys.take k) : xs.take (k + 1) = ys.take (k + 1) ↔ x = y := by
  rw [List.take_add_one, List.take_add_one, h, hx, hy]
  simp

set_option maxHeartbeats 400000 in
theorem Same_any (A A' : Option Addr) (n n' c c' : Nat) (xs ys : List Nat) (w : World) (hx : Sl w A n c xs) (hy : Sl w A' n' c' ys) (hn : n ≤ 4611686018427387904) :
    Calls Tryz.prog 52 #[.slice A n c, .slice A' n' c'] w fun e w' => e = .returned (.bool (decide (xs = ys))) ∧ ∃ m, w' = w.drewN m := by
  by_cases hne : n = n'
  · subst hne
    have Hx := Lib.hid hx
    have Hy := Lib.hid hy
    clear hx hy
    go_enter Tryz.func52, Tryz.ntmps52
    go_wp2
    go_loopw [5] (fun i wr => ∃ k : Nat, k ≤ n ∧ i = .int .i64 k ∧ Hid (xs.take k = ys.take k) ∧ ∃ m, wr = w.drewN m) (fun i _ => n - (intOf i).toNat)
    case atStart => exact ⟨0, Nat.zero_le _, rfl, by simp [Hid], 0, rfl⟩
    case round =>
      obtain ⟨k, hk, rfl, heq, m, rfl⟩ := hrel
      by_cases hlt : k < n
      · obtain ⟨x, hgx, wx, _⟩ := Hx.out.get hlt
        obtain ⟨y, hgy, wy, _⟩ := Hy.out.get hlt
        obtain ⟨b, o, rfl, _, hcx⟩ := Hx.out.2.2.2.2.at (uvs_get hgx)
        obtain ⟨b', o', rfl, _, hcy⟩ := Hy.out.2.2.2.2.at (uvs_get hgy)
        have Ht := Lib.hid (take_eq_succ hgx hgy heq.out)
        have hki : (k : Int) < n := by omega
        by_cases hxy : x = y
        · subst hxy
          have Hs := Lib.hid (Ht.out.2 rfl)
          clear hgx hgy
          go_wp2
          go_quiet (fail)
          go_wp2
          go_roundw
          case rel => exact ⟨k + 1, by omega, by go_num, Hs.out, _, rfl⟩
          case measure => simp [intOf]; omega
        · have hb : ((x : Int) != (y : Int)) = true := by rw [bne_iff_ne]; omega
          have Hd := Lib.hid (show decide (xs = ys) = false by
            refine decide_eq_false ?_
            rintro rfl
            exact hxy (Ht.out.1 rfl))
          clear hgx hgy hxy
          go_wp2
          go_quiet (fail)
          go_wp2
          go_ret
          rw [Hd.out]
          exact ⟨rfl, _, World.drewN_drewN _ _ _⟩
      · have hkn : k = n := by omega
        have Hd := Lib.hid (show decide (xs = ys) = true by
          refine decide_eq_true ?_
          have h1 := heq.out
          rw [hkn, Hx.out.take_all, Hy.out.take_all] at h1
          exact h1)
        clear hkn
        go_wp2
        go_ret
        rw [Hd.out]
        exact ⟨rfl, _, rfl⟩
  · have Hd := Lib.hid (show decide (xs = ys) = false by
      refine decide_eq_false ?_
      rintro rfl
      exact hne (hx.1.symm.trans hy.1))
    have hb : ((n : Int) != (n' : Int)) = true := by rw [bne_iff_ne]; omega
    clear hx hy hne
    go_enter Tryz.func52, Tryz.ntmps52
    go_wp2
    go_ret
    rw [Hd.out]
    exact ⟨rfl, 0, rfl⟩

end Go.Proofs.YthpgdpkemnhneaaGreatDoor

namespace Go.Proofs.YthpgdpkemnhneaaGreatDoor
open Go.RowKit
set_option linter.unusedVariables false
set_option maxRecDepth 10000

/-- a call that returns the number x -/
def Rv (w w' : World) (e : Ending) (x : Nat) : Prop := ∃ v, e = .returned v ∧ Nt w w' v x ∧ Below w.heap.size w w'
theorem Rv.from {w w0 w' : World} {e : Ending} {x : Nat} (h : Rv w w' e x) (hb : Below w0.heap.size w0 w) : Rv w0 w' e x := by
  obtain ⟨v, h1, h2, h3⟩ := h
  exact ⟨v, h1, h2.base hb.size, hb.trans (h3.mono hb.size)⟩

theorem nat_room {ds : List Nat} {k N : Nat} (hd : Dg ds) (hN : N = (k + 1) / 2) : VD (ds.take k) < B64 ^ N := by
  have h1 := VD_lt _ (Dg_take hd k)
  have h2 : (ds.take k).length ≤ 2 * N := by rw [List.length_take]; omega
  have h3 : H32 ^ (ds.take k).length ≤ H32 ^ (2 * N) := Nat.pow_le_pow_right H32_pos h2
  rw [pow_H] at h3
  omega
theorem nat_canon {ds zs : List Nat} {k N : Nat} (hN : N = (k + 1) / 2) (hd : ∀ m, k = m + 1 → dig ds m ≠ 0) (hw : Ws zs) (hl : zs.length = N) (hv : V zs = VD (ds.take k)) : Cn zs := by
  refine Cn_of_ge hw fun m hm => ?_
  obtain ⟨j, rfl⟩ : ∃ j, k = j + 1 := ⟨k - 1, by omega⟩
  have h1 := hd j rfl
  rw [hv, VD_take_dig, ← pow_H]
  have h2 := Nat.le_mul_of_pos_left (H32 ^ j) (Nat.pos_of_ne_zero h1)
  have h3 : H32 ^ (2 * m) ≤ H32 ^ j := Nat.pow_le_pow_right H32_pos (by omega)
  omega
theorem no_high {z hi P x : Nat} (h : z + hi * P = x) (hx : x < P) : z = x := by
  rcases Nat.eq_zero_or_pos hi with h1 | h1
  · subst h1; omega
  · have := Nat.le_mul_of_pos_left P h1
    omega

set_option maxHeartbeats 400000 in
theorem nat_ok (A : Option Addr) (m c : Nat) (ds : List Nat) (w : World) (hm : m ≤ 18000) (hx : Sl w A m c ds) (hd : Dg ds) :
    Calls Tryz.prog 50 #[.slice A m c] w fun e w' => Rv w w' e (VD ds) := by
  have Hx := Lib.hid (And.intro hx hd)
  clear hx hd
  go_enter Tryz.func50, Tryz.ntmps50
  go_wp2_with (fail)
  refine (Short_ok A m c ds w (by omega) Hx.out.1 Hx.out.2).mono ?_
  rintro e w1 ⟨k, rfl, hH, rfl⟩
  have hk := hH.out.1
  obtain ⟨N, hN, hq1, hq2⟩ : ∃ N : Nat, N = (k + 1) / 2 ∧ ((k : Int) + 1).tdiv 2 = (N : Int) ∧ ((k : Int) + 1) / 2 = (N : Int) := ⟨_, rfl, by rw [Int.tdiv_eq_ediv_of_nonneg (by omega)]; omega, by omega⟩
  have HN := Lib.hid hN
  have hN2 : N ≤ 10000 := by omega
  have hN3 : IntKind.i64.wrap (N : Int) = (N : Int) := IntWalk.i64_in _ (by omega)
  clear hN
  go_wp2_with (fail)
  refine (Cut_ok A k c N (ds.take k) w (by omega) hN2 (Hx.out.1.tk hk) (Dg_take Hx.out.2 k) (Nat.lt_of_lt_of_le (nat_room Hx.out.2 HN.out) (Nat.pow_le_pow_right B64_pos (Nat.le_succ _)))).mono ?_
  rintro e w2 ⟨v, zs, hi, rfl, hn, hhi, hv, hb⟩
  have H := Lib.hid (And.intro hn (And.intro hv hb))
  clear hn hv hb hhi
  go_wp2_with (fail)
  go_ret
  obtain ⟨h1, h2, h3⟩ := H.out
  have h4 := no_high h2 (nat_room Hx.out.2 HN.out)
  exact ⟨v, rfl, ⟨N, zs, h1, nat_canon HN.out hH.out.2.2 h1.2.1 h1.1 h4, by rw [h4, hH.out.2.1]⟩, h3⟩

set_option maxHeartbeats 400000 in
theorem RTrim_ok (A : Option Addr) (n c : Nat) (xs : List Nat) (w : World) (hn : n ≤ 4096) (hx : Sl w A n c xs) :
    Calls Tryz.prog 46 #[.slice A n c] w fun e w' => Rv w w' e (V xs) := by
  have Hx := Lib.hid hx
  clear hx
  go_enter Tryz.func46, Tryz.ntmps46
  go_wp2_with (fail)
  refine (Digits_ok A n c xs w hn Hx.out).mono ?_
  rintro e w1 ⟨v, ds, rfl, hnw, hd, hv, hb⟩
  obtain ⟨A1, c1, rfl, hs⟩ := hnw.sl
  have H := Lib.hid (And.intro hs (And.intro hd (And.intro hv hb)))
  clear hs hd hv hb hnw
  go_wp2_with (fail)
  refine (nat_ok A1 (2 * n) c1 ds w1 (by omega) H.out.1 H.out.2.1).mono ?_
  rintro e w2 hR
  obtain ⟨v2, rfl, h2, hb2⟩ := hR.from H.out.2.2.2
  rw [H.out.2.2.1] at h2
  have H2 := Lib.hid (And.intro h2 hb2)
  clear h2 hb2 hR
  go_wp2_with (fail)
  go_ret
  exact ⟨v2, rfl, H2.out.1, H2.out.2⟩

set_option maxHeartbeats 400000 in
theorem Canonical_ok (A : Option Addr) (n c : Nat) (xs : List Nat) (w : World) (hn : n ≤ 4096) (hx : Sl w A n c xs) (hc : Cn xs) :
    Calls Tryz.prog 51 #[.slice A n c] w fun e w' => e = .returned (.bool true) ∧ w = w' := by
  rcases Nat.eq_zero_or_pos n with rfl | hp
  · clear hx hc
    go_enter Tryz.func51, Tryz.ntmps51
    go_wp2_with (fail)
    go_ret
    exact ⟨rfl, rfl⟩
  · obtain ⟨m, rfl⟩ : ∃ m, n = m + 1 := ⟨n - 1, by omega⟩
    have hml : m < xs.length := by rw [hx.1]; omega
    have hg := List.getElem?_eq_getElem hml
    have hne := hc m hx.1
    rw [hg] at hne
    obtain ⟨b, o, rfl, hb, hcx⟩ := hx.2.2.2.2.at (uvs_get hg)
    generalize xs[m] = x at *
    have hx0 : ((x : Int) == 0) = false := by
      have : x ≠ 0 := fun e => hne (by rw [e])
      simp; omega
    have hx1 : ((x : Int) != 0) = true := by rw [bne, hx0]; rfl
    have hmi : ((m + 1 : Nat) : Int) - 1 = (m : Int) := by omega
    have hmi2 : (m : Int) + 1 - 1 = (m : Int) := by omega
    have hmn : ((m : Int) + 1 == 0) = false := by simp; omega
    have hmn2 : (((m + 1 : Nat) : Int) == 0) = false := by simp; omega
    clear hg hml hne hc hx
    go_enter Tryz.func51, Tryz.ntmps51
    go_wp2_with (fail)
    go_ret
    exact ⟨rfl, rfl⟩

set_option maxHeartbeats 400000 in
/-- Is, where it is true -/
theorem Is_ok (A A' : Option Addr) (n n' c c' : Nat) (xs ys : List Nat) (w : World) (hn : n ≤ 4096) (hn' : n' ≤ 4096) (hx : Sl w A n c xs) (hy : Sl w A' n' c' ys) (hc : Cn xs) (hv : V xs = V ys) :
    Calls Tryz.prog 18 #[.slice A n c, .slice A' n' c'] w fun e w' => e = .returned (.bool true) ∧ Below w.heap.size w w' := by
  have Hx := Lib.hid (And.intro hx (And.intro hy (And.intro hc hv)))
  clear hx hy hc hv
  go_enter Tryz.func18, Tryz.ntmps18
  go_wp2_with (fail)
  refine (Canonical_ok A n c xs w hn Hx.out.1 Hx.out.2.2.1).mono ?_
  rintro e w1 ⟨rfl, rfl⟩
  go_wp2_with (fail)
  refine (RTrim_ok A' n' c' ys w hn' Hx.out.2.1).mono ?_
  rintro e w2 ⟨v, rfl, hN, hb⟩
  obtain ⟨A2, k, c2, zs, rfl, hs, hcz, hvz, _⟩ := hN.sl
  have hxz : xs = zs := Cn_inj Hx.out.1.2.2.2.1 hs.2.2.2.1 Hx.out.2.2.1 hcz (by rw [hvz]; exact Hx.out.2.2.2)
  subst hxz
  have H := Lib.hid (And.intro (Hx.out.1.below hb) (And.intro hs hb))
  clear hN hs hcz hvz hb
  go_wp2_with (fail)
  refine (Same_any A A2 n k c c2 xs xs w2 H.out.1 H.out.2.1 (by omega)).mono ?_
  rintro e w3 ⟨rfl, m, rfl⟩
  rw [decide_eq_true rfl]
  go_wp2_with (fail)
  go_ret
  exact ⟨rfl, below_drewN H.out.2.2 m⟩

set_option maxHeartbeats 400000 in
theorem RFromWord_ok (x : Nat) (w : World) (hx : x < B64) :
    Calls Tryz.prog 85 #[.int .u64 x] w fun e w' => Rv w w' e x := by
  have Hx := Lib.hid hx
  clear hx
  go_enter Tryz.func85, Tryz.ntmps85
  go_wp2_with (fail)
  refine (Word_ok x w Hx.out).mono ?_
  rintro e w1 ⟨A1, ds, rfl, hs, hd, hv, hb⟩
  have H := Lib.hid (And.intro hs (And.intro hd (And.intro hv hb)))
  clear hs hd hv hb
  go_wp2_with (fail)
  refine (nat_ok A1 2 2 ds w1 (by omega) H.out.1 H.out.2.1).mono ?_
  rintro e w2 hR
  obtain ⟨v2, rfl, h2, hb2⟩ := hR.from H.out.2.2.2
  rw [H.out.2.2.1] at h2
  have H2 := Lib.hid (And.intro h2 hb2)
  clear h2 hb2 hR
  go_wp2_with (fail)
  go_ret
  exact ⟨v2, rfl, H2.out.1, H2.out.2⟩

set_option maxHeartbeats 400000 in
theorem RNMul_ok (A A' : Option Addr) (n n' c c' : Nat) (xs ys : List Nat) (w : World) (hn : n ≤ 4096) (hn' : n' ≤ 4096) (hx : Sl w A n c xs) (hy : Sl w A' n' c' ys) :
    Calls Tryz.prog 58 #[.slice A n c, .slice A' n' c'] w fun e w' => Rv w w' e (V xs * V ys) := by
  have Hx := Lib.hid (And.intro hx hy)
  clear hx hy
  go_enter Tryz.func58, Tryz.ntmps58
  go_wp2_with (fail)
  refine (Digits_ok A n c xs w hn Hx.out.1).mono ?_
  rintro e w1 ⟨v1, ds1, rfl, hn1, hd1, hv1, hb1⟩
  obtain ⟨A1, c1, rfl, hs1⟩ := hn1.sl
  have H1 := Lib.hid (And.intro hs1 (And.intro hd1 (And.intro hv1 hb1)))
  clear hs1 hd1 hv1 hb1 hn1
  go_wp2_with (fail)
  refine (Digits_ok A' n' c' ys w1 hn' (Hx.out.2.below H1.out.2.2.2)).mono ?_
  rintro e w2 ⟨v2, ds2, rfl, hn2, hd2, hv2, hb2⟩
  obtain ⟨A2, c2, rfl, hs2⟩ := hn2.sl
  have H2 := Lib.hid (And.intro (H1.out.1.below hb2) (And.intro hs2 (And.intro hd2 (And.intro hv2 (H1.out.2.2.2.trans (hb2.mono H1.out.2.2.2.size))))))
  clear hs2 hd2 hv2 hb2 hn2
  go_wp2_with (fail)
  refine (Times_ok A1 A2 (2 * n) (2 * n') c1 c2 ds1 ds2 w2 (by omega) (by omega) H2.out.1 H2.out.2.1 H1.out.2.1 H2.out.2.2.1).mono ?_
  rintro e w3 ⟨v3, ds3, rfl, hn3, hd3, hv3, hb3⟩
  obtain ⟨A3, c3, rfl, hs3⟩ := hn3.sl
  have H3 := Lib.hid (And.intro hs3 (And.intro hd3 (And.intro (show VD ds3 = V xs * V ys by rw [hv3, H1.out.2.2.1, H2.out.2.2.2.1]) (H2.out.2.2.2.2.trans (hb3.mono H2.out.2.2.2.2.size)))))
  clear hs3 hd3 hv3 hb3 hn3
  go_wp2_with (fail)
  refine (nat_ok A3 (2 * n + 2 * n') c3 ds3 w3 (by omega) H3.out.1 H3.out.2.1).mono ?_
  rintro e w4 hR
  obtain ⟨v4, rfl, h4, hb4⟩ := hR.from H3.out.2.2.2
  rw [H3.out.2.2.1] at h4
  have H4 := Lib.hid (And.intro h4 hb4)
  clear h4 hb4 hR
  go_wp2_with (fail)
  go_ret
  exact ⟨v4, rfl, H4.out.1, H4.out.2⟩
end Go.Proofs.YthpgdpkemnhneaaGreatDoor

namespace Go.Proofs.YthpgdpkemnhneaaGreatDoor
open Go.RowKit Go.Shelf
set_option linter.unusedVariables false
set_option maxRecDepth 10000

set_option maxHeartbeats 400000 in
theorem NTrim_ok (A : Option Addr) (n c : Nat) (xs : List Nat) (w : World) (hn : n ≤ 100000) (hx : Sl w A n c xs) :
    Calls Tryz.prog 24 #[.slice A n c] w fun e w' => Rv w w' e (V xs) := by
  obtain ⟨i0, hi, hz0, hz1, hz2⟩ := info_parts Tryz.info44
  have Hx := Lib.hid hx
  clear hx
  go_enter Tryz.func24, Tryz.ntmps24
  go_wp2_with (fail)
  refine (used_ok A n c xs w hn Hx.out).mono ?_
  rintro e w1 ⟨k, rfl, hk, hH, rfl⟩
  have Hs := Lib.hid (Hx.out.tk hk)
  have hl : (uvs (xs.take k)).length = k := by rw [uvs_length]; exact Hs.out.1
  have Hl := Lib.hid (And.intro hl Hs.out.2.2.2.2)
  clear hl
  go_wp2_with (at_builtin; refine wpList_append_rd _ rfl (.const (.slice none 0 0)) (.tmp 4) 23 rfl w.heap.size 44 i0 (.int .u64 0) Tryz.underlying23 hi hz0 hz1 hz2 rfl _ 0 [] rfl (World.ownsRow_nil _ _ _ _) w.heap.size A k c (uvs (xs.take k)) rfl Hl.out.1 Hl.out.2 (uvs_one _) (by omega) (by omega) ?_)
  intro v' w' hown hgrow hblk
  have H := Lib.hid (And.intro hown hgrow)
  clear hown hgrow hblk
  go_wp2
  go_ret
  refine ⟨v', rfl, ⟨k, xs.take k, ⟨Hs.out.1, Hs.out.2.2.2.1, by simpa using H.out.1⟩, hH.out.2, hH.out.1⟩, (Below.refl _ _).grown H.out.2 (Nat.le_refl _) (by intro k hk; cases hk)⟩

end Go.Proofs.YthpgdpkemnhneaaGreatDoor

namespace Go.Proofs.YthpgdpkemnhneaaGreatDoor
open Go.RowKit Go.Shelf
set_option linter.unusedVariables false

/-- no operation defers a call -/
def NoDefer (ops : Array Oper) : Prop := ∀ (i : Nat) (o : Oper), ops[i]? = some o → ∀ c, o.op ≠ Op.defer c
def noDefer (ops : Array Oper) : Bool := ops.toList.all fun o => match o.op with | .defer _ => false | _ => true
theorem NoDefer.of {ops : Array Oper} (h : noDefer ops = true) : NoDefer ops := by
  intro i o hi c hc
  have hm : o ∈ ops.toList := by
    obtain ⟨hlt, he⟩ := Array.getElem?_eq_some_iff.1 hi
    rw [← he]; exact Array.getElem_mem_toList hlt
  have := List.all_eq_true.1 h o hm
  rw [hc] at this
  cases this

theorem uponIn_inRound {F : Fence} {n : Nat} {P : Program} {o : Oper} {a : Act} {next : Act → World → Prop} {Q : Exit → Act → World → Prop} {l : Nat} {r : Result Next}
    (h : o.uponIn F n P a next Q r) : o.uponIn (F.inRound l) n P a next Q r := by
  cases r with
  | ok x w => cases x <;> exact h
  | halt x w => cases x <;> exact h

theorem wpIn_inRound {F : Fence} {n : Nat} {P : Program} {o : Oper} {a : Act} {w : World} {next : Act → World → Prop} {Q : Exit → Act → World → Prop} {l : Nat}
    (hro : F.round = none) (hd : ∀ c, o.op ≠ Op.defer c) (h : o.wpIn F n P a w next Q) : o.wpIn (F.inRound l) n P a w next Q := by
  unfold Oper.wpIn at *
  refine ⟨h.1, uponIn_inRound ?_⟩
  have h2 := h.2
  rw [hro, Oper.semAt_none] at h2
  rw [Fence.inRound_round, Oper.semAt_some l _ _ hd]
  exact h2

theorem wpOpIn_inRound {F : Fence} {n : Nat} {P : Program} {ops : Array Oper} {Q : Exit → Act → World → Prop} {i : Nat} {K : Act → World → Prop} {a : Act} {w : World} {l : Nat}
    (hro : F.round = none) (hd : NoDefer ops) (h : wpOpIn F n P ops Q i K a w) : wpOpIn (F.inRound l) n P ops Q i K a w := by
  unfold wpOpIn at *
  cases ho : ops[i]? with
  | none => simp only [ho] at h ⊢; exact h
  | some o =>
    simp only [ho] at h ⊢
    by_cases hw : Region.wanted o (yielded ops a.tmps) = true
    · simp only [hw, if_true] at h ⊢
      exact wpIn_inRound hro (hd i o ho) h
    · simp only [hw] at h ⊢
      exact h

theorem wpAnyIn_inRound {F : Fence} {n : Nat} {P : Program} {md : Region.Mode} {ops : Array Oper} {Q : Exit → Act → World → Prop} {l : Nat} (hro : F.round = none) (hd : NoDefer ops) :
    ∀ (fuel : Nat) (listed : Array Bool) (a : Act) (w : World), wpAnyIn F n P md ops Q fuel listed a w → wpAnyIn (F.inRound l) n P md ops Q fuel listed a w := by
  intro fuel
  induction fuel with
  | zero => intro listed a w h; exact h
  | succ fuel ih =>
    intro listed a w h
    exact ⟨h.1, fun i hi => wpOpIn_inRound hro hd (wpOpIn_mono (fun a w => ih _ a w) (h.2 i hi))⟩

/-- a region that draws its order, walked inside a round, where it ends as it should in one way alone -/
theorem region_inRound {n : Nat} {P : Program} {ops : Array Oper} {Q : Exit → Act → World → Prop} {l id : Nat} {a : Act} {w : World} (hm : P.follows .mixedOrders = true) (hd : NoDefer ops)
    (h : wpAnyIn Fence.wide n P .any ops (fun e a w => match e with | .normal => Q .normal a w | _ => False) ops.size (Array.replicate ops.size false) a w.drew) :
    (Code.region id ops true).wpIn (Fence.wide.inRound l) n P Q a w :=
  Code.wpIn_mono (fun e a w he => by cases e <;> first | exact he | exact he.elim)
    (wpIn_region_any (Q := fun e a w => match e with | .normal => Q .normal a w | _ => False) hm (wpAnyIn_inRound rfl hd _ _ _ _ h))
/-- a region whose walk ends as it should in one way alone -/
theorem region_plain {F : Fence} {n : Nat} {P : Program} {ops : Array Oper} {Q : Exit → Act → World → Prop} {id : Nat} {b : Bool} {a : Act} {w : World}
    (h : (Code.region id ops b).wpIn F n P (fun e a w => match e with | .normal => Q .normal a w | _ => False) a w) : (Code.region id ops b).wpIn F n P Q a w :=
  Code.wpIn_mono (fun e a w he => by cases e <;> first | exact he | exact he.elim) h
/-- three results are returned, where a range over a function has left its mark -/
theorem leaves_marked3 {F : Fence} {n : Nat} {P : Program} {fn : Func} {tmps : Array Value} {R : Ending → World → Prop} {D : Nat} {W : World} {t u v : Tmp} (hr : fn.results = #[.tmp t, .tmp u, .tmp v]) (hcol : W.heap[D]? = some (.deferred (some [])))
    (h : R (.returned (.tuple #[tmps.getD t undef, tmps.getD u undef, tmps.getD v undef])) (W.putObj D (.deferred none))) : LeavesInM F n P fn tmps R [{ target := .collected D, args := #[] }] .returning W :=
  ⟨by simp, .inl ⟨_, _, rfl, run_takeDeferred hcol, ⟨_, results_tmp3 hr _ _ _, h⟩⟩⟩
theorem leaves_marked2 {F : Fence} {n : Nat} {P : Program} {fn : Func} {tmps : Array Value} {R : Ending → World → Prop} {D : Nat} {W : World} {t u : Tmp} (hr : fn.results = #[.tmp t, .tmp u]) (hcol : W.heap[D]? = some (.deferred (some [])))
    (h : R (.returned (.tuple #[tmps.getD t undef, tmps.getD u undef])) (W.putObj D (.deferred none))) : LeavesInM F n P fn tmps R [{ target := .collected D, args := #[] }] .returning W :=
  ⟨by simp, .inl ⟨_, _, rfl, run_takeDeferred hcol, ⟨_, results_tmp2 hr _ _ _, h⟩⟩⟩
theorem RowAt.put {W : World} {g : Nat} {zs : List Nat} (h : RowAt W g zs) {D : Nat} (hD : g ≠ D) (o : Obj) : RowAt (W.putObj D o) g zs := (World.putObj_heap_other hD).trans h
theorem below_putObj {B D : Nat} {w W : World} (h : Below B w W) (hD : B ≤ D) (o : Obj) : Below B w (W.putObj D o) :=
  ⟨h.os, h.tape, h.output, by rw [World.putObj]; simpa using h.size, fun k hk => (World.putObj_heap_other (by omega)).trans (h.block k hk)⟩
theorem KeepsOthers_drewN (W : World) (m : Nat) : KeepsOthers W (W.drewN m) := ⟨Nat.le_refl _, fun _ _ h _ => h⟩
end Go.Proofs.YthpgdpkemnhneaaGreatDoor

namespace Go.Proofs.YthpgdpkemnhneaaGreatDoor
open Go.RowKit
set_option linter.unusedVariables false
set_option maxRecDepth 10000

theorem minus_val {o y x bo P z : Nat} (h : o + y = x + bo * P) (ho : o < P) (hy : y ≤ x) (hz : z = x - y) : o = z := by
  rcases Nat.eq_zero_or_pos bo with h1 | h1
  · subst h1; omega
  · have := Nat.le_mul_of_pos_left P h1
    omega
theorem Nt.len {w w' : World} {A : Option Addr} {n c x k : Nat} {zs : List Nat} (hs : Sl w' A n c zs) (hc : Cn zs) (hv : V zs = x) (h : x < B64 ^ k) : n ≤ k := by
  rw [← hs.1]
  exact (Cn_len hs.2.2.2.1 hc k).2 (by rw [hv]; exact h)
theorem Sl.lt {w : World} {A : Option Addr} {n c : Nat} {xs : List Nat} (hs : Sl w A n c xs) : V xs < B64 ^ n := by
  have := V_lt xs hs.2.2.2.1
  rw [hs.1] at this
  exact this

set_option maxHeartbeats 400000 in
theorem RNSub_ok (A A' : Option Addr) (n n' c c' : Nat) (xs ys : List Nat) (w : World) (hn : n ≤ 4096) (hn' : n' ≤ 4096) (hx : Sl w A n c xs) (hy : Sl w A' n' c' ys) (hle : V ys ≤ V xs) :
    Calls Tryz.prog 17 #[.slice A n c, .slice A' n' c'] w fun e w' => Rv w w' e (V xs - V ys) := by
  have Hx := Lib.hid (And.intro hx (And.intro hy hle))
  clear hx hy hle
  go_enter Tryz.func17, Tryz.ntmps17
  go_wp2_with (fail)
  refine (Digits_ok A n c xs w hn Hx.out.1).mono ?_
  rintro e w1 ⟨v1, ds1, rfl, hn1, hd1, hv1, hb1⟩
  obtain ⟨A1, c1, rfl, hs1⟩ := hn1.sl
  have H1 := Lib.hid (And.intro hs1 (And.intro hd1 (And.intro hv1 hb1)))
  clear hs1 hd1 hv1 hb1 hn1
  go_wp2_with (fail)
  refine (RTrim_ok A' n' c' ys w1 hn' (Hx.out.2.1.below H1.out.2.2.2)).mono ?_
  rintro e w2 ⟨v, rfl, hN, hb2⟩
  obtain ⟨A2, k, c2, zs, rfl, hs, hcz, hvz, _⟩ := hN.sl
  have hkn : k ≤ n := Nt.len (w := w) hs hcz hvz (Nat.lt_of_le_of_lt Hx.out.2.2 Hx.out.1.lt)
  have hkM : k ≤ 4096 := by omega
  have H2 := Lib.hid (And.intro (H1.out.1.below hb2) (And.intro hs (And.intro hvz (H1.out.2.2.2.trans (hb2.mono H1.out.2.2.2.size)))))
  clear hN hs hcz hvz hb2
  go_wp2_with (fail)
  refine (Digits_ok A2 k c2 zs w2 hkM H2.out.2.1).mono ?_
  rintro e w3 ⟨v3, ds3, rfl, hn3, hd3, hv3, hb3⟩
  obtain ⟨A3, c3, rfl, hs3⟩ := hn3.sl
  have H3 := Lib.hid (And.intro (H2.out.1.below hb3) (And.intro hs3 (And.intro hd3 (And.intro (show VD ds3 = V ys by rw [hv3, H2.out.2.2.1]) (H2.out.2.2.2.trans (hb3.mono H2.out.2.2.2.size))))))
  clear hs3 hd3 hv3 hb3 hn3
  go_wp2_with (fail)
  refine (Minus_ok A1 A3 (2 * n) (2 * k) c1 c3 ds1 ds3 w3 (by omega) (by omega) H3.out.1 H3.out.2.1 H1.out.2.1 H3.out.2.2.1).mono ?_
  rintro e w4 ⟨v4, ds4, bo, rfl, hbo, hn4, hd4, hv4, hb4⟩
  obtain ⟨A4, c4, rfl, hs4⟩ := hn4.sl
  have hval : VD ds4 = V xs - V ys := by
    rw [List.take_of_length_le (by rw [H3.out.2.1.1]; omega), H3.out.2.2.2.1, H1.out.2.2.1] at hv4
    have h5 := VD_lt ds4 hd4
    rw [hn4.1] at h5
    exact minus_val hv4 h5 Hx.out.2.2 rfl
  have H4 := Lib.hid (And.intro hs4 (And.intro hd4 (And.intro hval (H3.out.2.2.2.2.trans (hb4.mono H3.out.2.2.2.2.size)))))
  clear hs4 hd4 hv4 hb4 hn4 hval hbo
  go_wp2_with (fail)
  refine (nat_ok A4 (2 * n) c4 ds4 w4 (by omega) H4.out.1 H4.out.2.1).mono ?_
  rintro e w5 hR
  obtain ⟨v5, rfl, h5, hb5⟩ := hR.from H4.out.2.2.2
  rw [H4.out.2.2.1] at h5
  have H5 := Lib.hid (And.intro h5 hb5)
  clear h5 hb5 hR
  go_wp2_with (fail)
  go_ret
  exact ⟨v5, rfl, H5.out.1, H5.out.2⟩
end Go.Proofs.YthpgdpkemnhneaaGreatDoor


namespace Go.Proofs.YthpgdpkemnhneaaGreatDoor
open Go.RowKit
set_option linter.unusedVariables false
set_option maxRecDepth 10000

/-- -1, 0 or 1 -/
def cmpI (x y : Nat) : Int := if x < y then -1 else if y < x then 1 else 0
theorem VD_lt_at (ds es : List Nat) (i : Nat) (hd : Dg ds) (hlt : dig ds i < dig es i) (N : Nat) (hi : i < N) (h : ∀ j, i < j → j < N → dig ds j = dig es j) : VD (ds.take N) < VD (es.take N) := by
  induction N with
  | zero => omega
  | succ N ih =>
    rw [VD_take_dig, VD_take_dig]
    by_cases hN : i = N
    · subst hN
      have h1 := VD_lt _ (Dg_take hd i)
      have h2 : H32 ^ (ds.take i).length ≤ H32 ^ i := Nat.pow_le_pow_right H32_pos (by rw [List.length_take]; omega)
      have h3 : (dig ds i + 1) * H32 ^ i ≤ dig es i * H32 ^ i := Nat.mul_le_mul_right _ hlt
      rw [Nat.add_mul, Nat.one_mul] at h3
      omega
    · have h1 := ih (by omega) (fun j a b => h j a (by omega))
      rw [h N (by omega) (by omega)]
      omega
theorem VD_eq_all (ds es : List Nat) (N : Nat) (h : ∀ j, j < N → dig ds j = dig es j) : VD (ds.take N) = VD (es.take N) := by
  induction N with
  | zero => rfl
  | succ N ih => rw [VD_take_dig, VD_take_dig, ih (fun j hj => h j (by omega)), h N (by omega)]
theorem cmpI_lt {x y : Nat} (h : x < y) : cmpI x y = -1 := by unfold cmpI; rw [if_pos h]
theorem cmpI_gt {x y : Nat} (h : y < x) : cmpI x y = 1 := by unfold cmpI; rw [if_neg (by omega), if_pos h]
theorem cmpI_eq {x y : Nat} (h : x = y) : cmpI x y = 0 := by unfold cmpI; rw [if_neg (by omega), if_neg (by omega)]

end Go.Proofs.YthpgdpkemnhneaaGreatDoor


namespace Go.Proofs.YthpgdpkemnhneaaGreatDoor
open Go.RowKit
set_option linter.unusedVariables false
set_option maxRecDepth 10000

/-- the slice (A, n, c) is a new canonical number x of at most 4096 words, its words zs -/
def Nu (w w' : World) (A : Option Addr) (n c : Nat) (zs : List Nat) (x : Nat) : Prop := Sl w' A n c zs ∧ Cn zs ∧ V zs = x ∧ n ≤ 4096 ∧ Nt w w' (.slice A n c) x ∧ Below w.heap.size w w'
theorem Nu.of {w w' : World} {v : Value} {x : Nat} (h : Nt w w' v x) (hb : Below w.heap.size w w') (hx : x < Big) : ∃ A n c zs, v = .slice A n c ∧ Nu w w' A n c zs x := by
  obtain ⟨A, n, c, zs, rfl, h1, h2, h3, h4⟩ := h.sl
  exact ⟨A, n, c, zs, rfl, h1, h2, h3, Nt.size h1.2.2.2.1 h2 h1.1 (by rw [h3]; exact hx), ⟨n, zs, h4, h2, h3⟩, hb⟩
theorem Rv.open {w w' : World} {e : Ending} {x : Nat} (h : Rv w w' e x) (hx : x < Big) : ∃ A n c zs, e = .returned (.slice A n c) ∧ Nu w w' A n c zs x := by
  obtain ⟨v, rfl, h1, h2⟩ := h
  obtain ⟨A, n, c, zs, rfl, h3⟩ := Nu.of h1 h2 hx
  exact ⟨A, n, c, zs, rfl, h3⟩
theorem Rs.open {w w' : World} {e : Ending} {x : Nat} (h : Rs w w' e x) (hx : x < Big) : ∃ A n c zs, e = .returned (.tuple #[.slice A n c, .int .i64 0]) ∧ Nu w w' A n c zs x := by
  obtain ⟨⟨v, rfl, h1, _⟩ | ⟨_, h1⟩, h2⟩ := h
  · obtain ⟨A, n, c, zs, rfl, h3⟩ := Nu.of h1 h2 hx
    exact ⟨A, n, c, zs, rfl, h3⟩
  · omega
/-- later, and seen from an earlier world -/
theorem Nu.later {w w0 w1 w2 : World} {A : Option Addr} {n c x : Nat} {zs : List Nat} (h : Nu w w1 A n c zs x) (h0 : Below w0.heap.size w0 w) (hb : Below w1.heap.size w1 w2) : Nu w0 w2 A n c zs x :=
  ⟨h.1.below hb, h.2.1, h.2.2.1, h.2.2.2.1, h.2.2.2.2.1.later h0.size hb, h0.trans ((h.2.2.2.2.2.trans (hb.mono h.2.2.2.2.2.size)).mono h0.size)⟩
theorem Nu.from {w w0 w1 : World} {A : Option Addr} {n c x : Nat} {zs : List Nat} (h : Nu w w1 A n c zs x) (h0 : Below w0.heap.size w0 w) : Nu w0 w1 A n c zs x := h.later h0 (Below.refl _ _)
theorem Nu.keep {w w1 w2 : World} {A : Option Addr} {n c x : Nat} {zs : List Nat} (h : Nu w w1 A n c zs x) (hb : Below w1.heap.size w1 w2) : Nu w w2 A n c zs x := h.later (Below.refl _ _) hb
theorem Nu.bel {w w1 : World} {A : Option Addr} {n c x : Nat} {zs : List Nat} (h : Nu w w1 A n c zs x) : Below w.heap.size w w1 := h.2.2.2.2.2
theorem Big_of {x k : Nat} (h : x < B64 ^ k) (hk : k ≤ 4096) : x < Big := Nat.lt_of_lt_of_le h (Nat.pow_le_pow_right B64_pos hk)
end Go.Proofs.YthpgdpkemnhneaaGreatDoor

namespace Go.Proofs.YthpgdpkemnhneaaGreatDoor
open Go.RowKit Go.Shelf
set_option linter.unusedVariables false
set_option maxRecDepth 10000

theorem V_append (xs ys : List Nat) : V (xs ++ ys) = V xs + V ys * B64 ^ xs.length := by
  induction xs with
  | nil => simp [V]
  | cons y zs ih =>
    rw [List.cons_append, V, ih, List.length_cons, Nat.pow_succ, V]
    generalize B64 = b
    grind
theorem V_zeros' (n : Nat) : V (List.replicate n 0) = 0 := by
  induction n with
  | zero => rfl
  | succ n ih => rw [List.replicate_succ, V, ih]; rfl
theorem V_pad (xs : List Nat) (m : Nat) : V (pad xs m) = V xs := by rw [pad, V_append, V_zeros', Nat.zero_mul, Nat.add_zero]
theorem Ws_pad {xs : List Nat} (h : Ws xs) (m : Nat) : Ws (pad xs m) := fun x hx => by
  rcases List.mem_append.1 hx with h1 | h1
  · exact h x h1
  · rw [List.eq_of_mem_replicate h1]; exact B64_pos
theorem pad_self {xs : List Nat} {n m : Nat} (h : xs.length = n) (hm : m ≤ n) : pad xs m = xs := by
  rw [pad, show m - xs.length = 0 by omega]; simp

theorem V_split (xs : List Nat) (k : Nat) (h : k ≤ xs.length) : V xs = V (xs.take k) + V (xs.drop k) * B64 ^ k := by
  have := V_append (xs.take k) (xs.drop k)
  rw [List.take_append_drop, List.length_take, Nat.min_eq_left h] at this
  exact this
theorem V_dropped {xs : List Nat} (hw : Ws xs) {k : Nat} (h : k ≤ xs.length) : V (xs.drop k) = V xs / B64 ^ k := by
  have h1 := V_split xs k h
  have h2 := V_lt _ (Ws_take hw k)
  rw [List.length_take, Nat.min_eq_left h] at h2
  have hp : 0 < B64 ^ k := Nat.pow_pos B64_pos
  generalize V (xs.drop k) = a at *
  generalize V (xs.take k) = b at *
  generalize B64 ^ k = p at *
  rw [h1, Nat.add_mul_div_right _ _ hp, Nat.div_eq_of_lt h2, Nat.zero_add]
/-- N is the greater of both -/
def Mx (N n m : Nat) : Prop := n ≤ N ∧ m ≤ N ∧ (N = n ∨ N = m)
end Go.Proofs.YthpgdpkemnhneaaGreatDoor
