/- The contract of nat.gathered. -/
import Derived.Test.YtekikolhnfofeaaGather
import Derived.Deep.AppendLies
namespace Go.Proofs.Ytekikolhnfofeaa
open Go.RowKit Go.Shelf
set_option linter.unusedVariables false
set_option maxRecDepth 10000
attribute [local go_sem] Oper.semAt_some

/-- Between two rounds of gathered. -/
def IGath (w : World) (pz : Nat) (ws : Nat → Nat) (k : Nat) (W : World) : Prop :=
  ∃ v, Boxed W pz 23 v ∧ W.ownsRow w.heap.size 37 1 v k (uvs ((List.range k).map ws)) ∧ v.ownBlock ≠ some (pz + 3) ∧ pz + 3 ≠ pz ∧ w.heap.size ≤ pz ∧ Below w.heap.size w W
theorem own_off {W W' : World} {row : Option Nat} {base n : Nat} {v : Value} {vs : List Value} (h : W.ownsRow base 37 1 v n vs) (hg : W.grownBy W' row) (hr : ∀ r, row = some r → v.ownBlock ≠ some r) : W'.ownsRow base 37 1 v n vs := by
  refine h.kept hg ?_
  cases hb : v.ownBlock with
  | none => exact .inl rfl
  | some gb => exact .inr fun e => hr gb e.symm (by rw [hb])
theorem IGath_own {w : World} {pz : Nat} {ws : Nat → Nat} {B : Nat} (hB : w.heap.size ≤ B) : OwnFrom B (IGath w pz ws) := by
  rintro k W W' row ⟨v, h1, h2, h3, h4, h5, h6⟩ hg hr
  refine ⟨v, ?_, ?_, h3, h4, h5, h6.grown hg h6.size (fun j hj => by have := (hr j hj).1; omega)⟩
  · refine (hg.block pz h1.lt ?_).trans h1
    intro e
    obtain ⟨_, o, ho, hc⟩ := hr pz e.symm
    rw [show W.heap[pz]? = _ from h1] at ho
    cases ho; cases hc
  · refine own_off h2 hg fun r e hb => ?_
    obtain ⟨_, o, ho, hc⟩ := hr r e
    rcases h2.2 with ⟨rfl, _⟩ | ⟨g, cap, cur, rfl, _, hgb, _⟩
    · cases hb
    · obtain rfl : g = r := by simpa [Value.ownBlock] using hb
      rw [hgb] at ho; cases ho; cases hc
theorem IGath_grows {w : World} {pz : Nat} {ws : Nat → Nat} (k : Nat) (W W' : World) (h : IGath w pz ws k W) (hg : W.grownBy W' (some (pz + 3))) : IGath w pz ws k W' := by
  obtain ⟨v, h1, h2, h3, h4, h5, h6⟩ := h
  refine ⟨v, (hg.block pz h1.lt (by intro e; injection e with e; omega)).trans h1, own_off h2 hg (fun r e => by injection e with e; subst e; exact h3), h3, h4, h5, h6.grown hg h6.size (fun j hj => by cases hj; omega)⟩

theorem Nt.put {w W : World} {v : Value} {x D : Nat} (h : Nt w W v x) (hcol : W.heap[D]? = some (.deferred (some []))) : Nt w (W.putObj D (.deferred none)) v x := by
  obtain ⟨n, zs, ⟨h1, h2, h3⟩, h4⟩ := h
  exact ⟨n, zs, ⟨h1, h2, ownsRow_putObj h3 _ hcol rfl⟩, h4⟩
set_option maxHeartbeats 2000000 in
theorem gathered_ok (gf : Nat) (lb : Array Value) (ws : Nat → Nat) (N : Nat) (R : World → Prop) (w : World) (hN : N ≤ 20000) (hws : ∀ k, ws k < B64)
    (eg : ∀ args w, (callFunc gf args).run Try.prog w = .ok (.enter gf args) w)
    (hseq : RoundsG 5 Try.prog gf lb (fun k => #[.int .u64 (ws k : Int)]) N R) (hR : ∀ W, Below w.heap.size w W → R W) :
    Calls Try.prog 69 #[.func (.func gf) #[] lb, .int .i64 N] w fun e w' => (4097 < N ∧ e = .returned (.tuple #[.slice none 0 0, .int .i64 2]) ∧ Below w.heap.size w w') ∨ (N ≤ 4097 ∧ Rs w w' e (V ((List.range N).map ws))) := by
  obtain ⟨i0, hi, hz0, hz1, hz2⟩ := info_parts Try.info37
  have HS := Lib.hid (And.intro hseq (And.intro hR (And.intro hws eg)))
  clear hseq hR hws eg
  by_cases hbig : 4097 < N
  · have hb1 : (4096 : Int) < (N : Int) - 1 := by omega
    go_enter Try.func69, Try.ntmps69
    go_wp2
    go_ret2
    exact .inl ⟨hbig, rfl, Below.refl _ _⟩
  · have hb1 : ¬ (4096 : Int) < (N : Int) - 1 := by omega
    have hb2 : (N : Int) - 1 ≤ (4096 : Int) := by omega
    have hN2 : N ≤ 4097 := by omega
    clear hbig
    refine (callsIn_wide (n := 6)).1 ?_
    refine callsIn_of_wp_marks Try.func69 rfl trivial ?_ rfl
    simp only [Try.ntmps69, List.size_toArray, List.length_cons, List.length_nil, Nat.reduceAdd, Nat.reduceSub, Array.replicate_succ, Array.replicate_zero, List.push_toArray, List.append_toArray, List.nil_append, List.cons_append]
    gi_wp2_with (gi_at_make; refine wpListIn_make_own _ rfl _ _ 23 rfl w.heap.size 37 i0 (.int .u64 0) 1 Try.underlying23 hi hz0 hz1 .i64 .i64 _ N rfl rfl rfl (by rw [hz2]; omega) (by unfold maxLen; omega) (Nat.le_refl _) ?_)
    intro w1 hown hgrow
    have hb0 := below_of_grown hgrow (Nat.le_refl _)
    have hI0 : IGath w w1.heap.size ws 0 (w1.alloc (.cells #[.slice (some ⟨w.heap.size, 0, none⟩) 0 N] 23)) :=
      ⟨_, Boxed.new w1 _ _, hown.alloc _, by have h9 : w.heap.size < w1.heap.size := (hown.lt w.heap.size rfl).2; simp [Value.ownBlock]; omega, by omega, hb0.size, hb0.alloc hb0.size _⟩
    have HI0 := Lib.hid (And.intro hI0 hb0)
    clear hown hgrow hI0 hb0
    gi_wp2
    refine wpIn_roundsG (n := 6) (gf := gf) (lb := lb) rfl HS.out.2.2.2 (encs := fun k => #[.int .u64 (ws k : Int)]) HS.out.1 (fun _ => rfl)
      (IGath w w1.heap.size ws) (IGath_own (by have := HI0.out.2.size; simp; omega)) (fun k A B h hg => IGath_grows k A B h (by rw [World.size_alloc] at hg; exact hg)) (fun k W h => HS.out.2.1 W (by obtain ⟨v, _, _, _, _, _, h6⟩ := h; exact h6)) HI0.out.1
      (fun k => { tmps := #[.func (.func gf) #[] lb, .int .i64 N, undef, undef, .slice none 0 0, .int .i64 0, .pointer (some ⟨w1.heap.size, 0, none⟩), .int .u64 (ws k : Int), .int .i64 N, .int .i64 ((N : Int) - 1), .bool false, .int .i64 N, .slice (some ⟨w.heap.size, 0, none⟩) 0 N, .func (.func gf) #[] lb, .int .u64 (ws k : Int), undef, undef, undef, undef, undef, undef, undef, undef], defers := [] }) ?assign ?body ?done
    case assign =>
      intro l k W K hK
      gi_wp2
      exact hK
    case body =>
      rintro l k W ⟨v, h1, h2, h3, h4, h5, h6⟩ hk hgs
      rw [World.size_alloc] at hgs
      have c1 := h1.cell
      have hx := HS.out.2.2.1 k
      generalize hw : ws k = x at *
      have Hw := Lib.hid hw
      have H1 := Lib.hid (And.intro h1 (And.intro h2 (And.intro h3 (And.intro h5 (And.intro h6 hx)))))
      clear hw h1 h3 h4 h6 hx
      have hWs := H1.out.1.lt
      gi_wp2_with (gi_at_builtin; refine wpListIn_append_own_at _ rfl (.tmp 15) (.tmp 17) 23 rfl w.heap.size 37 i0 (.int .u64 0) 1 8 Try.underlying23 hi hz0 hz1 hz2 rfl (by omega) v k _ rfl (h2.alloc _) ⟨W.heap.size, 0, none⟩ 1 1 [.int .u64 (x : Int)] rfl rfl (World.news_of_block (cs := #[.int .u64 (x : Int)]) (t := 37) (fr := (0, 0)) (heap_alloc_new W _)) (by simp [Value.oneCell']) (by unfold maxLen; omega) (by omega) (by simp; omega) ?_)
      intro v' W2 hown2 hgrow2 hnil2 hblk2
      have hne : 23 ≠ 37 := by decide
      obtain ⟨b1, b2, b3, b4, b5⟩ := H1.out.1.appended hne H1.out.2.1 H1.out.2.2.2.2.1.size H1.out.2.2.2.1 hown2 hgrow2
      have c2 := b1.cell
      have f2 := b1.frozen
      have HP : Hid (KeepsFrom (w1.heap.size + 1) W (W2.setCell ⟨w1.heap.size, 0, none⟩ v') ∧ IGath w w1.heap.size ws (k + 1) (W2.setCell ⟨w1.heap.size, 0, none⟩ v') ∧ (W2.setCell ⟨w1.heap.size, 0, none⟩ v').heap[w1.heap.size + 3]? = W.heap[w1.heap.size + 3]?) := by
        refine ⟨b4.from _, ⟨v', b2, ?_, ?_, by omega, H1.out.2.2.2.1, H1.out.2.2.2.2.1.trans b5⟩, ?_⟩
        · rw [List.range_succ, List.map_append, uvs_append, List.map_singleton, Hw.out]
          exact b3
        · rcases hblk2 with e | e
          · rw [e]; exact H1.out.2.2.1
          · rw [e]; simp; omega
        · rw [Below.heap_setCell _ _ _ _ (by simp), hgrow2.block _ (by simp; omega) (H1.out.2.2.1 ∘ Eq.symm)]
          exact Below.heap_alloc W _ _ (by omega)
      obtain ⟨A', c', rfl, _⟩ := own_form hown2
      clear b1 b2 b3 b4 b5 hown2 hgrow2 hblk2 hnil2 h2 H1
      gi_wp2
      exact HP.out
    case done =>
      rintro D W hD ⟨v, h1, h2, h3, h4, h5, h6⟩ hcol
      have c1 := h1.cell
      obtain ⟨A, c, rfl, _⟩ := own_form h2
      have hnw : Nw w W (.slice A N c) N ((List.range N).map ws) := ⟨by simp, fun x hx => by
        obtain ⟨j, _, rfl⟩ := List.mem_map.1 hx
        exact HS.out.2.2.1 j, h2⟩
      have Hf := Lib.hid (And.intro hnw h6)
      clear h1 h2 h3 h4 h5 h6 hnw
      gi_wp2_with (refine ⟨trivial, ?_⟩; gi_at_call 57; refine (callsIn_wide.2 (result_ok w A N c _ W (by omega) Hf.out.1)).mono ?_)
      rintro e W' ⟨(⟨v2, rfl, hN3, hlt⟩ | ⟨rfl, hbg⟩), rfl⟩
      · have HV := Lib.hid (And.intro hN3 hlt)
        clear hN3 hlt
        gi_wp2
        refine leaves_marked2 (F := Fence.wide) (n := 6) (fn := Try.f69) rfl hcol ?_
        exact .inr ⟨hN2, .inl ⟨v2, rfl, HV.out.1.put hcol, HV.out.2⟩, below_putObj Hf.out.2 (by have := HI0.out.2.size; simp at hD; omega) _⟩
      · have HV := Lib.hid hbg
        clear hbg
        gi_wp2
        refine leaves_marked2 (F := Fence.wide) (n := 6) (fn := Try.f69) rfl hcol ?_
        exact .inr ⟨hN2, .inr ⟨rfl, HV.out⟩, below_putObj Hf.out.2 (by have := HI0.out.2.size; simp at hD; omega) _⟩
end Go.Proofs.Ytekikolhnfofeaa
