/- Pieces of the proofs, together: NMany, NProd, RMany. -/
import Derived.Test.YtalcikmngglplaaDoorP1
import Derived.Test.YtalcikmngglplaaDoorP2

namespace Go.Proofs.YtalcikmngglplaaDoor
open Go.RowKit Go.Shelf
set_option linter.unusedVariables false
set_option maxRecDepth 10000

/-- a slice of numbers, the rows xss -/
def Nl (w : World) (A : Option Addr) (m c : Nat) (ls : List (Option Addr × Nat × Nat)) (xss : List (List Nat)) : Prop :=
  ls.length = m ∧ Rd w w.heap.size A (svs ls) ∧ xss.length = m ∧ ∀ (i : Nat) (s : Option Addr × Nat × Nat) (xs : List Nat), ls[i]? = some s → xss[i]? = some xs → Sl w s.1 s.2.1 s.2.2 xs
theorem Nl.below {w w' : World} {A : Option Addr} {m c : Nat} {ls : List (Option Addr × Nat × Nat)} {xss : List (List Nat)} (h : Nl w A m c ls xss) (hb : Below w.heap.size w w') : Nl w' A m c ls xss :=
  ⟨h.1, (h.2.1.below hb).more hb.size, h.2.2.1, fun i s xs h1 h2 => (h.2.2.2 i s xs h1 h2).below hb⟩
/-- the sum of the first numbers -/
def total (xss : List (List Nat)) : Nat := (xss.map V).sum
theorem total_succ (xss : List (List Nat)) (k : Nat) (h : k < xss.length) : total (xss.take (k + 1)) = total (xss.take k) + V xss[k] := by
  simp only [total]
  rw [List.take_succ_eq_append_getElem h, List.map_append, List.sum_append]; simp
theorem sum_le_of_append (l r : List Nat) : l.sum ≤ (l ++ r).sum := by rw [List.sum_append]; omega
theorem total_le (xss : List (List Nat)) (k : Nat) : total (xss.take k) ≤ total xss := by
  have h := sum_le_of_append ((xss.take k).map V) ((xss.drop k).map V)
  rw [← List.map_append, List.take_append_drop] at h
  exact h

theorem chkS_each {ls : List (Option Addr × Nat × Nat)} (h : chkS ls = 0) (k : Nat) (hk : k < ls.length) : ls[k].2.1 ≤ 4096 := by
  rcases Nat.lt_or_ge 4096 ls[k].2.1 with h1 | h1
  · have := anyS_get (fun s => decide (4096 < s.2.1)) ls k hk (by simpa using h1)
    simp [chkS, this] at h
  · exact h1
end Go.Proofs.YtalcikmngglplaaDoor


namespace Go.Proofs.YtalcikmngglplaaDoor
open Go.RowKit Go.Shelf
set_option linter.unusedVariables false
set_option maxRecDepth 10000

/-- the product of numbers -/
def prodl : List (List Nat) → Nat
  | [] => 1
  | xs :: l => V xs * prodl l
theorem prodl_append (l r : List (List Nat)) : prodl (l ++ r) = prodl l * prodl r := by
  induction l with
  | nil => simp [prodl]
  | cons x l ih => simp only [List.cons_append, prodl, ih, Nat.mul_assoc]
theorem prodl_succ (xss : List (List Nat)) (k : Nat) (h : k < xss.length) : prodl (xss.take (k + 1)) = prodl (xss.take k) * V xss[k] := by
  rw [List.take_succ_eq_append_getElem h, prodl_append]
  simp [prodl]
theorem prodl_pos (l : List (List Nat)) (h : ∀ xs ∈ l, 0 < V xs) : 0 < prodl l := by
  induction l with
  | nil => decide
  | cons x l ih => exact Nat.mul_pos (h x (List.mem_cons_self)) (ih fun xs hx => h xs (List.mem_cons_of_mem _ hx))
theorem prodl_le (xss : List (List Nat)) (h : ∀ xs ∈ xss, 0 < V xs) (k : Nat) : prodl (xss.take k) ≤ prodl xss := by
  have h1 := prodl_append (xss.take k) (xss.drop k)
  rw [List.take_append_drop] at h1
  rw [h1]
  exact Nat.le_mul_of_pos_right _ (prodl_pos _ fun xs hx => h xs (List.mem_of_mem_drop hx))
theorem prodl_zero (l : List (List Nat)) {k : Nat} {xs : List Nat} (h : l[k]? = some xs) (h0 : V xs = 0) : prodl l = 0 := by
  induction l generalizing k with
  | nil => simp at h
  | cons x l ih =>
    cases k with
    | zero => simp at h; subst h; rw [prodl, h0, Nat.zero_mul]
    | succ k => simp at h; rw [prodl, ih h, Nat.mul_zero]

theorem mem_pos {xss : List (List Nat)} (h : ∀ k, k < xss.length → ∀ xs, xss[k]? = some xs → 0 < V xs) : ∀ xs ∈ xss, 0 < V xs := fun xs hx => by
  obtain ⟨k, hk⟩ := List.getElem?_of_mem hx
  refine h k ?_ xs hk
  rcases Nat.lt_or_ge k xss.length with h1 | h1
  · exact h1
  · rw [List.getElem?_eq_none h1] at hk; cases hk
theorem one_Big : 1 < Big := Big_of (k := 1) (by decide) (by omega)
end Go.Proofs.YtalcikmngglplaaDoor


namespace Go.Proofs.YtalcikmngglplaaDoor
open Go.RowKit Go.Shelf
set_option linter.unusedVariables false
set_option maxRecDepth 10000

/-- append of one new block, elements of one cell and whatever number of bytes -/
theorem wpList_append_at {P : Program} (w : World) {ops : Array Oper} {rest : List Oper} {o : Oper} {a : Act} {Q : Exit → Act → World → Prop} (hgd : o.guard = none) (s x : Operand) (t : TypeId)
    (ho : o.op = .call { callee := .builtin .append, args := #[s, x], argTypes := #[t, t] })
    (base : Nat) (e : TypeId) (i : TypeInfo) (z : Value) (bytes : Nat) (ht : P.underlying t = some (.slice e)) (hi : P.info? e = some i) (hz : i.zero = some z)
    (hsize : i.size = 1) (hby : i.bytes = bytes) (hzs : z.cells.size = 1)
    (v : Value) (n : Nat) (xs : List Value) (hs : a.eval s = v) (hown : w.ownsRow base e 1 v n xs)
    (B : Nat) (A : Option Addr) (m c : Nat) (news : List Value) (hx : a.eval x = .slice A m c) (hm : news.length = m) (hr : Rd w B A news) (h0 : 0 < m) (h1 : ∀ u ∈ news, u.oneCell' = true)
    (h63 : n + m ≤ maxLen) (hbytes : (n + m) * bytes ≤ 140737488355328) (hbase : base ≤ w.heap.size)
    (h : ∀ v' w', w'.ownsRow base e 1 v' (n + m) (xs ++ news) → w.grownBy w' v.ownBlock → (v'.ownBlock = v.ownBlock ∨ v'.ownBlock = some w.heap.size) → wpList P ops Q rest (a.put o.dst v') w') : wpList P ops Q (o :: rest) a w := by
  refine wpList_plain hgd fun K hK => ?_
  obtain ⟨b, of, rfl, _, hc⟩ := hr (by rintro rfl; simp at hm; omega)
  obtain ⟨v', w', hrun, h2, h3, _, h5⟩ := run_append_own_at (P := P) w base t o.type e i z 1 bytes ht hi hz hsize hby hzs (by decide) v n xs hown ⟨b, of, none⟩ m c news (by omega) (fun j u hu => by rw [Addr.add_lit]; exact hc j u hu) h1 h63 hbytes hbase
  unfold Oper.wp execOp
  simp only [ho, resolve, invoke, builtin, Sem.run_bind, Sem.run_pure, Result.andThen_ok, List.map_toArray, List.map_cons, List.map_nil, hs, hx, hrun]
  exact hK _ _ (h v' w' h2 h3 h5)
theorem infoNat : (Tryd.prog.info? 23).map (fun i => (i.zero, i.size, i.bytes)) = some (some (.slice none 0 0), 1, 24) := by kernel_rfl
theorem Sl.grown {w w' : World} {row : Option Nat} {A : Option Addr} {n c : Nat} {xs : List Nat} (h : Sl w A n c xs) (hg : w.grownBy w' row) (hne : ∀ a, A = some a → some a.block ≠ row) : Sl w' A n c xs :=
  ⟨h.1, h.2.1, h.2.2.1, h.2.2.2.1, fun hx => by
    obtain ⟨b, o, e, hb, hc⟩ := h.2.2.2.2 hx
    exact ⟨b, o, e, Nat.lt_of_lt_of_le hb hg.size, fun j u hu => hg.cell (hc j u hu) (show some b ≠ row from hne ⟨b, o, none⟩ e)⟩⟩
theorem svs_append (a b : List (Option Addr × Nat × Nat)) : svs (a ++ b) = svs a ++ svs b := List.map_append
/-- what the list's loop keeps: v is the list so far -/
def LiI (w : World) (v : Value) (k most : Nat) (ls : List (Option Addr × Nat × Nat)) (xss : List (List Nat)) (W : World) : Prop :=
  ls.length = k ∧ xss.length = k ∧ (∀ (i : Nat) (s : Option Addr × Nat × Nat) (xs : List Nat), ls[i]? = some s → xss[i]? = some xs → Sl W s.1 s.2.1 s.2.2 xs ∧ s.2.1 ≤ most ∧ ∀ a, s.1 = some a → a.block < W.heap.size ∧ some a.block ≠ v.ownBlock) ∧ Below w.heap.size w W
theorem Nw.fresh {w w' : World} {A : Option Addr} {n c : Nat} {zs : List Nat} (h : Nw w w' (.slice A n c) n zs) : ∀ a, A = some a → w.heap.size ≤ a.block ∧ a.block < w'.heap.size := fun a e => by
  have := h.2.2.lt a.block (by rw [e]; rfl)
  exact this
/-- a list of at most 20 numbers of at most 8 words -/
def LiR (w' : World) (A : Option Addr) (m c : Nat) : Prop := ∃ ls xss, Nl w' A m c ls xss ∧ ∀ s ∈ ls, s.2.1 ≤ 8
theorem Nl.lt {w : World} {A : Option Addr} {m c : Nat} {ls : List (Option Addr × Nat × Nat)} {xss : List (List Nat)} (hx : Nl w A m c ls xss) (h8 : ∀ s ∈ ls, s.2.1 ≤ 8) {i : Nat} (hi : i < m) : V (xss[i]'(by rw [hx.2.2.1]; exact hi)) < B64 ^ 8 := by
  have hil : i < ls.length := by rw [hx.1]; exact hi
  have hs := hx.2.2.2 i ls[i] _ (List.getElem?_eq_getElem hil) (List.getElem?_eq_getElem (by rw [hx.2.2.1]; exact hi))
  exact Nat.lt_of_lt_of_le hs.lt (Nat.pow_le_pow_right B64_pos (h8 _ (List.getElem_mem hil)))
theorem total_Big {w : World} {A : Option Addr} {m c : Nat} {ls : List (Option Addr × Nat × Nat)} {xss : List (List Nat)} (hx : Nl w A m c ls xss) (h8 : ∀ s ∈ ls, s.2.1 ≤ 8) (hm : m ≤ 20) {k : Nat} (hk : k ≤ m) : total (xss.take k) < Big := by
  have h : total (xss.take k) ≤ k * B64 ^ 8 := by
    induction k with
    | zero => simp [total]
    | succ k ih =>
      have hkx : k < xss.length := by rw [hx.2.2.1]; omega
      rw [total_succ xss k hkx, Nat.succ_mul]
      have := ih (by omega)
      have := hx.lt h8 (show k < m by omega)
      omega
  refine Big_of (k := 9) (Nat.lt_of_le_of_lt h ?_) (by omega)
  rw [show B64 ^ 9 = B64 ^ 8 * B64 from rfl, Nat.mul_comm]
  exact Nat.mul_lt_mul_of_pos_left (Nat.lt_of_le_of_lt (show k ≤ 20 by omega) (by decide)) (Nat.pow_pos B64_pos)
theorem prodl_Big {w : World} {A : Option Addr} {m c : Nat} {ls : List (Option Addr × Nat × Nat)} {xss : List (List Nat)} (hx : Nl w A m c ls xss) (h8 : ∀ s ∈ ls, s.2.1 ≤ 8) (hm : m ≤ 20) {k : Nat} (hk : k ≤ m) : prodl (xss.take k) < Big := by
  have h : prodl (xss.take k) < B64 ^ (8 * k + 1) := by
    induction k with
    | zero => exact (by decide : 1 < B64 ^ 1)
    | succ k ih =>
      have hkx : k < xss.length := by rw [hx.2.2.1]; omega
      rw [prodl_succ xss k hkx, show 8 * (k + 1) + 1 = 8 * k + 1 + 8 by omega, Nat.pow_add]
      exact Nat.mul_lt_mul'' (ih (by omega)) (hx.lt h8 (show k < m by omega))
  exact Big_of h (by omega)
end Go.Proofs.YtalcikmngglplaaDoor

