/- Pieces of the proofs, together: ShlM, ShrM, RightM, RShiftL, RShift, AppT, RShl, RShr. -/
import Derived.Test.YthpgdpkemnhneaaGreatDoorP1
import Derived.Test.YthpgdpkemnhneaaGreatDoorP3

namespace Go.Proofs.YthpgdpkemnhneaaGreatDoor
open Go.RowKit Go.Shelf
set_option linter.unusedVariables false
set_option maxRecDepth 10000

theorem zeros_cells (n : Nat) : (madeCells #[Value.int .u64 0] n).toList = uvs (List.replicate n 0) := by
  refine List.ext_getElem (by simp [madeCells, uvs]) (fun i h1 h2 => ?_)
  simp [madeCells, uvs, Nat.mod_one]
theorem Ws_up {xs : List Nat} (q : Nat) (h : Ws xs) : Ws (List.replicate q 0 ++ xs) := fun x hx => by
  rcases List.mem_append.1 hx with h1 | h1
  · rw [List.eq_of_mem_replicate h1]; exact B64_pos
  · exact h x h1
theorem pow_lt (s : Nat) (h : s ≤ 63) : 2 ^ s < B64 := by
  have : (2 : Nat) ^ s < 2 ^ 64 := Nat.pow_lt_pow_right (by decide) (by omega)
  exact this
/-- the value of a row that was shifted by r bits and moved up by q words -/
theorem shl_value {X Z d n q r : Nat} (h : Z + d * B64 ^ n = X * 2 ^ r) : (Z + d * B64 ^ n) * B64 ^ q = X * 2 ^ (64 * q + r) := by
  rw [h, Nat.pow_add, Nat.pow_mul, show (2 : Nat) ^ 64 = B64 from rfl]
  generalize B64 ^ q = p
  grind

end Go.Proofs.YthpgdpkemnhneaaGreatDoor

namespace Go.Proofs.YthpgdpkemnhneaaGreatDoor
open Go.RowKit Go.Shelf
set_option linter.unusedVariables false
set_option maxRecDepth 10000

/-- a row without its q lowest words, without r bits -/
theorem shr_value {xs : List Nat} (hw : Ws xs) {n q r s k z d : Nat} (hn : xs.length = n) (hs : s = 64 * q + r) (hk : k = min q n) (h : z * 2 ^ r + d = V (xs.drop k)) (hd : d < 2 ^ r) : z = V xs / 2 ^ s := by
  have hp : 0 < 2 ^ r := Nat.pow_pos (by decide)
  have hz : z = V (xs.drop k) / 2 ^ r := by rw [← h, Nat.add_comm, Nat.add_mul_div_right _ _ hp, Nat.div_eq_of_lt hd, Nat.zero_add]
  rw [hz, hs, Nat.pow_add, Nat.pow_mul, show (2 : Nat) ^ 64 = B64 from rfl, ← Nat.div_div_eq_div_mul]
  rcases Nat.lt_or_ge q n with hq | hq
  · rw [hk, Nat.min_eq_left (Nat.le_of_lt hq), V_dropped hw (by omega)]
  · rw [hk, Nat.min_eq_right hq, V_drop_all _ _ (by omega), Nat.div_eq_of_lt (show V xs < B64 ^ q from Nat.lt_of_lt_of_le (V_lt _ hw) (by rw [hn]; exact Nat.pow_le_pow_right B64_pos hq))]
theorem Ws_drop {xs : List Nat} (h : Ws xs) (k : Nat) : Ws (xs.drop k) := fun x hx => h x (List.mem_of_mem_drop hx)
theorem uvs_drop (xs : List Nat) (k : Nat) : uvs (xs.drop k) = (uvs xs).drop k := by simp [uvs]
theorem Sl.dp {w : World} {A : Option Addr} {n c : Nat} {xs : List Nat} (h : Sl w A n c xs) {k : Nat} (hk : k ≤ n) : Sl w (if c = k then A else A.map (·.add k)) (n - k) (c - k) (xs.drop k) :=
  ⟨by rw [List.length_drop, h.1], by have := h.2.1; omega, by have := h.2.2.1; omega, Ws_drop h.2.2.2.1 k, by rw [uvs_drop]; exact h.2.2.2.2.drop (by rw [uvs_length, h.1]; exact h.2.1)⟩

end Go.Proofs.YthpgdpkemnhneaaGreatDoor

namespace Go.Proofs.YthpgdpkemnhneaaGreatDoor
open Go.RowKit Go.Shelf
set_option linter.unusedVariables false

theorem right_step {B p q x e a b : Nat} (hB : p * q = B) (h2 : a * p + e = b) : (x / p + q * e + B * a) * p + x % p = x + B * b := by
  have h := Nat.div_add_mod x p
  subst hB
  subst h2
  generalize x / p = u at *
  generalize x % p = v at *
  subst h
  grind
theorem right_lt {B p q x e : Nat} (hB : p * q = B) (hx : x < B) (he : e < p) : x / p + q * e < B := by
  have h1 : x / p < q := Nat.div_lt_of_lt_mul (by rw [hB]; exact hx)
  have h2 : q * (e + 1) ≤ q * p := Nat.mul_le_mul_left _ he
  rw [Nat.mul_succ, Nat.mul_comm q p, hB] at h2
  omega
theorem right_or {x e s t : Nat} (hB : 2 ^ s * 2 ^ t = B64) (hx : x < B64) (he : e < 2 ^ s) : bits BinOp.or IntKind.u64 ((x / 2 ^ s : Nat) : Int) ((e * 2 ^ t : Nat) : Int) = ((x / 2 ^ s + 2 ^ t * e : Nat) : Int) := by
  have h1 : x / 2 ^ s < 2 ^ t := Nat.div_lt_of_lt_mul (by rw [hB]; exact hx)
  have hp : 0 < 2 ^ s := Nat.pow_pos (by decide)
  have hq : 0 < 2 ^ t := Nat.pow_pos (by decide)
  have h2 : e * 2 ^ t < B64 := by rw [← hB]; exact Nat.mul_lt_mul_of_pos_right he hq
  have h3 : x / 2 ^ s < B64 := Nat.lt_of_le_of_lt (Nat.div_le_self _ _) hx
  rw [bits_or_u64_nat _ _ h3 h2, Nat.or_comm, Nat.mul_comm e, ← Nat.two_pow_add_eq_or_of_lt h1, Nat.add_comm]
end Go.Proofs.YthpgdpkemnhneaaGreatDoor

namespace Go.Proofs.YthpgdpkemnhneaaGreatDoor
open Go.RowKit
set_option linter.unusedVariables false
set_option maxRecDepth 10000

theorem pow_lt_B (s : Nat) (h : s ≤ 63) : 2 ^ s < B64 := by
  have : (2 : Nat) ^ s < 2 ^ 64 := Nat.pow_lt_pow_right (by decide) (by omega)
  exact this

set_option maxHeartbeats 1000000 in
theorem RLeft_ok (A : Option Addr) (n c : Nat) (xs : List Nat) (s : Nat) (w : World) (hn : n ≤ 4096) (hx : Sl w A n c xs) (hs : s ≤ 63) :
    Calls Tryz.prog 45 #[.slice A n c, .int .i64 s] w fun e w' => ∃ v zs, ∃ d : Nat, e = .returned (.tuple #[v, .int .u64 d]) ∧ Nw w w' v n zs ∧ V zs + d * B64 ^ n = V xs * 2 ^ s ∧ Below w.heap.size w w' := by
  have hp := pow_lt_B s hs
  have HR := Lib.hid (mul_room (a := 0) (V_below hx.2.2.2.1 hx.1) hp (by decide))
  obtain ⟨p, hpp⟩ : ∃ p : Nat, 2 ^ s = p := ⟨_, rfl⟩
  have hw1 : IntKind.u64.wrap ((1 : Int) * 2 ^ s) = (p : Int) := by
    have := wrap_u64 1 s
    rw [Nat.one_mul, Nat.mod_eq_of_lt hp, hpp] at this
    exact this
  have hw2 : IntKind.u64.wrap ((2 : Int) ^ s) = (p : Int) := by rw [← hw1, Int.one_mul]
  have Hx := Lib.hid (And.intro hx (And.intro (show p < B64 by rw [← hpp]; exact hp) hpp))
  clear hx hp hpp
  go_enter Tryz.func45, Tryz.ntmps45
  go_wp2_with (fail)
  go_region_held3 (fun w' => True) (trivial)
    (first | ((go_at_call 49; refine (Digits_ok _ _ _ xs w.drew (by omega) Hx.out.1).mono ?_; rintro e w1 ⟨v1, ds1, rfl, hn1, hd1, hv1, hb1⟩; obtain ⟨A1, c1, rfl, hs1⟩ := hn1.sl; have H1 := Lib.hid (And.intro hs1 (And.intro hd1 (And.intro hv1 (belowA hb1)))); clear hs1 hd1 hv1 hb1 hn1)) | ((go_at_call 81; refine (Word_ok p _ Hx.out.2.1).mono ?_; rintro e w2 ⟨A2, ds2, rfl, hs2, hd2, hv2, hb2⟩; have H2 := Lib.hid (And.intro (H1.out.1.below hb2) (And.intro hs2 (And.intro hd2 (And.intro hv2 (H1.out.2.2.2.trans (hb2.mono H1.out.2.2.2.size)))))); clear hs2 hd2 hv2 hb2)) | ((go_at_call 80; refine (Times_ok _ _ _ _ _ _ ds1 ds2 _ (by omega) (by omega) H2.out.1 H2.out.2.1 H1.out.2.1 H2.out.2.2.1).mono ?_; rintro e w3 ⟨v3, ds3, rfl, hn3, hd3, hv3, hb3⟩; obtain ⟨A3, c3, rfl, hs3⟩ := hn3.sl; have H3 := Lib.hid (And.intro hs3 (And.intro hd3 (And.intro (show VD ds3 = V xs * p by rw [hv3, H1.out.2.2.1, H2.out.2.2.2.1]) (H2.out.2.2.2.2.trans (hb3.mono H2.out.2.2.2.2.size))))); clear hs3 hd3 hv3 hb3 hn3)) | ((go_at_call 79; refine (Cut_ok _ _ _ n ds3 _ (by omega) (by omega) H3.out.1 H3.out.2.1 (by rw [H3.out.2.2.1, Nat.pow_succ, ← Hx.out.2.2]; have := HR.out; omega)).mono ?_; rintro e w4 ⟨v4, zs, d, rfl, hn4, hd4, hv4, hb4⟩; have H4 := Lib.hid (And.intro hn4 (And.intro hv4 hb4)); clear hn4 hv4 hb4 hd4)))
  go_wp2_with (fail)
  go_ret2
  obtain ⟨h1, h2, h3⟩ := H4.out
  have h4 := H3.out.2.2.2
  rw [H3.out.2.2.1, ← Hx.out.2.2] at h2
  exact ⟨v4, zs, d, rfl, ⟨h1.1, h1.2.1, own_base h1.2.2 h4.size⟩, h2, h4.trans (h3.mono h4.size)⟩
end Go.Proofs.YthpgdpkemnhneaaGreatDoor

namespace Go.Proofs.YthpgdpkemnhneaaGreatDoor
open Go.RowKit
set_option linter.unusedVariables false
set_option maxRecDepth 10000

/-- What Right's loop keeps, k words from the top done; e is what falls. -/
def RI (w : World) (g n : Nat) (xs : List Nat) (s k e : Nat) (zs : List Nat) (W : World) : Prop :=
  w.heap.size ≤ g ∧ RowAt W g zs ∧ zs.length = n ∧ Ws zs ∧ e < 2 ^ s ∧ V (zs.drop (n - k)) * 2 ^ s + e = V (xs.drop (n - k)) ∧ Below w.heap.size w W
theorem RI.step {w W : World} {g n s k i x e : Nat} {xs zs : List Nat} (h : RI w g n xs s k e zs W) (hs : s ≤ 63) (hl : xs.length = n) (hi : i + 1 + k = n) (hx : xs[i]? = some x) (hxB : x < B64) :
    x / 2 ^ s + 2 ^ (64 - s) * e < B64 ∧ RI w g n xs s (k + 1) (x % 2 ^ s) (zs.set i (x / 2 ^ s + 2 ^ (64 - s) * e)) (W.setCell ⟨g, i, none⟩ (.int .u64 (x / 2 ^ s + 2 ^ (64 - s) * e : Nat))) := by
  obtain ⟨h0, h1, h2, h3, h4, h5, h6⟩ := h
  have hp : 0 < 2 ^ s := Nat.pow_pos (by decide)
  have hz := right_lt (pow_split s hs) hxB h4
  refine ⟨hz, h0, h1.set i _, by rw [List.length_set]; exact h2, Ws_set h3 i _ hz, Nat.mod_lt _ hp, ?_, h6.setCell (p := ⟨g, i, none⟩) h0 _⟩
  have e1 : n - (k + 1) = i := by omega
  have e2 : n - k = i + 1 := by omega
  rw [e1, V_drop xs i x hx, V_drop (zs.set i _) i _ (by rw [List.getElem?_set_self (by omega)]), drop_set]
  rw [e2] at h5
  exact right_step (pow_split s hs) h5

set_option maxHeartbeats 1000000 in
theorem RRight_ok (A : Option Addr) (n c : Nat) (xs : List Nat) (s : Nat) (w : World) (hn : n ≤ 4096) (hx : Sl w A n c xs) (hs : s ≤ 63) :
    Calls Tryz.prog 47 #[.slice A n c, .int .i64 s] w fun e w' => ∃ v zs, ∃ d : Nat, e = .returned (.tuple #[v, .int .u64 (d * 2 ^ (64 - s) : Nat)]) ∧ d < 2 ^ s ∧ Nw w w' v n zs ∧ V zs * 2 ^ s + d = V xs ∧ Below w.heap.size w w' := by
  obtain ⟨i0, hi, hz0, hz1, hz2⟩ := info_parts Tryz.info44
  have Hx := Lib.hid hx
  clear hx
  go_enter Tryz.func47, Tryz.ntmps47
  go_wp2_with (at_make; refine wpList_make_full _ rfl _ _ 22 rfl w.heap.size 44 i0 (.int .u64 0) 1 Tryz.underlying22 hi hz0 hz1 .i64 .i64 _ _ n rfl rfl rfl rfl (by rw [hz2]; omega) (by unfold maxLen; omega) (Nat.le_refl _) ?_)
  intro w1 hown hgrow
  have hb1 := below_of_grown hgrow (Nat.le_refl _)
  have hrow := RowAt_zeros (by simpa using hown)
  have HT : Hid (RI w w.heap.size n xs s 0 0 (List.replicate n 0) w1) := ⟨Nat.le_refl _, hrow, by simp, (Dg_zeros' n).ws, Nat.pow_pos (by decide), by rw [Nat.sub_zero, V_drop_all xs n (by rw [Hx.out.1]; exact Nat.le_refl _), V_drop_all _ n (by simp), Nat.zero_mul], hb1⟩
  clear hown hgrow hb1 hrow
  generalize w.heap.size = g at *
  go_wp2
  go_loopw [7, 8] (fun fv iv wr => ∃ (k f e : Nat) (j : Int) (zs : List Nat), k ≤ n ∧ iv = .int .i64 j ∧ j + 1 + k = n ∧ fv = .int .u64 f ∧ Hid (f = e * 2 ^ (64 - s) ∧ RI w g n xs s k e zs wr)) (fun _ iv _ => (intOf iv + 1).toNat)
  case atStart => exact ⟨0, 0, 0, (n : Int) - 1, _, by omega, rfl, by omega, rfl, by simp, HT.out⟩
  case round =>
    clear HT
    obtain ⟨k, f, e, j, zs, hkn, rfl, hj, rfl, hH⟩ := hrel
    by_cases hlt : k < n
    · obtain ⟨i, rfl⟩ := Int.eq_ofNat_of_zero_le (show 0 ≤ j by omega)
      have hil : i < xs.length := by rw [Hx.out.1]; omega
      have hg := List.getElem?_eq_getElem hil
      have hxB : xs[i] < B64 := Hx.out.2.2.2.1 _ (List.getElem_mem hil)
      obtain ⟨b, o, rfl, hb, hcx⟩ := Hx.out.2.2.2.2.at (uvs_get hg)
      generalize xs[i] = x at *
      have hR := hH.out.2
      have hcx2 := (hR.2.2.2.2.2.2.cell (p := ⟨b, o + i, none⟩) hb).trans hcx
      have hzl : i < zs.length := by rw [hR.2.2.1]; omega
      have hcz := hR.2.1.cell (List.getElem?_eq_getElem hzl)
      have hfz := hR.2.1.frozen i
      obtain ⟨hzB, hst⟩ := hR.step hs Hx.out.1 (show i + 1 + k = n by omega) hg hxB
      obtain ⟨q, hq, hq2⟩ : ∃ q : Nat, (x : Int) / 2 ^ s = (q : Int) ∧ q = x / 2 ^ s := ⟨x / 2 ^ s, by simp, rfl⟩
      have hz1' : f + q = x / 2 ^ s + 2 ^ (64 - s) * e := by rw [hH.out.1, hq2, Nat.mul_comm e, Nat.add_comm]
      obtain ⟨z, hz, hz2⟩ : ∃ z : Nat, (f : Int) + (q : Int) = (z : Int) ∧ z = x / 2 ^ s + 2 ^ (64 - s) * e := ⟨f + q, by omega, hz1'⟩
      rw [← hz2] at hst hzB
      have hzb : (z : Int) < 18446744073709551616 := by have hB : B64 = 18446744073709551616 := rfl; omega
      have hin : (i : Int) < n := by omega
      have hsh : IntKind.u64.wrap ((x : Int) * 2 ^ (64 - s)) = ((x % 2 ^ s * 2 ^ (64 - s) : Nat) : Int) := by
        rw [wrap_u64, shl_mod B64 x (2 ^ s) (2 ^ (64 - s)) (by rw [Nat.mul_comm]; exact pow_split s hs), Nat.mul_comm]
      obtain ⟨f', hf', hf2⟩ : ∃ f' : Nat, ((x % 2 ^ s * 2 ^ (64 - s) : Nat) : Int) = (f' : Int) ∧ f' = x % 2 ^ s * 2 ^ (64 - s) := ⟨_, rfl, rfl⟩
      rw [hf'] at hsh
      have HS := Lib.hid (And.intro hst hf2)
      have Hj := Lib.hid hj
      have hbg : b ≠ g := by have := hR.1; omega
      generalize zs[i] = zi at *
      clear hst hf2 hg hR hH hzl hq2 hz1' hz2 hf' hxB hzB hj hcx
      by_cases hs0 : 0 < s
      · go_wp2
        go_roundw
        case rel => exact ⟨k + 1, f', _, (i : Int) - 1, _, by omega, rfl, by have := Hj.out; omega, rfl, HS.out.2, HS.out.1⟩
        case measure => simp [intOf]
      · have hs00 : s = 0 := by omega
        have hf0 : f' = 0 := by rw [HS.out.2, hs00]; simp [Nat.mod_one]
        have HS2 : Hid (0 = x % 2 ^ s * 2 ^ (64 - s)) := by rw [← HS.out.2]; exact hf0.symm
        clear hf0 hs00
        go_wp2
        go_roundw
        case rel => exact ⟨k + 1, 0, _, (i : Int) - 1, _, by omega, rfl, by have := Hj.out; omega, rfl, HS2.out, HS.out.1⟩
        case measure => simp [intOf]
    · have hkn' : k = n := by omega
      have hneg : j < 0 := by omega
      have Hk := Lib.hid hkn'
      have hfe := hH.out.1
      have Hf := Lib.hid hfe
      clear hj hkn' hfe
      go_wp2
      go_ret2
      have hk := Hk.out
      have hf := Hf.out
      subst hk
      subst hf
      obtain ⟨h0, h1, h2, h3, h4, h5, h6⟩ := hH.out.2
      rw [Nat.sub_self, List.drop_zero, List.drop_zero] at h5
      have hown := h1.own h0 (by omega)
      rw [h2] at hown
      exact ⟨_, zs, e, rfl, h4, ⟨h2, h3, hown⟩, h5, h6⟩
end Go.Proofs.YthpgdpkemnhneaaGreatDoor

namespace Go.Proofs.YthpgdpkemnhneaaGreatDoor
open Go.RowKit
set_option linter.unusedVariables false

theorem append_ty {P : Program} (w : World) (t t' ty e : TypeId) (args : Array Value) (ht : P.underlying t = some (.slice e)) (ht' : P.underlying t' = some (.slice e)) : (Builtin.append_ #[t, t'] ty args).run P w = (Builtin.append_ #[t, t] ty args).run P w := by
  simp only [Builtin.append_, List.getElem?_toArray, List.getElem?_cons_zero, List.getElem?_cons_succ]
  match h0 : args[0]?, h1 : args[1]? with
  | none, _ => rfl
  | some a, none => rfl
  | some a, some b =>
    cases a with
    | slice A m c =>
      simp only [Sem.run_bind, run_underlying ht, run_underlying ht', Result.andThen_ok]
    | _ => simp only [Sem.run_bind, run_underlying ht, Result.andThen_ok]

theorem wpList_append_ty {P : Program} (w : World) {ops : Array Oper} {rest : List Oper} {o : Oper} {a : Act} {Q : Exit → Act → World → Prop} (hgd : o.guard = none) (s x : Operand) (t t' : TypeId)
    (ho : o.op = .call { callee := .builtin .append, args := #[s, x], argTypes := #[t, t'] })
    (base : Nat) (e : TypeId) (i : TypeInfo) (z : Value) (ht : P.underlying t = some (.slice e)) (ht' : P.underlying t' = some (.slice e)) (hi : P.info? e = some i) (hz : i.zero = some z)
    (hsize : i.size = 1) (hby : i.bytes = 8) (hzs : z.cells.size = 1)
    (v : Value) (n : Nat) (xs : List Value) (hs : a.eval s = v) (hown : w.ownsRow base e 1 v n xs)
    (B : Nat) (A : Option Addr) (m c : Nat) (news : List Value) (hx : a.eval x = .slice A m c) (hm : news.length = m) (hr : Rd w B A news) (h1 : ∀ u ∈ news, u.oneCell' = true)
    (hlen : n + m ≤ 17592186044416) (hbase : base ≤ w.heap.size)
    (h : ∀ v' w', w'.ownsRow base e 1 v' (n + m) (xs ++ news) → w.grownBy w' v.ownBlock → (v'.ownBlock = v.ownBlock ∨ v'.ownBlock = some w.heap.size) → wpList P ops Q rest (a.put o.dst v') w') : wpList P ops Q (o :: rest) a w := by
  refine wpList_plain hgd fun K hK => ?_
  obtain ⟨v', w', hrun, h2, h3, h4⟩ := run_append_rd (P := P) w base t o.type e i z ht hi hz hsize hby hzs v n xs hown B A m c news hm hr h1 hlen hbase
  rw [← append_ty w t t' o.type e _ ht ht'] at hrun
  unfold Oper.wp execOp
  simp only [ho, resolve, invoke, builtin, Sem.run_bind, Sem.run_pure, Result.andThen_ok, List.map_toArray, List.map_cons, List.map_nil, hs, hx, hrun]
  exact hK _ _ (h v' w' h2 h3 h4)
end Go.Proofs.YthpgdpkemnhneaaGreatDoor

namespace Go.Proofs.YthpgdpkemnhneaaGreatDoor
open Go.RowKit Go.Shelf
set_option linter.unusedVariables false
set_option maxRecDepth 10000

set_option maxHeartbeats 400000 in
theorem DigitsW_ok (A : Option Addr) (n c : Nat) (xs : List Nat) (w : World) (hn : n ≤ 9000) (hx : Sl w A n c xs) :
    Calls Tryz.prog 49 #[.slice A n c] w fun e w' => ∃ v ds, e = .returned v ∧ Nw w w' v (2 * n) ds ∧ Dg ds ∧ VD ds = V xs ∧ Below w.heap.size w w' := by
  obtain ⟨i0, hi, hz0, hz1, hz2⟩ := info_parts Tryz.info44
  have Hx := Lib.hid hx
  clear hx
  go_enter Tryz.func49, Tryz.ntmps49
  go_wp2
  go_loopw [3, 4] (fun v i wr => ∃ (k : Nat) (ds : List Nat), k ≤ n ∧ i = .int .i64 k ∧ wr.ownsRow w.heap.size 44 1 v (2 * k) (uvs ds) ∧ Hid (Dg ds ∧ ds.length = 2 * k ∧ VD ds = V (xs.take k) ∧ Below w.heap.size w wr)) (fun _ i _ => n - (intOf i).toNat)
  case atStart => exact ⟨0, [], by omega, rfl, World.ownsRow_nil _ _ _ _, Dg_nil, rfl, by simp [VD, V], Below.refl _ _⟩
  case round =>
    obtain ⟨k, ds, hk, rfl, hown, hH⟩ := hrel
    by_cases hlt : k < n
    · obtain ⟨b, o, rfl, hb, hcx⟩ := (Hx.out.2.2.2.2.below hH.out.2.2.2).at (uvs_get (List.getElem?_eq_getElem (show k < xs.length by rw [Hx.out.1]; exact hlt)))
      have Hxk := Lib.hid (List.getElem?_eq_getElem (show k < xs.length by rw [Hx.out.1]; exact hlt))
      generalize xs[k]'(by rw [Hx.out.1]; exact hlt) = x at *
      have hki : (k : Int) < n := by omega
      obtain ⟨r, q, hrq, hrH, hqH, e1, e2, e3, e4, e5⟩ := halves x (Hx.out.2.2.2.1 x (List.mem_of_getElem? Hxk.out))
      have HR := Lib.hid (And.intro hrq (And.intro hrH hqH))
      clear hrq hrH hqH
      have Hb := Lib.hid (And.intro hb hH.out.2.2.2)
      go_wp2
      go_region_held3 (fun w' => w'.cell? ⟨b, o + k, none⟩ = some (.int .u64 (x : Int)))
        (first | go_keep | exact cell_app Hb.out.2 hown hgrow Hb.out.1 hcx)
        ((refine step_append_lies _ (by rfl) _ _ 22 (by rfl) w.heap.size 44 i0 _ 1 8 Tryz.underlying22 hi hz0 hz1 hz2 rfl (by omega) u3 (2 * k) (uvs ds) (by rfl) ((hown.alloc _).drew) ⟨wr.heap.size, 0, none⟩ 2 2 [.int .u64 (r : Int), .int .u64 (q : Int)] (by rfl) (by rfl) (World.news_of_block (cs := #[.int .u64 (r : Int), .int .u64 (q : Int)]) (t := 44) (fr := (0, 0)) (heap_alloc_new wr _)) (by simp [Value.oneCell']) (by omega) (by unfold maxLen; omega) (by omega) (by have := Hb.out.2.size; simp; omega) (wr.heap.size + 1) (by simp) ?_; intro gg cap w1 hown1 hgrow hat hlt1))
      have hst := digits_step hH.out.2.1 Hxk.out (by rw [Hx.out.1]; exact hlt) hH.out.2.2.1
      rw [← HR.out.1.1, ← HR.out.1.2] at hst
      have HN : Hid (Dg (ds ++ [r, q]) ∧ (ds ++ [r, q]).length = 2 * (k + 1) ∧ VD (ds ++ [r, q]) = V (xs.take (k + 1)) ∧ Below w.heap.size w w1) :=
        ⟨Dg_append hH.out.1 (fun z hz => by simp at hz; rcases hz with rfl | rfl; exact HR.out.2.1; exact HR.out.2.2), by simp [hH.out.2.1]; omega, hst, below_app Hb.out.2 hown hgrow⟩
      have hown2 : w1.ownsRow w.heap.size 44 1 (.slice (some ⟨gg, 0, none⟩) (2 * k + 2) cap) (2 * (k + 1)) (uvs (ds ++ [r, q])) := by
        rw [uvs_append]
        exact hown1
      clear hst hH hown hown1 hgrow hat hlt1 e1 e2 e3 e4 e5
      go_wp2
      go_roundw
      case rel => exact ⟨k + 1, ds ++ [r, q], by omega, by go_num, hown2, HN⟩
      case measure => simp [intOf]; omega
    · go_wp2
      go_ret
      have hkn : k = n := by omega
      subst hkn
      obtain ⟨h1, h2, h3, h4⟩ := hH.out
      rw [Hx.out.take_all] at h3
      exact ⟨_, ds, rfl, ⟨h2, h1.ws, hown⟩, h1, h3, h4⟩
set_option maxHeartbeats 400000 in
theorem RTrimW_ok (A : Option Addr) (n c : Nat) (xs : List Nat) (w : World) (hn : n ≤ 9000) (hx : Sl w A n c xs) :
    Calls Tryz.prog 46 #[.slice A n c] w fun e w' => Rv w w' e (V xs) := by
  have Hx := Lib.hid hx
  clear hx
  go_enter Tryz.func46, Tryz.ntmps46
  go_wp2_with (fail)
  refine (DigitsW_ok A n c xs w hn Hx.out).mono ?_
  rintro e w1 ⟨v, ds, rfl, hnw, hd, hv, hb⟩
  obtain ⟨A1, c1, rfl, hs⟩ := hnw.sl
  have H := Lib.hid (And.intro hs (And.intro hd (And.intro hv hb)))
  clear hs hd hv hb hnw
  go_wp2_with (fail)
  refine (nat_ok A1 (2 * n) c1 ds w1 (by omega) H.out.1 H.out.2.1).mono ?_
  rintro e w2 hR
  obtain ⟨v2, rfl, h2, hb2⟩ := hR.from H.out.2.2.2
  rw [H.out.2.2.1] at h2
  have H2 := Lib.hid (And.intro h2 hb2)
  clear h2 hb2 hR
  go_wp2_with (fail)
  go_ret
  exact ⟨v2, rfl, H2.out.1, H2.out.2⟩


/-- what is shifted out is a word -/
theorem shl_top {Z d n X p : Nat} {xs : List Nat} (h : Z + d * B64 ^ n = X * p) (hX : X < B64 ^ xs.length) (hl : xs.length = n) (hp : p < B64) : d < B64 := by
  rw [hl] at hX
  have h1 : X * p < B64 ^ n * B64 := Nat.lt_of_le_of_lt (Nat.mul_le_mul_left _ (Nat.le_of_lt hp)) (Nat.mul_lt_mul_of_pos_right hX B64_pos)
  have h2 : d * B64 ^ n < B64 * B64 ^ n := by rw [Nat.mul_comm B64]; omega
  exact Nat.lt_of_mul_lt_mul_right h2

set_option maxHeartbeats 1000000 in
theorem R2Left_ok (A : Option Addr) (n c : Nat) (xs : List Nat) (s : Nat) (w : World) (hn : n ≤ 4096) (hs : s ≤ 262144) (hx : Sl w A n c xs) :
    Calls Tryz.prog 15 #[.slice A n c, .int .i64 s] w fun e w' => Rv w w' e (V xs * 2 ^ s) := by
  obtain ⟨i0, hi, hz0, hz1, hz2⟩ := info_parts Tryz.info44
  have Hx := Lib.hid hx
  obtain ⟨q, r, hqr, hr, hq1, hq2, hr1, hr2⟩ : ∃ q r : Nat, s = 64 * q + r ∧ r ≤ 63 ∧ (s : Int).tdiv 64 = (q : Int) ∧ (s : Int) / 64 = (q : Int) ∧ (s : Int).tmod 64 = (r : Int) ∧ (s : Int) % 64 = (r : Int) :=
    ⟨s / 64, s % 64, by omega, by omega, by rw [Int.tdiv_eq_ediv_of_nonneg (by omega)]; omega, by omega, by rw [Int.tmod_eq_emod_of_nonneg (by omega)]; omega, by omega⟩
  have hqw : IntKind.i64.wrap (q : Int) = (q : Int) := IntWalk.i64_in _ (by omega)
  have hq : q ≤ 4096 := by omega
  have HS := Lib.hid (And.intro hs hqr)
  clear hx hs hqr
  go_enter Tryz.func15, Tryz.ntmps15
  go_wp2_with (fail)
  refine (RLeft_ok A n c xs r w hn Hx.out hr).mono ?_
  rintro e w2 ⟨v2, zs, d, rfl, hnw, hv, hb2⟩
  obtain ⟨A2, c2, rfl, hs2⟩ := hnw.sl
  have hdB : d < B64 := shl_top hv (V_lt _ Hx.out.2.2.2.1) Hx.out.1 (pow_lt r hr)
  have H2 := Lib.hid (And.intro hs2 (And.intro (shl_value (q := q) hv) (And.intro hdB hb2)))
  clear hs2 hv hdB hnw hb2
  go_wp2_with (at_make; refine wpList_make_full _ rfl _ _ 22 rfl w2.heap.size 44 i0 (.int .u64 0) 1 Tryz.underlying22 hi hz0 hz1 .i64 .i64 _ _ q rfl rfl rfl rfl (by rw [hz2]; omega) (by unfold maxLen; omega) (Nat.le_refl _) ?_)
  intro w3 hown hgrow
  have hb3 := below_of_grown hgrow (Nat.le_refl _)
  rw [zeros_cells] at hown
  have Hl := Lib.hid (And.intro (show (uvs zs).length = n by rw [uvs_length]; exact H2.out.1.1) (H2.out.1.2.2.2.2.below hb3))
  have hsz := hb3.size
  clear hgrow
  go_wp2_with (at_builtin; refine wpList_append_rd _ rfl (.tmp 18) (.tmp 19) 22 rfl w2.heap.size 44 i0 (.int .u64 0) Tryz.underlying22 hi hz0 hz1 hz2 rfl (.slice (some ⟨w2.heap.size, 0, none⟩) q q) q (uvs (List.replicate q 0)) rfl hown w2.heap.size A2 n c2 (uvs zs) rfl Hl.out.1 Hl.out.2 (uvs_one _) (by omega) (by omega) ?_)
  intro v4 w4 hown4 hgrow4 hblk
  have hb4 : Below w2.heap.size w2 w4 := hb3.grown hgrow4 hsz (fun j hj => (hown.lt j hj).1)
  have hsz4 := hb4.size
  clear hown hgrow4 hblk Hl hsz hb3
  go_wp2_with (at_builtin; refine wpList_append_rd _ rfl (.tmp 21) (.tmp 23) 22 rfl w2.heap.size 44 i0 (.int .u64 0) Tryz.underlying22 hi hz0 hz1 hz2 rfl v4 (q + n) _ rfl (hown4.alloc _) _ (some ⟨w4.heap.size, 0, none⟩) 1 1 [.int .u64 (d : Int)] rfl rfl (Rd.one _ _ _) (by simp [Value.oneCell']) (by omega) (by simp; omega) ?_)
  intro v5 w5 hown5 hgrow hblk
  have hb5 : Below w2.heap.size w2 w5 := (hb4.alloc hb4.size _).grown hgrow (by simp; omega) (fun j hj => (hown4.lt j hj).1)
  obtain ⟨us, hus⟩ : ∃ us, List.replicate q 0 ++ zs ++ [d] = us := ⟨_, rfl⟩
  have hul : us.length = q + n + 1 := by rw [← hus]; simp [H2.out.1.1]; omega
  have huv : V us = V xs * 2 ^ s := by
    rw [← hus, V_append, V_append, V_zeros', Nat.zero_add, HS.out.2, ← H2.out.2.1]
    simp only [List.length_append, List.length_replicate, H2.out.1.1, V, Nat.mul_zero, Nat.add_zero]
    rw [Nat.pow_add, Nat.add_mul]
    generalize B64 ^ q = p
    generalize B64 ^ n = p'
    grind
  have hnw : Nw w2 w5 v5 (q + n + 1) us := ⟨hul, by rw [← hus]; exact Ws_snoc (Ws_up q H2.out.1.2.2.2.1) H2.out.2.2.1, by rw [← hus, uvs_append, uvs_append, List.append_assoc]; exact hown5⟩
  obtain ⟨A5, c5, rfl, hs5⟩ := hnw.sl
  have H5 := Lib.hid (And.intro hs5 (And.intro huv (H2.out.2.2.2.trans (hb5.mono H2.out.2.2.2.size))))
  clear hown4 hown5 hgrow hblk hb5 hnw huv hul hus hb4 hsz4 hs5
  go_wp2_with (fail)
  refine (RTrimW_ok A5 (q + n + 1) c5 us w5 (by omega) H5.out.1).mono ?_
  rintro e w6 hR
  obtain ⟨v, rfl, h7, hb7⟩ := hR.from H5.out.2.2
  rw [H5.out.2.1] at h7
  have H7 := Lib.hid (And.intro h7 hb7)
  clear h7 hb7 hR
  go_wp2_with (fail)
  go_ret
  exact ⟨v, rfl, H7.out.1, H7.out.2⟩
end Go.Proofs.YthpgdpkemnhneaaGreatDoor

namespace Go.Proofs.YthpgdpkemnhneaaGreatDoor
open Go.RowKit Go.Shelf
set_option linter.unusedVariables false
set_option maxRecDepth 10000

theorem shr_all {xs : List Nat} (hw : Ws xs) {n q r s : Nat} (hn : xs.length = n) (hs : s = 64 * q + r) (h : n ≤ q) : V xs / 2 ^ s = 0 := by
  rw [Nat.div_eq_of_lt]
  refine Nat.lt_of_lt_of_le (V_lt _ hw) ?_
  rw [hs, Nat.pow_add, Nat.pow_mul, show (2 : Nat) ^ 64 = B64 from rfl, hn]
  exact Nat.le_trans (Nat.pow_le_pow_right B64_pos h) (Nat.le_mul_of_pos_right _ (Nat.pow_pos (by decide)))

set_option maxHeartbeats 1000000 in
theorem R2Right_ok (A : Option Addr) (n c : Nat) (xs : List Nat) (s : Nat) (w : World) (hn : n ≤ 4096) (hs : s ≤ 9223372036854775807) (hx : Sl w A n c xs) :
    Calls Tryz.prog 16 #[.slice A n c, .int .i64 s] w fun e w' => Rv w w' e (V xs / 2 ^ s) := by
  have Hx := Lib.hid hx
  obtain ⟨q, r, hqr, hr, hq1, hq2, hr1, hr2⟩ : ∃ q r : Nat, s = 64 * q + r ∧ r ≤ 63 ∧ (s : Int).tdiv 64 = (q : Int) ∧ (s : Int) / 64 = (q : Int) ∧ (s : Int).tmod 64 = (r : Int) ∧ (s : Int) % 64 = (r : Int) :=
    ⟨s / 64, s % 64, by omega, by omega, by rw [Int.tdiv_eq_ediv_of_nonneg (by omega)]; omega, by omega, by rw [Int.tmod_eq_emod_of_nonneg (by omega)]; omega, by omega⟩
  have hqw : IntKind.i64.wrap (q : Int) = (q : Int) := IntWalk.i64_in _ (by omega)
  have hnc := hx.2.1
  have HS := Lib.hid (And.intro hs (And.intro hqr hx.1))
  clear hx hs hqr
  rcases Nat.lt_or_ge q n with hqn | hqn
  · have hcq : ¬ c = q := by omega
    have hqi : ¬ (n : Int) ≤ (q : Int) := by omega
    go_enter Tryz.func16, Tryz.ntmps16
    go_wp2_with (fail)
    refine (RRight_ok _ _ _ (xs.drop q) r w (by omega) (by have h := Hx.out.dp (k := q) (by omega); rw [if_neg hcq] at h; exact h) hr).mono ?_
    rintro e w2 ⟨v2, zs, d, rfl, hd, hnw, hv, hb2⟩
    have hval := shr_value Hx.out.2.2.2.1 HS.out.2.2 HS.out.2.1 (by omega) hv hd
    obtain ⟨A2, c2, rfl, hs2⟩ := hnw.sl
    have H2 := Lib.hid (And.intro hs2 (And.intro hval hb2))
    have hdw : d < B64 := Nat.lt_of_lt_of_le hd (Nat.le_of_lt (pow_lt r hr))
    clear hs2 hv hnw hb2 hval
    go_wp2_with (fail)
    refine (RTrim_ok A2 _ c2 zs w2 (by omega) H2.out.1).mono ?_
    rintro e w6 hR
    obtain ⟨v, rfl, h7, hb7⟩ := hR.from H2.out.2.2
    rw [H2.out.2.1] at h7
    have H7 := Lib.hid (And.intro h7 hb7)
    clear h7 hb7 hR
    go_wp2_with (fail)
    go_ret
    exact ⟨v, rfl, H7.out.1, H7.out.2⟩
  · have hqi : (n : Int) ≤ (q : Int) := by omega
    go_enter Tryz.func16, Tryz.ntmps16
    go_wp2_with (fail)
    go_ret
    exact ⟨_, rfl, by rw [shr_all Hx.out.2.2.2.1 Hx.out.1 HS.out.2.1 hqn]; exact Nt.nil _ _, Below.refl _ _⟩
end Go.Proofs.YthpgdpkemnhneaaGreatDoor
