/-
  Texts of my own, put together: Y15, Y16, Y17, D1, G1, G2, G3.
-/
import Derived.Test.YtgkolikpojpffaaDoorGrLimbReckons28
set_option linter.unusedSimpArgs false
set_option linter.unusedVariables false
set_option maxRecDepth 100000
namespace Go.Am.Seat
open Go.Proofs Go.Am
-- ntmps 11
-- ntmps 2
theorem NumR.b {m m' : Mem} {v : Value} {r : Nat} (h : NumR m v m' r) : NumB m.length v m' r := by
  rcases h with ⟨rfl, rfl, rfl⟩ | ⟨L, n, h1, h2, rfl, rfl, hne⟩
  . exact .inl ⟨rfl, rfl⟩
  . exact .inr ⟨L, n, m.length, false, h1, h2, Nat.le_refl _, rfl, by simp, hne⟩
def Kept (m m' : Mem) : Prop := m.length ≤ m'.length /\ ∀ k, k < m.length -> m'[k]? = m[k]?
theorem Kept.refl (m : Mem) : Kept m m := ⟨Nat.le_refl _, fun _ _ => rfl⟩
theorem Kept.trans {a b c : Mem} (h : Kept a b) (h' : Kept b c) : Kept a c := ⟨Nat.le_trans h.1 h'.1, fun k hk => (h'.2 k (by have := h.1; omega)).trans (h.2 k hk)⟩
theorem NumR.keeps {m m' : Mem} {v : Value} {r : Nat} (h : NumR m v m' r) : Kept m m' := ⟨by
  rcases h with ⟨rfl, rfl, rfl⟩ | ⟨L, n, h1, h2, rfl, rfl, hne⟩
  . exact Nat.le_refl _
  . simp, h.kept⟩
theorem Kept.app (m nb : Mem) : Kept m (m ++ nb) := ⟨by simp, fun k hk => List.getElem?_append_left hk⟩
theorem NumA.on {m m' : Mem} {v : Value} {l : List Nat} (h : NumA m v l) (hk : Kept m m') : NumA m' v l := h.keep hk.2
def NumO (m : Mem) (nb : List Blk) (ow : List Nat) (j : Nat) (v : Value) (x : Nat) : Prop :=
  (v = .slice none 0 0 /\ x = 0) ∨ (NumA m v (dig x) /\ NumIn m.length v) ∨
  ∃ (L : List Nat) (n k : Nat), n ≤ L.length /\ L.take n = dig x /\ v = .slice (some ⟨m.length + k, 0, none⟩) n L.length /\ nb[k]? = some (.row false 3 (cellsN L)) /\ ow[k]? = some j /\ L ≠ []
def NumN (m : Mem) (nb : List Blk) (ow : List Nat) (j : Nat) (v : Value) (x : Nat) : Prop := (v = .slice none 0 0 /\ x = 0) ∨
  ∃ (L : List Nat) (n k : Nat), n ≤ L.length /\ L.take n = dig x /\ v = .slice (some ⟨m.length + k, 0, none⟩) n L.length /\ nb[k]? = some (.row false 3 (cellsN L)) /\ ow[k]? = some j /\ L ≠ []
theorem NumN.o {m : Mem} {nb : List Blk} {ow : List Nat} {j : Nat} {v : Value} {x : Nat} (h : NumN m nb ow j v x) : NumO m nb ow j v x := h.elim .inl fun h => .inr (.inr h)
theorem NumN.b {m : Mem} {nb : List Blk} {ow : List Nat} {j : Nat} {v : Value} {x : Nat} (h : NumN m nb ow j v x) : NumB m.length v (m ++ nb) x := by
  rcases h with ⟨rfl, rfl⟩ | ⟨L, n, k, h1, h2, rfl, h4, h5, hne⟩
  . exact .inl ⟨rfl, rfl⟩
  . refine .inr ⟨L, n, m.length + k, false, h1, h2, by omega, rfl, ?_, hne⟩
    rw [List.getElem?_append_right (by omega), Nat.add_sub_cancel_left]
    exact h4
def US (nb : List Blk) (ow : List Nat) : Prop := nb.length = ow.length /\ ∀ b ∈ nb, ∃ ro e cs, b = Blk.row ro e cs /\ cs.all lit0 = true
theorem US.nil : US [] [] := ⟨rfl, fun b hb => by cases hb⟩
theorem NumO.old {m : Mem} {nb : List Blk} {ow : List Nat} {j : Nat} {v : Value} {x : Nat} (h : NumA m v (dig x)) (hi : NumIn m.length v) : NumO m nb ow j v x := .inr (.inl ⟨h, hi⟩)
theorem NumO.more {m : Mem} {nb bs : List Blk} {ow os : List Nat} {j : Nat} {v : Value} {x : Nat} (h : NumO m nb ow j v x) : NumO m (nb ++ bs) (ow ++ os) j v x := by
  rcases h with h | h | ⟨L, n, k, h1, h2, h3, h4, h5, hne⟩
  . exact .inl h
  . exact .inr (.inl h)
  . refine .inr (.inr ⟨L, n, k, h1, h2, h3, ?_, ?_, hne⟩)
    . rw [List.getElem?_append_left (List.getElem?_eq_some_iff.1 h4).1]; exact h4
    . rw [List.getElem?_append_left (List.getElem?_eq_some_iff.1 h5).1]; exact h5
theorem mask_len {ops : Array Oper} {i : Nat} {nb : List Blk} {ow : List Nat} (h : nb.length = ow.length) : (maskN ops i nb ow).length = nb.length := by
  unfold maskN
  rw [List.length_map, List.length_zip]
  omega
theorem mask_get {ops : Array Oper} {i k j : Nat} {nb : List Blk} {ow : List Nat} {b : Blk} (h1 : nb[k]? = some b) (h2 : ow[k]? = some j) (hc : chainB ops 4 i j = true) : (maskN ops i nb ow)[k]? = some b := by
  unfold maskN
  have hz : (List.zip nb ow)[k]? = some (b, j) := List.getElem?_zip_eq_some.2 ⟨h1, h2⟩
  rw [List.getElem?_map, hz]
  simp [hc]
theorem NumO.at {ops : Array Oper} {i : Nat} {m : Mem} {nb : List Blk} {ow : List Nat} {j : Nat} {v : Value} {x : Nat} (h : NumO m nb ow j v x) (hc : chainB ops 4 i j = true) : NumA ((m ++ maskN ops i nb ow).map Am.sealed) v (dig x) /\ belowP (pW ops i m.length ow) 4 v = true := by
  rcases h with ⟨rfl, rfl⟩ | ⟨h1, h2⟩ | ⟨L, n, k, h1, h2, rfl, h4, h5, hne⟩
  . rw [dig_zero]; exact ⟨NumA.nil _, rfl⟩
  . exact ⟨(h1.keep fun k hk => List.getElem?_append_left hk).sealed, h2.below fun k hk => by unfold pW; simp [hk]⟩
  . refine ⟨?_, ?_⟩
    . rw [← h2]
      refine (NumA.row (ro := false) ?_ h1).sealed
      rw [List.getElem?_append_right (by omega), Nat.add_sub_cancel_left]
      exact mask_get h4 h5 hc
    . show pW ops i m.length ow (m.length + k) = true
      unfold pW
      rw [Nat.add_sub_cancel_left, h5]
      simp [hc]
theorem NumO.end {m : Mem} {nb : List Blk} {ow : List Nat} {j : Nat} {v : Value} {x : Nat} (h : NumO m nb ow j v x) : NumA (m ++ nb) v (dig x) /\ NumIn (m ++ nb).length v := by
  rcases h with ⟨rfl, rfl⟩ | ⟨h1, h2⟩ | ⟨L, n, k, h1, h2, rfl, h4, h5, hne⟩
  . rw [dig_zero]; exact ⟨NumA.nil _, .inl rfl⟩
  . exact ⟨h1.keep fun k hk => List.getElem?_append_left hk, h2.mono (by simp)⟩
  . have := (List.getElem?_eq_some_iff.1 h4).1
    refine ⟨?_, .inr ⟨_, _, _, rfl, by simp; omega⟩⟩
    rw [← h2]
    refine NumA.row (ro := false) ?_ h1
    rw [List.getElem?_append_right (by omega), Nat.add_sub_cancel_left]
    exact h4
theorem lit0_below (p : Nat -> Bool) {c : Value} (h : lit0 c = true) : belowP p 4 c = true := by
  cases c with
  | pointer a => cases a with
    | none => rfl
    | some a => cases h
  | slice a l c => cases a with
    | none => rfl
    | some a => cases h
  | func f a b =>
    simp only [lit0, Bool.and_eq_true] at h
    have h1 : a = #[] := Array.toList_eq_nil_iff.1 (List.isEmpty_iff.1 h.1)
    have h2 : b = #[] := Array.toList_eq_nil_iff.1 (List.isEmpty_iff.1 h.2)
    subst h1; subst h2
    rfl
  | iface t v => simp [lit0] at h
  | agg c => simp [lit0] at h
  | tuple c => simp [lit0] at h
  | _ => exact h
theorem US.rows {ops : Array Oper} {i : Nat} {nb : List Blk} {ow : List Nat} (h : US nb ow) (p : Nat -> Bool) : rowsP p (maskN ops i nb ow) = true := by
  unfold rowsP maskN
  rw [List.all_map, List.all_eq_true]
  intro q hq
  obtain ⟨b, j⟩ := q
  have hb := (List.of_mem_zip hq).1
  obtain ⟨ro, e, cs, rfl, hc⟩ := h.2 b hb
  simp only [Function.comp]
  by_cases hj : chainB ops 4 i j = true
  . simp only [hj, if_true]
    rw [List.all_eq_true] at hc ⊢
    intro c hm
    exact lit0_below p (hc c hm)
  . simp only [hj]
    rfl
theorem US.add {nb bs : List Blk} {ow : List Nat} {i : Nat} (h : US nb ow) (hb : ∀ b ∈ bs, ∃ ro e cs, b = Blk.row ro e cs /\ cs.all lit0 = true) : US (nb ++ bs) (ow ++ List.replicate bs.length i) :=
  ⟨by rw [List.length_append, List.length_append, List.length_replicate, h.1], fun b hm => (List.mem_append.1 hm).elim (h.2 b) (hb b)⟩
section
variable {self : Self} {ops : Array Oper} {m : Mem} {o : Oper} {l : List Oper} {i c : Nat} {T : List Value} {nb : List Blk} {ow : List Nat} {v : Value}
theorem u_num {r : Nat} (us : US nb ow) (hg : agd ops T o = some true) (hok : okOp E.P o.op = true) (hc : cls E.P E.wr o = c + 1) (hp : opsP (pW ops i m.length ow) T o = true) (hw : isW E.P E.wr ops i = true)
    (hs : ∃ v M', astep E self T ((m ++ maskN ops i nb ow).map Am.sealed) o = some (v, M') /\ NumR ((m ++ maskN ops i nb ow).map Am.sealed) v M' r) :
    ∃ v' nb' ow', amkUT E self ops m (o :: l) i T nb ow = amkUT E self ops m l (i + 1) (aput T o.dst v') nb' ow' /\ NumN m nb' ow' i v' r /\ US nb' ow' /\ ∀ j u x, NumO m nb ow j u x -> NumO m nb' ow' j u x := by
  obtain ⟨v, M', h1, h2⟩ := hs
  have hl : ((m ++ maskN ops i nb ow).map Am.sealed).length = m.length + nb.length := by rw [List.length_map, List.length_append, mask_len us.1]
  obtain ⟨bs, h3, h4, h5⟩ := num_at2 h2
  rw [hl] at h3
  refine ⟨v, nb ++ bs, ow ++ List.replicate bs.length i, u_make hg hok hc hp (us.rows _) h1 h3 (by rw [hw, Bool.or_true]), ?_, us.add ?_, fun j u x h => h.more⟩
  . rcases h2 with ⟨rfl, rfl, rfl⟩ | ⟨L, n, q1, q2, rfl, rfl, hne⟩
    . exact .inl ⟨rfl, rfl⟩
    . have e1 : bs = [.row false 3 (cellsN L)] := by
        have := acollAt_new (ro := false) (e := 3) (cs := cellsN L) (m1 := (m ++ maskN ops i nb ow).map Am.sealed ++ [.row false 3 (cellsN L)]) (n := m.length + nb.length) (N := m.length + nb.length) (b := ((m ++ maskN ops i nb ow).map Am.sealed).length) (o := 0) (k := n) (c := L.length) (by rw [hl]; exact Nat.le_refl _) (by simp) (cellsN_lits L)
        rw [this] at h3
        simp only [Option.some.injEq, Prod.mk.injEq] at h3
        exact h3.2.symm
      subst e1
      refine .inr ⟨L, n, nb.length, q1, q2, by rw [hl], by simp, ?_, hne⟩
      rw [us.1, List.getElem?_append_right (Nat.le_refl _), Nat.sub_self]
      rfl
  . intro b hb
    rcases h4 with rfl | ⟨L, rfl⟩
    . cases hb
    . simp only [List.mem_cons, List.not_mem_nil, or_false] at hb
      exact ⟨_, _, _, hb, cellsN_lits L⟩
theorem u_lit {M' : Mem} (us : US nb ow) (hg : agd ops T o = some true) (hok : okOp E.P o.op = true) (hc : cls E.P E.wr o = c + 1) (hp : opsP (pW ops i m.length ow) T o = true)
    (hs : astep E self T ((m ++ maskN ops i nb ow).map Am.sealed) o = some (v, M')) (hv : lit2 v = true) :
    amkUT E self ops m (o :: l) i T nb ow = amkUT E self ops m l (i + 1) (aput T o.dst v) nb ow := by
  rw [u_make hg hok hc hp (us.rows _) hs (acollAt_lit hv) rfl]
  simp
end
def Ends2 (q : List Value -> List Blk -> Prop) (r : Option (List Value × List Blk)) : Prop := ∃ T nb, r = some (T, nb) /\ q T nb
section
variable {q : List Value -> List Blk -> Prop} {self : Self} {ops : Array Oper} {m : Mem} {o : Oper} {l : List Oper} {i : Nat} {T : List Value} {nb : List Blk} {ow : List Nat}
theorem k_float (v : Value) (hg : agd ops T o = some true) (hok : okOp E.P o.op = true) (hc : cls E.P E.wr o = 0) (hf : afloat E.P T o = some v) (h : Ends2 q (amkUT E self ops m l (i + 1) (aput T o.dst v) nb ow)) : Ends2 q (amkUT E self ops m (o :: l) i T nb ow) := by
  rw [u_float hg hok hc hf]; exact h
theorem k_numN (c r : Nat) (us : US nb ow) (hg : agd ops T o = some true) (hok : okOp E.P o.op = true) (hc : cls E.P E.wr o = c + 1) (hw : isW E.P E.wr ops i = true) (hp : opsP (pW ops i m.length ow) T o = true)
    (hs : ∃ v M', astep E self T ((m ++ maskN ops i nb ow).map Am.sealed) o = some (v, M') /\ NumR ((m ++ maskN ops i nb ow).map Am.sealed) v M' r)
    (h : ∀ v' nb' ow', NumN m nb' ow' i v' r -> US nb' ow' -> (∀ j u x, NumO m nb ow j u x -> NumO m nb' ow' j u x) -> Ends2 q (amkUT E self ops m l (i + 1) (aput T o.dst v') nb' ow')) : Ends2 q (amkUT E self ops m (o :: l) i T nb ow) := by
  obtain ⟨v', nb', ow', e, n, us', k⟩ := u_num (l := l) us hg hok hc hp hw hs
  rw [e]; exact h v' nb' ow' n us' k
theorem k_lit (c : Nat) {v : Value} {M' : Mem} (us : US nb ow) (hg : agd ops T o = some true) (hok : okOp E.P o.op = true) (hc : cls E.P E.wr o = c + 1) (hp : opsP (pW ops i m.length ow) T o = true)
    (hs : astep E self T ((m ++ maskN ops i nb ow).map Am.sealed) o = some (v, M')) (hv : lit2 v = true) (h : Ends2 q (amkUT E self ops m l (i + 1) (aput T o.dst v) nb ow)) : Ends2 q (amkUT E self ops m (o :: l) i T nb ow) := by
  rw [u_lit us hg hok hc hp hs hv]; exact h
theorem k_end (h : q T nb) : Ends2 q (amkUT E self ops m [] i T nb ow) := ⟨T, nb, rfl, h⟩
end
theorem digAt (j : Nat) : ∀ x : Nat, (dig x).getD j 0 = x / 256 ^ j % 256 := by
  induction j with
  | zero =>
    intro x
    by_cases h : x = 0
    . subst h; rw [dig_zero]; rfl
    . rw [dig_pos h, Nat.pow_zero, Nat.div_one]; rfl
  | succ j ih =>
    intro x
    by_cases h : x = 0
    . subst h; rw [dig_zero, Nat.zero_div]; rfl
    . rw [dig_pos h, List.getD_cons_succ, ih, Nat.div_div_eq_div_mul, Nat.pow_succ, Nat.mul_comm]
theorem low_bit (a r : Nat) (hr : r < 8) : a % 256 / 2 ^ r % 2 = a / 2 ^ r % 2 := by
  rcases (by omega : r = 0 ∨ r = 1 ∨ r = 2 ∨ r = 3 ∨ r = 4 ∨ r = 5 ∨ r = 6 ∨ r = 7) with rfl | rfl | rfl | rfl | rfl | rfl | rfl | rfl <;> omega
theorem p256 (j : Nat) : 256 ^ j = 2 ^ (8 * j) := by rw [Nat.pow_mul]
theorem dig_bit (x i : Nat) : (dig x).getD (i / 8) 0 / 2 ^ (i % 8) % 2 = x / 2 ^ i % 2 := by
  rw [digAt, low_bit _ _ (by omega), Nat.div_div_eq_div_mul, p256, ← Nat.pow_add, show 8 * (i / 8) + i % 8 = i by omega]
theorem bit_over {x i : Nat} (h : (dig x).length ≤ i / 8) : x / 2 ^ i % 2 = 0 := by
  have h1 := lt_dig_len x
  have h2 : x < 2 ^ i := Nat.lt_of_lt_of_le h1 (by rw [p256]; exact Nat.pow_le_pow_right (by omega) (by omega))
  rw [Nat.div_eq_of_lt h2]
section
variable {self : Self} {nf : Nat} {m : Mem}
theorem rbitA_body {v : Value} {x i : Nat} (hA : NumA m v (dig x)) (hi : i < 100000) (hf : 10 < nf) :
    abody E self nf 45 [v, .int .i64 (i : Nat)] m = some (.int .i64 ((x / 2 ^ i % 2 : Nat) : Int), m) := by
  rw [abody_eqF (by kernel_rfl) Tryd.func45 bodyrbt (by kernel_rfl) (Nat.le_of_ble_eq_true rfl)]
  rw [show Tryd.f45.ntmps = 31 from rfl]
  have hlen := hA.1
  have d1 : decide (((i : Nat) : Int) < 0) = false := decide_eq_false (by omega)
  have e1 : wrapF .i64 (((i : Nat) : Int).tdiv 8) = ((i / 8 : Nat) : Int) := by rw [Int.tdiv_eq_ediv_of_nonneg (by omega), wrap_i64 (by omega) (by omega)]; omega
  by_cases h2 : (dig x).length ≤ i / 8
  . have d2 : decide (((i / 8 : Nat) : Int) ≥ (((dig x).length : Nat) : Int)) = true := decide_eq_true (by omega)
    rw [bit_over h2]
    simp only [erbt_0, erbt_1, erbt_2, lrbt_0, lrbt_1, lrbt_2, grbt_1_2, agd_none, gdAt, gdV_bool, Tryd.f45, acodeN, aopsN, astep, aop, ev, nth_lst, get_lst, aput, setAt_lst, upd_at, init_zero, init_succ, init_nil, Nat.reduceLT, Nat.reduceEqDiff, len_N, Option.map_some, Bool.false_eq_true, if_true, if_false, beq_self_eq_true, lss64, geq64, quo8, e1, d1, d2, hlen, finish, ares, aresL, ares1]
    rfl
  . have d2 : decide (((i / 8 : Nat) : Int) ≥ (((dig x).length : Nat) : Int)) = false := decide_eq_false (by omega)
    have hlt : i / 8 < (dig x).length := by omega
    have hg : (dig x)[i / 8]? = some ((dig x).getD (i / 8) 0) := by rw [List.getD_eq_getElem?_getD, List.getElem?_eq_getElem hlt]; rfl
    have hx9 : (dig x).getD (i / 8) 0 < 256 := dig_lt x _ (List.mem_of_getElem? hg)
    obtain ⟨b, o, i1, c1⟩ := hA.2 _ _ hg
    have hrm : ((i : Nat) : Int).tmod 8 = ((i % 8 : Nat) : Int) := by rw [Int.tmod_eq_emod_of_nonneg (by omega)]; omega
    rw [← dig_bit]
    generalize (dig x).getD (i / 8) 0 = d at *
    have hloop := aloop_inv (body := acodeN E self nf lprbt_0) (N := i % 8)
      (I := fun k T m' => m' = m /\ ∃ G, T = lst G 31 /\ G 1 = .int .i64 ((i : Nat) : Int) /\ G 5 = .int .i64 ((d / 2 ^ k : Nat) : Int) /\ G 6 = .int .i64 (k : Nat))
      (Q := fun e T m' => e = .exit 0 /\ m' = m /\ ∃ G, T = lst G 31 /\ G 5 = .int .i64 ((d / 2 ^ (i % 8) : Nat) : Int)) (fun k T m' hk hI => by
        obtain ⟨rfl, G, rfl, g1, g5, g6⟩ := hI
        by_cases hlt : k < i % 8
        . left
          obtain ⟨F', hr, f1, f5, f6⟩ := iterRbt (self := self) (nf := nf) (m := m') g1 g5 g6 hrm hlt (by omega) (Nat.lt_of_le_of_lt (Nat.div_le_self _ _) (by omega))
          refine ⟨_, _, hr, hlt, rfl, F', rfl, by rw [f1, g1], ?_, f6⟩
          rw [f5, Nat.div_div_eq_div_mul, Nat.pow_succ]
        . right
          have hke : k = i % 8 := by omega
          subst hke
          obtain ⟨F', hr, f5⟩ := lastRbt (self := self) (nf := nf) (m := m') g1 g6 hrm (Nat.le_refl _)
          exact ⟨_, _, _, hr, by simp, rfl, rfl, F', rfl, by rw [f5, g5]⟩)
    have e9 : (((d / 2 ^ (i % 8) : Nat) : Int)).tmod 2 = ((d / 2 ^ (i % 8) % 2 : Nat) : Int) := by rw [Int.tmod_eq_emod_of_nonneg (Int.natCast_nonneg _)]; rfl
    obtain ⟨e, T', m', hr, rfl, rfl, G, rfl, g5⟩ := hloop (i % 8) 0 nf (lst (upd (upd (upd (upd (upd (upd (upd (upd (upd (upd (upd (upd (upd (upd (upd (upd (upd (init [v, .int .i64 ((i : Nat) : Int)]) 4 (.int .i64 0)) 7 (.int .i64 ((i : Nat) : Int))) 8 (.bool false)) 9 (.bool false)) 10 (.int .i64 ((i : Nat) : Int))) 11 (.int .i64 ((i / 8 : Nat) : Int))) 12 v) 13 (.int .i64 (((dig x).length : Nat) : Int))) 14 (.bool false)) 15 (.bool false)) 16 v) 17 (.int .i64 ((i : Nat) : Int))) 18 (.int .i64 ((i / 8 : Nat) : Int))) 19 (.pointer (some ⟨b, o, none⟩))) 20 (.int .i64 ((d : Nat) : Int))) 5 (.int .i64 ((d : Nat) : Int))) 6 (.int .i64 0)) 31) m (by omega) (by omega) ⟨rfl, _, rfl, rfl, by rw [Nat.pow_zero, Nat.div_one]; rfl, rfl⟩
    simp only [erbt_0, erbt_1, erbt_3, erbt_4, erbt_8, lrbt_0, lrbt_1, lrbt_3, lrbt_4, lrbt_8, grbt_1_2, agd_none, gdAt, gdV_bool, Tryd.f45, acodeN, aopsN, astep, aop, ev, nth_lst, get_lst, aput, setAt_lst, upd_at, init_zero, init_succ, init_nil, Nat.reduceLT, Nat.reduceEqDiff, len_N, Option.map_some, Bool.false_eq_true, if_true, if_false, beq_self_eq_true, lss64, geq64, quo8, e1, d1, d2, hlen, i1, load3, c1, hr, g5, rem2, e9, finish, ares, aresL, ares1]
end
def CBit (self : Self) : Prop := ∀ (m : Mem) (a : Value) (x i : Nat), NumA m a (dig x) -> i < 100000 -> ainv E self 45 [a, .int .i64 (i : Nat)] m = some (.int .i64 ((x / 2 ^ i % 2 : Nat) : Int), m)
theorem cbit {R : Nat -> Self} {K : List Fact} (hR : Runs R K) {n : Nat} (hK : hasF K 45 = false) (hn : 1000 ≤ n) : CBit (R (n + 1)) := by
  intro m a x i ha hi
  by_cases hl : ([a, .int .i64 ((i : Nat) : Int)].all lit2) = true
  . have hl9 := hl
    simp only [List.all_cons, List.all_nil, Bool.and_true, Bool.and_eq_true] at hl9
    obtain ⟨rfl, h1⟩ := ha.lit hl9.1
    have hb := rbitA_body (self := (R n)) (nf := n + 1) (m := (m.take E.G).map onlyTab) (v := .slice none 0 0) (x := x) (i := i) (by rw [h1]; exact NumA.nil _) hi (by omega)
    exact ainv_lit hl (by kernel_rfl) (hR.b hK hb) rfl
  . have hb := rbitA_body (self := (R n)) (nf := n + 1) ha.sealed hi (by omega)
    exact ainv_look (by simpa using hl) (by kernel_rfl) (hR.b hK hb) rfl
-- ntmps 41
theorem lowF : ∀ p : Nat -> Bool, ∀ g, belowP p 4 (.func (.func g) #[] #[]) = true := fun _ _ => rfl
theorem ix27o {b o L c j : Nat} (h : j < L) : aindexAddr E.P 27 (.slice (some ⟨b, o, none⟩) L c) (.int .i64 (j : Nat)) = some (.pointer (some ⟨b, o + j, none⟩)) := by
  obtain ⟨i, h1, h2⟩ := info3
  unfold aindexAddr
  simp only [und27, h1]
  rw [if_pos (by omega)]
  simp [h2]
theorem NumA.rowAt {m : Mem} {b o n c : Nat} {ro : Bool} {L : List Nat} (h : m[b]? = some (.row ro 3 (cellsN L))) (hn : o + n ≤ L.length) : NumA m (.slice (some ⟨b, o, none⟩) n c) ((L.drop o).take n) := by
  refine ⟨by simp only [lenV, List.length_take, List.length_drop, Nat.min_eq_left (show n ≤ L.length - o by omega)], fun i x hx => ⟨b, o + i, ?_, ?_⟩⟩
  . have hi : i < n := by
      have := (List.getElem?_eq_some_iff.1 hx).1
      rw [List.length_take] at this
      omega
    exact ix27o hi
  . have hi : i < n := by
      have := (List.getElem?_eq_some_iff.1 hx).1
      rw [List.length_take] at this
      omega
    rw [List.getElem?_take, if_pos hi, List.getElem?_drop] at hx
    rw [cellAt_row h, cellsN_get hx]
def NumW (m : Mem) (b : Nat) (ro : Bool) (L : List Nat) (n x : Nat) : Prop := n ≤ L.length /\ L.take n = dig x /\ m[b]? = some (.row ro 3 (cellsN L)) /\ L ≠ []
theorem NumW.parts {m : Mem} {b n x : Nat} {ro : Bool} {L : List Nat} (h : NumW m b ro L n x) (hn : 32 < n) : NumA m (.slice (some ⟨b, 0, none⟩) 32 32) ((dig x).take 32) /\ NumA m (.slice (some ⟨b, 32, none⟩) (n - 32) (L.length - 32)) (dig (x / 256 ^ 32)) /\ val ((dig x).take 32) = x % 256 ^ 32 := by
  obtain ⟨h1, h2, h3, _⟩ := h
  have hl : (dig x).length = n := by rw [← h2, List.length_take, Nat.min_eq_left h1]
  refine ⟨?_, ?_, ?_⟩
  . have := NumA.row (n := 32) (c := 32) h3 (by omega)
    have e : L.take 32 = (dig x).take 32 := by rw [← h2, List.take_take, Nat.min_eq_left (by omega)]
    rw [e] at this
    exact this
  . have := NumA.rowAt (o := 32) (n := n - 32) (c := L.length - 32) h3 (by omega)
    have e : (L.drop 32).take (n - 32) = dig (x / 256 ^ 32) := by
      have e1 : (L.drop 32).take (n - 32) = (dig x).drop 32 := by rw [← h2, List.drop_take]
      rw [e1]
      have e2 := val_drop (dig_lt x) (k := 32) (by omega)
      rw [val_dig] at e2
      rw [← e2]
      refine (dig_val (fun y hy => dig_lt x y (List.mem_of_mem_drop hy)) ?_).symm
      right
      rcases dig_last x with h0 | ⟨z, hz, hz2⟩
      . rw [h0] at hl; simp at hl; omega
      . refine ⟨z, hz, ?_⟩
        rw [List.length_drop, List.getElem?_drop, show 32 + ((dig x).length - 32 - 1) = (dig x).length - 1 by omega]
        exact hz2
    rw [e] at this
    exact this
  . rw [val_take (dig_lt x), val_dig]
def NumS (m : Mem) (v : Value) (x : Nat) : Prop := (v = .slice none 0 0 /\ x = 0) ∨ ∃ (b : Nat) (ro : Bool) (L : List Nat) (n : Nat), v = .slice (some ⟨b, 0, none⟩) n L.length /\ NumW m b ro L n x
theorem NumS.a {m : Mem} {v : Value} {x : Nat} (h : NumS m v x) : NumA m v (dig x) := by
  rcases h with ⟨rfl, rfl⟩ | ⟨b, ro, L, n, rfl, h1, h2, h3, hne⟩
  . rw [dig_zero]; exact NumA.nil _
  . rw [← h2]; exact NumA.row h3 h1
theorem NumS.on {m m' : Mem} {v : Value} {x : Nat} (h : NumS m v x) (hk : Kept m m') : NumS m' v x := by
  rcases h with h | ⟨b, ro, L, n, rfl, h1, h2, h3, hne⟩
  . exact .inl h
  . exact .inr ⟨b, ro, L, n, rfl, h1, h2, by rw [hk.2 b (List.getElem?_eq_some_iff.1 h3).1]; exact h3, hne⟩
theorem NumS.sealed {m : Mem} {v : Value} {x : Nat} (h : NumS m v x) : NumS (m.map Am.sealed) v x := by
  rcases h with h | ⟨b, ro, L, n, rfl, h1, h2, h3, hne⟩
  . exact .inl h
  . exact .inr ⟨b, true, L, n, rfl, h1, h2, by rw [List.getElem?_map, h3]; rfl, hne⟩
theorem NumB.s {m : Mem} {B : Nat} {v : Value} {x : Nat} (h : NumB B v m x) : NumS m v x := by
  rcases h with h | ⟨L, n, b, ro, h1, h2, h3, rfl, h5, hne⟩
  . exact .inl h
  . exact .inr ⟨b, false, L, n, rfl, h1, h2, h5, hne⟩
theorem NumR.s {m m' : Mem} {v : Value} {x : Nat} (h : NumR m v m' x) : NumS m' v x := h.b.s
theorem NumS.len {m : Mem} {v : Value} {x : Nat} (h : NumS m v x) : lenV v = some (((dig x).length : Nat) : Int) := h.a.1
section
variable {self : Self} {nf : Nat} {m : Mem} {F : Nat -> Value}
end
end Go.Am.Seat
