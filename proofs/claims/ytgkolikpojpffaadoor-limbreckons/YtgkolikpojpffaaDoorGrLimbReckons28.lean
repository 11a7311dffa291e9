/-
  Texts of my own, put together: Y10, K6, Y11, Y12, Y13, Y14.
-/
import Derived.Test.YtgkolikpojpffaaDoorGrLimbReckons27
import Derived.Test.YtgkolikpojpffaaDoorGrLimbReckons8
set_option linter.unusedSimpArgs false
set_option linter.unusedVariables false
set_option maxRecDepth 100000
namespace Go.Am.Seat
open Go.Proofs Go.Am
noncomputable def rrsub_0 := opR Tryd.f16 [0]
noncomputable def lrsub_0 : List Oper := match Tryd.f16.body with
  | some (.seq (.region _ o _) _) => o.toList
  | _ => []
theorem ersub_0 : rrsub_0.toList = lrsub_0 := rfl
noncomputable def rrsub_1 := opR Tryd.f16 [1,0]
noncomputable def lrsub_1 : List Oper := match Tryd.f16.body with
  | some (.seq _ (.seq (.region _ o _) _)) => o.toList
  | _ => []
theorem ersub_1 : rrsub_1.toList = lrsub_1 := rfl
noncomputable def rrsub_2 := opR Tryd.f16 [1,1,0]
noncomputable def lrsub_2 : List Oper := match Tryd.f16.body with
  | some (.seq _ (.seq _ (.seq (.region _ o _) _))) => o.toList
  | _ => []
theorem ersub_2 : rrsub_2.toList = lrsub_2 := rfl
noncomputable def rrsub_3 := opR Tryd.f16 [1,1,1,0,0]
noncomputable def lrsub_3 : List Oper := match Tryd.f16.body with
  | some (.seq _ (.seq _ (.seq _ (.seq (.seq (.region _ o _) _) _)))) => o.toList
  | _ => []
theorem ersub_3 : rrsub_3.toList = lrsub_3 := rfl
noncomputable def lprsub_0 : Code := match Tryd.f16.body with
  | some (.seq _ (.seq _ (.seq _ (.seq (.seq _ (.block _ (.loop c))) _)))) => c
  | _ => .skip
noncomputable def rrsub_4 := opR Tryd.f16 [1,1,1,0,1,0,0,0,0]
noncomputable def lrsub_4 : List Oper := match Tryd.f16.body with
  | some (.seq _ (.seq _ (.seq _ (.seq (.seq _ (.block _ (.loop (.seq (.seq (.region _ o _) _) _)))) _)))) => o.toList
  | _ => []
theorem ersub_4 : rrsub_4.toList = lrsub_4 := rfl
noncomputable def rrsub_6 := opR Tryd.f16 [1,1,1,0,1,0,0,1,0,0,0]
noncomputable def lrsub_6 : List Oper := match Tryd.f16.body with
  | some (.seq _ (.seq _ (.seq _ (.seq (.seq _ (.block _ (.loop (.seq _ (.seq (.block _ (.seq (.region _ o _) _)) _))))) _)))) => o.toList
  | _ => []
theorem ersub_6 : rrsub_6.toList = lrsub_6 := rfl
noncomputable def rrsub_7 := opR Tryd.f16 [1,1,1,0,1,0,0,1,0,0,1,0,0]
noncomputable def lrsub_7 : List Oper := match Tryd.f16.body with
  | some (.seq _ (.seq _ (.seq _ (.seq (.seq _ (.block _ (.loop (.seq _ (.seq (.block _ (.seq _ (.seq (.seq (.region _ o _) _) _))) _))))) _)))) => o.toList
  | _ => []
theorem ersub_7 : rrsub_7.toList = lrsub_7 := rfl
noncomputable def rrsub_8 := opR Tryd.f16 [1,1,1,0,1,0,0,1,0,0,1,0,1,0]
noncomputable def lrsub_8 : List Oper := match Tryd.f16.body with
  | some (.seq _ (.seq _ (.seq _ (.seq (.seq _ (.block _ (.loop (.seq _ (.seq (.block _ (.seq _ (.seq (.seq _ (.cond _ (.region _ o _) _)) _))) _))))) _)))) => o.toList
  | _ => []
theorem ersub_8 : rrsub_8.toList = lrsub_8 := rfl
noncomputable def rrsub_9 := opR Tryd.f16 [1,1,1,0,1,0,0,1,0,0,1,1,0]
noncomputable def lrsub_9 : List Oper := match Tryd.f16.body with
  | some (.seq _ (.seq _ (.seq _ (.seq (.seq _ (.block _ (.loop (.seq _ (.seq (.block _ (.seq _ (.seq _ (.seq (.region _ o _) _)))) _))))) _)))) => o.toList
  | _ => []
theorem ersub_9 : rrsub_9.toList = lrsub_9 := rfl
noncomputable def rrsub_10 := opR Tryd.f16 [1,1,1,0,1,0,0,1,0,0,1,1,1,0,0]
noncomputable def lrsub_10 : List Oper := match Tryd.f16.body with
  | some (.seq _ (.seq _ (.seq _ (.seq (.seq _ (.block _ (.loop (.seq _ (.seq (.block _ (.seq _ (.seq _ (.seq _ (.seq (.seq (.region _ o _) _) _))))) _))))) _)))) => o.toList
  | _ => []
theorem ersub_10 : rrsub_10.toList = lrsub_10 := rfl
noncomputable def rrsub_11 := opR Tryd.f16 [1,1,1,0,1,0,0,1,0,0,1,1,1,0,1,0,0]
noncomputable def lrsub_11 : List Oper := match Tryd.f16.body with
  | some (.seq _ (.seq _ (.seq _ (.seq (.seq _ (.block _ (.loop (.seq _ (.seq (.block _ (.seq _ (.seq _ (.seq _ (.seq (.seq _ (.cond _ (.seq (.region _ o _) _) _)) _))))) _))))) _)))) => o.toList
  | _ => []
theorem ersub_11 : rrsub_11.toList = lrsub_11 := rfl
noncomputable def rrsub_12 := opR Tryd.f16 [1,1,1,0,1,0,0,1,0,0,1,1,1,0,1,0,1]
noncomputable def lrsub_12 : List Oper := match Tryd.f16.body with
  | some (.seq _ (.seq _ (.seq _ (.seq (.seq _ (.block _ (.loop (.seq _ (.seq (.block _ (.seq _ (.seq _ (.seq _ (.seq (.seq _ (.cond _ (.seq _ (.region _ o _)) _)) _))))) _))))) _)))) => o.toList
  | _ => []
theorem ersub_12 : rrsub_12.toList = lrsub_12 := rfl
noncomputable def rrsub_13 := opR Tryd.f16 [1,1,1,0,1,0,0,1,0,0,1,1,1,1]
noncomputable def lrsub_13 : List Oper := match Tryd.f16.body with
  | some (.seq _ (.seq _ (.seq _ (.seq (.seq _ (.block _ (.loop (.seq _ (.seq (.block _ (.seq _ (.seq _ (.seq _ (.seq _ (.region _ o _)))))) _))))) _)))) => o.toList
  | _ => []
theorem ersub_13 : rrsub_13.toList = lrsub_13 := rfl
noncomputable def rrsub_5 := opR Tryd.f16 [1,1,1,0,1,0,0,1,1]
noncomputable def lrsub_5 : List Oper := match Tryd.f16.body with
  | some (.seq _ (.seq _ (.seq _ (.seq (.seq _ (.block _ (.loop (.seq _ (.seq _ (.region _ o _)))))) _)))) => o.toList
  | _ => []
theorem ersub_5 : rrsub_5.toList = lrsub_5 := rfl
theorem lprsub_0_eq : lprsub_0 = (.seq (.seq (.region 4 rrsub_4 false) (.cond (.tmp 12) .skip (.exit 0))) (.seq (.block 1 (.seq (.region 6 rrsub_6 false) (.seq (.seq (.region 7 rrsub_7 false) (.cond (.tmp 24) (.region 8 rrsub_8 false) .skip)) (.seq (.region 9 rrsub_9 false) (.seq (.seq (.region 10 rrsub_10 false) (.cond (.tmp 32) (.seq (.region 11 rrsub_11 false) (.region 12 rrsub_12 false)) .skip)) (.region 13 rrsub_13 false)))))) (.region 5 rrsub_5 false))) := rfl
noncomputable def rrsub_14 := opR Tryd.f16 [1,1,1,1,0]
noncomputable def lrsub_14 : List Oper := match Tryd.f16.body with
  | some (.seq _ (.seq _ (.seq _ (.seq _ (.seq (.region _ o _) _))))) => o.toList
  | _ => []
theorem ersub_14 : rrsub_14.toList = lrsub_14 := rfl
theorem bodyrsub : Tryd.f16.body = some (.seq (.region 0 rrsub_0 false) (.seq (.region 1 rrsub_1 false) (.seq (.region 2 rrsub_2 false) (.seq (.seq (.region 3 rrsub_3 false) (.block 0 (.loop lprsub_0))) (.seq (.region 14 rrsub_14 false) .ret))))) := rfl
-- ntmps 41
section
variable {self : Self} {nf B : Nat} {m : Mem} {F : Nat -> Value} {a b : Value} {la lb L : List Nat} {i c x y : Nat}
theorem rsub_P1 (h0 : F 0 = a) (h1 : F 1 = b) (h6 : F 6 = .int .i64 (c : Nat)) (h7 : F 7 = .int .i64 (i : Nat)) (hi9 : i < 100000) (ha : NumA m a la) (hb : NumA m b lb) (hx : la[i]? = some x) (hx9 : x < 256) (hc9 : c ≤ 1) (hy : lb[i]? = some y) (hy9 : y < 256) (hn : c + y ≤ x) (hS : GN B m (F 5) L) (hB : B ≤ m.length) (hl : L.length ≤ 100000) :
    ∃ F' m', acodeN E self nf lprsub_0 (lst F 41) m = some (.normal, lst F' 41, m') /\ F' 0 = a /\ F' 1 = b /\ F' 6 = .int .i64 ((0 : Nat) : Int) /\ F' 7 = .int .i64 ((i + 1 : Nat) : Int) /\ GN B m' (F' 5) (L ++ [(x - (c + y))]) /\ m.length ≤ m'.length /\ ∀ k, k < B -> m'[k]? = m[k]? := by
  obtain ⟨ba, oa, ia, ca⟩ := ha.2 i x hx
  have hil := (List.getElem?_eq_some_iff.1 hx).1
  obtain ⟨bb, ob, ib, cb⟩ := hb.2 i y hy
  have hjl := (List.getElem?_eq_some_iff.1 hy).1
  have q1 : decide (((i : Nat) : Int) < ((la.length : Nat) : Int)) = true := decide_eq_true (by omega)
  have q2 : decide (((i : Nat) : Int) < ((lb.length : Nat) : Int)) = true := decide_eq_true (by omega)
  have e1 : wrapF .i64 (((x : Nat) : Int) - ((c : Nat) : Int)) = ((x : Nat) : Int) - ((c : Nat) : Int) := by simp only [wrapF]; omega
  have e2 : wrapF .i64 (((x : Nat) : Int) - ((c : Nat) : Int) - ((y : Nat) : Int)) = (((x - (c + y)) : Nat) : Int) := by simp only [wrapF]; omega
  have q3 : decide ((((x - (c + y)) : Nat) : Int) < 0) = false := decide_eq_false (by omega)
  have e5 := w1 (i := i) (by omega)
  have la9 := ha.1
  have lb9 := hb.1
  generalize hv : F 5 = v at hS
  obtain ⟨v', m', happ, hS', hle, hfr⟩ := appN (x := (x - (c + y))) hS hB hl
  simp only [lprsub_0_eq, ersub_10, ersub_13, ersub_4, ersub_5, ersub_6, ersub_7, ersub_8, ersub_9, lrsub_4, lrsub_5, lrsub_6, lrsub_7, lrsub_8, lrsub_9, lrsub_10, lrsub_13, agd_none, Tryd.f16, acodeN, aopsN, astep, aop, ev, nth_lst, aput, setAt_lst, upd_at, Nat.reduceLT, Nat.reduceEqDiff, len_N, abuiltin_app, Option.map_some, List.map_cons, List.map_nil, if_true, if_false, h0, h1, h6, h7, hv, la9, lb9, lss64, sub64', add64', q1, q2, e1, e2, q3, ia, load3, ca, ib, cb, build27, happ, e5]
  exact ⟨_, _, rfl, by simp only [upd_at, Nat.reduceEqDiff, reduceIte, h0], by simp only [upd_at, Nat.reduceEqDiff, reduceIte, h1], by simp only [upd_at, Nat.reduceEqDiff, reduceIte]; rfl, rfl, by simp only [upd_at, Nat.reduceEqDiff, reduceIte]; exact hS', hle, hfr⟩
theorem rsub_N1 (h0 : F 0 = a) (h1 : F 1 = b) (h6 : F 6 = .int .i64 (c : Nat)) (h7 : F 7 = .int .i64 (i : Nat)) (hi9 : i < 100000) (ha : NumA m a la) (hb : NumA m b lb) (hx : la[i]? = some x) (hx9 : x < 256) (hc9 : c ≤ 1) (hy : lb[i]? = some y) (hy9 : y < 256) (hn : x < c + y) (hS : GN B m (F 5) L) (hB : B ≤ m.length) (hl : L.length ≤ 100000) :
    ∃ F' m', acodeN E self nf lprsub_0 (lst F 41) m = some (.normal, lst F' 41, m') /\ F' 0 = a /\ F' 1 = b /\ F' 6 = .int .i64 ((1 : Nat) : Int) /\ F' 7 = .int .i64 ((i + 1 : Nat) : Int) /\ GN B m' (F' 5) (L ++ [(x + 256 - (c + y))]) /\ m.length ≤ m'.length /\ ∀ k, k < B -> m'[k]? = m[k]? := by
  obtain ⟨ba, oa, ia, ca⟩ := ha.2 i x hx
  have hil := (List.getElem?_eq_some_iff.1 hx).1
  obtain ⟨bb, ob, ib, cb⟩ := hb.2 i y hy
  have hjl := (List.getElem?_eq_some_iff.1 hy).1
  have q1 : decide (((i : Nat) : Int) < ((la.length : Nat) : Int)) = true := decide_eq_true (by omega)
  have q2 : decide (((i : Nat) : Int) < ((lb.length : Nat) : Int)) = true := decide_eq_true (by omega)
  have e1 : wrapF .i64 (((x : Nat) : Int) - ((c : Nat) : Int)) = ((x : Nat) : Int) - ((c : Nat) : Int) := by simp only [wrapF]; omega
  have e2 : wrapF .i64 (((x : Nat) : Int) - ((c : Nat) : Int) - ((y : Nat) : Int)) = ((x : Nat) : Int) - ((c : Nat) : Int) - ((y : Nat) : Int) := by simp only [wrapF]; omega
  have q3 : decide (((x : Nat) : Int) - ((c : Nat) : Int) - ((y : Nat) : Int) < 0) = true := decide_eq_true (by omega)
  have e4 : wrapF .i64 (((x : Nat) : Int) - ((c : Nat) : Int) - ((y : Nat) : Int) + 256) = (((x + 256 - (c + y)) : Nat) : Int) := by simp only [wrapF]; omega
  have e5 := w1 (i := i) (by omega)
  have la9 := ha.1
  have lb9 := hb.1
  generalize hv : F 5 = v at hS
  obtain ⟨v', m', happ, hS', hle, hfr⟩ := appN (x := (x + 256 - (c + y))) hS hB hl
  simp only [lprsub_0_eq, ersub_10, ersub_11, ersub_12, ersub_13, ersub_4, ersub_5, ersub_6, ersub_7, ersub_8, ersub_9, lrsub_4, lrsub_5, lrsub_6, lrsub_7, lrsub_8, lrsub_9, lrsub_10, lrsub_11, lrsub_12, lrsub_13, agd_none, Tryd.f16, acodeN, aopsN, astep, aop, ev, nth_lst, aput, setAt_lst, upd_at, Nat.reduceLT, Nat.reduceEqDiff, len_N, abuiltin_app, Option.map_some, List.map_cons, List.map_nil, if_true, if_false, h0, h1, h6, h7, hv, la9, lb9, lss64, sub64', add64', q1, q2, e1, e2, q3, e4, ia, load3, ca, ib, cb, build27, happ, e5]
  exact ⟨_, _, rfl, by simp only [upd_at, Nat.reduceEqDiff, reduceIte, h0], by simp only [upd_at, Nat.reduceEqDiff, reduceIte, h1], by simp only [upd_at, Nat.reduceEqDiff, reduceIte]; rfl, rfl, by simp only [upd_at, Nat.reduceEqDiff, reduceIte]; exact hS', hle, hfr⟩
theorem rsub_P0 (h0 : F 0 = a) (h1 : F 1 = b) (h6 : F 6 = .int .i64 (c : Nat)) (h7 : F 7 = .int .i64 (i : Nat)) (hi9 : i < 100000) (ha : NumA m a la) (hb : NumA m b lb) (hx : la[i]? = some x) (hx9 : x < 256) (hc9 : c ≤ 1) (hj : lb.length ≤ i) (hn : c ≤ x) (hS : GN B m (F 5) L) (hB : B ≤ m.length) (hl : L.length ≤ 100000) :
    ∃ F' m', acodeN E self nf lprsub_0 (lst F 41) m = some (.normal, lst F' 41, m') /\ F' 0 = a /\ F' 1 = b /\ F' 6 = .int .i64 ((0 : Nat) : Int) /\ F' 7 = .int .i64 ((i + 1 : Nat) : Int) /\ GN B m' (F' 5) (L ++ [(x - (c))]) /\ m.length ≤ m'.length /\ ∀ k, k < B -> m'[k]? = m[k]? := by
  obtain ⟨ba, oa, ia, ca⟩ := ha.2 i x hx
  have hil := (List.getElem?_eq_some_iff.1 hx).1
  have q1 : decide (((i : Nat) : Int) < ((la.length : Nat) : Int)) = true := decide_eq_true (by omega)
  have q2 : decide (((i : Nat) : Int) < ((lb.length : Nat) : Int)) = false := decide_eq_false (by omega)
  have e1 : wrapF .i64 (((x : Nat) : Int) - ((c : Nat) : Int)) = (((x - (c)) : Nat) : Int) := by simp only [wrapF]; omega
  have q3 : decide ((((x - (c)) : Nat) : Int) < 0) = false := decide_eq_false (by omega)
  have e5 := w1 (i := i) (by omega)
  have la9 := ha.1
  have lb9 := hb.1
  generalize hv : F 5 = v at hS
  obtain ⟨v', m', happ, hS', hle, hfr⟩ := appN (x := (x - (c))) hS hB hl
  simp only [lprsub_0_eq, ersub_10, ersub_13, ersub_4, ersub_5, ersub_6, ersub_7, ersub_9, lrsub_4, lrsub_5, lrsub_6, lrsub_7, lrsub_9, lrsub_10, lrsub_13, agd_none, Tryd.f16, acodeN, aopsN, astep, aop, ev, nth_lst, aput, setAt_lst, upd_at, Nat.reduceLT, Nat.reduceEqDiff, len_N, abuiltin_app, Option.map_some, List.map_cons, List.map_nil, if_true, if_false, h0, h1, h6, h7, hv, la9, lb9, lss64, sub64', add64', q1, q2, e1, q3, ia, load3, ca, build27, happ, e5]
  exact ⟨_, _, rfl, by simp only [upd_at, Nat.reduceEqDiff, reduceIte, h0], by simp only [upd_at, Nat.reduceEqDiff, reduceIte, h1], by simp only [upd_at, Nat.reduceEqDiff, reduceIte]; rfl, rfl, by simp only [upd_at, Nat.reduceEqDiff, reduceIte]; exact hS', hle, hfr⟩
theorem rsub_N0 (h0 : F 0 = a) (h1 : F 1 = b) (h6 : F 6 = .int .i64 (c : Nat)) (h7 : F 7 = .int .i64 (i : Nat)) (hi9 : i < 100000) (ha : NumA m a la) (hb : NumA m b lb) (hx : la[i]? = some x) (hx9 : x < 256) (hc9 : c ≤ 1) (hj : lb.length ≤ i) (hn : x < c) (hS : GN B m (F 5) L) (hB : B ≤ m.length) (hl : L.length ≤ 100000) :
    ∃ F' m', acodeN E self nf lprsub_0 (lst F 41) m = some (.normal, lst F' 41, m') /\ F' 0 = a /\ F' 1 = b /\ F' 6 = .int .i64 ((1 : Nat) : Int) /\ F' 7 = .int .i64 ((i + 1 : Nat) : Int) /\ GN B m' (F' 5) (L ++ [(x + 256 - (c))]) /\ m.length ≤ m'.length /\ ∀ k, k < B -> m'[k]? = m[k]? := by
  obtain ⟨ba, oa, ia, ca⟩ := ha.2 i x hx
  have hil := (List.getElem?_eq_some_iff.1 hx).1
  have q1 : decide (((i : Nat) : Int) < ((la.length : Nat) : Int)) = true := decide_eq_true (by omega)
  have q2 : decide (((i : Nat) : Int) < ((lb.length : Nat) : Int)) = false := decide_eq_false (by omega)
  have e1 : wrapF .i64 (((x : Nat) : Int) - ((c : Nat) : Int)) = ((x : Nat) : Int) - ((c : Nat) : Int) := by simp only [wrapF]; omega
  have q3 : decide (((x : Nat) : Int) - ((c : Nat) : Int) < 0) = true := decide_eq_true (by omega)
  have e4 : wrapF .i64 (((x : Nat) : Int) - ((c : Nat) : Int) + 256) = (((x + 256 - (c)) : Nat) : Int) := by simp only [wrapF]; omega
  have e5 := w1 (i := i) (by omega)
  have la9 := ha.1
  have lb9 := hb.1
  generalize hv : F 5 = v at hS
  obtain ⟨v', m', happ, hS', hle, hfr⟩ := appN (x := (x + 256 - (c))) hS hB hl
  simp only [lprsub_0_eq, ersub_10, ersub_11, ersub_12, ersub_13, ersub_4, ersub_5, ersub_6, ersub_7, ersub_9, lrsub_4, lrsub_5, lrsub_6, lrsub_7, lrsub_9, lrsub_10, lrsub_11, lrsub_12, lrsub_13, agd_none, Tryd.f16, acodeN, aopsN, astep, aop, ev, nth_lst, aput, setAt_lst, upd_at, Nat.reduceLT, Nat.reduceEqDiff, len_N, abuiltin_app, Option.map_some, List.map_cons, List.map_nil, if_true, if_false, h0, h1, h6, h7, hv, la9, lb9, lss64, sub64', add64', q1, q2, e1, q3, e4, ia, load3, ca, build27, happ, e5]
  exact ⟨_, _, rfl, by simp only [upd_at, Nat.reduceEqDiff, reduceIte, h0], by simp only [upd_at, Nat.reduceEqDiff, reduceIte, h1], by simp only [upd_at, Nat.reduceEqDiff, reduceIte]; rfl, rfl, by simp only [upd_at, Nat.reduceEqDiff, reduceIte]; exact hS', hle, hfr⟩
theorem rsub_E (h0 : F 0 = a) (h7 : F 7 = .int .i64 (i : Nat)) (ha : NumA m a la) (hi : la.length ≤ i) :
    ∃ F', acodeN E self nf lprsub_0 (lst F 41) m = some (.exit 0, lst F' 41, m) /\ F' 5 = F 5 := by
  have q1 : decide (((i : Nat) : Int) < ((la.length : Nat) : Int)) = false := decide_eq_false (by omega)
  have la9 := ha.1
  simp only [lprsub_0_eq, ersub_4, lrsub_4, agd_none, Tryd.f16, acodeN, aopsN, astep, aop, ev, nth_lst, aput, setAt_lst, upd_at, Nat.reduceLT, Nat.reduceEqDiff, len_N, if_true, if_false, h0, h7, la9, lss64, q1]
  exact ⟨_, rfl, rfl⟩
end
theorem mem_app9 {L : List Nat} {s : Nat} (h : ∀ x ∈ L, x < 256) (hs : s < 256) : ∀ x ∈ L ++ [s], x < 256 := by
  intro x hx
  rcases List.mem_append.1 hx with h1 | h1
  . exact h x h1
  . simp only [List.mem_singleton] at h1
    omega
theorem rsub_body {self : Self} {nf : Nat} {m : Mem} {a b : Value} {x y : Nat} (ct : CTrim self) (ha : NumA m a (dig x)) (hb : NumA m b (dig y)) (hyx : y ≤ x) (hlx : (dig x).length ≤ 800) (hnf : 1000 < nf) :
    ∃ v m1, abody E self nf 16 [a, b] m = some (v, m1) /\ NumB m.length v m1 (x - y) := by
  rw [abody_eqF (by kernel_rfl) Tryd.func16 bodyrsub (by kernel_rfl) (Nat.le_of_ble_eq_true rfl)]
  rw [show Tryd.f16.ntmps = 41 from rfl]
  have hlen : (dig y).length ≤ (dig x).length := dig_len_le (Nat.lt_of_le_of_lt hyx (lt_dig_len x))
  have vx := val_dig x
  have vy := val_dig y
  have dx := dig_lt x
  have dy := dig_lt y
  generalize hla : dig x = la at *
  generalize hlb : dig y = lb at *
  have hloop := aloop_inv (body := acodeN E self nf lprsub_0) (N := la.length)
    (I := fun i T m' => ∃ G L c, T = lst G 41 /\ m.length ≤ m'.length /\ (∀ k, k < m.length -> m'[k]? = m[k]?) /\ G 0 = a /\ G 1 = b /\ G 6 = .int .i64 (c : Nat) /\ G 7 = .int .i64 (i : Nat) /\ GN m.length m' (G 5) L /\ L.length = i /\ (∀ x ∈ L, x < 256) /\ c ≤ 1 ∧
      val L + val (lb.take i) = val (la.take i) + 256 ^ i * c)
    (Q := fun e T m' => e = .exit 0 /\ ∃ G L, T = lst G 41 /\ GN m.length m' (G 5) L /\ L.length ≤ 1000 /\ (∀ x ∈ L, x < 256) /\ val L = x - y) (fun i T m' hi hI => by
      obtain ⟨G, L, c, rfl, hle, hfr, g0, g1, g6, g7, gS, gl, gd, gc, gv⟩ := hI
      have ha' := ha.keep hfr
      have hb' := hb.keep hfr
      have hpow : 256 ^ (i + 1) = 256 ^ i * 256 := Nat.pow_succ ..
      by_cases h1 : i < la.length
      . left
        have hx : la[i]? = some la[i] := by simp [h1]
        have hx9 := dx _ (List.mem_of_getElem? hx)
        have sx := val_step hx
        generalize la[i] = xi at *
        have hP : ∀ u v w : Nat, u + v = w -> 256 ^ i * u + 256 ^ i * v = 256 ^ i * w := fun u v w h => by rw [← Nat.mul_add, h]
        by_cases h2 : i < lb.length
        . have hy : lb[i]? = some lb[i] := by simp [h2]
          have hy9 := dy _ (List.mem_of_getElem? hy)
          have sy := val_step hy
          generalize lb[i] = yi at *
          by_cases h3 : c + yi ≤ xi
          . obtain ⟨F', m2, hr, f0, f1, f6, f7, fS, fle, ffr⟩ := rsub_P1 (self := self) (nf := nf) g0 g1 g6 g7 (by omega) ha' hb' hx hx9 gc hy hy9 h3 gS hle (by omega)
            refine ⟨_, _, hr, h1, F', _, 0, rfl, by omega, fun k hk => by rw [ffr k hk, hfr k hk], f0, f1, f6, f7, fS, by simp [gl], mem_app9 gd (by omega), by omega, ?_⟩
            have p1 := hP (xi - (c + yi)) (c + yi) xi (by omega)
            have p2 := hP c yi (c + yi) rfl
            rw [val_app1, gl, sx, sy]
            omega
          . obtain ⟨F', m2, hr, f0, f1, f6, f7, fS, fle, ffr⟩ := rsub_N1 (self := self) (nf := nf) g0 g1 g6 g7 (by omega) ha' hb' hx hx9 gc hy hy9 (by omega) gS hle (by omega)
            refine ⟨_, _, hr, h1, F', _, 1, rfl, by omega, fun k hk => by rw [ffr k hk, hfr k hk], f0, f1, f6, f7, fS, by simp [gl], mem_app9 gd (by omega), by omega, ?_⟩
            have p1 := hP (xi + 256 - (c + yi)) (c + yi) (xi + 256) (by omega)
            have p2 := hP c yi (c + yi) rfl
            have p3 := hP xi 256 (xi + 256) rfl
            rw [val_app1, gl, sx, sy, hpow]
            omega
        . have sy := val_same (l := lb) (i := i) (by omega)
          by_cases h3 : c ≤ xi
          . obtain ⟨F', m2, hr, f0, f1, f6, f7, fS, fle, ffr⟩ := rsub_P0 (self := self) (nf := nf) g0 g1 g6 g7 (by omega) ha' hb' hx hx9 gc (by omega) h3 gS hle (by omega)
            refine ⟨_, _, hr, h1, F', _, 0, rfl, by omega, fun k hk => by rw [ffr k hk, hfr k hk], f0, f1, f6, f7, fS, by simp [gl], mem_app9 gd (by omega), by omega, ?_⟩
            have p1 := hP (xi - c) c xi (by omega)
            rw [val_app1, gl, sx, sy]
            omega
          . obtain ⟨F', m2, hr, f0, f1, f6, f7, fS, fle, ffr⟩ := rsub_N0 (self := self) (nf := nf) g0 g1 g6 g7 (by omega) ha' hb' hx hx9 gc (by omega) (by omega) gS hle (by omega)
            refine ⟨_, _, hr, h1, F', _, 1, rfl, by omega, fun k hk => by rw [ffr k hk, hfr k hk], f0, f1, f6, f7, fS, by simp [gl], mem_app9 gd (by omega), by omega, ?_⟩
            have p1 := hP (xi + 256 - c) c (xi + 256) (by omega)
            have p3 := hP xi 256 (xi + 256) rfl
            rw [val_app1, gl, sx, sy, hpow]
            omega
      . right
        have hie : i = la.length := by omega
        obtain ⟨F', hr, f5⟩ := rsub_E (self := self) (nf := nf) (m := m') g0 g7 ha' (by omega)
        have tx : val (la.take i) = x := by rw [List.take_of_length_le (by omega)]; exact vx
        have ty : val (lb.take i) = y := by rw [List.take_of_length_le (by omega)]; exact vy
        have hlt := val_lt gd
        rw [gl] at hlt
        refine ⟨_, _, _, hr, by simp, rfl, F', L, rfl, by rw [f5]; exact gS, by omega, gd, ?_⟩
        rw [tx, ty] at gv
        have hc : c = 0 ∨ c = 1 := by omega
        rcases hc with rfl | rfl
        . omega
        . omega)
  obtain ⟨e, T', m', hr, rfl, G, L, rfl, gS, gl, gd, gv⟩ := hloop la.length 0 nf (lst (upd (upd (upd (upd (init [a, b]) 4 (.slice none 0 0)) 5 (.slice none 0 0)) 6 (.int .i64 0)) 7 (.int .i64 0)) 41) m (by omega) (by omega) ⟨_, [], 0, rfl, Nat.le_refl _, fun _ _ => rfl, rfl, rfl, rfl, rfl, .inl ⟨rfl, rfl⟩, rfl, (fun x hx => by cases hx), by omega, by simp [val]⟩
  generalize hv : G 5 = v at gS
  obtain ⟨v', ht, hB⟩ := ct m.length m' v L (x - y) gS gl gd gv
  simp only [ersub_0, ersub_1, ersub_14, ersub_2, ersub_3, lrsub_0, lrsub_1, lrsub_2, lrsub_3, lrsub_14, agd_none, Tryd.f16, List.cons_append, List.nil_append, acodeN, aopsN, astep, aop, ev, nth_lst, aput, setAt_lst, upd_at, Nat.reduceLT, Nat.reduceEqDiff, Option.map_some, List.map_cons, List.map_nil, List.isEmpty_nil, bls, if_true, if_false, hr, hv, calltrim, ht, finish, ares, aresL, ares1]
  exact ⟨_, _, rfl, hB⟩
def CSub (self : Self) : Prop := ∀ (m : Mem) (a b : Value) (x y : Nat), NumA m a (dig x) -> NumA m b (dig y) -> y ≤ x -> (dig x).length ≤ 800 -> ∃ v m', ainv E self 16 [a, b] m = some (v, m') /\ NumR m v m' (x - y)
theorem csub {R : Nat -> Self} {K : List Fact} (hR : Runs R K) {n : Nat} (hK : hasF K 16 = false) (hK' : hasF K 40 = false) (hn : 1000 ≤ n) : CSub (R (n + 2)) := by
  intro m a b x y ha hb hyx hlx
  refine num2_call (by kernel_rfl) (by kernel_rfl) ha hb fun M' ha hb => ?_
  obtain ⟨v, m1, h1, h2⟩ := rsub_body (self := (R (n + 1))) (nf := n + 2) (ctrim hR hK' hn) ha hb hyx hlx (by omega)
  exact ⟨v, m1, hR.b hK h1, h2⟩
end Go.Am.Seat
namespace Go.Am
noncomputable section
section
variable {E : Env} {self : Self} {ops : Array Oper} {m m1 : Mem} {o : Oper} {l : List Oper} {i c : Nat} {T : List Value} {nb bs : List Blk} {ow : List Nat} {v v' : Value}
theorem u_float (hg : agd ops T o = some true) (hok : okOp E.P o.op = true) (hc : cls E.P E.wr o = 0) (hf : afloat E.P T o = some v) : amkUT E self ops m (o :: l) i T nb ow = amkUT E self ops m l (i + 1) (aput T o.dst v) nb ow := by
  rw [amkUT, hg]
  simp only
  rw [if_pos hok, hc]
  simp only [hf]
theorem u_make (hg : agd ops T o = some true) (hok : okOp E.P o.op = true) (hc : cls E.P E.wr o = c + 1) (hp : opsP (pW ops i m.length ow) T o = true) (hr : rowsP (pW ops i m.length ow) (maskN ops i nb ow) = true)
    (hs : astep E self T ((m ++ maskN ops i nb ow).map sealed) o = some (v, m1)) (ha : acollAt (m.length + nb.length) (m.length + nb.length) v m1 = some (v', bs)) (hw : (bs.isEmpty || isW E.P E.wr ops i) = true) :
    amkUT E self ops m (o :: l) i T nb ow = amkUT E self ops m l (i + 1) (aput T o.dst v') (nb ++ bs) (ow ++ List.replicate bs.length i) := by
  rw [amkUT, hg]
  simp only
  rw [if_pos hok, hc]
  simp only [hp, hr, Bool.and_self, if_true, hs, ha, hw]
theorem amk_of {T1 : List Value} {nb1 : List Blk} (hd : depB E.P E.wr ops = true) (h : amkUT E self ops m ops.toList 0 T [] [] = some (T1, nb1)) : amk E self ops T m = some (T1, m ++ nb1) := by
  unfold amk
  rw [hd]
  simp only
  unfold amkU
  rw [h]
end
theorem acollAt_lit {n N : Nat} {v : Value} {m1 : Mem} (h : lit2 v = true) : acollAt n N v m1 = some (v, []) := by
  unfold acollAt
  rw [if_pos h]
end
end Go.Am
namespace Go.Am.Seat
open Go.Proofs Go.Am
theorem acollAt_new {m1 : Mem} {n N b o k c : Nat} {ro : Bool} {e : TypeId} {cs : List Value} (hb : n ≤ b) (hm : m1[b]? = some (.row ro e cs)) (hc : cs.all lit0 = true) :
    acollAt n N (.slice (some ⟨b, o, none⟩) k c) m1 = some (.slice (some ⟨N, o, none⟩) k c, [.row ro e cs]) := by
  have hnb : ¬ b < n := by omega
  unfold acollAt
  rw [if_neg (by simp [lit2, lit1, lit0])]
  have h1 : idsL n (partsOf (.slice (some ⟨b, o, none⟩) k c)) [] = [b] := by
    simp [partsOf, idsL, idOf, addIds, hnb]
  have h2 : closeIds n m1 2 [b] = [b] := by
    simp only [closeIds, List.foldl_cons, List.foldl_nil, hm, idsL_lit cs [b] hc]
  simp only [h1, h2]
  rw [if_pos (by simp [nodupB, hb])]
  have h3 : rid n N [b] b = some N := by
    unfold rid
    rw [if_neg hnb]
    simp [List.idxOf?]
  simp only [renB, hm, renL_id cs hc, ren3, ren2, ren1, h3]
def NumIn (n : Nat) (v : Value) : Prop := v = .slice none 0 0 ∨ ∃ b k c, v = .slice (some ⟨b, 0, none⟩) k c /\ b < n
theorem num_at2 {M M' : Mem} {v : Value} {r : Nat} (h : NumR M v M' r) : ∃ bs, acollAt M.length M.length v M' = some (v, bs) /\ (bs = [] ∨ ∃ L, bs = [.row false 3 (cellsN L)]) /\ (∀ A C : Mem, A.length = M.length -> NumA (A ++ bs ++ C) v (dig r) /\ NumIn (A ++ bs ++ C).length v /\ NumB A.length v (A ++ bs ++ C) r) := by
  rcases h with ⟨rfl, rfl, rfl⟩ | ⟨L, n, h1, h2, rfl, rfl, hne⟩
  . exact ⟨[], acollAt_lit rfl, .inl rfl, fun A C hA => ⟨by rw [dig_zero]; exact NumA.nil _, .inl rfl, .inl ⟨rfl, rfl⟩⟩⟩
  . refine ⟨[.row false 3 (cellsN L)], acollAt_new (Nat.le_refl _) (by simp) (cellsN_lits L), .inr ⟨L, rfl⟩, fun A C hA => ?_⟩
    have hrow : (A ++ [Blk.row false 3 (cellsN L)] ++ C)[M.length]? = some (.row false 3 (cellsN L)) := by
      rw [← hA, List.append_assoc, List.getElem?_append_right (Nat.le_refl _)]
      simp
    refine ⟨?_, .inr ⟨_, _, _, rfl, by simp; omega⟩, .inr ⟨L, n, M.length, false, h1, h2, by omega, rfl, hrow, hne⟩⟩
    rw [← h2]
    exact NumA.row (ro := false) hrow h1
theorem NumR.in {m m' : Mem} {v : Value} {r : Nat} (h : NumR m v m' r) : NumIn m'.length v := by
  rcases h with ⟨rfl, rfl, rfl⟩ | ⟨L, n, h1, h2, rfl, rfl, hne⟩
  . exact .inl rfl
  . exact .inr ⟨_, _, _, rfl, by simp⟩
theorem NumB.mono {B B' r : Nat} {v : Value} {m : Mem} (h : NumB B v m r) (hB : B' ≤ B) : NumB B' v m r := by
  rcases h with h | ⟨L, n, b, ro, h1, h2, h3, h4, h5, hne⟩
  . exact .inl h
  . exact .inr ⟨L, n, b, ro, h1, h2, by omega, h4, h5, hne⟩
theorem NumIn.mono {n n' : Nat} {v : Value} (h : NumIn n v) (hn : n ≤ n') : NumIn n' v := by
  rcases h with h | ⟨b, k, c, h1, h2⟩
  . exact .inl h
  . exact .inr ⟨b, k, c, h1, by omega⟩
theorem NumIn.below {n : Nat} {v : Value} (h : NumIn n v) {p : Nat -> Bool} (hp : ∀ k, k < n -> p k = true) : belowP p 4 v = true := by
  rcases h with rfl | ⟨b, k, c, rfl, h2⟩
  . rfl
  . exact hp b h2
-- ntmps 46
theorem callMulR : callableB E.P 14 = true := by kernel_rfl
theorem callAddR : callableB E.P 10 = true := by kernel_rfl
section
variable {self : Self} {nf : Nat} {m : Mem} {F : Nat -> Value} {v : Value} {s : ByteArray} {i x : Nat} {ch : UInt8}
end
end Go.Am.Seat
