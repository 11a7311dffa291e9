/-
  Texts of my own, put together: Y3, Y4, Y5, Y6.
-/
import Derived.Test.YtmgknkjdbpgjmaaGreatDoorGrFieldRoots13
set_option linter.unusedSimpArgs false
set_option linter.unusedVariables false
set_option maxRecDepth 100000
namespace Go.Am.Seat
open Go.Proofs Go.Am
noncomputable def rradd_0 : Array Oper := match Tryz.f35.body with
  | some (.seq (.region _ o _) _) => o
  | _ => #[]
noncomputable def lradd_0 : List Oper := match Tryz.f35.body with
  | some (.seq (.region _ o _) _) => o.toList
  | _ => []
theorem eradd_0 : rradd_0.toList = lradd_0 := rfl
noncomputable def rradd_1 : Array Oper := match Tryz.f35.body with
  | some (.seq _ (.seq (.region _ o _) _)) => o
  | _ => #[]
noncomputable def lradd_1 : List Oper := match Tryz.f35.body with
  | some (.seq _ (.seq (.region _ o _) _)) => o.toList
  | _ => []
theorem eradd_1 : rradd_1.toList = lradd_1 := rfl
noncomputable def rradd_2 : Array Oper := match Tryz.f35.body with
  | some (.seq _ (.seq _ (.seq (.region _ o _) _))) => o
  | _ => #[]
noncomputable def lradd_2 : List Oper := match Tryz.f35.body with
  | some (.seq _ (.seq _ (.seq (.region _ o _) _))) => o.toList
  | _ => []
theorem eradd_2 : rradd_2.toList = lradd_2 := rfl
noncomputable def rradd_3 : Array Oper := match Tryz.f35.body with
  | some (.seq _ (.seq _ (.seq _ (.seq (.seq (.region _ o _) _) _)))) => o
  | _ => #[]
noncomputable def lradd_3 : List Oper := match Tryz.f35.body with
  | some (.seq _ (.seq _ (.seq _ (.seq (.seq (.region _ o _) _) _)))) => o.toList
  | _ => []
theorem eradd_3 : rradd_3.toList = lradd_3 := rfl
noncomputable def lpradd_0 : Code := match Tryz.f35.body with
  | some (.seq _ (.seq _ (.seq _ (.seq (.seq _ (.block _ (.loop c))) _)))) => c
  | _ => .skip
noncomputable def rradd_4 : Array Oper := match Tryz.f35.body with
  | some (.seq _ (.seq _ (.seq _ (.seq (.seq _ (.block _ (.loop (.seq (.seq (.region _ o _) _) _)))) _)))) => o
  | _ => #[]
noncomputable def lradd_4 : List Oper := match Tryz.f35.body with
  | some (.seq _ (.seq _ (.seq _ (.seq (.seq _ (.block _ (.loop (.seq (.seq (.region _ o _) _) _)))) _)))) => o.toList
  | _ => []
theorem eradd_4 : rradd_4.toList = lradd_4 := rfl
theorem gradd_4_4 {T : List Value} {dd : Option Tmp} {op : Op} {ty : TypeId} {pos : String} {af : Array Edge} {want : Bool} : agd rradd_4 T { dst := dd, op := op, type := ty, pos := pos, after := af, guard := some (4, want) } = gdAt T 12 want := agd_at (by kernel_rfl)
theorem gradd_4_10 {T : List Value} {dd : Option Tmp} {op : Op} {ty : TypeId} {pos : String} {af : Array Edge} {want : Bool} : agd rradd_4 T { dst := dd, op := op, type := ty, pos := pos, after := af, guard := some (10, want) } = gdAt T 18 want := agd_at (by kernel_rfl)
noncomputable def rradd_6 : Array Oper := match Tryz.f35.body with
  | some (.seq _ (.seq _ (.seq _ (.seq (.seq _ (.block _ (.loop (.seq _ (.seq (.block _ (.seq (.seq (.region _ o _) _) _)) _))))) _)))) => o
  | _ => #[]
noncomputable def lradd_6 : List Oper := match Tryz.f35.body with
  | some (.seq _ (.seq _ (.seq _ (.seq (.seq _ (.block _ (.loop (.seq _ (.seq (.block _ (.seq (.seq (.region _ o _) _) _)) _))))) _)))) => o.toList
  | _ => []
theorem eradd_6 : rradd_6.toList = lradd_6 := rfl
noncomputable def rradd_7 : Array Oper := match Tryz.f35.body with
  | some (.seq _ (.seq _ (.seq _ (.seq (.seq _ (.block _ (.loop (.seq _ (.seq (.block _ (.seq (.seq _ (.cond _ (.region _ o _) _)) _)) _))))) _)))) => o
  | _ => #[]
noncomputable def lradd_7 : List Oper := match Tryz.f35.body with
  | some (.seq _ (.seq _ (.seq _ (.seq (.seq _ (.block _ (.loop (.seq _ (.seq (.block _ (.seq (.seq _ (.cond _ (.region _ o _) _)) _)) _))))) _)))) => o.toList
  | _ => []
theorem eradd_7 : rradd_7.toList = lradd_7 := rfl
noncomputable def rradd_8 : Array Oper := match Tryz.f35.body with
  | some (.seq _ (.seq _ (.seq _ (.seq (.seq _ (.block _ (.loop (.seq _ (.seq (.block _ (.seq _ (.seq (.seq (.region _ o _) _) _))) _))))) _)))) => o
  | _ => #[]
noncomputable def lradd_8 : List Oper := match Tryz.f35.body with
  | some (.seq _ (.seq _ (.seq _ (.seq (.seq _ (.block _ (.loop (.seq _ (.seq (.block _ (.seq _ (.seq (.seq (.region _ o _) _) _))) _))))) _)))) => o.toList
  | _ => []
theorem eradd_8 : rradd_8.toList = lradd_8 := rfl
noncomputable def rradd_9 : Array Oper := match Tryz.f35.body with
  | some (.seq _ (.seq _ (.seq _ (.seq (.seq _ (.block _ (.loop (.seq _ (.seq (.block _ (.seq _ (.seq (.seq _ (.cond _ (.region _ o _) _)) _))) _))))) _)))) => o
  | _ => #[]
noncomputable def lradd_9 : List Oper := match Tryz.f35.body with
  | some (.seq _ (.seq _ (.seq _ (.seq (.seq _ (.block _ (.loop (.seq _ (.seq (.block _ (.seq _ (.seq (.seq _ (.cond _ (.region _ o _) _)) _))) _))))) _)))) => o.toList
  | _ => []
theorem eradd_9 : rradd_9.toList = lradd_9 := rfl
noncomputable def rradd_10 : Array Oper := match Tryz.f35.body with
  | some (.seq _ (.seq _ (.seq _ (.seq (.seq _ (.block _ (.loop (.seq _ (.seq (.block _ (.seq _ (.seq _ (.seq (.region _ o _) _)))) _))))) _)))) => o
  | _ => #[]
noncomputable def lradd_10 : List Oper := match Tryz.f35.body with
  | some (.seq _ (.seq _ (.seq _ (.seq (.seq _ (.block _ (.loop (.seq _ (.seq (.block _ (.seq _ (.seq _ (.seq (.region _ o _) _)))) _))))) _)))) => o.toList
  | _ => []
theorem eradd_10 : rradd_10.toList = lradd_10 := rfl
noncomputable def rradd_11 : Array Oper := match Tryz.f35.body with
  | some (.seq _ (.seq _ (.seq _ (.seq (.seq _ (.block _ (.loop (.seq _ (.seq (.block _ (.seq _ (.seq _ (.seq _ (.region _ o _))))) _))))) _)))) => o
  | _ => #[]
noncomputable def lradd_11 : List Oper := match Tryz.f35.body with
  | some (.seq _ (.seq _ (.seq _ (.seq (.seq _ (.block _ (.loop (.seq _ (.seq (.block _ (.seq _ (.seq _ (.seq _ (.region _ o _))))) _))))) _)))) => o.toList
  | _ => []
theorem eradd_11 : rradd_11.toList = lradd_11 := rfl
noncomputable def rradd_5 : Array Oper := match Tryz.f35.body with
  | some (.seq _ (.seq _ (.seq _ (.seq (.seq _ (.block _ (.loop (.seq _ (.seq _ (.region _ o _)))))) _)))) => o
  | _ => #[]
noncomputable def lradd_5 : List Oper := match Tryz.f35.body with
  | some (.seq _ (.seq _ (.seq _ (.seq (.seq _ (.block _ (.loop (.seq _ (.seq _ (.region _ o _)))))) _)))) => o.toList
  | _ => []
theorem eradd_5 : rradd_5.toList = lradd_5 := rfl
theorem lpradd_0_eq : lpradd_0 = (.seq (.seq (.region 4 rradd_4 false) (.cond (.tmp 21) .skip (.exit 0))) (.seq (.block 1 (.seq (.seq (.region 6 rradd_6 false) (.cond (.tmp 27) (.region 7 rradd_7 false) .skip)) (.seq (.seq (.region 8 rradd_8 false) (.cond (.tmp 37) (.region 9 rradd_9 false) .skip)) (.seq (.region 10 rradd_10 false) (.region 11 rradd_11 false))))) (.region 5 rradd_5 false))) := rfl
noncomputable def rradd_12 : Array Oper := match Tryz.f35.body with
  | some (.seq _ (.seq _ (.seq _ (.seq _ (.seq (.region _ o _) _))))) => o
  | _ => #[]
noncomputable def lradd_12 : List Oper := match Tryz.f35.body with
  | some (.seq _ (.seq _ (.seq _ (.seq _ (.seq (.region _ o _) _))))) => o.toList
  | _ => []
theorem eradd_12 : rradd_12.toList = lradd_12 := rfl
theorem bodyradd : Tryz.f35.body = some (.seq (.region 0 rradd_0 false) (.seq (.region 1 rradd_1 false) (.seq (.region 2 rradd_2 false) (.seq (.seq (.region 3 rradd_3 false) (.block 0 (.loop lpradd_0))) (.seq (.region 12 rradd_12 false) .ret))))) := rfl
-- ntmps 53
section
variable {self : Self} {nf B : Nat} {m : Mem} {F : Nat → Value} {a b : Value} {la lb L : List Nat} {i c x y : Nat}
theorem radd_AB (h0 : F 0 = a) (h1 : F 1 = b) (h6 : F 6 = .int .i64 (c : Nat)) (h7 : F 7 = .int .i64 (i : Nat)) (hi9 : i < 100000) (ha : NumA m a la) (hb : NumA m b lb) (hx : la[i]? = some x) (hy : lb[i]? = some y) (hs : c + x + y < 1000000) (hS : GN B m (F 5) L) (hB : B ≤ m.length) (hl : L.length ≤ 100000) :
    ∃ F' m', acodeN E self nf lpradd_0 (lst F 53) m = some (.normal, lst F' 53, m') ∧ F' 0 = a ∧ F' 1 = b ∧ F' 6 = .int .i64 (((c + x + y) / 256 : Nat) : Int) ∧ F' 7 = .int .i64 ((i + 1 : Nat) : Int) ∧ GN B m' (F' 5) (L ++ [(c + x + y) % 256]) ∧ m.length ≤ m'.length ∧ ∀ k, k < B → m'[k]? = m[k]? := by
  obtain ⟨ba, oa, ia, ca⟩ := ha.2 i x hx
  have hil := (List.getElem?_eq_some_iff.1 hx).1
  obtain ⟨bb, ob, ib, cb⟩ := hb.2 i y hy
  have hjl := (List.getElem?_eq_some_iff.1 hy).1
  have q1 : decide (((i : Nat) : Int) < ((la.length : Nat) : Int)) = true := decide_eq_true (by omega)
  have q2 : decide (((i : Nat) : Int) < ((lb.length : Nat) : Int)) = true := decide_eq_true (by omega)
  have e1 := addNN (a := c) (b := x) (by omega)
  have e2 := addNN (a := c + x) (b := y) (by omega)
  have e3 := w1 (i := i) (by omega)
  have la9 := ha.1
  have lb9 := hb.1
  generalize hv : F 5 = v at hS
  obtain ⟨v', m', happ, hS', hle, hfr⟩ := appN (x := (c + x + y) % 256) hS hB hl
  have r1 := rem256 (c + x + y)
  have r2 := quo256i (s := c + x + y) (by omega)
  simp only [lpradd_0_eq, eradd_0, eradd_1, eradd_10, eradd_11, eradd_12, eradd_2, eradd_3, eradd_4, eradd_5, eradd_6, eradd_7, eradd_8, eradd_9, lradd_0, lradd_1, lradd_2, lradd_3, lradd_4, lradd_5, lradd_6, lradd_7, lradd_8, lradd_9, lradd_10, lradd_11, lradd_12, gradd_4_10, gradd_4_4, agd_none, gdAt, gdV_bool, gdV_undef, Tryz.f35, List.append_eq, List.cons_append, List.nil_append, apure_call1, apure_call2, apure_call3, bft, btf, acodeN, List.getElem?_toArray, List.getElem?_cons_zero, List.getElem?_cons_succ, aopsN, adrawT, cls, astep, aop, afloat, ev, nth_lst, get_lst, aput, setAt_lst, upd_at, init_zero, init_succ, init_nil, Nat.reduceLT, Nat.reduceEqDiff, reduceIte, len_N, abuiltin_app, Option.map_some, Option.map_none, orElse_some, apure_add, apure_eqlV, eqlVal_str, eqlVal_bool, eqlVal_ptr, eqlVal_slice, eqlVal_wide, eqlVal_int, allT, ↓aop_eqlV, apure_neq, List.map_cons, List.map_nil, List.all_cons, List.all_nil, lit2, lit1, lit0, List.isEmpty_nil, bls, Bool.false_eq_true, if_true, if_false, List.length_map, beq_self_eq_true, uns, h0, h1, h6, h7, hv, la9, lb9, lss64, gtr64', q1, q2, e1, e2, ia, load3, ca, ib, cb, add64', r1, r2, build27, happ, e3]
  exact ⟨_, _, rfl, by simp only [upd_at, Nat.reduceEqDiff, reduceIte, h0], by simp only [upd_at, Nat.reduceEqDiff, reduceIte, h1], by simp only [upd_at, Nat.reduceEqDiff, reduceIte], by simp only [upd_at, Nat.reduceEqDiff, reduceIte], by simp only [upd_at, Nat.reduceEqDiff, reduceIte]; exact hS', hle, hfr⟩
theorem radd_A (h0 : F 0 = a) (h1 : F 1 = b) (h6 : F 6 = .int .i64 (c : Nat)) (h7 : F 7 = .int .i64 (i : Nat)) (hi9 : i < 100000) (ha : NumA m a la) (hb : NumA m b lb) (hx : la[i]? = some x) (hj : lb.length ≤ i) (hs : c + x < 1000000) (hS : GN B m (F 5) L) (hB : B ≤ m.length) (hl : L.length ≤ 100000) :
    ∃ F' m', acodeN E self nf lpradd_0 (lst F 53) m = some (.normal, lst F' 53, m') ∧ F' 0 = a ∧ F' 1 = b ∧ F' 6 = .int .i64 (((c + x) / 256 : Nat) : Int) ∧ F' 7 = .int .i64 ((i + 1 : Nat) : Int) ∧ GN B m' (F' 5) (L ++ [(c + x) % 256]) ∧ m.length ≤ m'.length ∧ ∀ k, k < B → m'[k]? = m[k]? := by
  obtain ⟨ba, oa, ia, ca⟩ := ha.2 i x hx
  have hil := (List.getElem?_eq_some_iff.1 hx).1
  have q1 : decide (((i : Nat) : Int) < ((la.length : Nat) : Int)) = true := decide_eq_true (by omega)
  have q2 : decide (((i : Nat) : Int) < ((lb.length : Nat) : Int)) = false := decide_eq_false (by omega)
  have e1 := addNN (a := c) (b := x) (by omega)
  have e3 := w1 (i := i) (by omega)
  have la9 := ha.1
  have lb9 := hb.1
  generalize hv : F 5 = v at hS
  obtain ⟨v', m', happ, hS', hle, hfr⟩ := appN (x := (c + x) % 256) hS hB hl
  have r1 := rem256 (c + x)
  have r2 := quo256i (s := c + x) (by omega)
  simp only [lpradd_0_eq, eradd_0, eradd_1, eradd_10, eradd_11, eradd_12, eradd_2, eradd_3, eradd_4, eradd_5, eradd_6, eradd_7, eradd_8, eradd_9, lradd_0, lradd_1, lradd_2, lradd_3, lradd_4, lradd_5, lradd_6, lradd_7, lradd_8, lradd_9, lradd_10, lradd_11, lradd_12, gradd_4_10, gradd_4_4, agd_none, gdAt, gdV_bool, gdV_undef, Tryz.f35, List.append_eq, List.cons_append, List.nil_append, apure_call1, apure_call2, apure_call3, bft, btf, acodeN, List.getElem?_toArray, List.getElem?_cons_zero, List.getElem?_cons_succ, aopsN, adrawT, cls, astep, aop, afloat, ev, nth_lst, get_lst, aput, setAt_lst, upd_at, init_zero, init_succ, init_nil, Nat.reduceLT, Nat.reduceEqDiff, reduceIte, len_N, abuiltin_app, Option.map_some, Option.map_none, orElse_some, apure_add, apure_eqlV, eqlVal_str, eqlVal_bool, eqlVal_ptr, eqlVal_slice, eqlVal_wide, eqlVal_int, allT, ↓aop_eqlV, apure_neq, List.map_cons, List.map_nil, List.all_cons, List.all_nil, lit2, lit1, lit0, List.isEmpty_nil, bls, Bool.false_eq_true, if_true, if_false, List.length_map, beq_self_eq_true, uns, h0, h1, h6, h7, hv, la9, lb9, lss64, gtr64', q1, q2, e1, ia, load3, ca, add64', r1, r2, build27, happ, e3]
  exact ⟨_, _, rfl, by simp only [upd_at, Nat.reduceEqDiff, reduceIte, h0], by simp only [upd_at, Nat.reduceEqDiff, reduceIte, h1], by simp only [upd_at, Nat.reduceEqDiff, reduceIte], by simp only [upd_at, Nat.reduceEqDiff, reduceIte], by simp only [upd_at, Nat.reduceEqDiff, reduceIte]; exact hS', hle, hfr⟩
theorem radd_B (h0 : F 0 = a) (h1 : F 1 = b) (h6 : F 6 = .int .i64 (c : Nat)) (h7 : F 7 = .int .i64 (i : Nat)) (hi9 : i < 100000) (ha : NumA m a la) (hb : NumA m b lb) (hi : la.length ≤ i) (hy : lb[i]? = some y) (hs : c + y < 1000000) (hS : GN B m (F 5) L) (hB : B ≤ m.length) (hl : L.length ≤ 100000) :
    ∃ F' m', acodeN E self nf lpradd_0 (lst F 53) m = some (.normal, lst F' 53, m') ∧ F' 0 = a ∧ F' 1 = b ∧ F' 6 = .int .i64 (((c + y) / 256 : Nat) : Int) ∧ F' 7 = .int .i64 ((i + 1 : Nat) : Int) ∧ GN B m' (F' 5) (L ++ [(c + y) % 256]) ∧ m.length ≤ m'.length ∧ ∀ k, k < B → m'[k]? = m[k]? := by
  obtain ⟨bb, ob, ib, cb⟩ := hb.2 i y hy
  have hjl := (List.getElem?_eq_some_iff.1 hy).1
  have q1 : decide (((i : Nat) : Int) < ((la.length : Nat) : Int)) = false := decide_eq_false (by omega)
  have q2 : decide (((i : Nat) : Int) < ((lb.length : Nat) : Int)) = true := decide_eq_true (by omega)
  have e2 := addNN (a := c) (b := y) (by omega)
  have e3 := w1 (i := i) (by omega)
  have la9 := ha.1
  have lb9 := hb.1
  generalize hv : F 5 = v at hS
  obtain ⟨v', m', happ, hS', hle, hfr⟩ := appN (x := (c + y) % 256) hS hB hl
  have r1 := rem256 (c + y)
  have r2 := quo256i (s := c + y) (by omega)
  simp only [lpradd_0_eq, eradd_0, eradd_1, eradd_10, eradd_11, eradd_12, eradd_2, eradd_3, eradd_4, eradd_5, eradd_6, eradd_7, eradd_8, eradd_9, lradd_0, lradd_1, lradd_2, lradd_3, lradd_4, lradd_5, lradd_6, lradd_7, lradd_8, lradd_9, lradd_10, lradd_11, lradd_12, gradd_4_10, gradd_4_4, agd_none, gdAt, gdV_bool, gdV_undef, Tryz.f35, List.append_eq, List.cons_append, List.nil_append, apure_call1, apure_call2, apure_call3, bft, btf, acodeN, List.getElem?_toArray, List.getElem?_cons_zero, List.getElem?_cons_succ, aopsN, adrawT, cls, astep, aop, afloat, ev, nth_lst, get_lst, aput, setAt_lst, upd_at, init_zero, init_succ, init_nil, Nat.reduceLT, Nat.reduceEqDiff, reduceIte, len_N, abuiltin_app, Option.map_some, Option.map_none, orElse_some, apure_add, apure_eqlV, eqlVal_str, eqlVal_bool, eqlVal_ptr, eqlVal_slice, eqlVal_wide, eqlVal_int, allT, ↓aop_eqlV, apure_neq, List.map_cons, List.map_nil, List.all_cons, List.all_nil, lit2, lit1, lit0, List.isEmpty_nil, bls, Bool.false_eq_true, if_true, if_false, List.length_map, beq_self_eq_true, uns, h0, h1, h6, h7, hv, la9, lb9, lss64, gtr64', q1, q2, e2, ib, load3, cb, add64', r1, r2, build27, happ, e3]
  exact ⟨_, _, rfl, by simp only [upd_at, Nat.reduceEqDiff, reduceIte, h0], by simp only [upd_at, Nat.reduceEqDiff, reduceIte, h1], by simp only [upd_at, Nat.reduceEqDiff, reduceIte], by simp only [upd_at, Nat.reduceEqDiff, reduceIte], by simp only [upd_at, Nat.reduceEqDiff, reduceIte]; exact hS', hle, hfr⟩
theorem radd_C (h0 : F 0 = a) (h1 : F 1 = b) (h6 : F 6 = .int .i64 (c : Nat)) (h7 : F 7 = .int .i64 (i : Nat)) (hi9 : i < 100000) (ha : NumA m a la) (hb : NumA m b lb) (hi : la.length ≤ i) (hj : lb.length ≤ i) (hs : c < 1000000) (hc : 0 < c) (hS : GN B m (F 5) L) (hB : B ≤ m.length) (hl : L.length ≤ 100000) :
    ∃ F' m', acodeN E self nf lpradd_0 (lst F 53) m = some (.normal, lst F' 53, m') ∧ F' 0 = a ∧ F' 1 = b ∧ F' 6 = .int .i64 (((c) / 256 : Nat) : Int) ∧ F' 7 = .int .i64 ((i + 1 : Nat) : Int) ∧ GN B m' (F' 5) (L ++ [(c) % 256]) ∧ m.length ≤ m'.length ∧ ∀ k, k < B → m'[k]? = m[k]? := by
  have q1 : decide (((i : Nat) : Int) < ((la.length : Nat) : Int)) = false := decide_eq_false (by omega)
  have q2 : decide (((i : Nat) : Int) < ((lb.length : Nat) : Int)) = false := decide_eq_false (by omega)
  have q3 : decide (((c : Nat) : Int) > 0) = true := decide_eq_true (by omega)
  have e3 := w1 (i := i) (by omega)
  have la9 := ha.1
  have lb9 := hb.1
  generalize hv : F 5 = v at hS
  obtain ⟨v', m', happ, hS', hle, hfr⟩ := appN (x := (c) % 256) hS hB hl
  have r1 := rem256 (c)
  have r2 := quo256i (s := c) (by omega)
  simp only [lpradd_0_eq, eradd_0, eradd_1, eradd_10, eradd_11, eradd_12, eradd_2, eradd_3, eradd_4, eradd_5, eradd_6, eradd_7, eradd_8, eradd_9, lradd_0, lradd_1, lradd_2, lradd_3, lradd_4, lradd_5, lradd_6, lradd_7, lradd_8, lradd_9, lradd_10, lradd_11, lradd_12, gradd_4_10, gradd_4_4, agd_none, gdAt, gdV_bool, gdV_undef, Tryz.f35, List.append_eq, List.cons_append, List.nil_append, apure_call1, apure_call2, apure_call3, bft, btf, acodeN, List.getElem?_toArray, List.getElem?_cons_zero, List.getElem?_cons_succ, aopsN, adrawT, cls, astep, aop, afloat, ev, nth_lst, get_lst, aput, setAt_lst, upd_at, init_zero, init_succ, init_nil, Nat.reduceLT, Nat.reduceEqDiff, reduceIte, len_N, abuiltin_app, Option.map_some, Option.map_none, orElse_some, apure_add, apure_eqlV, eqlVal_str, eqlVal_bool, eqlVal_ptr, eqlVal_slice, eqlVal_wide, eqlVal_int, allT, ↓aop_eqlV, apure_neq, List.map_cons, List.map_nil, List.all_cons, List.all_nil, lit2, lit1, lit0, List.isEmpty_nil, bls, Bool.false_eq_true, if_true, if_false, List.length_map, beq_self_eq_true, uns, h0, h1, h6, h7, hv, la9, lb9, lss64, gtr64', q1, q2, q3, add64', r1, r2, build27, happ, e3]
  exact ⟨_, _, rfl, by simp only [upd_at, Nat.reduceEqDiff, reduceIte, h0], by simp only [upd_at, Nat.reduceEqDiff, reduceIte, h1], by simp only [upd_at, Nat.reduceEqDiff, reduceIte], by simp only [upd_at, Nat.reduceEqDiff, reduceIte], by simp only [upd_at, Nat.reduceEqDiff, reduceIte]; exact hS', hle, hfr⟩
theorem radd_E (h0 : F 0 = a) (h1 : F 1 = b) (h6 : F 6 = .int .i64 0) (h7 : F 7 = .int .i64 (i : Nat)) (ha : NumA m a la) (hb : NumA m b lb) (hi : la.length ≤ i) (hj : lb.length ≤ i) :
    ∃ F', acodeN E self nf lpradd_0 (lst F 53) m = some (.exit 0, lst F' 53, m) ∧ F' 5 = F 5 := by
  have q1 : decide (((i : Nat) : Int) < ((la.length : Nat) : Int)) = false := decide_eq_false (by omega)
  have q2 : decide (((i : Nat) : Int) < ((lb.length : Nat) : Int)) = false := decide_eq_false (by omega)
  have q3 : decide ((0 : Int) > 0) = false := rfl
  have la9 := ha.1
  have lb9 := hb.1
  simp only [lpradd_0_eq, eradd_0, eradd_1, eradd_10, eradd_11, eradd_12, eradd_2, eradd_3, eradd_4, eradd_5, eradd_6, eradd_7, eradd_8, eradd_9, lradd_0, lradd_1, lradd_2, lradd_3, lradd_4, lradd_5, lradd_6, lradd_7, lradd_8, lradd_9, lradd_10, lradd_11, lradd_12, gradd_4_10, gradd_4_4, agd_none, gdAt, gdV_bool, gdV_undef, Tryz.f35, List.append_eq, List.cons_append, List.nil_append, apure_call1, apure_call2, apure_call3, bft, btf, acodeN, List.getElem?_toArray, List.getElem?_cons_zero, List.getElem?_cons_succ, aopsN, adrawT, cls, astep, aop, afloat, ev, nth_lst, get_lst, aput, setAt_lst, upd_at, init_zero, init_succ, init_nil, Nat.reduceLT, Nat.reduceEqDiff, reduceIte, len_N, abuiltin_app, Option.map_some, Option.map_none, orElse_some, apure_add, apure_eqlV, eqlVal_str, eqlVal_bool, eqlVal_ptr, eqlVal_slice, eqlVal_wide, eqlVal_int, allT, ↓aop_eqlV, apure_neq, List.map_cons, List.map_nil, List.all_cons, List.all_nil, lit2, lit1, lit0, List.isEmpty_nil, bls, Bool.false_eq_true, if_true, if_false, List.length_map, beq_self_eq_true, uns, h0, h1, h6, h7, la9, lb9, lss64, gtr64', q1, q2, q3]
  exact ⟨_, rfl, by simp only [upd_at, Nat.reduceEqDiff, reduceIte]⟩
end
end Go.Am.Seat
namespace Go.Am.Seat
open Go.Proofs Go.Am
theorem val_app1 (L : List Nat) (x : Nat) : val (L ++ [x]) = val L + 256 ^ L.length * x := by
  rw [val_append]
  simp [val]
theorem digit_step (A P s : Nat) : A + P * (s % 256) + P * 256 * (s / 256) = A + P * s := by
  have : P * s = P * (s % 256) + P * 256 * (s / 256) := by
    rw [Nat.mul_assoc, ← Nat.mul_add, Nat.add_comm, Nat.div_add_mod]
  omega
theorem mem_app1 {L : List Nat} {s : Nat} (h : ∀ x ∈ L, x < 256) : ∀ x ∈ L ++ [s % 256], x < 256 := by
  intro x hx
  rcases List.mem_append.1 hx with h1 | h1
  · exact h x h1
  · simp only [List.mem_singleton] at h1
    omega
theorem pow_two_lt {a b : Nat} {x y : Nat} (hx : x < 256 ^ a) (hy : y < 256 ^ b) : x + y < 256 ^ (a + b + 1) := by
  have h1 : 256 ^ a ≤ 256 ^ (a + b) := Nat.pow_le_pow_right (by omega) (by omega)
  have h2 : 256 ^ b ≤ 256 ^ (a + b) := Nat.pow_le_pow_right (by omega) (by omega)
  have h3 : 256 ^ (a + b + 1) = 256 ^ (a + b) * 256 := Nat.pow_succ ..
  omega
theorem radd_bodyL {self : Self} {nf : Nat} {m : Mem} {a b : Value} {la lb : List Nat} {x y : Nat} (ct : CTrim self) (ha : NumA m a la) (hb : NumA m b lb) (vx : val la = x) (vy : val lb = y) (dx : ∀ x ∈ la, x < 256) (dy : ∀ x ∈ lb, x < 256) (hlx : la.length ≤ 400) (hly : lb.length ≤ 400) (hnf : 1000 < nf) :
    ∃ v m1, abody E self nf 35 [a, b] m = some (v, m1) ∧ NumB m.length v m1 (x + y) := by
  rw [abody_eqF (by kernel_rfl) Tryz.func35 bodyradd (by kernel_rfl) (Nat.le_of_ble_eq_true rfl)]
  rw [show Tryz.f35.ntmps = 53 from rfl]
  have px := val_lt dx
  have py := val_lt dy
  rw [vx] at px
  rw [vy] at py
  have hloop := aloop_inv (body := acodeN E self nf lpradd_0) (N := la.length + lb.length + 1)
    (I := fun i T m' => ∃ G L c, T = lst G 53 ∧ m.length ≤ m'.length ∧ (∀ k, k < m.length → m'[k]? = m[k]?) ∧ G 0 = a ∧ G 1 = b ∧ G 6 = .int .i64 (c : Nat) ∧ G 7 = .int .i64 (i : Nat) ∧ GN m.length m' (G 5) L ∧ L.length = i ∧ (∀ x ∈ L, x < 256) ∧ c ≤ 1 ∧
      val L + 256 ^ i * c = val (la.take i) + val (lb.take i))
    (Q := fun e T m' => e = .exit 0 ∧ ∃ G L, T = lst G 53 ∧ GN m.length m' (G 5) L ∧ L.length ≤ 1000 ∧ (∀ x ∈ L, x < 256) ∧ val L = x + y) (fun i T m' hi hI => by
      obtain ⟨G, L, c, rfl, hle, hfr, g0, g1, g6, g7, gS, gl, gd, gc, gv⟩ := hI
      have ha' := ha.keep hfr
      have hb' := hb.keep hfr
      have hpow : 256 ^ (i + 1) = 256 ^ i * 256 := Nat.pow_succ ..
      by_cases h1 : i < la.length
      · have hx : la[i]? = some la[i] := by simp [h1]
        have hx9 := dx _ (List.mem_of_getElem? hx)
        have sx := val_step hx
        generalize la[i] = xi at *
        by_cases h2 : i < lb.length
        · have hy : lb[i]? = some lb[i] := by simp [h2]
          have hy9 := dy _ (List.mem_of_getElem? hy)
          have sy := val_step hy
          generalize lb[i] = yi at *
          left
          obtain ⟨F', m2, hr, f0, f1, f6, f7, fS, fle, ffr⟩ := radd_AB (self := self) (nf := nf) g0 g1 g6 g7 (by omega) ha' hb' hx hy (by omega) gS hle (by omega)
          refine ⟨_, _, hr, by omega, F', _, _, rfl, by omega, fun k hk => by rw [ffr k hk, hfr k hk], f0, f1, f6, f7, fS, by simp [gl], mem_app1 gd, by omega, ?_⟩
          rw [val_app1, gl, hpow, digit_step, sx, sy, Nat.mul_add, Nat.mul_add]
          omega
        · have sy := val_same (l := lb) (i := i) (by omega)
          left
          obtain ⟨F', m2, hr, f0, f1, f6, f7, fS, fle, ffr⟩ := radd_A (self := self) (nf := nf) g0 g1 g6 g7 (by omega) ha' hb' hx (by omega) (by omega) gS hle (by omega)
          refine ⟨_, _, hr, by omega, F', _, _, rfl, by omega, fun k hk => by rw [ffr k hk, hfr k hk], f0, f1, f6, f7, fS, by simp [gl], mem_app1 gd, by omega, ?_⟩
          rw [val_app1, gl, hpow, digit_step, sx, sy, Nat.mul_add]
          omega
      · have sx := val_same (l := la) (i := i) (by omega)
        by_cases h2 : i < lb.length
        · have hy : lb[i]? = some lb[i] := by simp [h2]
          have hy9 := dy _ (List.mem_of_getElem? hy)
          have sy := val_step hy
          generalize lb[i] = yi at *
          left
          obtain ⟨F', m2, hr, f0, f1, f6, f7, fS, fle, ffr⟩ := radd_B (self := self) (nf := nf) g0 g1 g6 g7 (by omega) ha' hb' (by omega) hy (by omega) gS hle (by omega)
          refine ⟨_, _, hr, by omega, F', _, _, rfl, by omega, fun k hk => by rw [ffr k hk, hfr k hk], f0, f1, f6, f7, fS, by simp [gl], mem_app1 gd, by omega, ?_⟩
          rw [val_app1, gl, hpow, digit_step, sx, sy, Nat.mul_add]
          omega
        · have sy := val_same (l := lb) (i := i) (by omega)
          have tx : val (la.take i) = x := by rw [List.take_of_length_le (by omega)]; exact vx
          have ty : val (lb.take i) = y := by rw [List.take_of_length_le (by omega)]; exact vy
          by_cases h3 : 0 < c
          · left
            have hin : i < la.length + lb.length + 1 := by
              by_cases hin : i < la.length + lb.length + 1
              · exact hin
              · exfalso
                have h9 := pow_two_lt px py
                have h10 : i = la.length + lb.length + 1 := by omega
                have h11 : c = 1 := by omega
                rw [← h10] at h9
                rw [h11, Nat.mul_one, tx, ty] at gv
                omega
            obtain ⟨F', m2, hr, f0, f1, f6, f7, fS, fle, ffr⟩ := radd_C (self := self) (nf := nf) g0 g1 g6 g7 (by omega) ha' hb' (by omega) (by omega) (by omega) h3 gS hle (by omega)
            refine ⟨_, _, hr, hin, F', _, _, rfl, by omega, fun k hk => by rw [ffr k hk, hfr k hk], f0, f1, f6, f7, fS, by simp [gl], mem_app1 gd, by omega, ?_⟩
            rw [val_app1, gl, hpow, digit_step, sx, sy]
            omega
          · right
            have hc0 : c = 0 := by omega
            subst hc0
            obtain ⟨F', hr, f5⟩ := radd_E (self := self) (nf := nf) (m := m') g0 g1 g6 g7 ha' hb' (by omega) (by omega)
            refine ⟨_, _, _, hr, by simp, rfl, F', L, rfl, by rw [f5]; exact gS, by omega, gd, ?_⟩
            rw [tx, ty] at gv
            omega)
  obtain ⟨e, T', m', hr, rfl, G, L, rfl, gS, gl, gd, gv⟩ := hloop (la.length + lb.length + 1) 0 nf (lst (upd (upd (upd (upd (init [a, b]) 4 (.slice none 0 0)) 5 (.slice none 0 0)) 6 (.int .i64 0)) 7 (.int .i64 0)) 53) m (by omega) (by omega) ⟨_, [], 0, rfl, Nat.le_refl _, fun _ _ => rfl, rfl, rfl, rfl, rfl, .inl ⟨rfl, rfl⟩, rfl, (fun x hx => by cases hx), by omega, by simp [val]⟩
  generalize hv : G 5 = v at gS
  obtain ⟨v', ht, hB⟩ := ct m.length m' v L (x + y) gS gl gd gv
  simp only [eradd_0, eradd_1, eradd_10, eradd_11, eradd_12, eradd_2, eradd_3, eradd_4, eradd_5, eradd_6, eradd_7, eradd_8, eradd_9, lradd_0, lradd_1, lradd_2, lradd_3, lradd_4, lradd_5, lradd_6, lradd_7, lradd_8, lradd_9, lradd_10, lradd_11, lradd_12, gradd_4_10, gradd_4_4, agd_none, gdAt, gdV_bool, gdV_undef, Tryz.f35, List.append_eq, List.cons_append, List.nil_append, apure_call1, apure_call2, apure_call3, bft, btf, acodeN, List.getElem?_toArray, List.getElem?_cons_zero, List.getElem?_cons_succ, aopsN, adrawT, cls, astep, aop, afloat, ev, nth_lst, get_lst, aput, setAt_lst, upd_at, init_zero, init_succ, init_nil, Nat.reduceLT, Nat.reduceEqDiff, reduceIte, len_N, abuiltin_app, Option.map_some, Option.map_none, orElse_some, apure_add, apure_eqlV, eqlVal_str, eqlVal_bool, eqlVal_ptr, eqlVal_slice, eqlVal_wide, eqlVal_int, allT, ↓aop_eqlV, apure_neq, List.map_cons, List.map_nil, List.all_cons, List.all_nil, lit2, lit1, lit0, List.isEmpty_nil, bls, Bool.false_eq_true, if_true, if_false, List.length_map, beq_self_eq_true, uns, hr, hv, calltrim, ht, finish, ares, aresL, ares1]
  exact ⟨_, _, rfl, hB⟩
theorem radd_body {self : Self} {nf : Nat} {m : Mem} {a b : Value} {x y : Nat} (ct : CTrim self) (ha : NumA m a (dig x)) (hb : NumA m b (dig y)) (hlx : (dig x).length ≤ 400) (hly : (dig y).length ≤ 400) (hnf : 1000 < nf) :
    ∃ v m1, abody E self nf 35 [a, b] m = some (v, m1) ∧ NumB m.length v m1 (x + y) :=
  radd_bodyL ct ha hb (val_dig x) (val_dig y) (dig_lt x) (dig_lt y) hlx hly hnf
def CAdd (self : Self) : Prop := ∀ (m : Mem) (a b : Value) (x y : Nat), NumA m a (dig x) → NumA m b (dig y) → (dig x).length ≤ 400 → (dig y).length ≤ 400 → ∃ v m', ainv E self 35 [a, b] m = some (v, m') ∧ NumR m v m' (x + y)
theorem cadd {R : Nat → Self} {K : List Fact} (hR : Runs R K) {n : Nat} (hK : hasF K 35 = false) (hK' : hasF K 38 = false) (hn : 1000 ≤ n) : CAdd (R (n + 2)) := by
  intro m a b x y ha hb hlx hly
  refine num2_call (by kernel_rfl) (by kernel_rfl) ha hb fun M' ha hb => ?_
  obtain ⟨v, m1, h1, h2⟩ := radd_body (self := (R (n + 1))) (nf := n + 2) (ctrim hR hK' hn) ha hb hlx hly (by omega)
  exact ⟨v, m1, hR.b hK h1, h2⟩
def CAddL (self : Self) : Prop := ∀ (m : Mem) (a b : Value) (la lb : List Nat) (r : Nat), NumA m a la → NumA m b lb → (∀ x ∈ la, x < 256) → (∀ x ∈ lb, x < 256) → la.length ≤ 400 → lb.length ≤ 400 → val la + val lb = r → ∃ v m', ainv E self 35 [a, b] m = some (v, m') ∧ NumR m v m' r
theorem caddL {R : Nat → Self} {K : List Fact} (hR : Runs R K) {n : Nat} (hK : hasF K 35 = false) (hK' : hasF K 38 = false) (hn : 1000 ≤ n) : CAddL (R (n + 2)) := by
  intro m a b la lb r ha hb da db hlx hly hr
  subst hr
  refine num2_call (by kernel_rfl) (by kernel_rfl) ha hb fun M' ha hb => ?_
  obtain ⟨v, m1, h1, h2⟩ := radd_bodyL (self := (R (n + 1))) (nf := n + 2) (ctrim hR hK' hn) ha hb rfl rfl da db hlx hly (by omega)
  exact ⟨v, m1, hR.b hK h1, h2⟩
end Go.Am.Seat
namespace Go.Am.Seat
open Go.Proofs Go.Am
noncomputable def rrsml_0 : Array Oper := match Tryz.f68.body with
  | some (.seq (.region _ o _) _) => o
  | _ => #[]
noncomputable def lrsml_0 : List Oper := match Tryz.f68.body with
  | some (.seq (.region _ o _) _) => o.toList
  | _ => []
theorem ersml_0 : rrsml_0.toList = lrsml_0 := rfl
noncomputable def rrsml_1 : Array Oper := match Tryz.f68.body with
  | some (.seq _ (.seq (.region _ o _) _)) => o
  | _ => #[]
noncomputable def lrsml_1 : List Oper := match Tryz.f68.body with
  | some (.seq _ (.seq (.region _ o _) _)) => o.toList
  | _ => []
theorem ersml_1 : rrsml_1.toList = lrsml_1 := rfl
noncomputable def lprsml_0 : Code := match Tryz.f68.body with
  | some (.seq _ (.seq _ (.seq (.block _ (.loop c)) _))) => c
  | _ => .skip
noncomputable def rrsml_2 : Array Oper := match Tryz.f68.body with
  | some (.seq _ (.seq _ (.seq (.block _ (.loop (.seq (.seq (.region _ o _) _) _))) _))) => o
  | _ => #[]
noncomputable def lrsml_2 : List Oper := match Tryz.f68.body with
  | some (.seq _ (.seq _ (.seq (.block _ (.loop (.seq (.seq (.region _ o _) _) _))) _))) => o.toList
  | _ => []
theorem ersml_2 : rrsml_2.toList = lrsml_2 := rfl
noncomputable def rrsml_3 : Array Oper := match Tryz.f68.body with
  | some (.seq _ (.seq _ (.seq (.block _ (.loop (.seq _ (.block _ (.seq (.region _ o _) _))))) _))) => o
  | _ => #[]
noncomputable def lrsml_3 : List Oper := match Tryz.f68.body with
  | some (.seq _ (.seq _ (.seq (.block _ (.loop (.seq _ (.block _ (.seq (.region _ o _) _))))) _))) => o.toList
  | _ => []
theorem ersml_3 : rrsml_3.toList = lrsml_3 := rfl
noncomputable def rrsml_4 : Array Oper := match Tryz.f68.body with
  | some (.seq _ (.seq _ (.seq (.block _ (.loop (.seq _ (.block _ (.seq _ (.region _ o _)))))) _))) => o
  | _ => #[]
noncomputable def lrsml_4 : List Oper := match Tryz.f68.body with
  | some (.seq _ (.seq _ (.seq (.block _ (.loop (.seq _ (.block _ (.seq _ (.region _ o _)))))) _))) => o.toList
  | _ => []
theorem ersml_4 : rrsml_4.toList = lrsml_4 := rfl
theorem lprsml_0_eq : lprsml_0 = (.seq (.seq (.region 2 rrsml_2 false) (.cond (.tmp 5) .skip (.exit 0))) (.block 1 (.seq (.region 3 rrsml_3 false) (.region 4 rrsml_4 false)))) := rfl
noncomputable def rrsml_5 : Array Oper := match Tryz.f68.body with
  | some (.seq _ (.seq _ (.seq _ (.seq (.region _ o _) _)))) => o
  | _ => #[]
noncomputable def lrsml_5 : List Oper := match Tryz.f68.body with
  | some (.seq _ (.seq _ (.seq _ (.seq (.region _ o _) _)))) => o.toList
  | _ => []
theorem ersml_5 : rrsml_5.toList = lrsml_5 := rfl
theorem bodyrsml : Tryz.f68.body = some (.seq (.region 0 rrsml_0 false) (.seq (.region 1 rrsml_1 false) (.seq (.block 0 (.loop lprsml_0)) (.seq (.region 5 rrsml_5 false) .ret)))) := rfl
-- ntmps 15
theorem gtrU (a b : Int) : abin .gtr .u64 a .u64 b = some (.bool (decide (a > b))) := by kernel_rfl
theorem remU (s : Nat) : abin .rem .u64 ((s : Nat) : Int) .u64 256 = some (.int .u64 ((s % 256 : Nat) : Int)) := by
  have h : ∀ k : Int, abin .rem .u64 k .u64 256 = some (.int .u64 (k.tmod 256)) := fun k => by kernel_rfl
  rw [h, Int.tmod_eq_emod_of_nonneg (by omega)]
  congr 2
theorem quoU {s : Nat} (hs : s < 18446744073709551616) : abin .quo .u64 ((s : Nat) : Int) .u64 256 = some (.int .u64 ((s / 256 : Nat) : Int)) := by
  have h : ∀ k : Int, abin .quo .u64 k .u64 256 = some (.int .u64 (wrapF .u64 (k.tdiv 256))) := fun k => by kernel_rfl
  rw [h, Int.tdiv_eq_ediv_of_nonneg (by omega)]
  have : wrapF .u64 (((s : Nat) : Int) / 256) = ((s / 256 : Nat) : Int) := by
    simp only [wrapF]
    omega
  rw [this]
theorem convU3 {x : Nat} (h : x < 256) : aconv E.P 25 3 (.int .u64 ((x : Nat) : Int)) = some (.int .i64 ((x : Nat) : Int)) := by
  have h2 : ∀ k : Int, aconv E.P 25 3 (.int .u64 k) = some (.int .i64 (wrapF .i64 k)) := fun k => by kernel_rfl
  rw [h2, wrap_i64 (by omega) (by omega)]
section
variable {self : Self} {nf B : Nat} {m : Mem} {F : Nat → Value} {L : List Nat} {x : Nat}
theorem rsml_iter (h0 : F 0 = .int .u64 (x : Nat)) (hx : 0 < x) (hx9 : x < 18446744073709551616) (hS : GN B m (F 3) L) (hB : B ≤ m.length) (hl : L.length ≤ 100000) :
    ∃ F' m', acodeN E self nf lprsml_0 (lst F 15) m = some (.normal, lst F' 15, m') ∧ F' 0 = .int .u64 ((x / 256 : Nat) : Int) ∧ GN B m' (F' 3) (L ++ [x % 256]) ∧ m.length ≤ m'.length := by
  have q : decide (((x : Nat) : Int) > 0) = true := decide_eq_true (by omega)
  generalize hv : F 3 = v at hS
  obtain ⟨v', m', happ, hS', hle, hfr⟩ := appN (x := x % 256) hS hB hl
  simp only [lprsml_0_eq, ersml_0, ersml_1, ersml_2, ersml_3, ersml_4, ersml_5, lrsml_0, lrsml_1, lrsml_2, lrsml_3, lrsml_4, lrsml_5, agd_none, gdAt, gdV_bool, gdV_undef, Tryz.f68, List.append_eq, List.cons_append, List.nil_append, apure_call1, apure_call2, apure_call3, bft, btf, acodeN, List.getElem?_toArray, List.getElem?_cons_zero, List.getElem?_cons_succ, aopsN, adrawT, cls, astep, aop, afloat, ev, nth_lst, get_lst, aput, setAt_lst, upd_at, init_zero, init_succ, init_nil, Nat.reduceLT, Nat.reduceEqDiff, reduceIte, len_N, abuiltin_app, Option.map_some, Option.map_none, orElse_some, apure_add, apure_eqlV, eqlVal_str, eqlVal_bool, eqlVal_ptr, eqlVal_slice, eqlVal_wide, eqlVal_int, allT, ↓aop_eqlV, apure_neq, List.map_cons, List.map_nil, List.all_cons, List.all_nil, lit2, lit1, lit0, List.isEmpty_nil, bls, Bool.false_eq_true, if_true, if_false, List.length_map, beq_self_eq_true, uns, h0, hv, gtrU, q, remU, quoU hx9, convU3 (Nat.mod_lt x (by omega : 256 > 0)), build27, happ]
  exact ⟨_, _, rfl, by simp only [upd_at, Nat.reduceEqDiff, reduceIte], by simp only [upd_at, Nat.reduceEqDiff, reduceIte]; exact hS', hle⟩
theorem rsml_last (h0 : F 0 = .int .u64 0) : ∃ F', acodeN E self nf lprsml_0 (lst F 15) m = some (.exit 0, lst F' 15, m) ∧ F' 3 = F 3 := by
  have q : decide ((0 : Int) > 0) = false := rfl
  simp only [lprsml_0_eq, ersml_0, ersml_1, ersml_2, ersml_3, ersml_4, ersml_5, lrsml_0, lrsml_1, lrsml_2, lrsml_3, lrsml_4, lrsml_5, agd_none, gdAt, gdV_bool, gdV_undef, Tryz.f68, List.append_eq, List.cons_append, List.nil_append, apure_call1, apure_call2, apure_call3, bft, btf, acodeN, List.getElem?_toArray, List.getElem?_cons_zero, List.getElem?_cons_succ, aopsN, adrawT, cls, astep, aop, afloat, ev, nth_lst, get_lst, aput, setAt_lst, upd_at, init_zero, init_succ, init_nil, Nat.reduceLT, Nat.reduceEqDiff, reduceIte, len_N, abuiltin_app, Option.map_some, Option.map_none, orElse_some, apure_add, apure_eqlV, eqlVal_str, eqlVal_bool, eqlVal_ptr, eqlVal_slice, eqlVal_wide, eqlVal_int, allT, ↓aop_eqlV, apure_neq, List.map_cons, List.map_nil, List.all_cons, List.all_nil, lit2, lit1, lit0, List.isEmpty_nil, bls, Bool.false_eq_true, if_true, if_false, List.length_map, beq_self_eq_true, uns, h0, gtrU, q]
  exact ⟨_, rfl, by simp only [upd_at, Nat.reduceEqDiff, reduceIte]⟩
end
theorem rsml_body {self : Self} {nf : Nat} {m : Mem} {x : Nat} (hx : x < 18446744073709551616) (hnf : 1000 < nf) :
    ∃ v m1, abody E self nf 68 [.int .u64 (x : Nat)] m = some (v, m1) ∧ NumB m.length v m1 x := by
  rw [abody_eqF (by kernel_rfl) Tryz.func68 bodyrsml (by kernel_rfl) (Nat.le_of_ble_eq_true rfl)]
  rw [show Tryz.f68.ntmps = 15 from rfl]
  have hloop := aloop_inv (body := acodeN E self nf lprsml_0) (N := 8)
    (I := fun i T m' => ∃ G L r, T = lst G 15 ∧ m.length ≤ m'.length ∧ G 0 = .int .u64 (r : Nat) ∧ GN m.length m' (G 3) L ∧ L.length = i ∧ (∀ x ∈ L, x < 256) ∧ val L + 256 ^ i * r = x ∧ r < 256 ^ (8 - i) ∧ (i = 0 ∨ r ≠ 0 ∨ ∃ y, 0 < y ∧ L[i - 1]? = some y))
    (Q := fun e T m' => e = .exit 0 ∧ ∃ G L, T = lst G 15 ∧ GN m.length m' (G 3) L ∧ L = dig x) (fun i T m' hi hI => by
      obtain ⟨G, L, r, rfl, hle, g0, gS, gl, gd, gv, gr, gt⟩ := hI
      by_cases h : r = 0
      · right
        subst h
        obtain ⟨F', hr, f3⟩ := rsml_last (self := self) (nf := nf) (m := m') g0
        refine ⟨_, _, _, hr, by simp, rfl, F', L, rfl, by rw [f3]; exact gS, ?_⟩
        rw [Nat.mul_zero, Nat.add_zero] at gv
        rw [← gv]
        refine (dig_val gd ?_).symm
        rcases gt with gt | gt | ⟨y, h1, h2⟩
        · left; exact List.eq_nil_of_length_eq_zero (by omega)
        · exact absurd rfl gt
        · right; exact ⟨y, h1, by rw [gl]; exact h2⟩
      · left
        have hi8 : i < 8 := by
          by_cases hi8 : i < 8
          · exact hi8
          · exfalso
            have : 8 - i = 0 := by omega
            rw [this] at gr
            simp at gr
            exact h gr
        have h9 : 256 ^ (8 - i) ≤ 256 ^ 8 := Nat.pow_le_pow_right (by omega) (by omega)
        have h10 : (256 : Nat) ^ 8 = 18446744073709551616 := rfl
        obtain ⟨F', m2, hr, f0, fS, fle⟩ := rsml_iter (self := self) (nf := nf) g0 (by omega) (by omega) gS hle (by omega)
        refine ⟨_, _, hr, hi8, F', _, _, rfl, by omega, f0, fS, by simp [gl], mem_app1 gd, ?_, ?_, .inr ?_⟩
        · rw [val_app1, gl, Nat.pow_succ, digit_step]
          exact gv
        · have : 256 ^ (8 - i) = 256 ^ (8 - (i + 1)) * 256 := by rw [← Nat.pow_succ]; congr 1; omega
          omega
        · by_cases hq : r / 256 = 0
          · right
            refine ⟨r % 256, by omega, ?_⟩
            rw [Nat.add_sub_cancel, List.getElem?_append_right (by omega), gl]
            simp
          · exact .inl hq)
  obtain ⟨e, T', m', hr, rfl, G, L, rfl, gS, gL⟩ := hloop 8 0 nf (lst (upd (upd (init [.int .u64 (x : Nat)]) 2 (.slice none 0 0)) 3 (.slice none 0 0)) 15) m (by omega) (by omega) ⟨_, [], x, rfl, Nat.le_refl _, rfl, .inl ⟨rfl, rfl⟩, rfl, (fun x hx => by cases hx), by simp [val], by simpa using hx, .inl rfl⟩
  generalize hv : G 3 = v at gS
  simp only [ersml_0, ersml_1, ersml_2, ersml_3, ersml_4, ersml_5, lrsml_0, lrsml_1, lrsml_2, lrsml_3, lrsml_4, lrsml_5, agd_none, gdAt, gdV_bool, gdV_undef, Tryz.f68, List.append_eq, List.cons_append, List.nil_append, apure_call1, apure_call2, apure_call3, bft, btf, acodeN, List.getElem?_toArray, List.getElem?_cons_zero, List.getElem?_cons_succ, aopsN, adrawT, cls, astep, aop, afloat, ev, nth_lst, get_lst, aput, setAt_lst, upd_at, init_zero, init_succ, init_nil, Nat.reduceLT, Nat.reduceEqDiff, reduceIte, len_N, abuiltin_app, Option.map_some, Option.map_none, orElse_some, apure_add, apure_eqlV, eqlVal_str, eqlVal_bool, eqlVal_ptr, eqlVal_slice, eqlVal_wide, eqlVal_int, allT, ↓aop_eqlV, apure_neq, List.map_cons, List.map_nil, List.all_cons, List.all_nil, lit2, lit1, lit0, List.isEmpty_nil, bls, Bool.false_eq_true, if_true, if_false, List.length_map, beq_self_eq_true, uns, hr, hv, finish, ares, aresL, ares1]
  refine ⟨_, _, rfl, ?_⟩
  rcases gS with ⟨h1, rfl⟩ | ⟨b, h1, rfl, h2, h3⟩
  · left
    refine ⟨rfl, ?_⟩
    rw [← val_dig x, ← gL, h1]
    rfl
  · exact .inr ⟨L, L.length, b, false, Nat.le_refl _, by rw [List.take_length, gL], h1, rfl, h2, h3⟩
def CSmall (self : Self) : Prop := ∀ (m : Mem) (x : Nat), x < 18446744073709551616 → ∃ v m', ainv E self 68 [.int .u64 (x : Nat)] m = some (v, m') ∧ NumR m v m' x
theorem csmall {R : Nat → Self} {K : List Fact} (hR : Runs R K) {n : Nat} (hK : hasF K 68 = false) (hn : 1000 ≤ n) : CSmall (R (n + 1)) := by
  intro m x hx
  obtain ⟨v, m1, h1, h2⟩ := rsml_body (self := (R n)) (nf := n + 1) (m := (m.take E.G).map onlyTab) hx (by omega)
  unfold ainv
  rw [show ([Value.int .u64 (x : Nat)].all lit2) = true from rfl, show E.fast 68 = none from by kernel_rfl]
  simp only [if_true, hR.b hK h1]
  exact h2.coll
end Go.Am.Seat
namespace Go.Am.Seat
open Go.Proofs Go.Am
noncomputable def rrcmp_0 : Array Oper := match Tryz.f37.body with
  | some (.seq (.region _ o _) _) => o
  | _ => #[]
noncomputable def lrcmp_0 : List Oper := match Tryz.f37.body with
  | some (.seq (.region _ o _) _) => o.toList
  | _ => []
theorem ercmp_0 : rrcmp_0.toList = lrcmp_0 := rfl
noncomputable def rrcmp_1 : Array Oper := match Tryz.f37.body with
  | some (.seq _ (.seq (.seq (.region _ o _) _) _)) => o
  | _ => #[]
noncomputable def lrcmp_1 : List Oper := match Tryz.f37.body with
  | some (.seq _ (.seq (.seq (.region _ o _) _) _)) => o.toList
  | _ => []
theorem ercmp_1 : rrcmp_1.toList = lrcmp_1 := rfl
noncomputable def rrcmp_2 : Array Oper := match Tryz.f37.body with
  | some (.seq _ (.seq (.seq _ (.cond _ (.seq (.seq (.region _ o _) _) _) _)) _)) => o
  | _ => #[]
noncomputable def lrcmp_2 : List Oper := match Tryz.f37.body with
  | some (.seq _ (.seq (.seq _ (.cond _ (.seq (.seq (.region _ o _) _) _) _)) _)) => o.toList
  | _ => []
theorem ercmp_2 : rrcmp_2.toList = lrcmp_2 := rfl
noncomputable def rrcmp_3 : Array Oper := match Tryz.f37.body with
  | some (.seq _ (.seq (.seq _ (.cond _ (.seq (.seq _ (.cond _ (.seq (.region _ o _) _) _)) _) _)) _)) => o
  | _ => #[]
noncomputable def lrcmp_3 : List Oper := match Tryz.f37.body with
  | some (.seq _ (.seq (.seq _ (.cond _ (.seq (.seq _ (.cond _ (.seq (.region _ o _) _) _)) _) _)) _)) => o.toList
  | _ => []
theorem ercmp_3 : rrcmp_3.toList = lrcmp_3 := rfl
noncomputable def rrcmp_4 : Array Oper := match Tryz.f37.body with
  | some (.seq _ (.seq (.seq _ (.cond _ (.seq _ (.seq (.region _ o _) _)) _)) _)) => o
  | _ => #[]
noncomputable def lrcmp_4 : List Oper := match Tryz.f37.body with
  | some (.seq _ (.seq (.seq _ (.cond _ (.seq _ (.seq (.region _ o _) _)) _)) _)) => o.toList
  | _ => []
theorem ercmp_4 : rrcmp_4.toList = lrcmp_4 := rfl
noncomputable def rrcmp_5 : Array Oper := match Tryz.f37.body with
  | some (.seq _ (.seq _ (.seq (.seq (.region _ o _) _) _))) => o
  | _ => #[]
noncomputable def lrcmp_5 : List Oper := match Tryz.f37.body with
  | some (.seq _ (.seq _ (.seq (.seq (.region _ o _) _) _))) => o.toList
  | _ => []
theorem ercmp_5 : rrcmp_5.toList = lrcmp_5 := rfl
noncomputable def lprcmp_0 : Code := match Tryz.f37.body with
  | some (.seq _ (.seq _ (.seq (.seq _ (.block _ (.loop c))) _))) => c
  | _ => .skip
noncomputable def rrcmp_6 : Array Oper := match Tryz.f37.body with
  | some (.seq _ (.seq _ (.seq (.seq _ (.block _ (.loop (.seq (.seq (.region _ o _) _) _)))) _))) => o
  | _ => #[]
noncomputable def lrcmp_6 : List Oper := match Tryz.f37.body with
  | some (.seq _ (.seq _ (.seq (.seq _ (.block _ (.loop (.seq (.seq (.region _ o _) _) _)))) _))) => o.toList
  | _ => []
theorem ercmp_6 : rrcmp_6.toList = lrcmp_6 := rfl
noncomputable def rrcmp_8 : Array Oper := match Tryz.f37.body with
  | some (.seq _ (.seq _ (.seq (.seq _ (.block _ (.loop (.seq _ (.seq (.block _ (.seq (.seq (.region _ o _) _) _)) _))))) _))) => o
  | _ => #[]
noncomputable def lrcmp_8 : List Oper := match Tryz.f37.body with
  | some (.seq _ (.seq _ (.seq (.seq _ (.block _ (.loop (.seq _ (.seq (.block _ (.seq (.seq (.region _ o _) _) _)) _))))) _))) => o.toList
  | _ => []
theorem ercmp_8 : rrcmp_8.toList = lrcmp_8 := rfl
theorem drcmp_8 {self : Self} {B : Nat} {T : List Value} {m : Mem} {lb : List (Nat × Nat)} {ls : Bool} : adrawN E self rrcmp_8 B rrcmp_8.toList 0 T m lb ls = adrawT E self rrcmp_8 B rrcmp_8.toList [(false, false), (false, false), (false, false), (false, false), (false, false), (false, false), (false, false), (false, false), (false, false)] 0 T m lb ls := adraw_tab (by kernel_rfl)
theorem srcmp_8 : E.sr 8 rrcmp_8 = false := by kernel_rfl
noncomputable def rrcmp_9 : Array Oper := match Tryz.f37.body with
  | some (.seq _ (.seq _ (.seq (.seq _ (.block _ (.loop (.seq _ (.seq (.block _ (.seq (.seq _ (.cond _ (.seq (.region _ o _) _) _)) _)) _))))) _))) => o
  | _ => #[]
noncomputable def lrcmp_9 : List Oper := match Tryz.f37.body with
  | some (.seq _ (.seq _ (.seq (.seq _ (.block _ (.loop (.seq _ (.seq (.block _ (.seq (.seq _ (.cond _ (.seq (.region _ o _) _) _)) _)) _))))) _))) => o.toList
  | _ => []
theorem ercmp_9 : rrcmp_9.toList = lrcmp_9 := rfl
noncomputable def rrcmp_10 : Array Oper := match Tryz.f37.body with
  | some (.seq _ (.seq _ (.seq (.seq _ (.block _ (.loop (.seq _ (.seq (.block _ (.seq _ (.seq (.region _ o _) _))) _))))) _))) => o
  | _ => #[]
noncomputable def lrcmp_10 : List Oper := match Tryz.f37.body with
  | some (.seq _ (.seq _ (.seq (.seq _ (.block _ (.loop (.seq _ (.seq (.block _ (.seq _ (.seq (.region _ o _) _))) _))))) _))) => o.toList
  | _ => []
theorem ercmp_10 : rrcmp_10.toList = lrcmp_10 := rfl
theorem drcmp_10 {self : Self} {B : Nat} {T : List Value} {m : Mem} {lb : List (Nat × Nat)} {ls : Bool} : adrawN E self rrcmp_10 B rrcmp_10.toList 0 T m lb ls = adrawT E self rrcmp_10 B rrcmp_10.toList [(false, false), (false, false), (false, false), (false, false), (false, false), (false, false), (false, false), (false, false), (false, false)] 0 T m lb ls := adraw_tab (by kernel_rfl)
theorem srcmp_10 : E.sr 10 rrcmp_10 = false := by kernel_rfl
noncomputable def rrcmp_11 : Array Oper := match Tryz.f37.body with
  | some (.seq _ (.seq _ (.seq (.seq _ (.block _ (.loop (.seq _ (.seq (.block _ (.seq _ (.seq _ (.cond _ (.seq (.region _ o _) _) _)))) _))))) _))) => o
  | _ => #[]
noncomputable def lrcmp_11 : List Oper := match Tryz.f37.body with
  | some (.seq _ (.seq _ (.seq (.seq _ (.block _ (.loop (.seq _ (.seq (.block _ (.seq _ (.seq _ (.cond _ (.seq (.region _ o _) _) _)))) _))))) _))) => o.toList
  | _ => []
theorem ercmp_11 : rrcmp_11.toList = lrcmp_11 := rfl
noncomputable def rrcmp_7 : Array Oper := match Tryz.f37.body with
  | some (.seq _ (.seq _ (.seq (.seq _ (.block _ (.loop (.seq _ (.seq _ (.region _ o _)))))) _))) => o
  | _ => #[]
noncomputable def lrcmp_7 : List Oper := match Tryz.f37.body with
  | some (.seq _ (.seq _ (.seq (.seq _ (.block _ (.loop (.seq _ (.seq _ (.region _ o _)))))) _))) => o.toList
  | _ => []
theorem ercmp_7 : rrcmp_7.toList = lrcmp_7 := rfl
theorem lprcmp_0_eq : lprcmp_0 = (.seq (.seq (.region 6 rrcmp_6 false) (.cond (.tmp 20) .skip (.exit 0))) (.seq (.block 1 (.seq (.seq (.region 8 rrcmp_8 true) (.cond (.tmp 31) (.seq (.region 9 rrcmp_9 false) .ret) .skip)) (.seq (.region 10 rrcmp_10 true) (.cond (.tmp 40) (.seq (.region 11 rrcmp_11 false) .ret) .skip)))) (.region 7 rrcmp_7 false))) := rfl
noncomputable def rrcmp_12 : Array Oper := match Tryz.f37.body with
  | some (.seq _ (.seq _ (.seq _ (.seq (.region _ o _) _)))) => o
  | _ => #[]
noncomputable def lrcmp_12 : List Oper := match Tryz.f37.body with
  | some (.seq _ (.seq _ (.seq _ (.seq (.region _ o _) _)))) => o.toList
  | _ => []
theorem ercmp_12 : rrcmp_12.toList = lrcmp_12 := rfl
theorem bodyrcmp : Tryz.f37.body = some (.seq (.region 0 rrcmp_0 false) (.seq (.seq (.region 1 rrcmp_1 false) (.cond (.tmp 10) (.seq (.seq (.region 2 rrcmp_2 false) (.cond (.tmp 15) (.seq (.region 3 rrcmp_3 false) .ret) .skip)) (.seq (.region 4 rrcmp_4 false) .ret)) .skip)) (.seq (.seq (.region 5 rrcmp_5 false) (.block 0 (.loop lprcmp_0))) (.seq (.region 12 rrcmp_12 false) .ret)))) := rfl
-- ntmps 41
def cmpN (x y : Nat) : Int := if x < y then -1 else if y < x then 1 else 0
section
variable {self : Self} {nf : Nat} {m : Mem} {F : Nat → Value} {a b : Value} {la lb : List Nat} {i x y : Nat}
theorem rcmp_same (h0 : F 0 = a) (h1 : F 1 = b) (h5 : F 5 = .int .i64 (i : Nat)) (hi9 : i < 100000) (ha : NumA m a la) (hb : NumA m b lb) (hx : la[i]? = some x) (hy : lb[i]? = some x) :
    ∃ F', acodeN E self nf lprcmp_0 (lst F 41) m = some (.normal, lst F' 41, m) ∧ F' 0 = a ∧ F' 1 = b ∧ F' 5 = .int .i64 (((i : Nat) : Int) - 1) := by
  obtain ⟨ba, oa, ia, ca⟩ := ha.sealed.2 i x hx
  obtain ⟨bb, ob, ib, cb⟩ := hb.sealed.2 i x hy
  have q0 : decide (((i : Nat) : Int) ≥ 0) = true := decide_eq_true (by omega)
  have q1 : decide (((x : Nat) : Int) < ((x : Nat) : Int)) = false := decide_eq_false (by omega)
  have q2 : decide (((x : Nat) : Int) > ((x : Nat) : Int)) = false := decide_eq_false (by omega)
  have e1 : wrapF .i64 (((i : Nat) : Int) - 1) = ((i : Nat) : Int) - 1 := by
    simp only [wrapF]
    omega
  simp only [lprcmp_0_eq, ↓drcmp_8, ↓drcmp_10, ↓srcmp_8, ↓srcmp_10, ercmp_0, ercmp_1, ercmp_10, ercmp_11, ercmp_12, ercmp_2, ercmp_3, ercmp_4, ercmp_5, ercmp_6, ercmp_7, ercmp_8, ercmp_9, lrcmp_0, lrcmp_1, lrcmp_2, lrcmp_3, lrcmp_4, lrcmp_5, lrcmp_6, lrcmp_7, lrcmp_8, lrcmp_9, lrcmp_10, lrcmp_11, lrcmp_12, agd_none, gdAt, gdV_bool, gdV_undef, Tryz.f37, List.append_eq, List.cons_append, List.nil_append, apure_call1, apure_call2, apure_call3, bft, btf, acodeN, List.getElem?_toArray, List.getElem?_cons_zero, List.getElem?_cons_succ, aopsN, adrawT, cls, astep, aop, afloat, ev, nth_lst, get_lst, aput, setAt_lst, upd_at, init_zero, init_succ, init_nil, Nat.reduceLT, Nat.reduceEqDiff, reduceIte, len_N, abuiltin_app, Option.map_some, Option.map_none, orElse_some, apure_add, apure_eqlV, eqlVal_str, eqlVal_bool, eqlVal_ptr, eqlVal_slice, eqlVal_wide, eqlVal_int, allT, ↓aop_eqlV, apure_neq, List.map_cons, List.map_nil, List.all_cons, List.all_nil, lit2, lit1, lit0, List.isEmpty_nil, bls, Bool.false_eq_true, if_true, if_false, List.length_map, beq_self_eq_true, uns, h0, h1, h5, geq64, q0, ia, ib, load3, ca, cb, lss64, q1, gtr64', q2, sub64', e1]
  exact ⟨_, rfl, by simp only [upd_at, Nat.reduceEqDiff, reduceIte, h0], by simp only [upd_at, Nat.reduceEqDiff, reduceIte, h1], by simp only [upd_at, Nat.reduceEqDiff, reduceIte]⟩
theorem rcmp_less (h0 : F 0 = a) (h1 : F 1 = b) (h5 : F 5 = .int .i64 (i : Nat)) (ha : NumA m a la) (hb : NumA m b lb) (hx : la[i]? = some x) (hy : lb[i]? = some y) (hlt : x < y) :
    ∃ F', acodeN E self nf lprcmp_0 (lst F 41) m = some (.ret, lst F' 41, m) ∧ F' 4 = .int .i64 (-1) := by
  obtain ⟨ba, oa, ia, ca⟩ := ha.sealed.2 i x hx
  obtain ⟨bb, ob, ib, cb⟩ := hb.sealed.2 i y hy
  have q0 : decide (((i : Nat) : Int) ≥ 0) = true := decide_eq_true (by omega)
  have q1 : decide (((x : Nat) : Int) < ((y : Nat) : Int)) = true := decide_eq_true (by omega)
  simp only [lprcmp_0_eq, ↓drcmp_8, ↓drcmp_10, ↓srcmp_8, ↓srcmp_10, ercmp_0, ercmp_1, ercmp_10, ercmp_11, ercmp_12, ercmp_2, ercmp_3, ercmp_4, ercmp_5, ercmp_6, ercmp_7, ercmp_8, ercmp_9, lrcmp_0, lrcmp_1, lrcmp_2, lrcmp_3, lrcmp_4, lrcmp_5, lrcmp_6, lrcmp_7, lrcmp_8, lrcmp_9, lrcmp_10, lrcmp_11, lrcmp_12, agd_none, gdAt, gdV_bool, gdV_undef, Tryz.f37, List.append_eq, List.cons_append, List.nil_append, apure_call1, apure_call2, apure_call3, bft, btf, acodeN, List.getElem?_toArray, List.getElem?_cons_zero, List.getElem?_cons_succ, aopsN, adrawT, cls, astep, aop, afloat, ev, nth_lst, get_lst, aput, setAt_lst, upd_at, init_zero, init_succ, init_nil, Nat.reduceLT, Nat.reduceEqDiff, reduceIte, len_N, abuiltin_app, Option.map_some, Option.map_none, orElse_some, apure_add, apure_eqlV, eqlVal_str, eqlVal_bool, eqlVal_ptr, eqlVal_slice, eqlVal_wide, eqlVal_int, allT, ↓aop_eqlV, apure_neq, List.map_cons, List.map_nil, List.all_cons, List.all_nil, lit2, lit1, lit0, List.isEmpty_nil, bls, Bool.false_eq_true, if_true, if_false, List.length_map, beq_self_eq_true, uns, h0, h1, h5, geq64, q0, ia, ib, load3, ca, cb, lss64, q1]
  exact ⟨_, rfl, by simp only [upd_at, Nat.reduceEqDiff, reduceIte]⟩
theorem rcmp_more (h0 : F 0 = a) (h1 : F 1 = b) (h5 : F 5 = .int .i64 (i : Nat)) (ha : NumA m a la) (hb : NumA m b lb) (hx : la[i]? = some x) (hy : lb[i]? = some y) (hlt : y < x) :
    ∃ F', acodeN E self nf lprcmp_0 (lst F 41) m = some (.ret, lst F' 41, m) ∧ F' 4 = .int .i64 1 := by
  obtain ⟨ba, oa, ia, ca⟩ := ha.sealed.2 i x hx
  obtain ⟨bb, ob, ib, cb⟩ := hb.sealed.2 i y hy
  have q0 : decide (((i : Nat) : Int) ≥ 0) = true := decide_eq_true (by omega)
  have q1 : decide (((x : Nat) : Int) < ((y : Nat) : Int)) = false := decide_eq_false (by omega)
  have q2 : decide (((x : Nat) : Int) > ((y : Nat) : Int)) = true := decide_eq_true (by omega)
  simp only [lprcmp_0_eq, ↓drcmp_8, ↓drcmp_10, ↓srcmp_8, ↓srcmp_10, ercmp_0, ercmp_1, ercmp_10, ercmp_11, ercmp_12, ercmp_2, ercmp_3, ercmp_4, ercmp_5, ercmp_6, ercmp_7, ercmp_8, ercmp_9, lrcmp_0, lrcmp_1, lrcmp_2, lrcmp_3, lrcmp_4, lrcmp_5, lrcmp_6, lrcmp_7, lrcmp_8, lrcmp_9, lrcmp_10, lrcmp_11, lrcmp_12, agd_none, gdAt, gdV_bool, gdV_undef, Tryz.f37, List.append_eq, List.cons_append, List.nil_append, apure_call1, apure_call2, apure_call3, bft, btf, acodeN, List.getElem?_toArray, List.getElem?_cons_zero, List.getElem?_cons_succ, aopsN, adrawT, cls, astep, aop, afloat, ev, nth_lst, get_lst, aput, setAt_lst, upd_at, init_zero, init_succ, init_nil, Nat.reduceLT, Nat.reduceEqDiff, reduceIte, len_N, abuiltin_app, Option.map_some, Option.map_none, orElse_some, apure_add, apure_eqlV, eqlVal_str, eqlVal_bool, eqlVal_ptr, eqlVal_slice, eqlVal_wide, eqlVal_int, allT, ↓aop_eqlV, apure_neq, List.map_cons, List.map_nil, List.all_cons, List.all_nil, lit2, lit1, lit0, List.isEmpty_nil, bls, Bool.false_eq_true, if_true, if_false, List.length_map, beq_self_eq_true, uns, h0, h1, h5, geq64, q0, ia, ib, load3, ca, cb, lss64, q1, gtr64', q2]
  exact ⟨_, rfl, by simp only [upd_at, Nat.reduceEqDiff, reduceIte]⟩
theorem rcmp_last (h5 : F 5 = .int .i64 (-1)) : ∃ F', acodeN E self nf lprcmp_0 (lst F 41) m = some (.exit 0, lst F' 41, m) := by
  have q0 : decide ((-1 : Int) ≥ 0) = false := rfl
  simp only [lprcmp_0_eq, ↓drcmp_8, ↓drcmp_10, ↓srcmp_8, ↓srcmp_10, ercmp_0, ercmp_1, ercmp_10, ercmp_11, ercmp_12, ercmp_2, ercmp_3, ercmp_4, ercmp_5, ercmp_6, ercmp_7, ercmp_8, ercmp_9, lrcmp_0, lrcmp_1, lrcmp_2, lrcmp_3, lrcmp_4, lrcmp_5, lrcmp_6, lrcmp_7, lrcmp_8, lrcmp_9, lrcmp_10, lrcmp_11, lrcmp_12, agd_none, gdAt, gdV_bool, gdV_undef, Tryz.f37, List.append_eq, List.cons_append, List.nil_append, apure_call1, apure_call2, apure_call3, bft, btf, acodeN, List.getElem?_toArray, List.getElem?_cons_zero, List.getElem?_cons_succ, aopsN, adrawT, cls, astep, aop, afloat, ev, nth_lst, get_lst, aput, setAt_lst, upd_at, init_zero, init_succ, init_nil, Nat.reduceLT, Nat.reduceEqDiff, reduceIte, len_N, abuiltin_app, Option.map_some, Option.map_none, orElse_some, apure_add, apure_eqlV, eqlVal_str, eqlVal_bool, eqlVal_ptr, eqlVal_slice, eqlVal_wide, eqlVal_int, allT, ↓aop_eqlV, apure_neq, List.map_cons, List.map_nil, List.all_cons, List.all_nil, lit2, lit1, lit0, List.isEmpty_nil, bls, Bool.false_eq_true, if_true, if_false, List.length_map, beq_self_eq_true, uns, h5, geq64, q0]
  exact ⟨_, rfl⟩
end
theorem val_less {la lb : List Nat} {i x y : Nat} (hl : la.length = lb.length) (da : ∀ x ∈ la, x < 256) (hd : la.drop (i + 1) = lb.drop (i + 1)) (hx : la[i]? = some x) (hy : lb[i]? = some y) (h : x < y) : val la < val lb := by
  have hi := (List.getElem?_eq_some_iff.1 hx).1
  have hj := (List.getElem?_eq_some_iff.1 hy).1
  have e1 : val la = val (la.take (i + 1)) + 256 ^ (i + 1) * val (la.drop (i + 1)) := by
    conv => lhs; rw [← List.take_append_drop (i + 1) la]
    rw [val_append, List.length_take, Nat.min_eq_left (by omega)]
  have e2 : val lb = val (lb.take (i + 1)) + 256 ^ (i + 1) * val (lb.drop (i + 1)) := by
    conv => lhs; rw [← List.take_append_drop (i + 1) lb]
    rw [val_append, List.length_take, Nat.min_eq_left (by omega)]
  have s1 := val_step hx
  have s2 := val_step hy
  have b1 := val_lt (l := la.take i) fun x hx => da x (List.mem_of_mem_take hx)
  rw [List.length_take, Nat.min_eq_left (by omega)] at b1
  have h9 : 256 ^ i * (x + 1) ≤ 256 ^ i * y := Nat.mul_le_mul_left _ (by omega)
  rw [Nat.mul_add, Nat.mul_one] at h9
  rw [e1, e2, hd, s1, s2]
  omega
theorem rcmp_body {self : Self} {nf : Nat} {m : Mem} {a b : Value} {x y : Nat} (ha : NumA m a (dig x)) (hb : NumA m b (dig y)) (hlx : (dig x).length ≤ 800) (hly : (dig y).length ≤ 800) (hnf : 1000 < nf) :
    abody E self nf 37 [a, b] m = some (.int .i64 (cmpN x y), m) := by
  rw [abody_eqF (by kernel_rfl) Tryz.func37 bodyrcmp (by kernel_rfl) (Nat.le_of_ble_eq_true rfl)]
  rw [show Tryz.f37.ntmps = 41 from rfl]
  have px := lt_dig_len x
  have py := lt_dig_len y
  have gx : ∀ k, k < (dig x).length → 256 ^ k ≤ x := by
    intro k hk
    by_cases h : 256 ^ k ≤ x
    · exact h
    · have := dig_len_le (n := x) (k := k) (by omega); omega
  have gy : ∀ k, k < (dig y).length → 256 ^ k ≤ y := by
    intro k hk
    by_cases h : 256 ^ k ≤ y
    · exact h
    · have := dig_len_le (n := y) (k := k) (by omega); omega
  have vx := val_dig x
  have vy := val_dig y
  have dx := dig_lt x
  have dy := dig_lt y
  have la9 := ha.1
  have lb9 := hb.1
  by_cases hl : (dig x).length = (dig y).length
  · have q1 : (((((dig y).length : Nat) : Int)) != (((dig y).length : Nat) : Int)) = false := by simp
    have hloop := aloop_inv (body := acodeN E self nf lprcmp_0) (N := (dig x).length)
      (I := fun k T m' => ∃ G, T = lst G 41 ∧ m' = m ∧ G 0 = a ∧ G 1 = b ∧ G 5 = .int .i64 ((((dig x).length : Nat) : Int) - 1 - (k : Nat)) ∧ (dig x).drop ((dig x).length - k) = (dig y).drop ((dig x).length - k))
      (Q := fun e T m' => ∃ F', T = lst F' 41 ∧ m' = m ∧ ((e = .ret ∧ F' 4 = .int .i64 (cmpN x y)) ∨ (e = .exit 0 ∧ x = y))) (fun k T m' hk hI => by
        obtain ⟨G, rfl, rfl, g0, g1, g5, gd⟩ := hI
        by_cases hlt : k < (dig x).length
        · obtain ⟨i, hi⟩ : ∃ i, (dig x).length = i + 1 + k := ⟨(dig x).length - 1 - k, by omega⟩
          have h5 : G 5 = .int .i64 (i : Nat) := by rw [g5]; congr 1; omega
          have hxi : (dig x)[i]? = some ((dig x)[i]'(by omega)) := by simp [show i < (dig x).length by omega]
          have hyi : (dig y)[i]? = some ((dig y)[i]'(by omega)) := by simp [show i < (dig y).length by omega]
          rw [show (dig x).length - k = i + 1 by omega] at gd
          generalize (dig x)[i]'(by omega) = xi at hxi
          generalize (dig y)[i]'(by omega) = yi at hyi
          by_cases h1 : xi < yi
          · right
            obtain ⟨F', hr, f4⟩ := rcmp_less (self := self) (nf := nf) g0 g1 h5 ha hb hxi hyi h1
            have h2 := val_less hl dx gd hxi hyi h1
            rw [vx, vy] at h2
            exact ⟨_, _, _, hr, by simp, F', rfl, rfl, .inl ⟨rfl, by rw [f4]; unfold cmpN; rw [if_pos h2]⟩⟩
          · by_cases h3 : yi < xi
            · right
              obtain ⟨F', hr, f4⟩ := rcmp_more (self := self) (nf := nf) g0 g1 h5 ha hb hxi hyi h3
              have h2 := val_less hl.symm dy gd.symm hyi hxi h3
              rw [vx, vy] at h2
              exact ⟨_, _, _, hr, by simp, F', rfl, rfl, .inl ⟨rfl, by rw [f4]; unfold cmpN; rw [if_neg (by omega), if_pos h2]⟩⟩
            · left
              have h4 : yi = xi := by omega
              subst h4
              obtain ⟨F', hr, f0, f1, f5⟩ := rcmp_same (self := self) (nf := nf) g0 g1 h5 (by omega) ha hb hxi hyi
              refine ⟨_, _, hr, hlt, F', rfl, rfl, f0, f1, by rw [f5]; congr 1; omega, ?_⟩
              rw [show (dig x).length - (k + 1) = i by omega]
              have e1 : (dig x).drop i = yi :: (dig x).drop (i + 1) := by
                rw [List.drop_eq_getElem_cons (by omega)]
                rw [List.getElem?_eq_getElem (by omega)] at hxi
                rw [Option.some.inj hxi]
              have e2 : (dig y).drop i = yi :: (dig y).drop (i + 1) := by
                rw [List.drop_eq_getElem_cons (by omega)]
                rw [List.getElem?_eq_getElem (by omega)] at hyi
                rw [Option.some.inj hyi]
              rw [e1, e2, gd]
        · right
          have hk9 : k = (dig x).length := by omega
          subst hk9
          have h5 : G 5 = .int .i64 (-1) := by rw [g5]; congr 1; omega
          obtain ⟨F', hr⟩ := rcmp_last (self := self) (nf := nf) (m := m') h5
          rw [Nat.sub_self, List.drop_zero, List.drop_zero] at gd
          exact ⟨_, _, _, hr, by simp, F', rfl, rfl, .inr ⟨rfl, dig_inj gd⟩⟩)
    rw [hl] at la9
    have e1 : wrapF .i64 ((((dig y).length : Nat) : Int) - 1) = (((dig y).length : Nat) : Int) - 1 := by
      simp only [wrapF]
      omega
    obtain ⟨e, T', m', hr, F', rfl, rfl, hq⟩ := hloop (dig x).length 0 nf (lst (upd (upd (upd (upd (upd (upd (upd (upd (upd (upd (init [a, b]) 4 (.int .i64 0)) 6 a) 7 (.int .i64 (((dig y).length : Nat) : Int))) 8 b) 9 (.int .i64 (((dig y).length : Nat) : Int))) 10 (.bool false)) 16 a) 17 (.int .i64 (((dig y).length : Nat) : Int))) 18 (.int .i64 ((((dig y).length : Nat) : Int) - 1))) 5 (.int .i64 ((((dig y).length : Nat) : Int) - 1))) 41) m (by omega) (by omega) ⟨_, rfl, rfl, rfl, rfl, by rw [hl]; show Value.int .i64 _ = _; congr 1; omega, by rw [Nat.sub_zero, List.drop_of_length_le (Nat.le_refl _), List.drop_of_length_le (by omega)]⟩
    rcases hq with ⟨rfl, f4⟩ | ⟨rfl, hxy⟩
    · simp only [↓drcmp_8, ↓drcmp_10, ↓srcmp_8, ↓srcmp_10, ercmp_0, ercmp_1, ercmp_10, ercmp_11, ercmp_12, ercmp_2, ercmp_3, ercmp_4, ercmp_5, ercmp_6, ercmp_7, ercmp_8, ercmp_9, lrcmp_0, lrcmp_1, lrcmp_2, lrcmp_3, lrcmp_4, lrcmp_5, lrcmp_6, lrcmp_7, lrcmp_8, lrcmp_9, lrcmp_10, lrcmp_11, lrcmp_12, agd_none, gdAt, gdV_bool, gdV_undef, Tryz.f37, List.append_eq, List.cons_append, List.nil_append, apure_call1, apure_call2, apure_call3, bft, btf, acodeN, List.getElem?_toArray, List.getElem?_cons_zero, List.getElem?_cons_succ, aopsN, adrawT, cls, astep, aop, afloat, ev, nth_lst, get_lst, aput, setAt_lst, upd_at, init_zero, init_succ, init_nil, Nat.reduceLT, Nat.reduceEqDiff, reduceIte, len_N, abuiltin_app, Option.map_some, Option.map_none, orElse_some, apure_add, apure_eqlV, eqlVal_str, eqlVal_bool, eqlVal_ptr, eqlVal_slice, eqlVal_wide, eqlVal_int, allT, ↓aop_eqlV, apure_neq, List.map_cons, List.map_nil, List.all_cons, List.all_nil, lit2, lit1, lit0, List.isEmpty_nil, bls, Bool.false_eq_true, if_true, if_false, List.length_map, beq_self_eq_true, uns, la9, lb9, neq64, q1, sub64', e1, hr, f4, finish, ares, aresL, ares1]
    · subst hxy
      have hc : cmpN x x = 0 := by unfold cmpN; simp
      simp only [↓drcmp_8, ↓drcmp_10, ↓srcmp_8, ↓srcmp_10, ercmp_0, ercmp_1, ercmp_10, ercmp_11, ercmp_12, ercmp_2, ercmp_3, ercmp_4, ercmp_5, ercmp_6, ercmp_7, ercmp_8, ercmp_9, lrcmp_0, lrcmp_1, lrcmp_2, lrcmp_3, lrcmp_4, lrcmp_5, lrcmp_6, lrcmp_7, lrcmp_8, lrcmp_9, lrcmp_10, lrcmp_11, lrcmp_12, agd_none, gdAt, gdV_bool, gdV_undef, Tryz.f37, List.append_eq, List.cons_append, List.nil_append, apure_call1, apure_call2, apure_call3, bft, btf, acodeN, List.getElem?_toArray, List.getElem?_cons_zero, List.getElem?_cons_succ, aopsN, adrawT, cls, astep, aop, afloat, ev, nth_lst, get_lst, aput, setAt_lst, upd_at, init_zero, init_succ, init_nil, Nat.reduceLT, Nat.reduceEqDiff, reduceIte, len_N, abuiltin_app, Option.map_some, Option.map_none, orElse_some, apure_add, apure_eqlV, eqlVal_str, eqlVal_bool, eqlVal_ptr, eqlVal_slice, eqlVal_wide, eqlVal_int, allT, ↓aop_eqlV, apure_neq, List.map_cons, List.map_nil, List.all_cons, List.all_nil, lit2, lit1, lit0, List.isEmpty_nil, bls, Bool.false_eq_true, if_true, if_false, List.length_map, beq_self_eq_true, uns, la9, lb9, neq64, q1, sub64', e1, hr, finish, ares, aresL, ares1, hc]
  · have q1 : (((((dig x).length : Nat) : Int)) != (((dig y).length : Nat) : Int)) = true := by
      have : ((((dig x).length : Nat) : Int)) ≠ (((dig y).length : Nat) : Int) := by omega
      simpa using this
    by_cases h2 : (dig x).length < (dig y).length
    · have q2 : decide ((((dig x).length : Nat) : Int) < (((dig y).length : Nat) : Int)) = true := decide_eq_true (by omega)
      have h3 := gy _ h2
      have hc : cmpN x y = -1 := by unfold cmpN; rw [if_pos (by omega)]
      simp only [↓drcmp_8, ↓drcmp_10, ↓srcmp_8, ↓srcmp_10, ercmp_0, ercmp_1, ercmp_10, ercmp_11, ercmp_12, ercmp_2, ercmp_3, ercmp_4, ercmp_5, ercmp_6, ercmp_7, ercmp_8, ercmp_9, lrcmp_0, lrcmp_1, lrcmp_2, lrcmp_3, lrcmp_4, lrcmp_5, lrcmp_6, lrcmp_7, lrcmp_8, lrcmp_9, lrcmp_10, lrcmp_11, lrcmp_12, agd_none, gdAt, gdV_bool, gdV_undef, Tryz.f37, List.append_eq, List.cons_append, List.nil_append, apure_call1, apure_call2, apure_call3, bft, btf, acodeN, List.getElem?_toArray, List.getElem?_cons_zero, List.getElem?_cons_succ, aopsN, adrawT, cls, astep, aop, afloat, ev, nth_lst, get_lst, aput, setAt_lst, upd_at, init_zero, init_succ, init_nil, Nat.reduceLT, Nat.reduceEqDiff, reduceIte, len_N, abuiltin_app, Option.map_some, Option.map_none, orElse_some, apure_add, apure_eqlV, eqlVal_str, eqlVal_bool, eqlVal_ptr, eqlVal_slice, eqlVal_wide, eqlVal_int, allT, ↓aop_eqlV, apure_neq, List.map_cons, List.map_nil, List.all_cons, List.all_nil, lit2, lit1, lit0, List.isEmpty_nil, bls, Bool.false_eq_true, if_true, if_false, List.length_map, beq_self_eq_true, uns, la9, lb9, neq64, q1, lss64, q2, finish, ares, aresL, ares1, hc]
    · have q2 : decide ((((dig x).length : Nat) : Int) < (((dig y).length : Nat) : Int)) = false := decide_eq_false (by omega)
      have h3 := gx (dig y).length (by omega)
      have hc : cmpN x y = 1 := by unfold cmpN; rw [if_neg (by omega), if_pos (by omega)]
      simp only [↓drcmp_8, ↓drcmp_10, ↓srcmp_8, ↓srcmp_10, ercmp_0, ercmp_1, ercmp_10, ercmp_11, ercmp_12, ercmp_2, ercmp_3, ercmp_4, ercmp_5, ercmp_6, ercmp_7, ercmp_8, ercmp_9, lrcmp_0, lrcmp_1, lrcmp_2, lrcmp_3, lrcmp_4, lrcmp_5, lrcmp_6, lrcmp_7, lrcmp_8, lrcmp_9, lrcmp_10, lrcmp_11, lrcmp_12, agd_none, gdAt, gdV_bool, gdV_undef, Tryz.f37, List.append_eq, List.cons_append, List.nil_append, apure_call1, apure_call2, apure_call3, bft, btf, acodeN, List.getElem?_toArray, List.getElem?_cons_zero, List.getElem?_cons_succ, aopsN, adrawT, cls, astep, aop, afloat, ev, nth_lst, get_lst, aput, setAt_lst, upd_at, init_zero, init_succ, init_nil, Nat.reduceLT, Nat.reduceEqDiff, reduceIte, len_N, abuiltin_app, Option.map_some, Option.map_none, orElse_some, apure_add, apure_eqlV, eqlVal_str, eqlVal_bool, eqlVal_ptr, eqlVal_slice, eqlVal_wide, eqlVal_int, allT, ↓aop_eqlV, apure_neq, List.map_cons, List.map_nil, List.all_cons, List.all_nil, lit2, lit1, lit0, List.isEmpty_nil, bls, Bool.false_eq_true, if_true, if_false, List.length_map, beq_self_eq_true, uns, la9, lb9, neq64, q1, lss64, q2, finish, ares, aresL, ares1, hc]
def CCmp (self : Self) : Prop := ∀ (m : Mem) (a b : Value) (x y : Nat), NumA m a (dig x) → NumA m b (dig y) → (dig x).length ≤ 800 → (dig y).length ≤ 800 → ainv E self 37 [a, b] m = some (.int .i64 (cmpN x y), m)
theorem ccmp {R : Nat → Self} {K : List Fact} (hR : Runs R K) {n : Nat} (hK : hasF K 37 = false) (hn : 1000 ≤ n) : CCmp (R (n + 1)) := by
  intro m a b x y ha hb hlx hly
  by_cases hl : ([a, b].all lit2) = true
  · have hl9 := hl
    simp only [List.all_cons, List.all_nil, Bool.and_true, Bool.and_eq_true] at hl9
    obtain ⟨rfl, h1⟩ := ha.lit hl9.1
    obtain ⟨rfl, h2⟩ := hb.lit hl9.2
    have hb := rcmp_body (self := (R n)) (nf := n + 1) (m := (m.take E.G).map onlyTab) (a := .slice none 0 0) (b := .slice none 0 0) (x := x) (y := y) (by rw [h1]; exact NumA.nil _) (by rw [h2]; exact NumA.nil _) hlx hly (by omega)
    exact ainv_lit hl (by kernel_rfl) (hR.b hK hb) rfl
  · have hb := rcmp_body (self := (R n)) (nf := n + 1) ha.sealed hb.sealed hlx hly (by omega)
    exact ainv_look (by simpa using hl) (by kernel_rfl) (hR.b hK hb) rfl
end Go.Am.Seat
