/-
  Texts of my own, put together: Y7, Y8, Y9, Y10, K6, Y11.
-/
import Derived.Test.YtmgknkjdbpgjmaaGreatDoorGrFieldRoots14
import Derived.Test.YtmgknkjdbpgjmaaGreatDoorGrFieldRoots8
set_option linter.unusedSimpArgs false
set_option linter.unusedVariables false
set_option maxRecDepth 100000
namespace Go.Am.Seat
open Go.Proofs Go.Am
noncomputable def rrmul_0 : Array Oper := match Tryz.f50.body with
  | some (.seq (.region _ o _) _) => o
  | _ => #[]
noncomputable def lrmul_0 : List Oper := match Tryz.f50.body with
  | some (.seq (.region _ o _) _) => o.toList
  | _ => []
theorem ermul_0 : rrmul_0.toList = lrmul_0 := rfl
noncomputable def rrmul_1 : Array Oper := match Tryz.f50.body with
  | some (.seq _ (.seq (.region _ o _) _)) => o
  | _ => #[]
noncomputable def lrmul_1 : List Oper := match Tryz.f50.body with
  | some (.seq _ (.seq (.region _ o _) _)) => o.toList
  | _ => []
theorem ermul_1 : rrmul_1.toList = lrmul_1 := rfl
noncomputable def rrmul_2 : Array Oper := match Tryz.f50.body with
  | some (.seq _ (.seq _ (.seq (.seq (.region _ o _) _) _))) => o
  | _ => #[]
noncomputable def lrmul_2 : List Oper := match Tryz.f50.body with
  | some (.seq _ (.seq _ (.seq (.seq (.region _ o _) _) _))) => o.toList
  | _ => []
theorem ermul_2 : rrmul_2.toList = lrmul_2 := rfl
noncomputable def lprmul_0 : Code := match Tryz.f50.body with
  | some (.seq _ (.seq _ (.seq (.seq _ (.block _ (.loop c))) _))) => c
  | _ => .skip
noncomputable def rrmul_3 : Array Oper := match Tryz.f50.body with
  | some (.seq _ (.seq _ (.seq (.seq _ (.block _ (.loop (.seq (.seq (.region _ o _) _) _)))) _))) => o
  | _ => #[]
noncomputable def lrmul_3 : List Oper := match Tryz.f50.body with
  | some (.seq _ (.seq _ (.seq (.seq _ (.block _ (.loop (.seq (.seq (.region _ o _) _) _)))) _))) => o.toList
  | _ => []
theorem ermul_3 : rrmul_3.toList = lrmul_3 := rfl
noncomputable def rrmul_5 : Array Oper := match Tryz.f50.body with
  | some (.seq _ (.seq _ (.seq (.seq _ (.block _ (.loop (.seq _ (.seq (.block _ (.seq (.region _ o _) _)) _))))) _))) => o
  | _ => #[]
noncomputable def lrmul_5 : List Oper := match Tryz.f50.body with
  | some (.seq _ (.seq _ (.seq (.seq _ (.block _ (.loop (.seq _ (.seq (.block _ (.seq (.region _ o _) _)) _))))) _))) => o.toList
  | _ => []
theorem ermul_5 : rrmul_5.toList = lrmul_5 := rfl
noncomputable def rrmul_6 : Array Oper := match Tryz.f50.body with
  | some (.seq _ (.seq _ (.seq (.seq _ (.block _ (.loop (.seq _ (.seq (.block _ (.seq _ (.seq (.region _ o _) _))) _))))) _))) => o
  | _ => #[]
noncomputable def lrmul_6 : List Oper := match Tryz.f50.body with
  | some (.seq _ (.seq _ (.seq (.seq _ (.block _ (.loop (.seq _ (.seq (.block _ (.seq _ (.seq (.region _ o _) _))) _))))) _))) => o.toList
  | _ => []
theorem ermul_6 : rrmul_6.toList = lrmul_6 := rfl
noncomputable def lprmul_1 : Code := match Tryz.f50.body with
  | some (.seq _ (.seq _ (.seq (.seq _ (.block _ (.loop (.seq _ (.seq (.block _ (.seq _ (.seq _ (.block _ (.loop c))))) _))))) _))) => c
  | _ => .skip
noncomputable def rrmul_7 : Array Oper := match Tryz.f50.body with
  | some (.seq _ (.seq _ (.seq (.seq _ (.block _ (.loop (.seq _ (.seq (.block _ (.seq _ (.seq _ (.block _ (.loop (.seq (.seq (.region _ o _) _) _)))))) _))))) _))) => o
  | _ => #[]
noncomputable def lrmul_7 : List Oper := match Tryz.f50.body with
  | some (.seq _ (.seq _ (.seq (.seq _ (.block _ (.loop (.seq _ (.seq (.block _ (.seq _ (.seq _ (.block _ (.loop (.seq (.seq (.region _ o _) _) _)))))) _))))) _))) => o.toList
  | _ => []
theorem ermul_7 : rrmul_7.toList = lrmul_7 := rfl
theorem grmul_7_4 {T : List Value} {dd : Option Tmp} {op : Op} {ty : TypeId} {pos : String} {af : Array Edge} {want : Bool} : agd rrmul_7 T { dst := dd, op := op, type := ty, pos := pos, after := af, guard := some (4, want) } = gdAt T 27 want := agd_at (by kernel_rfl)
noncomputable def rrmul_9 : Array Oper := match Tryz.f50.body with
  | some (.seq _ (.seq _ (.seq (.seq _ (.block _ (.loop (.seq _ (.seq (.block _ (.seq _ (.seq _ (.block _ (.loop (.seq _ (.seq (.block _ (.seq (.region _ o _) _)) _))))))) _))))) _))) => o
  | _ => #[]
noncomputable def lrmul_9 : List Oper := match Tryz.f50.body with
  | some (.seq _ (.seq _ (.seq (.seq _ (.block _ (.loop (.seq _ (.seq (.block _ (.seq _ (.seq _ (.block _ (.loop (.seq _ (.seq (.block _ (.seq (.region _ o _) _)) _))))))) _))))) _))) => o.toList
  | _ => []
theorem ermul_9 : rrmul_9.toList = lrmul_9 := rfl
noncomputable def rrmul_10 : Array Oper := match Tryz.f50.body with
  | some (.seq _ (.seq _ (.seq (.seq _ (.block _ (.loop (.seq _ (.seq (.block _ (.seq _ (.seq _ (.block _ (.loop (.seq _ (.seq (.block _ (.seq _ (.seq (.seq (.region _ o _) _) _))) _))))))) _))))) _))) => o
  | _ => #[]
noncomputable def lrmul_10 : List Oper := match Tryz.f50.body with
  | some (.seq _ (.seq _ (.seq (.seq _ (.block _ (.loop (.seq _ (.seq (.block _ (.seq _ (.seq _ (.block _ (.loop (.seq _ (.seq (.block _ (.seq _ (.seq (.seq (.region _ o _) _) _))) _))))))) _))))) _))) => o.toList
  | _ => []
theorem ermul_10 : rrmul_10.toList = lrmul_10 := rfl
noncomputable def rrmul_11 : Array Oper := match Tryz.f50.body with
  | some (.seq _ (.seq _ (.seq (.seq _ (.block _ (.loop (.seq _ (.seq (.block _ (.seq _ (.seq _ (.block _ (.loop (.seq _ (.seq (.block _ (.seq _ (.seq (.seq _ (.cond _ (.region _ o _) _)) _))) _))))))) _))))) _))) => o
  | _ => #[]
noncomputable def lrmul_11 : List Oper := match Tryz.f50.body with
  | some (.seq _ (.seq _ (.seq (.seq _ (.block _ (.loop (.seq _ (.seq (.block _ (.seq _ (.seq _ (.block _ (.loop (.seq _ (.seq (.block _ (.seq _ (.seq (.seq _ (.cond _ (.region _ o _) _)) _))) _))))))) _))))) _))) => o.toList
  | _ => []
theorem ermul_11 : rrmul_11.toList = lrmul_11 := rfl
theorem drmul_11 {self : Self} {B : Nat} {T : List Value} {m : Mem} {lb : List (Nat × Nat)} {ls : Bool} : adrawN E self rrmul_11 B rrmul_11.toList 0 T m lb ls = adrawT E self rrmul_11 B rrmul_11.toList [(false, false), (false, false), (false, false), (false, false), (false, false), (false, false), (false, false), (false, false), (false, false), (false, false), (false, false), (false, false)] 0 T m lb ls := adraw_tab (by kernel_rfl)
theorem srmul_11 : E.sr 11 rrmul_11 = false := by kernel_rfl
noncomputable def rrmul_12 : Array Oper := match Tryz.f50.body with
  | some (.seq _ (.seq _ (.seq (.seq _ (.block _ (.loop (.seq _ (.seq (.block _ (.seq _ (.seq _ (.block _ (.loop (.seq _ (.seq (.block _ (.seq _ (.seq _ (.seq (.region _ o _) _)))) _))))))) _))))) _))) => o
  | _ => #[]
noncomputable def lrmul_12 : List Oper := match Tryz.f50.body with
  | some (.seq _ (.seq _ (.seq (.seq _ (.block _ (.loop (.seq _ (.seq (.block _ (.seq _ (.seq _ (.block _ (.loop (.seq _ (.seq (.block _ (.seq _ (.seq _ (.seq (.region _ o _) _)))) _))))))) _))))) _))) => o.toList
  | _ => []
theorem ermul_12 : rrmul_12.toList = lrmul_12 := rfl
noncomputable def rrmul_13 : Array Oper := match Tryz.f50.body with
  | some (.seq _ (.seq _ (.seq (.seq _ (.block _ (.loop (.seq _ (.seq (.block _ (.seq _ (.seq _ (.block _ (.loop (.seq _ (.seq (.block _ (.seq _ (.seq _ (.seq _ (.region _ o _))))) _))))))) _))))) _))) => o
  | _ => #[]
noncomputable def lrmul_13 : List Oper := match Tryz.f50.body with
  | some (.seq _ (.seq _ (.seq (.seq _ (.block _ (.loop (.seq _ (.seq (.block _ (.seq _ (.seq _ (.block _ (.loop (.seq _ (.seq (.block _ (.seq _ (.seq _ (.seq _ (.region _ o _))))) _))))))) _))))) _))) => o.toList
  | _ => []
theorem ermul_13 : rrmul_13.toList = lrmul_13 := rfl
noncomputable def rrmul_8 : Array Oper := match Tryz.f50.body with
  | some (.seq _ (.seq _ (.seq (.seq _ (.block _ (.loop (.seq _ (.seq (.block _ (.seq _ (.seq _ (.block _ (.loop (.seq _ (.seq _ (.region _ o _)))))))) _))))) _))) => o
  | _ => #[]
noncomputable def lrmul_8 : List Oper := match Tryz.f50.body with
  | some (.seq _ (.seq _ (.seq (.seq _ (.block _ (.loop (.seq _ (.seq (.block _ (.seq _ (.seq _ (.block _ (.loop (.seq _ (.seq _ (.region _ o _)))))))) _))))) _))) => o.toList
  | _ => []
theorem ermul_8 : rrmul_8.toList = lrmul_8 := rfl
theorem lprmul_1_eq : lprmul_1 = (.seq (.seq (.region 7 rrmul_7 false) (.cond (.tmp 30) .skip (.exit 2))) (.seq (.block 3 (.seq (.region 9 rrmul_9 false) (.seq (.seq (.region 10 rrmul_10 false) (.cond (.tmp 44) (.region 11 rrmul_11 true) .skip)) (.seq (.region 12 rrmul_12 false) (.region 13 rrmul_13 false))))) (.region 8 rrmul_8 false))) := rfl
noncomputable def rrmul_4 : Array Oper := match Tryz.f50.body with
  | some (.seq _ (.seq _ (.seq (.seq _ (.block _ (.loop (.seq _ (.seq _ (.region _ o _)))))) _))) => o
  | _ => #[]
noncomputable def lrmul_4 : List Oper := match Tryz.f50.body with
  | some (.seq _ (.seq _ (.seq (.seq _ (.block _ (.loop (.seq _ (.seq _ (.region _ o _)))))) _))) => o.toList
  | _ => []
theorem ermul_4 : rrmul_4.toList = lrmul_4 := rfl
theorem lprmul_0_eq : lprmul_0 = (.seq (.seq (.region 3 rrmul_3 false) (.cond (.tmp 20) .skip (.exit 0))) (.seq (.block 1 (.seq (.region 5 rrmul_5 false) (.seq (.region 6 rrmul_6 false) (.block 2 (.loop lprmul_1))))) (.region 4 rrmul_4 false))) := rfl
noncomputable def rrmul_14 : Array Oper := match Tryz.f50.body with
  | some (.seq _ (.seq _ (.seq _ (.seq (.region _ o _) _)))) => o
  | _ => #[]
noncomputable def lrmul_14 : List Oper := match Tryz.f50.body with
  | some (.seq _ (.seq _ (.seq _ (.seq (.region _ o _) _)))) => o.toList
  | _ => []
theorem ermul_14 : rrmul_14.toList = lrmul_14 := rfl
theorem bodyrmul : Tryz.f50.body = some (.seq (.region 0 rrmul_0 false) (.seq (.region 1 rrmul_1 false) (.seq (.seq (.region 2 rrmul_2 false) (.block 0 (.loop lprmul_0))) (.seq (.region 14 rrmul_14 false) .ret)))) := rfl
-- ntmps 67
theorem makeN (c : Nat) (hc : c < 1000000) (m : Mem) : amakeSlice E.P 30 (.int .i64 (c : Nat)) (.int .i64 (c : Nat)) m = some (.slice (some ⟨m.length, 0, none⟩) c c, m ++ [.row false 3 (cellsN (List.replicate c 0))]) := by
  have hz : zero1 E.P 3 = some (.int .i64 0) := by kernel_rfl
  have h9 : (E.P.info? 3).map (·.bytes) = some 8 := by kernel_rfl
  obtain ⟨i, h1, h2⟩ := Option.map_eq_some_iff.1 h9
  have e1 : wrapF .i64 ((c : Nat) : Int) = ((c : Nat) : Int) := wrap_i64 (by omega) (by omega)
  unfold amakeSlice
  simp only [und27, hz, h1, e1]
  rw [if_pos ⟨by omega, by omega, by rw [h2]; omega⟩]
  simp [cellsN]
theorem storeN {m : Mem} {q k y : Nat} {O : List Nat} (h : m[q]? = some (.row false 3 (cellsN O))) (hk : k < O.length) : astore E.P 3 (.pointer (some ⟨q, k, none⟩)) (.int .i64 (y : Nat)) m = some (m.set q (.row false 3 (cellsN (O.set k y)))) := by
  obtain ⟨i, h1, h2⟩ := info3
  unfold astore
  simp only [h, vcells, h1, h2]
  rw [if_pos ⟨rfl, by rw [cellsN_length]; simp; omega⟩]
  simp [lay, cellsN, List.map_set]
theorem mulNN {a b : Nat} (h : a * b < 1000000000) : wrapF .i64 (((a : Nat) : Int) * ((b : Nat) : Int)) = ((a * b : Nat) : Int) := by
  rw [← Int.natCast_mul, wrap_i64 (by omega) (by omega)]
theorem cellN {m : Mem} {q k d : Nat} {ro : Bool} {O : List Nat} (h : m[q]? = some (.row ro 3 (cellsN O))) (hk : O[k]? = some d) : cellAt m q k = some (.int .i64 (d : Nat)) := by rw [cellAt_row h, cellsN_get hk]
section
variable {self : Self} {nf q : Nat} {m : Mem} {F : Nat → Value} {a b : Value} {la lb O : List Nat} {i j c d x y n : Nat}
theorem rmul_A (h0 : F 0 = a) (h1 : F 1 = b) (h5 : F 5 = .slice (some ⟨q, 0, none⟩) n n) (h6 : F 6 = .int .i64 (i : Nat)) (h7 : F 7 = .int .i64 (c : Nat)) (h8 : F 8 = .int .i64 (j : Nat)) (hi9 : i + j < 100000) (ha : NumA m a la) (hb : NumA m b lb) (hx : la[i]? = some x) (hy : lb[j]? = some y)
    (hq : m[q]? = some (.row false 3 (cellsN O))) (hn : O.length = n) (ho : O[i + j]? = some d) (hxy : x * y < 100000) (hs : d + c + x * y < 1000000) :
    ∃ F', acodeN E self nf lprmul_1 (lst F 67) m = some (.normal, lst F' 67, m.set q (.row false 3 (cellsN (O.set (i + j) ((d + c + x * y) % 256))))) ∧ F' 0 = a ∧ F' 1 = b ∧ F' 5 = F 5 ∧ F' 6 = F 6 ∧ F' 7 = .int .i64 (((d + c + x * y) / 256 : Nat) : Int) ∧ F' 8 = .int .i64 ((j + 1 : Nat) : Int) := by
  have hk : i + j < O.length := (List.getElem?_eq_some_iff.1 ho).1
  have hjl := (List.getElem?_eq_some_iff.1 hy).1
  obtain ⟨ba, oa, ia, ca⟩ := ha.sealed.2 i x hx
  obtain ⟨bb, ob, ib, cb⟩ := hb.sealed.2 j y hy
  have lb9 := hb.1
  have q1 : decide (((j : Nat) : Int) < ((lb.length : Nat) : Int)) = true := decide_eq_true (by omega)
  have e1 := addNN (a := i) (b := j) (by omega)
  have i1 := ix27 (b := q) (c := n) (show i + j < n by omega)
  have c1 := cellN hq ho
  have e2 := addNN (a := d) (b := c) (by omega)
  have e3 := mulNN (a := x) (b := y) (by omega)
  have e4 := addNN (a := d + c) (b := x * y) (by omega)
  have e5 := w1 (i := j) (by omega)
  have r1 := rem256 (d + c + x * y)
  have r2 := quo256i (s := d + c + x * y) (by omega)
  have st := storeN (y := (d + c + x * y) % 256) hq hk
  generalize hsum : d + c + x * y = s at *
  simp only [lprmul_1_eq, ↓drmul_11, ↓srmul_11, ermul_0, ermul_1, ermul_10, ermul_11, ermul_12, ermul_13, ermul_14, ermul_2, ermul_3, ermul_4, ermul_5, ermul_6, ermul_7, ermul_8, ermul_9, lrmul_0, lrmul_1, lrmul_2, lrmul_3, lrmul_4, lrmul_5, lrmul_6, lrmul_7, lrmul_8, lrmul_9, lrmul_10, lrmul_11, lrmul_12, lrmul_13, lrmul_14, grmul_7_4, agd_none, gdAt, gdV_bool, gdV_undef, Tryz.f50, List.append_eq, List.cons_append, List.nil_append, apure_call1, apure_call2, apure_call3, bft, btf, acodeN, List.getElem?_toArray, List.getElem?_cons_zero, List.getElem?_cons_succ, aopsN, adrawT, cls, astep, aop, afloat, ev, nth_lst, get_lst, aput, setAt_lst, upd_at, init_zero, init_succ, init_nil, Nat.reduceLT, Nat.reduceEqDiff, reduceIte, len_N, abuiltin_app, Option.map_some, Option.map_none, orElse_some, apure_add, apure_eqlV, eqlVal_str, eqlVal_bool, eqlVal_ptr, eqlVal_slice, eqlVal_wide, eqlVal_int, allT, ↓aop_eqlV, apure_neq, List.map_cons, List.map_nil, List.all_cons, List.all_nil, lit2, lit1, lit0, List.isEmpty_nil, bls, Bool.false_eq_true, if_true, if_false, List.length_map, beq_self_eq_true, uns, h0, h1, h5, h6, h7, h8, lb9, lss64, q1, add64', e1, i1, load3, c1, e2, ia, ib, ca, cb, mul64', e3, e4, r1, r2, st, e5]
  exact ⟨_, rfl, by simp only [upd_at, Nat.reduceEqDiff, reduceIte, h0], by simp only [upd_at, Nat.reduceEqDiff, reduceIte, h1], by simp only [upd_at, Nat.reduceEqDiff, reduceIte, h5], by simp only [upd_at, Nat.reduceEqDiff, reduceIte, h6], by simp only [upd_at, Nat.reduceEqDiff, reduceIte], by simp only [upd_at, Nat.reduceEqDiff, reduceIte]⟩
theorem rmul_B (h0 : F 0 = a) (h1 : F 1 = b) (h5 : F 5 = .slice (some ⟨q, 0, none⟩) n n) (h6 : F 6 = .int .i64 (i : Nat)) (h7 : F 7 = .int .i64 (c : Nat)) (h8 : F 8 = .int .i64 (j : Nat)) (hi9 : i + j < 100000) (hb : NumA m b lb) (hj : lb.length ≤ j) (hc : 0 < c)
    (hq : m[q]? = some (.row false 3 (cellsN O))) (hn : O.length = n) (ho : O[i + j]? = some d) (hs : d + c < 1000000) :
    ∃ F', acodeN E self nf lprmul_1 (lst F 67) m = some (.normal, lst F' 67, m.set q (.row false 3 (cellsN (O.set (i + j) ((d + c) % 256))))) ∧ F' 0 = a ∧ F' 1 = b ∧ F' 5 = F 5 ∧ F' 6 = F 6 ∧ F' 7 = .int .i64 (((d + c) / 256 : Nat) : Int) ∧ F' 8 = .int .i64 ((j + 1 : Nat) : Int) := by
  have hk : i + j < O.length := (List.getElem?_eq_some_iff.1 ho).1
  have lb9 := hb.1
  have q1 : decide (((j : Nat) : Int) < ((lb.length : Nat) : Int)) = false := decide_eq_false (by omega)
  have q2 : decide (((c : Nat) : Int) > 0) = true := decide_eq_true (by omega)
  have e1 := addNN (a := i) (b := j) (by omega)
  have i1 := ix27 (b := q) (c := n) (show i + j < n by omega)
  have c1 := cellN hq ho
  have e2 := addNN (a := d) (b := c) (by omega)
  have e5 := w1 (i := j) (by omega)
  have r1 := rem256 (d + c)
  have r2 := quo256i (s := d + c) (by omega)
  have st := storeN (y := (d + c) % 256) hq hk
  generalize hsum : d + c = s at *
  simp only [lprmul_1_eq, ↓drmul_11, ↓srmul_11, ermul_0, ermul_1, ermul_10, ermul_11, ermul_12, ermul_13, ermul_14, ermul_2, ermul_3, ermul_4, ermul_5, ermul_6, ermul_7, ermul_8, ermul_9, lrmul_0, lrmul_1, lrmul_2, lrmul_3, lrmul_4, lrmul_5, lrmul_6, lrmul_7, lrmul_8, lrmul_9, lrmul_10, lrmul_11, lrmul_12, lrmul_13, lrmul_14, grmul_7_4, agd_none, gdAt, gdV_bool, gdV_undef, Tryz.f50, List.append_eq, List.cons_append, List.nil_append, apure_call1, apure_call2, apure_call3, bft, btf, acodeN, List.getElem?_toArray, List.getElem?_cons_zero, List.getElem?_cons_succ, aopsN, adrawT, cls, astep, aop, afloat, ev, nth_lst, get_lst, aput, setAt_lst, upd_at, init_zero, init_succ, init_nil, Nat.reduceLT, Nat.reduceEqDiff, reduceIte, len_N, abuiltin_app, Option.map_some, Option.map_none, orElse_some, apure_add, apure_eqlV, eqlVal_str, eqlVal_bool, eqlVal_ptr, eqlVal_slice, eqlVal_wide, eqlVal_int, allT, ↓aop_eqlV, apure_neq, List.map_cons, List.map_nil, List.all_cons, List.all_nil, lit2, lit1, lit0, List.isEmpty_nil, bls, Bool.false_eq_true, if_true, if_false, List.length_map, beq_self_eq_true, uns, h0, h1, h5, h6, h7, h8, lb9, lss64, q1, gtr64', q2, add64', e1, i1, load3, c1, e2, r1, r2, st, e5]
  exact ⟨_, rfl, by simp only [upd_at, Nat.reduceEqDiff, reduceIte, h0], by simp only [upd_at, Nat.reduceEqDiff, reduceIte, h1], by simp only [upd_at, Nat.reduceEqDiff, reduceIte, h5], by simp only [upd_at, Nat.reduceEqDiff, reduceIte, h6], by simp only [upd_at, Nat.reduceEqDiff, reduceIte], by simp only [upd_at, Nat.reduceEqDiff, reduceIte]⟩
theorem rmul_E (h1 : F 1 = b) (h7 : F 7 = .int .i64 0) (h8 : F 8 = .int .i64 (j : Nat)) (hb : NumA m b lb) (hj : lb.length ≤ j) :
    ∃ F', acodeN E self nf lprmul_1 (lst F 67) m = some (.exit 2, lst F' 67, m) ∧ F' 0 = F 0 ∧ F' 1 = b ∧ F' 5 = F 5 ∧ F' 6 = F 6 := by
  have lb9 := hb.1
  have q1 : decide (((j : Nat) : Int) < ((lb.length : Nat) : Int)) = false := decide_eq_false (by omega)
  have q2 : decide ((0 : Int) > 0) = false := rfl
  simp only [lprmul_1_eq, ↓drmul_11, ↓srmul_11, ermul_0, ermul_1, ermul_10, ermul_11, ermul_12, ermul_13, ermul_14, ermul_2, ermul_3, ermul_4, ermul_5, ermul_6, ermul_7, ermul_8, ermul_9, lrmul_0, lrmul_1, lrmul_2, lrmul_3, lrmul_4, lrmul_5, lrmul_6, lrmul_7, lrmul_8, lrmul_9, lrmul_10, lrmul_11, lrmul_12, lrmul_13, lrmul_14, grmul_7_4, agd_none, gdAt, gdV_bool, gdV_undef, Tryz.f50, List.append_eq, List.cons_append, List.nil_append, apure_call1, apure_call2, apure_call3, bft, btf, acodeN, List.getElem?_toArray, List.getElem?_cons_zero, List.getElem?_cons_succ, aopsN, adrawT, cls, astep, aop, afloat, ev, nth_lst, get_lst, aput, setAt_lst, upd_at, init_zero, init_succ, init_nil, Nat.reduceLT, Nat.reduceEqDiff, reduceIte, len_N, abuiltin_app, Option.map_some, Option.map_none, orElse_some, apure_add, apure_eqlV, eqlVal_str, eqlVal_bool, eqlVal_ptr, eqlVal_slice, eqlVal_wide, eqlVal_int, allT, ↓aop_eqlV, apure_neq, List.map_cons, List.map_nil, List.all_cons, List.all_nil, lit2, lit1, lit0, List.isEmpty_nil, bls, Bool.false_eq_true, if_true, if_false, List.length_map, beq_self_eq_true, uns, h1, h7, h8, lb9, lss64, q1, gtr64', q2]
  exact ⟨_, rfl, by simp only [upd_at, Nat.reduceEqDiff, reduceIte], by simp only [upd_at, Nat.reduceEqDiff, reduceIte, h1], by simp only [upd_at, Nat.reduceEqDiff, reduceIte], by simp only [upd_at, Nat.reduceEqDiff, reduceIte]⟩
end
theorem val_set {O : List Nat} {k d y : Nat} (h : O[k]? = some d) : val (O.set k y) + 256 ^ k * d = val O + 256 ^ k * y := by
  induction O generalizing k with
  | nil => simp at h
  | cons z O ih =>
    cases k with
    | zero =>
      simp only [List.getElem?_cons_zero, Option.some.injEq] at h
      subst h
      simp only [List.set_cons_zero, val, Nat.pow_zero]
      omega
    | succ k =>
      simp only [List.getElem?_cons_succ] at h
      have := ih h
      simp only [List.set_cons_succ, val, Nat.pow_succ]
      have e1 : 256 ^ k * 256 * d = 256 * (256 ^ k * d) := by rw [Nat.mul_comm (256 ^ k) 256, Nat.mul_assoc]
      have e2 : 256 ^ k * 256 * y = 256 * (256 ^ k * y) := by rw [Nat.mul_comm (256 ^ k) 256, Nat.mul_assoc]
      omega
theorem set_digits {O : List Nat} {k s : Nat} (h : ∀ x ∈ O, x < 256) : ∀ x ∈ O.set k (s % 256), x < 256 := by
  intro x hx
  rcases List.mem_or_eq_of_mem_set hx with h1 | h1
  · exact h x h1
  · omega
end Go.Am.Seat
namespace Go.Am.Seat
open Go.Proofs Go.Am
theorem mul_stepA {A V P Pi d c x y v w O' O s : Nat} (hs : s = d + c + x * y) (h1 : O' + P * d = O + P * (s % 256)) (h2 : O + P * c = V + Pi * (x * v)) (h3 : Pi * (x * w) = Pi * (x * v) + P * (x * y)) :
    O' + P * 256 * (s / 256) = V + Pi * (x * w) := by
  have h4 := digit_step 0 P s
  have h5 : P * s = P * d + P * c + P * (x * y) := by rw [hs, Nat.mul_add, Nat.mul_add]
  omega
theorem rmul_inner {self : Self} {nf n : Nat} {m m0 : Mem} {a b : Value} {la lb O0 : List Nat} {i x y V : Nat} (hnf : 1000 < nf) (ha : NumA m a la) (hb : NumA m b lb) (dx : ∀ x ∈ la, x < 256) (dy : ∀ x ∈ lb, x < 256) (vy : val lb = y) (hla : la.length ≤ 400) (hlb : lb.length ≤ 400)
    (hx : la[i]? = some x) (hn : n = la.length + lb.length + 1) (hV : V = val (la.take i) * y)
    (hfr : ∀ k, k < m.length → m0[k]? = m[k]?) (hq : m0[m.length]? = some (.row false 3 (cellsN O0))) (hl : O0.length = n) (hd : ∀ x ∈ O0, x < 256) (hv : val O0 = V)
    {F : Nat → Value} (h0 : F 0 = a) (h1 : F 1 = b) (h5 : F 5 = .slice (some ⟨m.length, 0, none⟩) n n) (h6 : F 6 = .int .i64 (i : Nat)) (h7 : F 7 = .int .i64 (0 : Nat)) (h8 : F 8 = .int .i64 (0 : Nat)) :
    ∃ F' m' O, aloop (acodeN E self nf lprmul_1) nf (lst F 67) m0 = some (.exit 2, lst F' 67, m') ∧ F' 0 = a ∧ F' 1 = b ∧ F' 5 = F 5 ∧ F' 6 = F 6 ∧ (∀ k, k < m.length → m'[k]? = m[k]?) ∧ m'[m.length]? = some (.row false 3 (cellsN O)) ∧ O.length = n ∧ (∀ x ∈ O, x < 256) ∧ val O = val (la.take (i + 1)) * y := by
  have hi : i < la.length := (List.getElem?_eq_some_iff.1 hx).1
  have hx9 := dx _ (List.mem_of_getElem? hx)
  have tot : V + 256 ^ i * (x * y) = val (la.take (i + 1)) * y := by
    rw [val_step hx, Nat.add_mul, hV, Nat.mul_assoc]
  have tlt : V + 256 ^ i * (x * y) < 256 ^ (i + 1 + lb.length) := by
    rw [tot, Nat.pow_add]
    have h1 := val_lt (l := la.take (i + 1)) fun x hx => dx x (List.mem_of_mem_take hx)
    rw [List.length_take, Nat.min_eq_left (by omega)] at h1
    have h2 := val_lt dy
    rw [vy] at h2
    exact Nat.mul_lt_mul_of_lt_of_le h1 (Nat.le_of_lt h2) (Nat.lt_of_le_of_lt (Nat.zero_le _) h2)
  have hloop := aloop_inv (body := acodeN E self nf lprmul_1) (N := lb.length + 1)
    (I := fun j T m' => ∃ G O c, T = lst G 67 ∧ (∀ k, k < m.length → m'[k]? = m[k]?) ∧ m'[m.length]? = some (.row false 3 (cellsN O)) ∧ O.length = n ∧ (∀ x ∈ O, x < 256) ∧ G 0 = a ∧ G 1 = b ∧ G 5 = F 5 ∧ G 6 = F 6 ∧ G 7 = .int .i64 (c : Nat) ∧ G 8 = .int .i64 (j : Nat) ∧ c ≤ 255 ∧
      val O + 256 ^ (i + j) * c = V + 256 ^ i * (x * val (lb.take j)))
    (Q := fun e T m' => e = .exit 2 ∧ ∃ F' O, T = lst F' 67 ∧ F' 0 = a ∧ F' 1 = b ∧ F' 5 = F 5 ∧ F' 6 = F 6 ∧ (∀ k, k < m.length → m'[k]? = m[k]?) ∧ m'[m.length]? = some (.row false 3 (cellsN O)) ∧ O.length = n ∧ (∀ x ∈ O, x < 256) ∧ val O = val (la.take (i + 1)) * y) (fun j T m' hj hI => by
      obtain ⟨G, O, c, rfl, gfr, gq, gl, gd, g0, g1, g5, g6, g7, g8, gc, gv⟩ := hI
      have ha' := ha.keep gfr
      have hb' := hb.keep gfr
      have hpow : 256 ^ (i + (j + 1)) = 256 ^ (i + j) * 256 := by rw [← Nat.add_assoc]; exact Nat.pow_succ ..
      have hmq := lt_of_at gq
      have hset : ∀ (O' : List Nat), (∀ k, k < m.length → (m'.set m.length (.row false 3 (cellsN O')))[k]? = m[k]?) ∧ (m'.set m.length (.row false 3 (cellsN O')))[m.length]? = some (.row false 3 (cellsN O')) := by
        intro O'
        exact ⟨fun k hk => by rw [List.getElem?_set_ne (by omega)]; exact gfr k hk, by rw [List.getElem?_set_self hmq]⟩
      by_cases h2 : j < lb.length
      · left
        have hy : lb[j]? = some lb[j] := by simp [h2]
        have hy9 := dy _ (List.mem_of_getElem? hy)
        have sy := val_step hy
        generalize lb[j] = yj at *
        have ho : O[i + j]? = some (O[i + j]'(by omega)) := by simp [show i + j < O.length by omega]
        have ho9 := gd _ (List.mem_of_getElem? ho)
        generalize O[i + j]'(by omega) = d at *
        have hxy : x * yj ≤ 255 * 255 := Nat.mul_le_mul (by omega) (by omega)
        obtain ⟨F', hr, f0, f1, f5, f6, f7, f8⟩ := rmul_A (self := self) (nf := nf) g0 g1 (g5.trans h5) (g6.trans h6) g7 g8 (by omega) ha' hb' hx hy gq gl ho (by omega) (by omega)
        have hs := hset (O.set (i + j) ((d + c + x * yj) % 256))
        refine ⟨_, _, hr, by omega, F', _, _, rfl, hs.1, hs.2, by simp [gl], set_digits gd, f0, f1, f5.trans g5, f6.trans g6, f7, f8, by omega, ?_⟩
        rw [hpow]
        refine mul_stepA (A := 0) (d := d) (c := c) (y := yj) (O := val O) rfl (val_set ho) gv ?_
        rw [sy, Nat.mul_add, Nat.mul_add, Nat.pow_add]
        congr 1
        rw [Nat.mul_assoc]
        congr 1
        rw [Nat.mul_left_comm]
      · have sy := val_same (l := lb) (i := j) (by omega)
        have ty : val (lb.take j) = y := by rw [List.take_of_length_le (by omega)]; exact vy
        by_cases h3 : 0 < c
        · left
          have hjn : j < lb.length + 1 := by
            by_cases hjn : j < lb.length + 1
            · exact hjn
            · exfalso
              have hjj : j = lb.length + 1 := by omega
              rw [ty] at gv
              have h9 : 256 ^ (i + j) * 1 ≤ 256 ^ (i + j) * c := Nat.mul_le_mul_left _ h3
              have h10 : i + j = i + 1 + lb.length := by omega
              rw [h10] at gv h9
              omega
          have ho : O[i + j]? = some (O[i + j]'(by omega)) := by simp [show i + j < O.length by omega]
          have ho9 := gd _ (List.mem_of_getElem? ho)
          generalize O[i + j]'(by omega) = d at *
          obtain ⟨F', hr, f0, f1, f5, f6, f7, f8⟩ := rmul_B (self := self) (nf := nf) g0 g1 (g5.trans h5) (g6.trans h6) g7 g8 (by omega) hb' (by omega) h3 gq gl ho (by omega)
          have hs := hset (O.set (i + j) ((d + c) % 256))
          refine ⟨_, _, hr, hjn, F', _, _, rfl, hs.1, hs.2, by simp [gl], set_digits gd, f0, f1, f5.trans g5, f6.trans g6, f7, f8, by omega, ?_⟩
          rw [hpow, sy]
          have h4 := digit_step 0 (256 ^ (i + j)) (d + c)
          have h5 : 256 ^ (i + j) * (d + c) = 256 ^ (i + j) * d + 256 ^ (i + j) * c := Nat.mul_add ..
          have h6 := val_set (y := (d + c) % 256) ho
          omega
        · right
          have hc0 : c = 0 := by omega
          subst hc0
          obtain ⟨F', hr, f0, f1, f5, f6⟩ := rmul_E (self := self) (nf := nf) (m := m') g1 g7 g8 hb' (by omega)
          refine ⟨_, _, _, hr, by simp, rfl, F', O, rfl, f0.trans g0, f1, f5.trans g5, f6.trans g6, gfr, gq, gl, gd, ?_⟩
          rw [ty, Nat.mul_zero, Nat.add_zero] at gv
          rw [gv, tot])
  obtain ⟨e, T', m', hr, rfl, F', O, rfl, hq⟩ := hloop (lb.length + 1) 0 nf (lst F 67) m0 (by omega) (by omega) ⟨F, O0, 0, rfl, hfr, hq, hl, hd, h0, h1, rfl, rfl, h7, h8, by omega, by simp [val, hv]⟩
  exact ⟨F', m', O, hr, hq⟩
theorem rmul_iter {self : Self} {nf n : Nat} {m m0 : Mem} {a b : Value} {la lb O0 : List Nat} {i y : Nat} (hnf : 1000 < nf) (ha : NumA m a la) (hb : NumA m b lb) (dx : ∀ x ∈ la, x < 256) (dy : ∀ x ∈ lb, x < 256) (vy : val lb = y) (hla : la.length ≤ 400) (hlb : lb.length ≤ 400)
    (hi : i < la.length) (hn : n = la.length + lb.length + 1)
    (hfr : ∀ k, k < m.length → m0[k]? = m[k]?) (hq : m0[m.length]? = some (.row false 3 (cellsN O0))) (hl : O0.length = n) (hd : ∀ x ∈ O0, x < 256) (hv : val O0 = val (la.take i) * y)
    {F : Nat → Value} (h0 : F 0 = a) (h1 : F 1 = b) (h5 : F 5 = .slice (some ⟨m.length, 0, none⟩) n n) (h6 : F 6 = .int .i64 (i : Nat)) :
    ∃ F' m' O, acodeN E self nf lprmul_0 (lst F 67) m0 = some (.normal, lst F' 67, m') ∧ F' 0 = a ∧ F' 1 = b ∧ F' 5 = F 5 ∧ F' 6 = .int .i64 ((i + 1 : Nat) : Int) ∧ (∀ k, k < m.length → m'[k]? = m[k]?) ∧ m'[m.length]? = some (.row false 3 (cellsN O)) ∧ O.length = n ∧ (∀ x ∈ O, x < 256) ∧ val O = val (la.take (i + 1)) * y := by
  have hx : la[i]? = some la[i] := by simp [hi]
  have la9 := ha.1
  have q1 : decide (((i : Nat) : Int) < ((la.length : Nat) : Int)) = true := decide_eq_true (by omega)
  have e1 := w1 (i := i) (by omega)
  obtain ⟨F', m', O, hr, f0, f1, f5, f6, r1, r2, r3, r4, r5⟩ := rmul_inner (self := self) (nf := nf) (F := upd (upd (upd (upd (upd (upd F 17 (.int .i64 (i : Nat))) 18 a) 19 (.int .i64 ((la.length : Nat) : Int))) 20 (.bool true)) 7 (.int .i64 0)) 8 (.int .i64 0)) hnf ha hb dx dy vy hla hlb hx hn rfl hfr hq hl hd hv
    (by simp only [upd_at, Nat.reduceEqDiff, reduceIte, h0]) (by simp only [upd_at, Nat.reduceEqDiff, reduceIte, h1]) (by simp only [upd_at, Nat.reduceEqDiff, reduceIte, h5]) (by simp only [upd_at, Nat.reduceEqDiff, reduceIte, h6]) rfl rfl
  simp only [upd_at, Nat.reduceEqDiff, reduceIte] at f5 f6
  rw [h6] at f6
  simp only [lprmul_0_eq, ↓drmul_11, ↓srmul_11, ermul_0, ermul_1, ermul_10, ermul_11, ermul_12, ermul_13, ermul_14, ermul_2, ermul_3, ermul_4, ermul_5, ermul_6, ermul_7, ermul_8, ermul_9, lrmul_0, lrmul_1, lrmul_2, lrmul_3, lrmul_4, lrmul_5, lrmul_6, lrmul_7, lrmul_8, lrmul_9, lrmul_10, lrmul_11, lrmul_12, lrmul_13, lrmul_14, grmul_7_4, agd_none, gdAt, gdV_bool, gdV_undef, Tryz.f50, List.append_eq, List.cons_append, List.nil_append, apure_call1, apure_call2, apure_call3, bft, btf, acodeN, List.getElem?_toArray, List.getElem?_cons_zero, List.getElem?_cons_succ, aopsN, adrawT, cls, astep, aop, afloat, ev, nth_lst, get_lst, aput, setAt_lst, upd_at, init_zero, init_succ, init_nil, Nat.reduceLT, Nat.reduceEqDiff, reduceIte, len_N, abuiltin_app, Option.map_some, Option.map_none, orElse_some, apure_add, apure_eqlV, eqlVal_str, eqlVal_bool, eqlVal_ptr, eqlVal_slice, eqlVal_wide, eqlVal_int, allT, ↓aop_eqlV, apure_neq, List.map_cons, List.map_nil, List.all_cons, List.all_nil, lit2, lit1, lit0, List.isEmpty_nil, bls, Bool.false_eq_true, if_true, if_false, List.length_map, beq_self_eq_true, uns, h0, h6, la9, lss64, q1, hr, f6, add64', e1]
  exact ⟨_, m', O, rfl, by simp only [upd_at, Nat.reduceEqDiff, reduceIte, f0], by simp only [upd_at, Nat.reduceEqDiff, reduceIte, f1], by simp only [upd_at, Nat.reduceEqDiff, reduceIte, f5], by simp only [upd_at, Nat.reduceEqDiff, reduceIte], r1, r2, r3, r4, r5⟩
theorem rmul_last {self : Self} {nf : Nat} {m : Mem} {a : Value} {la : List Nat} {i : Nat} {F : Nat → Value} (h0 : F 0 = a) (h6 : F 6 = .int .i64 (i : Nat)) (ha : NumA m a la) (hi : la.length ≤ i) :
    ∃ F', acodeN E self nf lprmul_0 (lst F 67) m = some (.exit 0, lst F' 67, m) ∧ F' 5 = F 5 := by
  have la9 := ha.1
  have q1 : decide (((i : Nat) : Int) < ((la.length : Nat) : Int)) = false := decide_eq_false (by omega)
  simp only [lprmul_0_eq, ↓drmul_11, ↓srmul_11, ermul_0, ermul_1, ermul_10, ermul_11, ermul_12, ermul_13, ermul_14, ermul_2, ermul_3, ermul_4, ermul_5, ermul_6, ermul_7, ermul_8, ermul_9, lrmul_0, lrmul_1, lrmul_2, lrmul_3, lrmul_4, lrmul_5, lrmul_6, lrmul_7, lrmul_8, lrmul_9, lrmul_10, lrmul_11, lrmul_12, lrmul_13, lrmul_14, grmul_7_4, agd_none, gdAt, gdV_bool, gdV_undef, Tryz.f50, List.append_eq, List.cons_append, List.nil_append, apure_call1, apure_call2, apure_call3, bft, btf, acodeN, List.getElem?_toArray, List.getElem?_cons_zero, List.getElem?_cons_succ, aopsN, adrawT, cls, astep, aop, afloat, ev, nth_lst, get_lst, aput, setAt_lst, upd_at, init_zero, init_succ, init_nil, Nat.reduceLT, Nat.reduceEqDiff, reduceIte, len_N, abuiltin_app, Option.map_some, Option.map_none, orElse_some, apure_add, apure_eqlV, eqlVal_str, eqlVal_bool, eqlVal_ptr, eqlVal_slice, eqlVal_wide, eqlVal_int, allT, ↓aop_eqlV, apure_neq, List.map_cons, List.map_nil, List.all_cons, List.all_nil, lit2, lit1, lit0, List.isEmpty_nil, bls, Bool.false_eq_true, if_true, if_false, List.length_map, beq_self_eq_true, uns, h0, h6, la9, lss64, q1]
  exact ⟨_, rfl, by simp only [upd_at, Nat.reduceEqDiff, reduceIte]⟩
theorem rmul_body {self : Self} {nf : Nat} {m : Mem} {a b : Value} {x y : Nat} (ct : CTrim self) (ha : NumA m a (dig x)) (hb : NumA m b (dig y)) (hlx : (dig x).length ≤ 400) (hly : (dig y).length ≤ 400) (hnf : 1000 < nf) :
    ∃ v m1, abody E self nf 50 [a, b] m = some (v, m1) ∧ NumB m.length v m1 (x * y) := by
  rw [abody_eqF (by kernel_rfl) Tryz.func50 bodyrmul (by kernel_rfl) (Nat.le_of_ble_eq_true rfl)]
  rw [show Tryz.f50.ntmps = 67 from rfl]
  have vx := val_dig x
  have vy := val_dig y
  have dx := dig_lt x
  have dy := dig_lt y
  generalize hla : dig x = la at *
  generalize hlb : dig y = lb at *
  have la9 := ha.1
  have lb9 := hb.1
  have e1 := addNN (a := la.length) (b := lb.length) (by omega)
  have e2 := w1 (i := la.length + lb.length) (by omega)
  have mk := makeN (la.length + lb.length + 1) (by omega) m
  have hloop := aloop_inv (body := acodeN E self nf lprmul_0) (N := la.length)
    (I := fun i T m' => ∃ G O, T = lst G 67 ∧ (∀ k, k < m.length → m'[k]? = m[k]?) ∧ m'[m.length]? = some (.row false 3 (cellsN O)) ∧ O.length = la.length + lb.length + 1 ∧ (∀ x ∈ O, x < 256) ∧ G 0 = a ∧ G 1 = b ∧ G 5 = .slice (some ⟨m.length, 0, none⟩) (la.length + lb.length + 1) (la.length + lb.length + 1) ∧ G 6 = .int .i64 (i : Nat) ∧ val O = val (la.take i) * y)
    (Q := fun e T m' => e = .exit 0 ∧ ∃ G O, T = lst G 67 ∧ m'[m.length]? = some (.row false 3 (cellsN O)) ∧ O.length = la.length + lb.length + 1 ∧ (∀ x ∈ O, x < 256) ∧ G 5 = .slice (some ⟨m.length, 0, none⟩) (la.length + lb.length + 1) (la.length + lb.length + 1) ∧ val O = x * y) (fun i T m' hi hI => by
      obtain ⟨G, O, rfl, gfr, gq, gl, gd, g0, g1, g5, g6, gv⟩ := hI
      by_cases hlt : i < la.length
      · left
        obtain ⟨F', m2, O', hr, f0, f1, f5, f6, r1, r2, r3, r4, r5⟩ := rmul_iter (self := self) (nf := nf) hnf ha hb dx dy vy hlx hly hlt rfl gfr gq gl gd gv g0 g1 g5 g6
        exact ⟨_, _, hr, hlt, F', O', rfl, r1, r2, r3, r4, f0, f1, f5.trans g5, f6, r5⟩
      · right
        obtain ⟨F', hr, f5⟩ := rmul_last (self := self) (nf := nf) g0 g6 (ha.keep gfr) (by omega)
        rw [List.take_of_length_le (by omega), vx] at gv
        exact ⟨_, _, _, hr, by simp, rfl, F', O, rfl, gq, gl, gd, f5.trans g5, gv⟩)
  obtain ⟨e, T', m', hr, rfl, G, O, rfl, gq, gl, gd, g5, gv⟩ := hloop la.length 0 nf (lst (upd (upd (upd (upd (upd (upd (upd (upd (upd (upd (init [a, b]) 4 (.slice none 0 0)) 10 a) 11 (.int .i64 ((la.length : Nat) : Int))) 12 b) 13 (.int .i64 ((lb.length : Nat) : Int))) 14 (.int .i64 ((la.length + lb.length : Nat) : Int))) 15 (.int .i64 ((la.length + lb.length + 1 : Nat) : Int))) 16 (.slice (some ⟨m.length, 0, none⟩) (la.length + lb.length + 1) (la.length + lb.length + 1))) 5 (.slice (some ⟨m.length, 0, none⟩) (la.length + lb.length + 1) (la.length + lb.length + 1))) 6 (.int .i64 0)) 67) (m ++ [.row false 3 (cellsN (List.replicate (la.length + lb.length + 1) 0))]) (by omega) (by omega)
    ⟨_, List.replicate (la.length + lb.length + 1) 0, rfl, (fun k hk => List.getElem?_append_left hk), by simp, by simp, (fun x hx => by have := List.eq_of_mem_replicate hx; omega), rfl, rfl, rfl, rfl, by rw [val_noughts (fun x hx => List.eq_of_mem_replicate hx)]; simp [val]⟩
  obtain ⟨v', ht, hB⟩ := ct m.length m' (.slice (some ⟨m.length, 0, none⟩) O.length O.length) O (x * y) (.inr ⟨m.length, Nat.le_refl _, rfl, gq, fun h => by rw [h] at gl; simp at gl⟩) (by omega) gd gv
  rw [gl] at ht
  simp only [↓drmul_11, ↓srmul_11, ermul_0, ermul_1, ermul_10, ermul_11, ermul_12, ermul_13, ermul_14, ermul_2, ermul_3, ermul_4, ermul_5, ermul_6, ermul_7, ermul_8, ermul_9, lrmul_0, lrmul_1, lrmul_2, lrmul_3, lrmul_4, lrmul_5, lrmul_6, lrmul_7, lrmul_8, lrmul_9, lrmul_10, lrmul_11, lrmul_12, lrmul_13, lrmul_14, grmul_7_4, agd_none, gdAt, gdV_bool, gdV_undef, Tryz.f50, List.append_eq, List.cons_append, List.nil_append, apure_call1, apure_call2, apure_call3, bft, btf, acodeN, List.getElem?_toArray, List.getElem?_cons_zero, List.getElem?_cons_succ, aopsN, adrawT, cls, astep, aop, afloat, ev, nth_lst, get_lst, aput, setAt_lst, upd_at, init_zero, init_succ, init_nil, Nat.reduceLT, Nat.reduceEqDiff, reduceIte, len_N, abuiltin_app, Option.map_some, Option.map_none, orElse_some, apure_add, apure_eqlV, eqlVal_str, eqlVal_bool, eqlVal_ptr, eqlVal_slice, eqlVal_wide, eqlVal_int, allT, ↓aop_eqlV, apure_neq, List.map_cons, List.map_nil, List.all_cons, List.all_nil, lit2, lit1, lit0, List.isEmpty_nil, bls, Bool.false_eq_true, if_true, if_false, List.length_map, beq_self_eq_true, uns, la9, lb9, add64', e1, e2, mk, hr, g5, calltrim, ht, finish, ares, aresL, ares1]
  exact ⟨_, _, rfl, hB⟩
def CMul (self : Self) : Prop := ∀ (m : Mem) (a b : Value) (x y : Nat), NumA m a (dig x) → NumA m b (dig y) → (dig x).length ≤ 400 → (dig y).length ≤ 400 → ∃ v m', ainv E self 50 [a, b] m = some (v, m') ∧ NumR m v m' (x * y)
theorem cmul {R : Nat → Self} {K : List Fact} (hR : Runs R K) {n : Nat} (hK : hasF K 50 = false) (hK' : hasF K 38 = false) (hn : 1000 ≤ n) : CMul (R (n + 2)) := by
  intro m a b x y ha hb hlx hly
  refine num2_call (by kernel_rfl) (by kernel_rfl) ha hb fun M' ha hb => ?_
  obtain ⟨v, m1, h1, h2⟩ := rmul_body (self := (R (n + 1))) (nf := n + 2) (ctrim hR hK' hn) ha hb hlx hly (by omega)
  exact ⟨v, m1, hR.b hK h1, h2⟩
end Go.Am.Seat
namespace Go.Am.Seat
open Go.Proofs Go.Am
theorem natsOf_lt (s : ByteArray) : ∀ x ∈ natsOf s, x < 256 := by
  intro x hx
  unfold natsOf at hx
  obtain ⟨y, _, rfl⟩ := List.mem_map.1 hx
  exact y.toNat_lt
theorem natsOf_len (s : ByteArray) : (natsOf s).length = s.data.toList.length := by unfold natsOf; rw [List.length_map]
theorem trim_exact {R : Nat → Self} {K : List Fact} (hR : Runs R K) {n : Nat} (hK : hasF K 38 = false) (hn : 1000 ≤ n) {m : Mem} {b : Nat} {L : List Nat} (hb : m[b]? = some (.row false 3 (cellsN L))) (hpos : 0 < L.length) (hL : L.length ≤ 1000) (hx : ∀ x ∈ L, x < 256) :
    ainv E (R (n + 1)) 38 [.slice (some ⟨b, 0, none⟩) L.length L.length] m = some (.slice (some ⟨b, 0, none⟩) (dig (val L)).length L.length, m) := by
  have hbs : (m.map sealed)[b]? = some (.row true 3 (cellsN L)) := by rw [List.getElem?_map, hb]; rfl
  obtain ⟨k, hT, hbd⟩ := trim_body (self := (R n)) (nf := n + 1) hbs hpos hL (by omega)
  have hk : k = (dig (val L)).length := by
    rw [← trim_val hT hx, List.length_take, Nat.min_eq_left hT.1]
  subst hk
  unfold ainv
  rw [show ([Value.slice (some ⟨b, 0, none⟩) L.length L.length].all lit2) = false from rfl, show E.wr 38 = false from by kernel_rfl]
  simp only [Bool.false_eq_true, if_false, hR.b hK hbd]
  exact acoll_old (by rw [List.length_map]; exact lt_of_at hb)
theorem of_nil {R : Nat → Self} {K : List Fact} (hR : Runs R K) {n : Nat} {m : Mem} (hK : hasF K 38 = false) (hn : 1000 ≤ n) : abody E (R (n + 1)) (n + 2) 29 [.string ⟨#[]⟩] m = some (.slice none 0 0, m) := by
  rw [abody_eqF (by kernel_rfl) Tryz.func29 bodyrof (by kernel_rfl) (Nat.le_of_ble_eq_true rfl)]
  rw [show Tryz.f29.ntmps = 20 from rfl]
  obtain ⟨F', hr, f3⟩ := lastOf (self := (R (n + 1))) (nf := n + 2) (m := m) (s := ⟨#[]⟩) (i := 0) (F := upd (upd (upd (init [.string ⟨#[]⟩]) 2 (.slice none 0 0)) 3 (.slice none 0 0)) 4 (.int .i64 0)) rfl rfl (Nat.le_refl _)
  have f3 : F' 3 = .slice none 0 0 := f3
  have ht : ainv E (R (n + 1)) 38 [.slice none 0 0] m = some (.slice none 0 0, m) := ainv_lit rfl (by kernel_rfl) (hR.b hK trim_nil) rfl
  have hr' : aloop (acodeN E (R (n + 1)) (n + 2) lprof_0) (n + 2) (lst (upd (upd (upd (init [.string ⟨#[]⟩]) 2 (.slice none 0 0)) 3 (.slice none 0 0)) 4 (.int .i64 0)) 20) m = some (.exit 0, lst F' 20, m) := by rw [aloop, hr]
  simp only [erof_0, erof_1, erof_2, erof_3, erof_4, erof_5, erof_6, lrof_0, lrof_1, lrof_2, lrof_3, lrof_4, lrof_5, lrof_6, agd_none, gdAt, gdV_bool, gdV_undef, Tryz.f29, List.append_eq, List.cons_append, List.nil_append, apure_call1, apure_call2, apure_call3, bft, btf, acodeN, List.getElem?_toArray, List.getElem?_cons_zero, List.getElem?_cons_succ, aopsN, adrawT, cls, astep, aop, afloat, ev, nth_lst, get_lst, aput, setAt_lst, upd_at, init_zero, init_succ, init_nil, Nat.reduceLT, Nat.reduceEqDiff, reduceIte, abuiltin, alen, Option.map_some, Option.map_none, orElse_some, apure_add, apure_eql, apure_neq, List.map_cons, List.map_nil, List.all_cons, List.all_nil, lit2, lit1, lit0, List.isEmpty_nil, bls, Bool.false_eq_true, if_true, if_false, List.length_map, beq_self_eq_true, uns, hr', f3, calltrim, ht, finish, ares, aresL, ares1]
def COf (self : Self) : Prop := ∀ (m : Mem) (s : ByteArray), s.data.toList.length ≤ 1000 → ∃ v m', ainv E self 29 [.string s] m = some (v, m') ∧ NumR m v m' (val (natsOf s))
theorem cof {R : Nat → Self} {K : List Fact} (hR : Runs R K) {n : Nat} (hK : hasF K 29 = false) (hK' : hasF K 38 = false) (hn : 1000 ≤ n) : COf (R (n + 2)) := by
  intro m s hs
  have key : ∃ v m1, (R (n + 2)) 29 [.string s] ((m.take E.G).map onlyTab) = some (v, m1) ∧ NumB ((m.take E.G).map onlyTab).length v m1 (val (natsOf s)) := by
    by_cases h0 : s.data.toList.length = 0
    · have hz : s = ⟨#[]⟩ := by
        apply ByteArray.ext
        apply Array.ext'
        exact List.eq_nil_of_length_eq_zero h0
      subst hz
      exact ⟨_, _, hR.b hK (of_nil hR hK' hn), .inl ⟨rfl, rfl⟩⟩
    · have hnl := natsOf_len s
      obtain ⟨b, m', h1, h2, h3⟩ := of_body (self := (R (n + 1))) (nf := n + 2) (m := (m.take E.G).map onlyTab) (s := s) (n := (dig (val (natsOf s))).length) hs (by omega) (by omega) (fun M' b' hb' => by
        have := trim_exact hR hK' hn hb' (by omega) (by omega) (natsOf_lt s)
        rw [hnl] at this
        exact this)
      refine ⟨_, _, hR.b hK h1, .inr ⟨natsOf s, (dig (val (natsOf s))).length, b, false, ?_, ?_, h3, by rw [hnl], h2, fun hz => by rw [hz] at hnl; exact h0 hnl.symm⟩⟩
      · exact dig_len_le (val_lt (natsOf_lt s))
      · have hle := dig_len_le (val_lt (natsOf_lt s))
        have h9 : val ((natsOf s).take (dig (val (natsOf s))).length) = val (natsOf s) := by
          rw [val_take (natsOf_lt s), Nat.mod_eq_of_lt (lt_dig_len _)]
        have h10 := dig_last (val (natsOf s))
        have h11 : (natsOf s).take (dig (val (natsOf s))).length = dig (val (natsOf s)) := by
          refine same_len (fun x hx => natsOf_lt s x (List.mem_of_mem_take hx)) (dig_lt _) (by rw [List.length_take, Nat.min_eq_left hle]) (by rw [h9, val_dig])
        exact h11
  obtain ⟨v, m1, h1, h2⟩ := key
  unfold ainv
  rw [show ([Value.string s].all lit2) = true from rfl, show E.fast 29 = none from by kernel_rfl]
  simp only [if_true, h1]
  exact h2.coll
end Go.Am.Seat
namespace Go.Am.Seat
open Go.Proofs Go.Am
noncomputable def rrsub_0 : Array Oper := match Tryz.f11.body with
  | some (.seq (.region _ o _) _) => o
  | _ => #[]
noncomputable def lrsub_0 : List Oper := match Tryz.f11.body with
  | some (.seq (.region _ o _) _) => o.toList
  | _ => []
theorem ersub_0 : rrsub_0.toList = lrsub_0 := rfl
noncomputable def rrsub_1 : Array Oper := match Tryz.f11.body with
  | some (.seq _ (.seq (.region _ o _) _)) => o
  | _ => #[]
noncomputable def lrsub_1 : List Oper := match Tryz.f11.body with
  | some (.seq _ (.seq (.region _ o _) _)) => o.toList
  | _ => []
theorem ersub_1 : rrsub_1.toList = lrsub_1 := rfl
noncomputable def rrsub_2 : Array Oper := match Tryz.f11.body with
  | some (.seq _ (.seq _ (.seq (.region _ o _) _))) => o
  | _ => #[]
noncomputable def lrsub_2 : List Oper := match Tryz.f11.body with
  | some (.seq _ (.seq _ (.seq (.region _ o _) _))) => o.toList
  | _ => []
theorem ersub_2 : rrsub_2.toList = lrsub_2 := rfl
noncomputable def rrsub_3 : Array Oper := match Tryz.f11.body with
  | some (.seq _ (.seq _ (.seq _ (.seq (.seq (.region _ o _) _) _)))) => o
  | _ => #[]
noncomputable def lrsub_3 : List Oper := match Tryz.f11.body with
  | some (.seq _ (.seq _ (.seq _ (.seq (.seq (.region _ o _) _) _)))) => o.toList
  | _ => []
theorem ersub_3 : rrsub_3.toList = lrsub_3 := rfl
noncomputable def lprsub_0 : Code := match Tryz.f11.body with
  | some (.seq _ (.seq _ (.seq _ (.seq (.seq _ (.block _ (.loop c))) _)))) => c
  | _ => .skip
noncomputable def rrsub_4 : Array Oper := match Tryz.f11.body with
  | some (.seq _ (.seq _ (.seq _ (.seq (.seq _ (.block _ (.loop (.seq (.seq (.region _ o _) _) _)))) _)))) => o
  | _ => #[]
noncomputable def lrsub_4 : List Oper := match Tryz.f11.body with
  | some (.seq _ (.seq _ (.seq _ (.seq (.seq _ (.block _ (.loop (.seq (.seq (.region _ o _) _) _)))) _)))) => o.toList
  | _ => []
theorem ersub_4 : rrsub_4.toList = lrsub_4 := rfl
noncomputable def rrsub_6 : Array Oper := match Tryz.f11.body with
  | some (.seq _ (.seq _ (.seq _ (.seq (.seq _ (.block _ (.loop (.seq _ (.seq (.block _ (.seq (.region _ o _) _)) _))))) _)))) => o
  | _ => #[]
noncomputable def lrsub_6 : List Oper := match Tryz.f11.body with
  | some (.seq _ (.seq _ (.seq _ (.seq (.seq _ (.block _ (.loop (.seq _ (.seq (.block _ (.seq (.region _ o _) _)) _))))) _)))) => o.toList
  | _ => []
theorem ersub_6 : rrsub_6.toList = lrsub_6 := rfl
noncomputable def rrsub_7 : Array Oper := match Tryz.f11.body with
  | some (.seq _ (.seq _ (.seq _ (.seq (.seq _ (.block _ (.loop (.seq _ (.seq (.block _ (.seq _ (.seq (.seq (.region _ o _) _) _))) _))))) _)))) => o
  | _ => #[]
noncomputable def lrsub_7 : List Oper := match Tryz.f11.body with
  | some (.seq _ (.seq _ (.seq _ (.seq (.seq _ (.block _ (.loop (.seq _ (.seq (.block _ (.seq _ (.seq (.seq (.region _ o _) _) _))) _))))) _)))) => o.toList
  | _ => []
theorem ersub_7 : rrsub_7.toList = lrsub_7 := rfl
noncomputable def rrsub_8 : Array Oper := match Tryz.f11.body with
  | some (.seq _ (.seq _ (.seq _ (.seq (.seq _ (.block _ (.loop (.seq _ (.seq (.block _ (.seq _ (.seq (.seq _ (.cond _ (.region _ o _) _)) _))) _))))) _)))) => o
  | _ => #[]
noncomputable def lrsub_8 : List Oper := match Tryz.f11.body with
  | some (.seq _ (.seq _ (.seq _ (.seq (.seq _ (.block _ (.loop (.seq _ (.seq (.block _ (.seq _ (.seq (.seq _ (.cond _ (.region _ o _) _)) _))) _))))) _)))) => o.toList
  | _ => []
theorem ersub_8 : rrsub_8.toList = lrsub_8 := rfl
noncomputable def rrsub_9 : Array Oper := match Tryz.f11.body with
  | some (.seq _ (.seq _ (.seq _ (.seq (.seq _ (.block _ (.loop (.seq _ (.seq (.block _ (.seq _ (.seq _ (.seq (.region _ o _) _)))) _))))) _)))) => o
  | _ => #[]
noncomputable def lrsub_9 : List Oper := match Tryz.f11.body with
  | some (.seq _ (.seq _ (.seq _ (.seq (.seq _ (.block _ (.loop (.seq _ (.seq (.block _ (.seq _ (.seq _ (.seq (.region _ o _) _)))) _))))) _)))) => o.toList
  | _ => []
theorem ersub_9 : rrsub_9.toList = lrsub_9 := rfl
noncomputable def rrsub_10 : Array Oper := match Tryz.f11.body with
  | some (.seq _ (.seq _ (.seq _ (.seq (.seq _ (.block _ (.loop (.seq _ (.seq (.block _ (.seq _ (.seq _ (.seq _ (.seq (.seq (.region _ o _) _) _))))) _))))) _)))) => o
  | _ => #[]
noncomputable def lrsub_10 : List Oper := match Tryz.f11.body with
  | some (.seq _ (.seq _ (.seq _ (.seq (.seq _ (.block _ (.loop (.seq _ (.seq (.block _ (.seq _ (.seq _ (.seq _ (.seq (.seq (.region _ o _) _) _))))) _))))) _)))) => o.toList
  | _ => []
theorem ersub_10 : rrsub_10.toList = lrsub_10 := rfl
noncomputable def rrsub_11 : Array Oper := match Tryz.f11.body with
  | some (.seq _ (.seq _ (.seq _ (.seq (.seq _ (.block _ (.loop (.seq _ (.seq (.block _ (.seq _ (.seq _ (.seq _ (.seq (.seq _ (.cond _ (.seq (.region _ o _) _) _)) _))))) _))))) _)))) => o
  | _ => #[]
noncomputable def lrsub_11 : List Oper := match Tryz.f11.body with
  | some (.seq _ (.seq _ (.seq _ (.seq (.seq _ (.block _ (.loop (.seq _ (.seq (.block _ (.seq _ (.seq _ (.seq _ (.seq (.seq _ (.cond _ (.seq (.region _ o _) _) _)) _))))) _))))) _)))) => o.toList
  | _ => []
theorem ersub_11 : rrsub_11.toList = lrsub_11 := rfl
noncomputable def rrsub_12 : Array Oper := match Tryz.f11.body with
  | some (.seq _ (.seq _ (.seq _ (.seq (.seq _ (.block _ (.loop (.seq _ (.seq (.block _ (.seq _ (.seq _ (.seq _ (.seq (.seq _ (.cond _ (.seq _ (.region _ o _)) _)) _))))) _))))) _)))) => o
  | _ => #[]
noncomputable def lrsub_12 : List Oper := match Tryz.f11.body with
  | some (.seq _ (.seq _ (.seq _ (.seq (.seq _ (.block _ (.loop (.seq _ (.seq (.block _ (.seq _ (.seq _ (.seq _ (.seq (.seq _ (.cond _ (.seq _ (.region _ o _)) _)) _))))) _))))) _)))) => o.toList
  | _ => []
theorem ersub_12 : rrsub_12.toList = lrsub_12 := rfl
noncomputable def rrsub_13 : Array Oper := match Tryz.f11.body with
  | some (.seq _ (.seq _ (.seq _ (.seq (.seq _ (.block _ (.loop (.seq _ (.seq (.block _ (.seq _ (.seq _ (.seq _ (.seq _ (.region _ o _)))))) _))))) _)))) => o
  | _ => #[]
noncomputable def lrsub_13 : List Oper := match Tryz.f11.body with
  | some (.seq _ (.seq _ (.seq _ (.seq (.seq _ (.block _ (.loop (.seq _ (.seq (.block _ (.seq _ (.seq _ (.seq _ (.seq _ (.region _ o _)))))) _))))) _)))) => o.toList
  | _ => []
theorem ersub_13 : rrsub_13.toList = lrsub_13 := rfl
noncomputable def rrsub_5 : Array Oper := match Tryz.f11.body with
  | some (.seq _ (.seq _ (.seq _ (.seq (.seq _ (.block _ (.loop (.seq _ (.seq _ (.region _ o _)))))) _)))) => o
  | _ => #[]
noncomputable def lrsub_5 : List Oper := match Tryz.f11.body with
  | some (.seq _ (.seq _ (.seq _ (.seq (.seq _ (.block _ (.loop (.seq _ (.seq _ (.region _ o _)))))) _)))) => o.toList
  | _ => []
theorem ersub_5 : rrsub_5.toList = lrsub_5 := rfl
theorem lprsub_0_eq : lprsub_0 = (.seq (.seq (.region 4 rrsub_4 false) (.cond (.tmp 12) .skip (.exit 0))) (.seq (.block 1 (.seq (.region 6 rrsub_6 false) (.seq (.seq (.region 7 rrsub_7 false) (.cond (.tmp 24) (.region 8 rrsub_8 false) .skip)) (.seq (.region 9 rrsub_9 false) (.seq (.seq (.region 10 rrsub_10 false) (.cond (.tmp 32) (.seq (.region 11 rrsub_11 false) (.region 12 rrsub_12 false)) .skip)) (.region 13 rrsub_13 false)))))) (.region 5 rrsub_5 false))) := rfl
noncomputable def rrsub_14 : Array Oper := match Tryz.f11.body with
  | some (.seq _ (.seq _ (.seq _ (.seq _ (.seq (.region _ o _) _))))) => o
  | _ => #[]
noncomputable def lrsub_14 : List Oper := match Tryz.f11.body with
  | some (.seq _ (.seq _ (.seq _ (.seq _ (.seq (.region _ o _) _))))) => o.toList
  | _ => []
theorem ersub_14 : rrsub_14.toList = lrsub_14 := rfl
theorem bodyrsub : Tryz.f11.body = some (.seq (.region 0 rrsub_0 false) (.seq (.region 1 rrsub_1 false) (.seq (.region 2 rrsub_2 false) (.seq (.seq (.region 3 rrsub_3 false) (.block 0 (.loop lprsub_0))) (.seq (.region 14 rrsub_14 false) .ret))))) := rfl
-- ntmps 41
section
variable {self : Self} {nf B : Nat} {m : Mem} {F : Nat → Value} {a b : Value} {la lb L : List Nat} {i c x y : Nat}
theorem rsub_P1 (h0 : F 0 = a) (h1 : F 1 = b) (h6 : F 6 = .int .i64 (c : Nat)) (h7 : F 7 = .int .i64 (i : Nat)) (hi9 : i < 100000) (ha : NumA m a la) (hb : NumA m b lb) (hx : la[i]? = some x) (hx9 : x < 256) (hc9 : c ≤ 1) (hy : lb[i]? = some y) (hy9 : y < 256) (hn : c + y ≤ x) (hS : GN B m (F 5) L) (hB : B ≤ m.length) (hl : L.length ≤ 100000) :
    ∃ F' m', acodeN E self nf lprsub_0 (lst F 41) m = some (.normal, lst F' 41, m') ∧ F' 0 = a ∧ F' 1 = b ∧ F' 6 = .int .i64 ((0 : Nat) : Int) ∧ F' 7 = .int .i64 ((i + 1 : Nat) : Int) ∧ GN B m' (F' 5) (L ++ [(x - (c + y))]) ∧ m.length ≤ m'.length ∧ ∀ k, k < B → m'[k]? = m[k]? := by
  obtain ⟨ba, oa, ia, ca⟩ := ha.2 i x hx
  have hil := (List.getElem?_eq_some_iff.1 hx).1
  obtain ⟨bb, ob, ib, cb⟩ := hb.2 i y hy
  have hjl := (List.getElem?_eq_some_iff.1 hy).1
  have q1 : decide (((i : Nat) : Int) < ((la.length : Nat) : Int)) = true := decide_eq_true (by omega)
  have q2 : decide (((i : Nat) : Int) < ((lb.length : Nat) : Int)) = true := decide_eq_true (by omega)
  have e1 : wrapF .i64 (((x : Nat) : Int) - ((c : Nat) : Int)) = ((x : Nat) : Int) - ((c : Nat) : Int) := by simp only [wrapF]; omega
  have e2 : wrapF .i64 (((x : Nat) : Int) - ((c : Nat) : Int) - ((y : Nat) : Int)) = (((x - (c + y)) : Nat) : Int) := by simp only [wrapF]; omega
  have q3 : decide ((((x - (c + y)) : Nat) : Int) < 0) = false := decide_eq_false (by omega)
  have e5 := w1 (i := i) (by omega)
  have la9 := ha.1
  have lb9 := hb.1
  generalize hv : F 5 = v at hS
  obtain ⟨v', m', happ, hS', hle, hfr⟩ := appN (x := (x - (c + y))) hS hB hl
  simp only [lprsub_0_eq, ersub_0, ersub_1, ersub_10, ersub_11, ersub_12, ersub_13, ersub_14, ersub_2, ersub_3, ersub_4, ersub_5, ersub_6, ersub_7, ersub_8, ersub_9, lrsub_0, lrsub_1, lrsub_2, lrsub_3, lrsub_4, lrsub_5, lrsub_6, lrsub_7, lrsub_8, lrsub_9, lrsub_10, lrsub_11, lrsub_12, lrsub_13, lrsub_14, agd_none, gdAt, gdV_bool, gdV_undef, Tryz.f11, List.append_eq, List.cons_append, List.nil_append, apure_call1, apure_call2, apure_call3, bft, btf, acodeN, List.getElem?_toArray, List.getElem?_cons_zero, List.getElem?_cons_succ, aopsN, adrawT, cls, astep, aop, afloat, ev, nth_lst, get_lst, aput, setAt_lst, upd_at, init_zero, init_succ, init_nil, Nat.reduceLT, Nat.reduceEqDiff, reduceIte, len_N, abuiltin_app, Option.map_some, Option.map_none, orElse_some, apure_add, apure_eqlV, eqlVal_str, eqlVal_bool, eqlVal_ptr, eqlVal_slice, eqlVal_wide, eqlVal_int, allT, ↓aop_eqlV, apure_neq, List.map_cons, List.map_nil, List.all_cons, List.all_nil, lit2, lit1, lit0, List.isEmpty_nil, bls, Bool.false_eq_true, if_true, if_false, List.length_map, beq_self_eq_true, uns, h0, h1, h6, h7, hv, la9, lb9, lss64, sub64', add64', q1, q2, e1, e2, q3, ia, load3, ca, ib, cb, build27, happ, e5]
  exact ⟨_, _, rfl, by simp only [upd_at, Nat.reduceEqDiff, reduceIte, h0], by simp only [upd_at, Nat.reduceEqDiff, reduceIte, h1], by simp only [upd_at, Nat.reduceEqDiff, reduceIte]; rfl, by simp only [upd_at, Nat.reduceEqDiff, reduceIte], by simp only [upd_at, Nat.reduceEqDiff, reduceIte]; exact hS', hle, hfr⟩
theorem rsub_N1 (h0 : F 0 = a) (h1 : F 1 = b) (h6 : F 6 = .int .i64 (c : Nat)) (h7 : F 7 = .int .i64 (i : Nat)) (hi9 : i < 100000) (ha : NumA m a la) (hb : NumA m b lb) (hx : la[i]? = some x) (hx9 : x < 256) (hc9 : c ≤ 1) (hy : lb[i]? = some y) (hy9 : y < 256) (hn : x < c + y) (hS : GN B m (F 5) L) (hB : B ≤ m.length) (hl : L.length ≤ 100000) :
    ∃ F' m', acodeN E self nf lprsub_0 (lst F 41) m = some (.normal, lst F' 41, m') ∧ F' 0 = a ∧ F' 1 = b ∧ F' 6 = .int .i64 ((1 : Nat) : Int) ∧ F' 7 = .int .i64 ((i + 1 : Nat) : Int) ∧ GN B m' (F' 5) (L ++ [(x + 256 - (c + y))]) ∧ m.length ≤ m'.length ∧ ∀ k, k < B → m'[k]? = m[k]? := by
  obtain ⟨ba, oa, ia, ca⟩ := ha.2 i x hx
  have hil := (List.getElem?_eq_some_iff.1 hx).1
  obtain ⟨bb, ob, ib, cb⟩ := hb.2 i y hy
  have hjl := (List.getElem?_eq_some_iff.1 hy).1
  have q1 : decide (((i : Nat) : Int) < ((la.length : Nat) : Int)) = true := decide_eq_true (by omega)
  have q2 : decide (((i : Nat) : Int) < ((lb.length : Nat) : Int)) = true := decide_eq_true (by omega)
  have e1 : wrapF .i64 (((x : Nat) : Int) - ((c : Nat) : Int)) = ((x : Nat) : Int) - ((c : Nat) : Int) := by simp only [wrapF]; omega
  have e2 : wrapF .i64 (((x : Nat) : Int) - ((c : Nat) : Int) - ((y : Nat) : Int)) = ((x : Nat) : Int) - ((c : Nat) : Int) - ((y : Nat) : Int) := by simp only [wrapF]; omega
  have q3 : decide (((x : Nat) : Int) - ((c : Nat) : Int) - ((y : Nat) : Int) < 0) = true := decide_eq_true (by omega)
  have e4 : wrapF .i64 (((x : Nat) : Int) - ((c : Nat) : Int) - ((y : Nat) : Int) + 256) = (((x + 256 - (c + y)) : Nat) : Int) := by simp only [wrapF]; omega
  have e5 := w1 (i := i) (by omega)
  have la9 := ha.1
  have lb9 := hb.1
  generalize hv : F 5 = v at hS
  obtain ⟨v', m', happ, hS', hle, hfr⟩ := appN (x := (x + 256 - (c + y))) hS hB hl
  simp only [lprsub_0_eq, ersub_0, ersub_1, ersub_10, ersub_11, ersub_12, ersub_13, ersub_14, ersub_2, ersub_3, ersub_4, ersub_5, ersub_6, ersub_7, ersub_8, ersub_9, lrsub_0, lrsub_1, lrsub_2, lrsub_3, lrsub_4, lrsub_5, lrsub_6, lrsub_7, lrsub_8, lrsub_9, lrsub_10, lrsub_11, lrsub_12, lrsub_13, lrsub_14, agd_none, gdAt, gdV_bool, gdV_undef, Tryz.f11, List.append_eq, List.cons_append, List.nil_append, apure_call1, apure_call2, apure_call3, bft, btf, acodeN, List.getElem?_toArray, List.getElem?_cons_zero, List.getElem?_cons_succ, aopsN, adrawT, cls, astep, aop, afloat, ev, nth_lst, get_lst, aput, setAt_lst, upd_at, init_zero, init_succ, init_nil, Nat.reduceLT, Nat.reduceEqDiff, reduceIte, len_N, abuiltin_app, Option.map_some, Option.map_none, orElse_some, apure_add, apure_eqlV, eqlVal_str, eqlVal_bool, eqlVal_ptr, eqlVal_slice, eqlVal_wide, eqlVal_int, allT, ↓aop_eqlV, apure_neq, List.map_cons, List.map_nil, List.all_cons, List.all_nil, lit2, lit1, lit0, List.isEmpty_nil, bls, Bool.false_eq_true, if_true, if_false, List.length_map, beq_self_eq_true, uns, h0, h1, h6, h7, hv, la9, lb9, lss64, sub64', add64', q1, q2, e1, e2, q3, e4, ia, load3, ca, ib, cb, build27, happ, e5]
  exact ⟨_, _, rfl, by simp only [upd_at, Nat.reduceEqDiff, reduceIte, h0], by simp only [upd_at, Nat.reduceEqDiff, reduceIte, h1], by simp only [upd_at, Nat.reduceEqDiff, reduceIte]; rfl, by simp only [upd_at, Nat.reduceEqDiff, reduceIte], by simp only [upd_at, Nat.reduceEqDiff, reduceIte]; exact hS', hle, hfr⟩
theorem rsub_P0 (h0 : F 0 = a) (h1 : F 1 = b) (h6 : F 6 = .int .i64 (c : Nat)) (h7 : F 7 = .int .i64 (i : Nat)) (hi9 : i < 100000) (ha : NumA m a la) (hb : NumA m b lb) (hx : la[i]? = some x) (hx9 : x < 256) (hc9 : c ≤ 1) (hj : lb.length ≤ i) (hn : c ≤ x) (hS : GN B m (F 5) L) (hB : B ≤ m.length) (hl : L.length ≤ 100000) :
    ∃ F' m', acodeN E self nf lprsub_0 (lst F 41) m = some (.normal, lst F' 41, m') ∧ F' 0 = a ∧ F' 1 = b ∧ F' 6 = .int .i64 ((0 : Nat) : Int) ∧ F' 7 = .int .i64 ((i + 1 : Nat) : Int) ∧ GN B m' (F' 5) (L ++ [(x - (c))]) ∧ m.length ≤ m'.length ∧ ∀ k, k < B → m'[k]? = m[k]? := by
  obtain ⟨ba, oa, ia, ca⟩ := ha.2 i x hx
  have hil := (List.getElem?_eq_some_iff.1 hx).1
  have q1 : decide (((i : Nat) : Int) < ((la.length : Nat) : Int)) = true := decide_eq_true (by omega)
  have q2 : decide (((i : Nat) : Int) < ((lb.length : Nat) : Int)) = false := decide_eq_false (by omega)
  have e1 : wrapF .i64 (((x : Nat) : Int) - ((c : Nat) : Int)) = (((x - (c)) : Nat) : Int) := by simp only [wrapF]; omega
  have q3 : decide ((((x - (c)) : Nat) : Int) < 0) = false := decide_eq_false (by omega)
  have e5 := w1 (i := i) (by omega)
  have la9 := ha.1
  have lb9 := hb.1
  generalize hv : F 5 = v at hS
  obtain ⟨v', m', happ, hS', hle, hfr⟩ := appN (x := (x - (c))) hS hB hl
  simp only [lprsub_0_eq, ersub_0, ersub_1, ersub_10, ersub_11, ersub_12, ersub_13, ersub_14, ersub_2, ersub_3, ersub_4, ersub_5, ersub_6, ersub_7, ersub_8, ersub_9, lrsub_0, lrsub_1, lrsub_2, lrsub_3, lrsub_4, lrsub_5, lrsub_6, lrsub_7, lrsub_8, lrsub_9, lrsub_10, lrsub_11, lrsub_12, lrsub_13, lrsub_14, agd_none, gdAt, gdV_bool, gdV_undef, Tryz.f11, List.append_eq, List.cons_append, List.nil_append, apure_call1, apure_call2, apure_call3, bft, btf, acodeN, List.getElem?_toArray, List.getElem?_cons_zero, List.getElem?_cons_succ, aopsN, adrawT, cls, astep, aop, afloat, ev, nth_lst, get_lst, aput, setAt_lst, upd_at, init_zero, init_succ, init_nil, Nat.reduceLT, Nat.reduceEqDiff, reduceIte, len_N, abuiltin_app, Option.map_some, Option.map_none, orElse_some, apure_add, apure_eqlV, eqlVal_str, eqlVal_bool, eqlVal_ptr, eqlVal_slice, eqlVal_wide, eqlVal_int, allT, ↓aop_eqlV, apure_neq, List.map_cons, List.map_nil, List.all_cons, List.all_nil, lit2, lit1, lit0, List.isEmpty_nil, bls, Bool.false_eq_true, if_true, if_false, List.length_map, beq_self_eq_true, uns, h0, h1, h6, h7, hv, la9, lb9, lss64, sub64', add64', q1, q2, e1, q3, ia, load3, ca, build27, happ, e5]
  exact ⟨_, _, rfl, by simp only [upd_at, Nat.reduceEqDiff, reduceIte, h0], by simp only [upd_at, Nat.reduceEqDiff, reduceIte, h1], by simp only [upd_at, Nat.reduceEqDiff, reduceIte]; rfl, by simp only [upd_at, Nat.reduceEqDiff, reduceIte], by simp only [upd_at, Nat.reduceEqDiff, reduceIte]; exact hS', hle, hfr⟩
theorem rsub_N0 (h0 : F 0 = a) (h1 : F 1 = b) (h6 : F 6 = .int .i64 (c : Nat)) (h7 : F 7 = .int .i64 (i : Nat)) (hi9 : i < 100000) (ha : NumA m a la) (hb : NumA m b lb) (hx : la[i]? = some x) (hx9 : x < 256) (hc9 : c ≤ 1) (hj : lb.length ≤ i) (hn : x < c) (hS : GN B m (F 5) L) (hB : B ≤ m.length) (hl : L.length ≤ 100000) :
    ∃ F' m', acodeN E self nf lprsub_0 (lst F 41) m = some (.normal, lst F' 41, m') ∧ F' 0 = a ∧ F' 1 = b ∧ F' 6 = .int .i64 ((1 : Nat) : Int) ∧ F' 7 = .int .i64 ((i + 1 : Nat) : Int) ∧ GN B m' (F' 5) (L ++ [(x + 256 - (c))]) ∧ m.length ≤ m'.length ∧ ∀ k, k < B → m'[k]? = m[k]? := by
  obtain ⟨ba, oa, ia, ca⟩ := ha.2 i x hx
  have hil := (List.getElem?_eq_some_iff.1 hx).1
  have q1 : decide (((i : Nat) : Int) < ((la.length : Nat) : Int)) = true := decide_eq_true (by omega)
  have q2 : decide (((i : Nat) : Int) < ((lb.length : Nat) : Int)) = false := decide_eq_false (by omega)
  have e1 : wrapF .i64 (((x : Nat) : Int) - ((c : Nat) : Int)) = ((x : Nat) : Int) - ((c : Nat) : Int) := by simp only [wrapF]; omega
  have q3 : decide (((x : Nat) : Int) - ((c : Nat) : Int) < 0) = true := decide_eq_true (by omega)
  have e4 : wrapF .i64 (((x : Nat) : Int) - ((c : Nat) : Int) + 256) = (((x + 256 - (c)) : Nat) : Int) := by simp only [wrapF]; omega
  have e5 := w1 (i := i) (by omega)
  have la9 := ha.1
  have lb9 := hb.1
  generalize hv : F 5 = v at hS
  obtain ⟨v', m', happ, hS', hle, hfr⟩ := appN (x := (x + 256 - (c))) hS hB hl
  simp only [lprsub_0_eq, ersub_0, ersub_1, ersub_10, ersub_11, ersub_12, ersub_13, ersub_14, ersub_2, ersub_3, ersub_4, ersub_5, ersub_6, ersub_7, ersub_8, ersub_9, lrsub_0, lrsub_1, lrsub_2, lrsub_3, lrsub_4, lrsub_5, lrsub_6, lrsub_7, lrsub_8, lrsub_9, lrsub_10, lrsub_11, lrsub_12, lrsub_13, lrsub_14, agd_none, gdAt, gdV_bool, gdV_undef, Tryz.f11, List.append_eq, List.cons_append, List.nil_append, apure_call1, apure_call2, apure_call3, bft, btf, acodeN, List.getElem?_toArray, List.getElem?_cons_zero, List.getElem?_cons_succ, aopsN, adrawT, cls, astep, aop, afloat, ev, nth_lst, get_lst, aput, setAt_lst, upd_at, init_zero, init_succ, init_nil, Nat.reduceLT, Nat.reduceEqDiff, reduceIte, len_N, abuiltin_app, Option.map_some, Option.map_none, orElse_some, apure_add, apure_eqlV, eqlVal_str, eqlVal_bool, eqlVal_ptr, eqlVal_slice, eqlVal_wide, eqlVal_int, allT, ↓aop_eqlV, apure_neq, List.map_cons, List.map_nil, List.all_cons, List.all_nil, lit2, lit1, lit0, List.isEmpty_nil, bls, Bool.false_eq_true, if_true, if_false, List.length_map, beq_self_eq_true, uns, h0, h1, h6, h7, hv, la9, lb9, lss64, sub64', add64', q1, q2, e1, q3, e4, ia, load3, ca, build27, happ, e5]
  exact ⟨_, _, rfl, by simp only [upd_at, Nat.reduceEqDiff, reduceIte, h0], by simp only [upd_at, Nat.reduceEqDiff, reduceIte, h1], by simp only [upd_at, Nat.reduceEqDiff, reduceIte]; rfl, by simp only [upd_at, Nat.reduceEqDiff, reduceIte], by simp only [upd_at, Nat.reduceEqDiff, reduceIte]; exact hS', hle, hfr⟩
theorem rsub_E (h0 : F 0 = a) (h7 : F 7 = .int .i64 (i : Nat)) (ha : NumA m a la) (hi : la.length ≤ i) :
    ∃ F', acodeN E self nf lprsub_0 (lst F 41) m = some (.exit 0, lst F' 41, m) ∧ F' 5 = F 5 := by
  have q1 : decide (((i : Nat) : Int) < ((la.length : Nat) : Int)) = false := decide_eq_false (by omega)
  have la9 := ha.1
  simp only [lprsub_0_eq, ersub_0, ersub_1, ersub_10, ersub_11, ersub_12, ersub_13, ersub_14, ersub_2, ersub_3, ersub_4, ersub_5, ersub_6, ersub_7, ersub_8, ersub_9, lrsub_0, lrsub_1, lrsub_2, lrsub_3, lrsub_4, lrsub_5, lrsub_6, lrsub_7, lrsub_8, lrsub_9, lrsub_10, lrsub_11, lrsub_12, lrsub_13, lrsub_14, agd_none, gdAt, gdV_bool, gdV_undef, Tryz.f11, List.append_eq, List.cons_append, List.nil_append, apure_call1, apure_call2, apure_call3, bft, btf, acodeN, List.getElem?_toArray, List.getElem?_cons_zero, List.getElem?_cons_succ, aopsN, adrawT, cls, astep, aop, afloat, ev, nth_lst, get_lst, aput, setAt_lst, upd_at, init_zero, init_succ, init_nil, Nat.reduceLT, Nat.reduceEqDiff, reduceIte, len_N, abuiltin_app, Option.map_some, Option.map_none, orElse_some, apure_add, apure_eqlV, eqlVal_str, eqlVal_bool, eqlVal_ptr, eqlVal_slice, eqlVal_wide, eqlVal_int, allT, ↓aop_eqlV, apure_neq, List.map_cons, List.map_nil, List.all_cons, List.all_nil, lit2, lit1, lit0, List.isEmpty_nil, bls, Bool.false_eq_true, if_true, if_false, List.length_map, beq_self_eq_true, uns, h0, h7, la9, lss64, q1]
  exact ⟨_, rfl, by simp only [upd_at, Nat.reduceEqDiff, reduceIte]⟩
end
theorem mem_app9 {L : List Nat} {s : Nat} (h : ∀ x ∈ L, x < 256) (hs : s < 256) : ∀ x ∈ L ++ [s], x < 256 := by
  intro x hx
  rcases List.mem_append.1 hx with h1 | h1
  · exact h x h1
  · simp only [List.mem_singleton] at h1
    omega
theorem rsub_body {self : Self} {nf : Nat} {m : Mem} {a b : Value} {x y : Nat} (ct : CTrim self) (ha : NumA m a (dig x)) (hb : NumA m b (dig y)) (hyx : y ≤ x) (hlx : (dig x).length ≤ 800) (hnf : 1000 < nf) :
    ∃ v m1, abody E self nf 11 [a, b] m = some (v, m1) ∧ NumB m.length v m1 (x - y) := by
  rw [abody_eqF (by kernel_rfl) Tryz.func11 bodyrsub (by kernel_rfl) (Nat.le_of_ble_eq_true rfl)]
  rw [show Tryz.f11.ntmps = 41 from rfl]
  have hlen : (dig y).length ≤ (dig x).length := dig_len_le (Nat.lt_of_le_of_lt hyx (lt_dig_len x))
  have vx := val_dig x
  have vy := val_dig y
  have dx := dig_lt x
  have dy := dig_lt y
  generalize hla : dig x = la at *
  generalize hlb : dig y = lb at *
  have hloop := aloop_inv (body := acodeN E self nf lprsub_0) (N := la.length)
    (I := fun i T m' => ∃ G L c, T = lst G 41 ∧ m.length ≤ m'.length ∧ (∀ k, k < m.length → m'[k]? = m[k]?) ∧ G 0 = a ∧ G 1 = b ∧ G 6 = .int .i64 (c : Nat) ∧ G 7 = .int .i64 (i : Nat) ∧ GN m.length m' (G 5) L ∧ L.length = i ∧ (∀ x ∈ L, x < 256) ∧ c ≤ 1 ∧
      val L + val (lb.take i) = val (la.take i) + 256 ^ i * c)
    (Q := fun e T m' => e = .exit 0 ∧ ∃ G L, T = lst G 41 ∧ GN m.length m' (G 5) L ∧ L.length ≤ 1000 ∧ (∀ x ∈ L, x < 256) ∧ val L = x - y) (fun i T m' hi hI => by
      obtain ⟨G, L, c, rfl, hle, hfr, g0, g1, g6, g7, gS, gl, gd, gc, gv⟩ := hI
      have ha' := ha.keep hfr
      have hb' := hb.keep hfr
      have hpow : 256 ^ (i + 1) = 256 ^ i * 256 := Nat.pow_succ ..
      by_cases h1 : i < la.length
      · left
        have hx : la[i]? = some la[i] := by simp [h1]
        have hx9 := dx _ (List.mem_of_getElem? hx)
        have sx := val_step hx
        generalize la[i] = xi at *
        have hP : ∀ u v w : Nat, u + v = w → 256 ^ i * u + 256 ^ i * v = 256 ^ i * w := fun u v w h => by rw [← Nat.mul_add, h]
        by_cases h2 : i < lb.length
        · have hy : lb[i]? = some lb[i] := by simp [h2]
          have hy9 := dy _ (List.mem_of_getElem? hy)
          have sy := val_step hy
          generalize lb[i] = yi at *
          by_cases h3 : c + yi ≤ xi
          · obtain ⟨F', m2, hr, f0, f1, f6, f7, fS, fle, ffr⟩ := rsub_P1 (self := self) (nf := nf) g0 g1 g6 g7 (by omega) ha' hb' hx hx9 gc hy hy9 h3 gS hle (by omega)
            refine ⟨_, _, hr, h1, F', _, 0, rfl, by omega, fun k hk => by rw [ffr k hk, hfr k hk], f0, f1, f6, f7, fS, by simp [gl], mem_app9 gd (by omega), by omega, ?_⟩
            have p1 := hP (xi - (c + yi)) (c + yi) xi (by omega)
            have p2 := hP c yi (c + yi) rfl
            rw [val_app1, gl, sx, sy]
            omega
          · obtain ⟨F', m2, hr, f0, f1, f6, f7, fS, fle, ffr⟩ := rsub_N1 (self := self) (nf := nf) g0 g1 g6 g7 (by omega) ha' hb' hx hx9 gc hy hy9 (by omega) gS hle (by omega)
            refine ⟨_, _, hr, h1, F', _, 1, rfl, by omega, fun k hk => by rw [ffr k hk, hfr k hk], f0, f1, f6, f7, fS, by simp [gl], mem_app9 gd (by omega), by omega, ?_⟩
            have p1 := hP (xi + 256 - (c + yi)) (c + yi) (xi + 256) (by omega)
            have p2 := hP c yi (c + yi) rfl
            have p3 := hP xi 256 (xi + 256) rfl
            rw [val_app1, gl, sx, sy, hpow]
            omega
        · have sy := val_same (l := lb) (i := i) (by omega)
          by_cases h3 : c ≤ xi
          · obtain ⟨F', m2, hr, f0, f1, f6, f7, fS, fle, ffr⟩ := rsub_P0 (self := self) (nf := nf) g0 g1 g6 g7 (by omega) ha' hb' hx hx9 gc (by omega) h3 gS hle (by omega)
            refine ⟨_, _, hr, h1, F', _, 0, rfl, by omega, fun k hk => by rw [ffr k hk, hfr k hk], f0, f1, f6, f7, fS, by simp [gl], mem_app9 gd (by omega), by omega, ?_⟩
            have p1 := hP (xi - c) c xi (by omega)
            rw [val_app1, gl, sx, sy]
            omega
          · obtain ⟨F', m2, hr, f0, f1, f6, f7, fS, fle, ffr⟩ := rsub_N0 (self := self) (nf := nf) g0 g1 g6 g7 (by omega) ha' hb' hx hx9 gc (by omega) (by omega) gS hle (by omega)
            refine ⟨_, _, hr, h1, F', _, 1, rfl, by omega, fun k hk => by rw [ffr k hk, hfr k hk], f0, f1, f6, f7, fS, by simp [gl], mem_app9 gd (by omega), by omega, ?_⟩
            have p1 := hP (xi + 256 - c) c (xi + 256) (by omega)
            have p3 := hP xi 256 (xi + 256) rfl
            rw [val_app1, gl, sx, sy, hpow]
            omega
      · right
        have hie : i = la.length := by omega
        obtain ⟨F', hr, f5⟩ := rsub_E (self := self) (nf := nf) (m := m') g0 g7 ha' (by omega)
        have tx : val (la.take i) = x := by rw [List.take_of_length_le (by omega)]; exact vx
        have ty : val (lb.take i) = y := by rw [List.take_of_length_le (by omega)]; exact vy
        have hlt := val_lt gd
        rw [gl] at hlt
        refine ⟨_, _, _, hr, by simp, rfl, F', L, rfl, by rw [f5]; exact gS, by omega, gd, ?_⟩
        rw [tx, ty] at gv
        have hc : c = 0 ∨ c = 1 := by omega
        rcases hc with rfl | rfl
        · omega
        · omega)
  obtain ⟨e, T', m', hr, rfl, G, L, rfl, gS, gl, gd, gv⟩ := hloop la.length 0 nf (lst (upd (upd (upd (upd (init [a, b]) 4 (.slice none 0 0)) 5 (.slice none 0 0)) 6 (.int .i64 0)) 7 (.int .i64 0)) 41) m (by omega) (by omega) ⟨_, [], 0, rfl, Nat.le_refl _, fun _ _ => rfl, rfl, rfl, rfl, rfl, .inl ⟨rfl, rfl⟩, rfl, (fun x hx => by cases hx), by omega, by simp [val]⟩
  generalize hv : G 5 = v at gS
  obtain ⟨v', ht, hB⟩ := ct m.length m' v L (x - y) gS gl gd gv
  simp only [ersub_0, ersub_1, ersub_10, ersub_11, ersub_12, ersub_13, ersub_14, ersub_2, ersub_3, ersub_4, ersub_5, ersub_6, ersub_7, ersub_8, ersub_9, lrsub_0, lrsub_1, lrsub_2, lrsub_3, lrsub_4, lrsub_5, lrsub_6, lrsub_7, lrsub_8, lrsub_9, lrsub_10, lrsub_11, lrsub_12, lrsub_13, lrsub_14, agd_none, gdAt, gdV_bool, gdV_undef, Tryz.f11, List.append_eq, List.cons_append, List.nil_append, apure_call1, apure_call2, apure_call3, bft, btf, acodeN, List.getElem?_toArray, List.getElem?_cons_zero, List.getElem?_cons_succ, aopsN, adrawT, cls, astep, aop, afloat, ev, nth_lst, get_lst, aput, setAt_lst, upd_at, init_zero, init_succ, init_nil, Nat.reduceLT, Nat.reduceEqDiff, reduceIte, len_N, abuiltin_app, Option.map_some, Option.map_none, orElse_some, apure_add, apure_eqlV, eqlVal_str, eqlVal_bool, eqlVal_ptr, eqlVal_slice, eqlVal_wide, eqlVal_int, allT, ↓aop_eqlV, apure_neq, List.map_cons, List.map_nil, List.all_cons, List.all_nil, lit2, lit1, lit0, List.isEmpty_nil, bls, Bool.false_eq_true, if_true, if_false, List.length_map, beq_self_eq_true, uns, hr, hv, calltrim, ht, finish, ares, aresL, ares1]
  exact ⟨_, _, rfl, hB⟩
def CSub (self : Self) : Prop := ∀ (m : Mem) (a b : Value) (x y : Nat), NumA m a (dig x) → NumA m b (dig y) → y ≤ x → (dig x).length ≤ 800 → ∃ v m', ainv E self 11 [a, b] m = some (v, m') ∧ NumR m v m' (x - y)
theorem csub {R : Nat → Self} {K : List Fact} (hR : Runs R K) {n : Nat} (hK : hasF K 11 = false) (hK' : hasF K 38 = false) (hn : 1000 ≤ n) : CSub (R (n + 2)) := by
  intro m a b x y ha hb hyx hlx
  refine num2_call (by kernel_rfl) (by kernel_rfl) ha hb fun M' ha hb => ?_
  obtain ⟨v, m1, h1, h2⟩ := rsub_body (self := (R (n + 1))) (nf := n + 2) (ctrim hR hK' hn) ha hb hyx hlx (by omega)
  exact ⟨v, m1, hR.b hK h1, h2⟩
end Go.Am.Seat
namespace Go.Am
noncomputable section
section
variable {E : Env} {self : Self} {ops : Array Oper} {m m1 : Mem} {o : Oper} {l : List Oper} {i c : Nat} {T : List Value} {nb bs : List Blk} {ow : List Nat} {v v' : Value}
theorem u_float (hg : agd ops T o = some true) (hok : okOp E.P o.op = true) (hc : cls E.P E.wr o = 0) (hf : afloat E.P T o = some v) : amkUT E self ops m (o :: l) i T nb ow = amkUT E self ops m l (i + 1) (aput T o.dst v) nb ow := by
  rw [amkUT, hg]
  simp only
  rw [if_pos hok, hc]
  simp only [hf]
theorem u_make (hg : agd ops T o = some true) (hok : okOp E.P o.op = true) (hc : cls E.P E.wr o = c + 1) (hp : opsP (pW ops i m.length ow) T o = true) (hr : rowsP (pW ops i m.length ow) (maskN ops i nb ow) = true)
    (hs : astep E self T ((m ++ maskN ops i nb ow).map sealed) o = some (v, m1)) (ha : acollAt (m.length + nb.length) (m.length + nb.length) v m1 = some (v', bs)) (hw : (bs.isEmpty || isW E.P E.wr ops i) = true) :
    amkUT E self ops m (o :: l) i T nb ow = amkUT E self ops m l (i + 1) (aput T o.dst v') (nb ++ bs) (ow ++ List.replicate bs.length i) := by
  rw [amkUT, hg]
  simp only
  rw [if_pos hok, hc]
  simp only [hp, hr, Bool.and_self, if_true, hs, ha, hw]
theorem u_end : amkUT E self ops m [] i T nb ow = some (T, nb) := rfl
theorem amk_of {T1 : List Value} {nb1 : List Blk} (hd : depB E.P E.wr ops = true) (h : amkUT E self ops m ops.toList 0 T [] [] = some (T1, nb1)) : amk E self ops T m = some (T1, m ++ nb1) := by
  unfold amk
  rw [hd]
  simp only
  unfold amkU
  rw [h]
end
theorem acollAt_lit {n N : Nat} {v : Value} {m1 : Mem} (h : lit2 v = true) : acollAt n N v m1 = some (v, []) := by
  unfold acollAt
  rw [if_pos h]
end
end Go.Am
namespace Go.Am.Seat
open Go.Proofs Go.Am
theorem acollAt_new {m1 : Mem} {n N b o k c : Nat} {ro : Bool} {e : TypeId} {cs : List Value} (hb : n ≤ b) (hm : m1[b]? = some (.row ro e cs)) (hc : cs.all lit0 = true) :
    acollAt n N (.slice (some ⟨b, o, none⟩) k c) m1 = some (.slice (some ⟨N, o, none⟩) k c, [.row ro e cs]) := by
  have hnb : ¬ b < n := by omega
  unfold acollAt
  rw [if_neg (by simp [lit2, lit1, lit0])]
  have h1 : idsL n (partsOf (.slice (some ⟨b, o, none⟩) k c)) [] = [b] := by
    simp [partsOf, idsL, idOf, addIds, hnb]
  have h2 : closeIds n m1 2 [b] = [b] := by
    simp only [closeIds, List.foldl_cons, List.foldl_nil, hm, idsL_lit cs [b] hc]
  simp only [h1, h2]
  rw [if_pos (by simp [nodupB, hb])]
  have h3 : rid n N [b] b = some N := by
    unfold rid
    rw [if_neg hnb]
    simp [List.idxOf?]
  simp only [renB, hm, renL_id cs hc, ren3, ren2, ren1, h3]
def NumIn (n : Nat) (v : Value) : Prop := v = .slice none 0 0 ∨ ∃ b k c, v = .slice (some ⟨b, 0, none⟩) k c ∧ b < n
theorem num_at2 {M M' : Mem} {v : Value} {r : Nat} (h : NumR M v M' r) : ∃ bs, acollAt M.length M.length v M' = some (v, bs) ∧ (bs = [] ∨ ∃ L, bs = [.row false 3 (cellsN L)]) ∧ (∀ A C : Mem, A.length = M.length → NumA (A ++ bs ++ C) v (dig r) ∧ NumIn (A ++ bs ++ C).length v ∧ NumB A.length v (A ++ bs ++ C) r) := by
  rcases h with ⟨rfl, rfl, rfl⟩ | ⟨L, n, h1, h2, rfl, rfl, hne⟩
  · exact ⟨[], acollAt_lit rfl, .inl rfl, fun A C hA => ⟨by rw [dig_zero]; exact NumA.nil _, .inl rfl, .inl ⟨rfl, rfl⟩⟩⟩
  · refine ⟨[.row false 3 (cellsN L)], acollAt_new (Nat.le_refl _) (by simp) (cellsN_lits L), .inr ⟨L, rfl⟩, fun A C hA => ?_⟩
    have hrow : (A ++ [Blk.row false 3 (cellsN L)] ++ C)[M.length]? = some (.row false 3 (cellsN L)) := by
      rw [← hA, List.append_assoc, List.getElem?_append_right (Nat.le_refl _)]
      simp
    refine ⟨?_, .inr ⟨_, _, _, rfl, by simp; omega⟩, .inr ⟨L, n, M.length, false, h1, h2, by omega, rfl, hrow, hne⟩⟩
    rw [← h2]
    exact NumA.row (ro := false) hrow h1
theorem NumR.in {m m' : Mem} {v : Value} {r : Nat} (h : NumR m v m' r) : NumIn m'.length v := by
  rcases h with ⟨rfl, rfl, rfl⟩ | ⟨L, n, h1, h2, rfl, rfl, hne⟩
  · exact .inl rfl
  · exact .inr ⟨_, _, _, rfl, by simp⟩
theorem NumB.mono {B B' r : Nat} {v : Value} {m : Mem} (h : NumB B v m r) (hB : B' ≤ B) : NumB B' v m r := by
  rcases h with h | ⟨L, n, b, ro, h1, h2, h3, h4, h5, hne⟩
  · exact .inl h
  · exact .inr ⟨L, n, b, ro, h1, h2, by omega, h4, h5, hne⟩
theorem NumIn.mono {n n' : Nat} {v : Value} (h : NumIn n v) (hn : n ≤ n') : NumIn n' v := by
  rcases h with h | ⟨b, k, c, h1, h2⟩
  · exact .inl h
  · exact .inr ⟨b, k, c, h1, by omega⟩
theorem NumIn.below {n : Nat} {v : Value} (h : NumIn n v) {p : Nat → Bool} (hp : ∀ k, k < n → p k = true) : belowP p 4 v = true := by
  rcases h with rfl | ⟨b, k, c, rfl, h2⟩
  · rfl
  · exact hp b h2
theorem cellsN_below (p : Nat → Bool) (L : List Nat) : (cellsN L).all (belowP p 4) = true := by
  unfold cellsN
  rw [List.all_map, List.all_eq_true]
  intro x _
  rfl
end Go.Am.Seat
