/-
  The law LimbShifts on the abstract machine (own work).
-/
import Derived.Test.YtmopnogcdjehmaaDoorAmM6
set_option linter.unusedSimpArgs false
set_option linter.unusedVariables false
namespace Go.Am.Seat
open Go.Proofs Go.Am
set_option maxRecDepth 100000
set_option maxHeartbeats 4000000

noncomputable def rls_0 : Array Oper := match Tryd.f5.body with
  | some (.seq (.region _ o _) _) => o
  | _ => #[]
noncomputable def lls_0 : List Oper := match Tryd.f5.body with
  | some (.seq (.region _ o _) _) => o.toList
  | _ => []
theorem els_0 : rls_0.toList = lls_0 := rfl
noncomputable def rls_1 : Array Oper := match Tryd.f5.body with
  | some (.seq _ (.seq (.seq (.region _ o _) _) _)) => o
  | _ => #[]
noncomputable def lls_1 : List Oper := match Tryd.f5.body with
  | some (.seq _ (.seq (.seq (.region _ o _) _) _)) => o.toList
  | _ => []
theorem els_1 : rls_1.toList = lls_1 := rfl
noncomputable def rls_2 : Array Oper := match Tryd.f5.body with
  | some (.seq _ (.seq (.seq _ (.cond _ (.seq (.region _ o _) _) _)) _)) => o
  | _ => #[]
noncomputable def lls_2 : List Oper := match Tryd.f5.body with
  | some (.seq _ (.seq (.seq _ (.cond _ (.seq (.region _ o _) _) _)) _)) => o.toList
  | _ => []
theorem els_2 : rls_2.toList = lls_2 := rfl
noncomputable def rls_3 : Array Oper := match Tryd.f5.body with
  | some (.seq _ (.seq _ (.seq (.region _ o _) _))) => o
  | _ => #[]
noncomputable def lls_3 : List Oper := match Tryd.f5.body with
  | some (.seq _ (.seq _ (.seq (.region _ o _) _))) => o.toList
  | _ => []
theorem els_3 : rls_3.toList = lls_3 := rfl
noncomputable def rls_4 : Array Oper := match Tryd.f5.body with
  | some (.seq _ (.seq _ (.seq _ (.seq (.region _ o _) _)))) => o
  | _ => #[]
noncomputable def lls_4 : List Oper := match Tryd.f5.body with
  | some (.seq _ (.seq _ (.seq _ (.seq (.region _ o _) _)))) => o.toList
  | _ => []
theorem els_4 : rls_4.toList = lls_4 := rfl
noncomputable def rls_5 : Array Oper := match Tryd.f5.body with
  | some (.seq _ (.seq _ (.seq _ (.seq _ (.seq (.seq (.region _ o _) _) _))))) => o
  | _ => #[]
noncomputable def lls_5 : List Oper := match Tryd.f5.body with
  | some (.seq _ (.seq _ (.seq _ (.seq _ (.seq (.seq (.region _ o _) _) _))))) => o.toList
  | _ => []
theorem els_5 : rls_5.toList = lls_5 := rfl
theorem gls_5_2 {T : List Value} {dd : Option Tmp} {op : Op} {ty : TypeId} {pos : String} {af : Array Edge} {want : Bool} : agd rls_5 T { dst := dd, op := op, type := ty, pos := pos, after := af, guard := some (2, want) } = gdAt T 16 want := agd_at (by kernel_rfl)
theorem gls_5_6 {T : List Value} {dd : Option Tmp} {op : Op} {ty : TypeId} {pos : String} {af : Array Edge} {want : Bool} : agd rls_5 T { dst := dd, op := op, type := ty, pos := pos, after := af, guard := some (6, want) } = gdAt T 20 want := agd_at (by kernel_rfl)
theorem gls_5_10 {T : List Value} {dd : Option Tmp} {op : Op} {ty : TypeId} {pos : String} {af : Array Edge} {want : Bool} : agd rls_5 T { dst := dd, op := op, type := ty, pos := pos, after := af, guard := some (10, want) } = gdAt T 24 want := agd_at (by kernel_rfl)
noncomputable def rls_6 : Array Oper := match Tryd.f5.body with
  | some (.seq _ (.seq _ (.seq _ (.seq _ (.seq (.seq _ (.cond _ (.region _ o _) _)) _))))) => o
  | _ => #[]
noncomputable def lls_6 : List Oper := match Tryd.f5.body with
  | some (.seq _ (.seq _ (.seq _ (.seq _ (.seq (.seq _ (.cond _ (.region _ o _) _)) _))))) => o.toList
  | _ => []
theorem els_6 : rls_6.toList = lls_6 := rfl
noncomputable def rls_7 : Array Oper := match Tryd.f5.body with
  | some (.seq _ (.seq _ (.seq _ (.seq _ (.seq _ (.seq (.seq (.region _ o _) _) _)))))) => o
  | _ => #[]
noncomputable def lls_7 : List Oper := match Tryd.f5.body with
  | some (.seq _ (.seq _ (.seq _ (.seq _ (.seq _ (.seq (.seq (.region _ o _) _) _)))))) => o.toList
  | _ => []
theorem els_7 : rls_7.toList = lls_7 := rfl
theorem gls_7_5 {T : List Value} {dd : Option Tmp} {op : Op} {ty : TypeId} {pos : String} {af : Array Edge} {want : Bool} : agd rls_7 T { dst := dd, op := op, type := ty, pos := pos, after := af, guard := some (5, want) } = gdAt T 40 want := agd_at (by kernel_rfl)
theorem gls_7_15 {T : List Value} {dd : Option Tmp} {op : Op} {ty : TypeId} {pos : String} {af : Array Edge} {want : Bool} : agd rls_7 T { dst := dd, op := op, type := ty, pos := pos, after := af, guard := some (15, want) } = gdAt T 50 want := agd_at (by kernel_rfl)
theorem gls_7_19 {T : List Value} {dd : Option Tmp} {op : Op} {ty : TypeId} {pos : String} {af : Array Edge} {want : Bool} : agd rls_7 T { dst := dd, op := op, type := ty, pos := pos, after := af, guard := some (19, want) } = gdAt T 54 want := agd_at (by kernel_rfl)
theorem dls_7 {self : Self} {B : Nat} {T : List Value} {m : Mem} {lb : List (Nat × Nat)} {ls : Bool} : adrawN E self rls_7 B rls_7.toList 0 T m lb ls = adrawT E self rls_7 B rls_7.toList [(false, false), (false, false), (false, false), (false, false), (false, false), (false, false), (false, false), (false, false), (false, false), (false, false), (false, false), (false, false), (false, false), (false, false), (false, false), (false, false), (false, false), (false, false), (false, false), (false, false), (false, false), (false, false), (false, false), (false, false)] 0 T m lb ls := adraw_tab (by kernel_rfl)
noncomputable def rls_8 : Array Oper := match Tryd.f5.body with
  | some (.seq _ (.seq _ (.seq _ (.seq _ (.seq _ (.seq (.seq _ (.cond _ (.seq (.region _ o _) _) _)) _)))))) => o
  | _ => #[]
noncomputable def lls_8 : List Oper := match Tryd.f5.body with
  | some (.seq _ (.seq _ (.seq _ (.seq _ (.seq _ (.seq (.seq _ (.cond _ (.seq (.region _ o _) _) _)) _)))))) => o.toList
  | _ => []
theorem els_8 : rls_8.toList = lls_8 := rfl
noncomputable def rls_9 : Array Oper := match Tryd.f5.body with
  | some (.seq _ (.seq _ (.seq _ (.seq _ (.seq _ (.seq _ (.seq (.region _ o _) _))))))) => o
  | _ => #[]
noncomputable def lls_9 : List Oper := match Tryd.f5.body with
  | some (.seq _ (.seq _ (.seq _ (.seq _ (.seq _ (.seq _ (.seq (.region _ o _) _))))))) => o.toList
  | _ => []
theorem els_9 : rls_9.toList = lls_9 := rfl
theorem gls_9_2 {T : List Value} {dd : Option Tmp} {op : Op} {ty : TypeId} {pos : String} {af : Array Edge} {want : Bool} : agd rls_9 T { dst := dd, op := op, type := ty, pos := pos, after := af, guard := some (2, want) } = gdAt T 61 want := agd_at (by kernel_rfl)
theorem gls_9_6 {T : List Value} {dd : Option Tmp} {op : Op} {ty : TypeId} {pos : String} {af : Array Edge} {want : Bool} : agd rls_9 T { dst := dd, op := op, type := ty, pos := pos, after := af, guard := some (6, want) } = gdAt T 65 want := agd_at (by kernel_rfl)
theorem gls_9_11 {T : List Value} {dd : Option Tmp} {op : Op} {ty : TypeId} {pos : String} {af : Array Edge} {want : Bool} : agd rls_9 T { dst := dd, op := op, type := ty, pos := pos, after := af, guard := some (11, want) } = gdAt T 70 want := agd_at (by kernel_rfl)
theorem gls_9_14 {T : List Value} {dd : Option Tmp} {op : Op} {ty : TypeId} {pos : String} {af : Array Edge} {want : Bool} : agd rls_9 T { dst := dd, op := op, type := ty, pos := pos, after := af, guard := some (14, want) } = gdAt T 73 want := agd_at (by kernel_rfl)
theorem gls_9_20 {T : List Value} {dd : Option Tmp} {op : Op} {ty : TypeId} {pos : String} {af : Array Edge} {want : Bool} : agd rls_9 T { dst := dd, op := op, type := ty, pos := pos, after := af, guard := some (20, want) } = gdAt T 79 want := agd_at (by kernel_rfl)
theorem gls_9_25 {T : List Value} {dd : Option Tmp} {op : Op} {ty : TypeId} {pos : String} {af : Array Edge} {want : Bool} : agd rls_9 T { dst := dd, op := op, type := ty, pos := pos, after := af, guard := some (25, want) } = gdAt T 84 want := agd_at (by kernel_rfl)
theorem bodyls : Tryd.f5.body = some (.seq (.region 0 rls_0 false) (.seq (.seq (.region 1 rls_1 false) (.cond (.tmp 10) (.seq (.region 2 rls_2 false) .ret) .skip)) (.seq (.region 3 rls_3 false) (.seq (.region 4 rls_4 false) (.seq (.seq (.region 5 rls_5 false) (.cond (.tmp 27) (.region 6 rls_6 false) .skip)) (.seq (.seq (.region 7 rls_7 true) (.cond (.tmp 58) (.seq (.region 8 rls_8 false) .ret) .skip)) (.seq (.region 9 rls_9 false) .ret))))))) := rfl
-- ntmps 89

theorem callA1 : callableB E.P 12 = true := by kernel_rfl
theorem callShift : callableB E.P 35 = true := by kernel_rfl
theorem callBit : callableB E.P 37 = true := by kernel_rfl
theorem callNum : callableB E.P 13 = true := by kernel_rfl
theorem callRbit : callableB E.P 36 = true := by kernel_rfl
theorem conv3_54 {x : Nat} (h : x < 18446744073709551616) : aconv E.P 3 54 (.int .i64 ((x : Nat) : Int)) = some (.int .u64 ((x : Nat) : Int)) := by
  have h9 : ∀ k : Int, aconv E.P 3 54 (.int .i64 k) = some (.int .u64 (k % 18446744073709551616)) := fun k => by kernel_rfl
  rw [h9]
  congr 2
  omega
theorem neqU (a b : Int) : abin .neq .u64 a .u64 b = some (.bool (a != b)) := by kernel_rfl
theorem eqlU (a b : Int) : abin .eql .u64 a .u64 b = some (.bool (a == b)) := by kernel_rfl
theorem und54 : E.P.underlying 54 = some (.int .u64) := Tryd.underlying54
theorem addr24 : addrT E.P 4 54 = false := by kernel_rfl
theorem addr27 : addrT E.P 4 27 = true := by kernel_rfl
theorem addr3 : addrT E.P 4 3 = false := by kernel_rfl
theorem wrBit : E.wr 37 = false := by kernel_rfl
theorem wrNum : E.wr 13 = false := by kernel_rfl
theorem wrRbit : E.wr 36 = false := by kernel_rfl
theorem bne_same (a : Int) : (a != a) = false := by simp

section
variable {self : Self} {nf : Nat} {M : Mem} {F : Nat → Value} {w s : Nat → Nat} {n i : Int} {p q N : Nat} {L : List Value}

theorem tailB (h1 : F 1 = .int .i64 n) (h2 : F 2 = .int .i64 i) (h3 : F 3 = .pointer (some ⟨p, 0, none⟩)) (h7 : F 7 = .pointer (some ⟨q, 0, none⟩)) (h8 : F 8 = .int .u64 ((bitI s i : Nat) : Int))
    (hp : M[p]? = some (.row false 24 (rowOf w))) (hq : M[q]? = some (.row false 24 (rowOf s)))
    (hb1 : ∀ (M : Mem) (u : Nat → Nat) (v : Int), (u = w ∨ u = s) → ainv E self 37 [wide u, .int .i64 v] M = some (.int .u64 ((bitI u v : Nat) : Int), M))
    (hnum : ∀ M : Mem, ainv E self 13 [wide w] M = some (.slice (some ⟨M.length, 0, none⟩) N 64, M ++ [.row false 3 L]))
    (hrb : ∀ M : Mem, ainv E self 36 [.slice (some ⟨M.length, 0, none⟩) N 64, .int .i64 i] ((M ++ [Blk.row false 3 L]).map sealed) = some (.int .i64 ((bitI w i : Nat) : Int), (M ++ [Blk.row false 3 L]).map sealed))
    (hz : (512 ≤ n ∨ n ≤ -512) → s = fun _ => 0) (h0 : n = 0 → s = w) :
    ∃ F' M', acodeN E self nf (.seq (.seq (.region 7 rls_7 true) (.cond (.tmp 58) (.seq (.region 8 rls_8 false) .ret) .skip)) (.seq (.region 9 rls_9 false) .ret)) (lst F 89) M = some (.ret, lst F' 89, M') ∧ F' 6 = .bool true := by
  have hps : (M.map sealed)[p]? = some (.row true 24 (rowOf w)) := by rw [List.getElem?_map, hp]; rfl
  have hqs : (M.map sealed)[q]? = some (.row true 24 (rowOf s)) := by rw [List.getElem?_map, hq]; rfl
  have hp5 : (M ++ [Blk.row false 3 L])[p]? = some (.row false 24 (rowOf w)) := by rw [List.getElem?_append_left (lt_of_at hp)]; exact hp
  have hq5 : (M ++ [Blk.row false 3 L])[q]? = some (.row false 24 (rowOf s)) := by rw [List.getElem?_append_left (lt_of_at hq)]; exact hq
  have l1 := load24 hps
  have l2 := load24 hqs
  have l3 := load24 hp5
  have l4 := load24 hq5
  have b1 := fun M => hb1 M s i (.inr rfl)
  have b2 := fun M => hb1 M w i (.inl rfl)
  have b3 := fun M => hb1 M w 512 (.inl rfl)
  have b4 := fun M => hb1 M w (-1) (.inl rfl)
  have z3 : bitI w 512 = 0 := by unfold bitI; rw [if_neg (by omega)]
  have z4 : bitI w (-1) = 0 := by unfold bitI; rw [if_neg (by omega)]
  rw [z3] at b3
  rw [z4] at b4
  have hbw : bitI w i < 18446744073709551616 := by
    unfold bitI
    split
    · cases bitW w i.toNat <;> simp
    · omega
  have cv := conv3_54 hbw
  have q0 : (((0 : Nat) : Int) == 0) = true := rfl
  by_cases c1 : n < 512
  · have d1 : decide (n < 512) = true := decide_eq_true c1
    by_cases c2 : n > -512
    · have d2 : decide (n > -512) = true := decide_eq_true c2
      by_cases c3 : n = 0
      · have d3 : (n != 0) = false := by rw [c3]; rfl
        have hsw := h0 c3
        subst hsw
        simp only [↓dls_7, els_0, els_1, els_2, els_3, els_4, els_5, els_6, els_7, els_8, els_9, lls_0, lls_1, lls_2, lls_3, lls_4, lls_5, lls_6, lls_7, lls_8, lls_9, gls_5_10, gls_5_2, gls_5_6, gls_7_15, gls_7_19, gls_7_5, gls_9_11, gls_9_14, gls_9_2, gls_9_20, gls_9_25, gls_9_6, agd_none, gdAt, gdV_bool, gdV_undef, Tryd.f5, List.append_eq, List.cons_append, List.nil_append, apure_call1, apure_call2, apure_call3, bft, btf, acodeN, List.getElem?_toArray, List.getElem?_cons_zero, List.getElem?_cons_succ, aopsN, adrawT, cls, astep, aop, afloat, ev, nth_lst, get_lst, aput, setAt_lst, upd_at, init_zero, init_succ, init_nil, Nat.reduceLT, Nat.reduceEqDiff, reduceIte, abuiltin, alen, Option.map_some, Option.map_none, orElse_some, apure_add, apure_eqlV, eqlVal_str, eqlVal_bool, eqlVal_ptr, eqlVal_slice, eqlVal_wide, eqlVal_int, allT, ↓aop_eqlV, apure_neq, List.map_cons, List.map_nil, List.all_cons, List.all_nil, lit2, lit1, lit0, List.isEmpty_nil, Bool.and_self, Bool.and_true, Bool.true_and, Bool.false_and, Bool.and_false, Bool.not_true, Bool.not_false, Bool.or_true, Bool.true_or, Bool.false_or, Bool.or_false, Bool.false_eq_true, if_true, if_false, List.length_map, beq_self_eq_true, und3, und4, und5, und9, h1, h2, h3, h7, h8, l1, l2, callBit, callNum, callRbit, addr24, addr27, addr3, wrBit, wrNum, wrRbit, b1, b2, b3, b4, hnum, hrb, und54, cv, neqU, eqlU, bne_same, lss64, gtr64', neq64, d1, d2, d3, l3, l4, q0]
        exact ⟨_, _, rfl, by simp only [upd_at, Nat.reduceEqDiff, reduceIte]⟩
      · have d3 : (n != 0) = true := by simpa using c3
        simp only [↓dls_7, els_0, els_1, els_2, els_3, els_4, els_5, els_6, els_7, els_8, els_9, lls_0, lls_1, lls_2, lls_3, lls_4, lls_5, lls_6, lls_7, lls_8, lls_9, gls_5_10, gls_5_2, gls_5_6, gls_7_15, gls_7_19, gls_7_5, gls_9_11, gls_9_14, gls_9_2, gls_9_20, gls_9_25, gls_9_6, agd_none, gdAt, gdV_bool, gdV_undef, Tryd.f5, List.append_eq, List.cons_append, List.nil_append, apure_call1, apure_call2, apure_call3, bft, btf, acodeN, List.getElem?_toArray, List.getElem?_cons_zero, List.getElem?_cons_succ, aopsN, adrawT, cls, astep, aop, afloat, ev, nth_lst, get_lst, aput, setAt_lst, upd_at, init_zero, init_succ, init_nil, Nat.reduceLT, Nat.reduceEqDiff, reduceIte, abuiltin, alen, Option.map_some, Option.map_none, orElse_some, apure_add, apure_eqlV, eqlVal_str, eqlVal_bool, eqlVal_ptr, eqlVal_slice, eqlVal_wide, eqlVal_int, allT, ↓aop_eqlV, apure_neq, List.map_cons, List.map_nil, List.all_cons, List.all_nil, lit2, lit1, lit0, List.isEmpty_nil, Bool.and_self, Bool.and_true, Bool.true_and, Bool.false_and, Bool.and_false, Bool.not_true, Bool.not_false, Bool.or_true, Bool.true_or, Bool.false_or, Bool.or_false, Bool.false_eq_true, if_true, if_false, List.length_map, beq_self_eq_true, und3, und4, und5, und9, h1, h2, h3, h7, h8, l1, l2, callBit, callNum, callRbit, addr24, addr27, addr3, wrBit, wrNum, wrRbit, b1, b2, b3, b4, hnum, hrb, und54, cv, neqU, eqlU, bne_same, lss64, gtr64', neq64, d1, d2, d3, l3, l4, q0]
        exact ⟨_, _, rfl, by simp only [upd_at, Nat.reduceEqDiff, reduceIte]⟩
    · have d2 : decide (n > -512) = false := decide_eq_false c2
      have d3 : (n != 0) = true := by simp; omega
      have hs0 := hz (.inr (by omega))
      subst hs0
      simp only [↓dls_7, els_0, els_1, els_2, els_3, els_4, els_5, els_6, els_7, els_8, els_9, lls_0, lls_1, lls_2, lls_3, lls_4, lls_5, lls_6, lls_7, lls_8, lls_9, gls_5_10, gls_5_2, gls_5_6, gls_7_15, gls_7_19, gls_7_5, gls_9_11, gls_9_14, gls_9_2, gls_9_20, gls_9_25, gls_9_6, agd_none, gdAt, gdV_bool, gdV_undef, Tryd.f5, List.append_eq, List.cons_append, List.nil_append, apure_call1, apure_call2, apure_call3, bft, btf, acodeN, List.getElem?_toArray, List.getElem?_cons_zero, List.getElem?_cons_succ, aopsN, adrawT, cls, astep, aop, afloat, ev, nth_lst, get_lst, aput, setAt_lst, upd_at, init_zero, init_succ, init_nil, Nat.reduceLT, Nat.reduceEqDiff, reduceIte, abuiltin, alen, Option.map_some, Option.map_none, orElse_some, apure_add, apure_eqlV, eqlVal_str, eqlVal_bool, eqlVal_ptr, eqlVal_slice, eqlVal_wide, eqlVal_int, allT, ↓aop_eqlV, apure_neq, List.map_cons, List.map_nil, List.all_cons, List.all_nil, lit2, lit1, lit0, List.isEmpty_nil, Bool.and_self, Bool.and_true, Bool.true_and, Bool.false_and, Bool.and_false, Bool.not_true, Bool.not_false, Bool.or_true, Bool.true_or, Bool.false_or, Bool.or_false, Bool.false_eq_true, if_true, if_false, List.length_map, beq_self_eq_true, und3, und4, und5, und9, h1, h2, h3, h7, h8, l1, l2, callBit, callNum, callRbit, addr24, addr27, addr3, wrBit, wrNum, wrRbit, b1, b2, b3, b4, hnum, hrb, und54, cv, neqU, eqlU, bne_same, lss64, gtr64', neq64, d1, d2, d3, l3, l4, build24, q0]
      exact ⟨_, _, rfl, by simp only [upd_at, Nat.reduceEqDiff, reduceIte]⟩
  · have d1 : decide (n < 512) = false := decide_eq_false c1
    have d3 : (n != 0) = true := by simp; omega
    have hs0 := hz (.inl (by omega))
    subst hs0
    simp only [↓dls_7, els_0, els_1, els_2, els_3, els_4, els_5, els_6, els_7, els_8, els_9, lls_0, lls_1, lls_2, lls_3, lls_4, lls_5, lls_6, lls_7, lls_8, lls_9, gls_5_10, gls_5_2, gls_5_6, gls_7_15, gls_7_19, gls_7_5, gls_9_11, gls_9_14, gls_9_2, gls_9_20, gls_9_25, gls_9_6, agd_none, gdAt, gdV_bool, gdV_undef, Tryd.f5, List.append_eq, List.cons_append, List.nil_append, apure_call1, apure_call2, apure_call3, bft, btf, acodeN, List.getElem?_toArray, List.getElem?_cons_zero, List.getElem?_cons_succ, aopsN, adrawT, cls, astep, aop, afloat, ev, nth_lst, get_lst, aput, setAt_lst, upd_at, init_zero, init_succ, init_nil, Nat.reduceLT, Nat.reduceEqDiff, reduceIte, abuiltin, alen, Option.map_some, Option.map_none, orElse_some, apure_add, apure_eqlV, eqlVal_str, eqlVal_bool, eqlVal_ptr, eqlVal_slice, eqlVal_wide, eqlVal_int, allT, ↓aop_eqlV, apure_neq, List.map_cons, List.map_nil, List.all_cons, List.all_nil, lit2, lit1, lit0, List.isEmpty_nil, Bool.and_self, Bool.and_true, Bool.true_and, Bool.false_and, Bool.and_false, Bool.not_true, Bool.not_false, Bool.or_true, Bool.true_or, Bool.false_or, Bool.or_false, Bool.false_eq_true, if_true, if_false, List.length_map, beq_self_eq_true, und3, und4, und5, und9, h1, h2, h3, h7, h8, l1, l2, callBit, callNum, callRbit, addr24, addr27, addr3, wrBit, wrNum, wrRbit, b1, b2, b3, b4, hnum, hrb, und54, cv, neqU, eqlU, bne_same, lss64, gtr64', neq64, d1, d3, l3, l4, build24, q0]
    exact ⟨_, _, rfl, by simp only [upd_at, Nat.reduceEqDiff, reduceIte]⟩
end
end Go.Am.Seat
