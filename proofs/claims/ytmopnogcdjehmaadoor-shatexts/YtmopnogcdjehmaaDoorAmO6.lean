/-
  The law ShaTexts on the abstract machine (own work).
-/
import Derived.Test.YtmopnogcdjehmaaDoorAmO5
set_option linter.unusedSimpArgs false
set_option linter.unusedVariables false
namespace Go.Am.Seat
open Go.Proofs Go.Am
set_option maxRecDepth 100000
set_option maxHeartbeats 4000000

noncomputable def rst_0 : Array Oper := match Tryd.f7.body with
  | some (.seq (.region _ o _) _) => o
  | _ => #[]
noncomputable def lst_0 : List Oper := match Tryd.f7.body with
  | some (.seq (.region _ o _) _) => o.toList
  | _ => []
theorem est_0 : rst_0.toList = lst_0 := rfl
noncomputable def rst_1 : Array Oper := match Tryd.f7.body with
  | some (.seq _ (.seq (.seq (.region _ o _) _) _)) => o
  | _ => #[]
noncomputable def lst_1 : List Oper := match Tryd.f7.body with
  | some (.seq _ (.seq (.seq (.region _ o _) _) _)) => o.toList
  | _ => []
theorem est_1 : rst_1.toList = lst_1 := rfl
noncomputable def rst_2 : Array Oper := match Tryd.f7.body with
  | some (.seq _ (.seq (.seq _ (.cond _ (.seq (.region _ o _) _) _)) _)) => o
  | _ => #[]
noncomputable def lst_2 : List Oper := match Tryd.f7.body with
  | some (.seq _ (.seq (.seq _ (.cond _ (.seq (.region _ o _) _) _)) _)) => o.toList
  | _ => []
theorem est_2 : rst_2.toList = lst_2 := rfl
noncomputable def rst_3 : Array Oper := match Tryd.f7.body with
  | some (.seq _ (.seq _ (.seq (.seq (.region _ o _) _) _))) => o
  | _ => #[]
noncomputable def lst_3 : List Oper := match Tryd.f7.body with
  | some (.seq _ (.seq _ (.seq (.seq (.region _ o _) _) _))) => o.toList
  | _ => []
theorem est_3 : rst_3.toList = lst_3 := rfl
theorem gst_3_3 {T : List Value} {dd : Option Tmp} {op : Op} {ty : TypeId} {pos : String} {af : Array Edge} {want : Bool} : agd rst_3 T { dst := dd, op := op, type := ty, pos := pos, after := af, guard := some (3, want) } = gdAt T 14 want := agd_at (by kernel_rfl)
noncomputable def rst_4 : Array Oper := match Tryd.f7.body with
  | some (.seq _ (.seq _ (.seq (.seq _ (.cond _ (.seq (.region _ o _) _) _)) _))) => o
  | _ => #[]
noncomputable def lst_4 : List Oper := match Tryd.f7.body with
  | some (.seq _ (.seq _ (.seq (.seq _ (.cond _ (.seq (.region _ o _) _) _)) _))) => o.toList
  | _ => []
theorem est_4 : rst_4.toList = lst_4 := rfl
noncomputable def rst_5 : Array Oper := match Tryd.f7.body with
  | some (.seq _ (.seq _ (.seq _ (.seq (.region _ o _) _)))) => o
  | _ => #[]
noncomputable def lst_5 : List Oper := match Tryd.f7.body with
  | some (.seq _ (.seq _ (.seq _ (.seq (.region _ o _) _)))) => o.toList
  | _ => []
theorem est_5 : rst_5.toList = lst_5 := rfl
noncomputable def rst_6 : Array Oper := match Tryd.f7.body with
  | some (.seq _ (.seq _ (.seq _ (.seq _ (.seq (.region _ o _) _))))) => o
  | _ => #[]
noncomputable def lst_6 : List Oper := match Tryd.f7.body with
  | some (.seq _ (.seq _ (.seq _ (.seq _ (.seq (.region _ o _) _))))) => o.toList
  | _ => []
theorem est_6 : rst_6.toList = lst_6 := rfl
noncomputable def rst_7 : Array Oper := match Tryd.f7.body with
  | some (.seq _ (.seq _ (.seq _ (.seq _ (.seq _ (.seq (.region _ o _) _)))))) => o
  | _ => #[]
noncomputable def lst_7 : List Oper := match Tryd.f7.body with
  | some (.seq _ (.seq _ (.seq _ (.seq _ (.seq _ (.seq (.region _ o _) _)))))) => o.toList
  | _ => []
theorem est_7 : rst_7.toList = lst_7 := rfl
theorem gst_7_5 {T : List Value} {dd : Option Tmp} {op : Op} {ty : TypeId} {pos : String} {af : Array Edge} {want : Bool} : agd rst_7 T { dst := dd, op := op, type := ty, pos := pos, after := af, guard := some (5, want) } = gdAt T 35 want := agd_at (by kernel_rfl)
theorem gst_7_8 {T : List Value} {dd : Option Tmp} {op : Op} {ty : TypeId} {pos : String} {af : Array Edge} {want : Bool} : agd rst_7 T { dst := dd, op := op, type := ty, pos := pos, after := af, guard := some (8, want) } = gdAt T 38 want := agd_at (by kernel_rfl)
theorem gst_7_13 {T : List Value} {dd : Option Tmp} {op : Op} {ty : TypeId} {pos : String} {af : Array Edge} {want : Bool} : agd rst_7 T { dst := dd, op := op, type := ty, pos := pos, after := af, guard := some (13, want) } = gdAt T 43 want := agd_at (by kernel_rfl)
theorem gst_7_15 {T : List Value} {dd : Option Tmp} {op : Op} {ty : TypeId} {pos : String} {af : Array Edge} {want : Bool} : agd rst_7 T { dst := dd, op := op, type := ty, pos := pos, after := af, guard := some (15, want) } = gdAt T 45 want := agd_at (by kernel_rfl)
theorem gst_7_21 {T : List Value} {dd : Option Tmp} {op : Op} {ty : TypeId} {pos : String} {af : Array Edge} {want : Bool} : agd rst_7 T { dst := dd, op := op, type := ty, pos := pos, after := af, guard := some (21, want) } = gdAt T 51 want := agd_at (by kernel_rfl)
theorem gst_7_24 {T : List Value} {dd : Option Tmp} {op : Op} {ty : TypeId} {pos : String} {af : Array Edge} {want : Bool} : agd rst_7 T { dst := dd, op := op, type := ty, pos := pos, after := af, guard := some (24, want) } = gdAt T 54 want := agd_at (by kernel_rfl)
theorem gst_7_30 {T : List Value} {dd : Option Tmp} {op : Op} {ty : TypeId} {pos : String} {af : Array Edge} {want : Bool} : agd rst_7 T { dst := dd, op := op, type := ty, pos := pos, after := af, guard := some (30, want) } = gdAt T 60 want := agd_at (by kernel_rfl)
theorem gst_7_48 {T : List Value} {dd : Option Tmp} {op : Op} {ty : TypeId} {pos : String} {af : Array Edge} {want : Bool} : agd rst_7 T { dst := dd, op := op, type := ty, pos := pos, after := af, guard := some (48, want) } = gdAt T 78 want := agd_at (by kernel_rfl)
theorem gst_7_52 {T : List Value} {dd : Option Tmp} {op : Op} {ty : TypeId} {pos : String} {af : Array Edge} {want : Bool} : agd rst_7 T { dst := dd, op := op, type := ty, pos := pos, after := af, guard := some (52, want) } = gdAt T 82 want := agd_at (by kernel_rfl)
theorem bodyst : Tryd.f7.body = some (.seq (.region 0 rst_0 false) (.seq (.seq (.region 1 rst_1 false) (.cond (.tmp 10) (.seq (.region 2 rst_2 false) .ret) .skip)) (.seq (.seq (.region 3 rst_3 false) (.cond (.tmp 18) (.seq (.region 4 rst_4 false) .ret) .skip)) (.seq (.region 5 rst_5 false) (.seq (.region 6 rst_6 false) (.seq (.region 7 rst_7 false) .ret)))))) := rfl
-- ntmps 97

theorem build2 (a b : ByteArray) (m : Mem) : abuildSlice E.P 96 2 [(0, .string a), (1, .string b)] m = some (.slice (some ⟨m.length, 0, none⟩) 2 2, m ++ [.row false 9 [.string a, .string b]]) := by kernel_rfl
theorem callA : callableB E.P 38 = true := by kernel_rfl
theorem callHex : callableB E.P 40 = true := by kernel_rfl
theorem callParse : callableB E.P 39 = true := by kernel_rfl
theorem callRHex : callableB E.P 41 = true := by kernel_rfl
theorem callCounted : callableB E.P 42 = true := by kernel_rfl
theorem callTwo : callableB E.P 43 = true := by kernel_rfl
theorem gtr64 (a b : Int) : abin .gtr .i64 a .i64 b = some (.bool (decide (a > b))) := by kernel_rfl
theorem eqB (p q : Bool) : apB E.P .eql 4 4 (.bool p) (.bool q) = some (.bool (p == q)) := by
  cases p <;> cases q <;> kernel_rfl
abbrev lenI (s : ByteArray) : Int := ((s.data.toList.length : Nat) : Int)

section
variable {self : Self} {nf : Nat} {s t : ByteArray} {M : Mem}

theorem st_long (hw : ainv E self 38 [] M = some (.bool true, M)) (h : s.data.toList.length > 1000 ∨ t.data.toList.length > 1000) :
    ∃ m', abody E self nf 7 [.string s, .string t] M = some (.bool true, m') := by
  rw [abody_eqF (by kernel_rfl) Tryd.func7 bodyst (by kernel_rfl) (Nat.le_of_ble_eq_true rfl)]
  rw [show Tryd.f7.ntmps = 97 from rfl]
  by_cases h1 : s.data.toList.length > 1000
  · have e1 : decide (((s.data.toList.length : Nat) : Int) > 1000) = true := decide_eq_true (by omega)
    simp only [est_0, est_1, est_2, est_3, est_4, est_5, est_6, est_7, lst_0, lst_1, lst_2, lst_3, lst_4, lst_5, lst_6, lst_7, gst_3_3, gst_7_13, gst_7_15, gst_7_21, gst_7_24, gst_7_30, gst_7_48, gst_7_5, gst_7_52, gst_7_8, agd_none, gdAt, gdV_bool, gdV_undef, Tryd.f7, List.append_eq, List.cons_append, List.nil_append, apure_call1, apure_call2, apure_call3, bft, btf, acodeN, List.getElem?_toArray, List.getElem?_cons_zero, List.getElem?_cons_succ, aopsN, adrawT, cls, astep, aop, afloat, ev, nth_lst, get_lst, aput, setAt_lst, upd_at, init_zero, init_succ, init_nil, Nat.reduceLT, Nat.reduceEqDiff, reduceIte, abuiltin, alen, Option.map_some, Option.map_none, orElse_some, apure_add, apure_eql, apure_neq, List.map_cons, List.map_nil, List.all_cons, List.all_nil, lit2, lit1, lit0, List.isEmpty_nil, Bool.and_self, Bool.and_true, Bool.true_and, Bool.false_and, Bool.and_false, Bool.not_true, Bool.not_false, Bool.or_true, Bool.true_or, Bool.false_or, Bool.or_false, Bool.false_eq_true, if_true, if_false, List.length_map, beq_self_eq_true, und3, und4, und5, und9, callA, hw, gtr64, e1, finish, ares, aresL, ares1]
    exact ⟨_, rfl⟩
  · have e1 : decide (((s.data.toList.length : Nat) : Int) > 1000) = false := decide_eq_false (by omega)
    have e2 : decide (((t.data.toList.length : Nat) : Int) > 1000) = true := decide_eq_true (by omega)
    simp only [est_0, est_1, est_2, est_3, est_4, est_5, est_6, est_7, lst_0, lst_1, lst_2, lst_3, lst_4, lst_5, lst_6, lst_7, gst_3_3, gst_7_13, gst_7_15, gst_7_21, gst_7_24, gst_7_30, gst_7_48, gst_7_5, gst_7_52, gst_7_8, agd_none, gdAt, gdV_bool, gdV_undef, Tryd.f7, List.append_eq, List.cons_append, List.nil_append, apure_call1, apure_call2, apure_call3, bft, btf, acodeN, List.getElem?_toArray, List.getElem?_cons_zero, List.getElem?_cons_succ, aopsN, adrawT, cls, astep, aop, afloat, ev, nth_lst, get_lst, aput, setAt_lst, upd_at, init_zero, init_succ, init_nil, Nat.reduceLT, Nat.reduceEqDiff, reduceIte, abuiltin, alen, Option.map_some, Option.map_none, orElse_some, apure_add, apure_eql, apure_neq, List.map_cons, List.map_nil, List.all_cons, List.all_nil, lit2, lit1, lit0, List.isEmpty_nil, Bool.and_self, Bool.and_true, Bool.true_and, Bool.false_and, Bool.and_false, Bool.not_true, Bool.not_false, Bool.or_true, Bool.true_or, Bool.false_or, Bool.or_false, Bool.false_eq_true, if_true, if_false, List.length_map, beq_self_eq_true, und3, und4, und5, und9, callA, hw, gtr64, e1, e2, finish, ares, aresL, ares1]
    exact ⟨_, rfl⟩

theorem st_short (hw : ainv E self 38 [] M = some (.bool true, M)) (hs : s.data.toList.length ≤ 1000) (ht : t.data.toList.length ≤ 1000)
    {X b A B Y : ByteArray} {is : Bool}
    (hX : ainv E self 40 [.string s] M = some (.string X, M)) (hP : ainv E self 39 [.string X] M = some (.tuple ⟨[.string s, .bool true]⟩, M))
    (hQ : ainv E self 39 [.string t] M = some (.tuple ⟨[.string b, .bool is]⟩, M)) (hR : ainv E self 41 [.string s] M = some (.string X, M))
    (hb : is = true → ainv E self 40 [.string b] M = some (.string t, M)) (hb' : is = false → b = ⟨#[]⟩)
    (hC1 : ainv E self 42 [.slice (some ⟨M.length, 0, none⟩) 2 2] (M ++ [.row false 9 [.string s, .string t]]) = some (.string (A ++ s ++ B ++ t), M ++ [.row false 9 [.string s, .string t]]))
    (hA : ainv E self 43 [.int .i64 ((s.data.toList.length : Nat) : Int)] (M ++ [.row false 9 [.string s, .string t]]) = some (.string A, M ++ [.row false 9 [.string s, .string t]]))
    (hB : ainv E self 43 [.int .i64 ((t.data.toList.length : Nat) : Int)] (M ++ [.row false 9 [.string s, .string t]]) = some (.string B, M ++ [.row false 9 [.string s, .string t]]))
    (hz1 : A.size ≤ 1000) (hz2 : B.size ≤ 1000)
    (hC0 : ainv E self 42 [.slice none 0 0] (M ++ [.row false 9 [.string s, .string t]]) = some (.string ⟨#[]⟩, M ++ [.row false 9 [.string s, .string t]]))
    (hC2 : ainv E self 42 [.slice (some ⟨(M ++ [Blk.row false 9 [.string s, .string t]]).length, 0, none⟩) 2 2] (M ++ [.row false 9 [.string s, .string t]] ++ [.row false 9 [.string s, .string t]]) = some (.string (A ++ s ++ B ++ t), M ++ [.row false 9 [.string s, .string t]] ++ [.row false 9 [.string s, .string t]]))
    (hC3 : ainv E self 42 [.slice (some ⟨(M ++ [Blk.row false 9 [.string s, .string t]] ++ [Blk.row false 9 [.string s, .string t]]).length, 0, none⟩) 2 2] (M ++ [.row false 9 [.string s, .string t]] ++ [.row false 9 [.string s, .string t]] ++ [.row false 9 [.string (s ++ t), .string ⟨#[]⟩]]) = some (.string Y, M ++ [.row false 9 [.string s, .string t]] ++ [.row false 9 [.string s, .string t]] ++ [.row false 9 [.string (s ++ t), .string ⟨#[]⟩]]))
    (hY : ((A ++ s ++ B ++ t).toList == Y.toList) = (t.toList == (⟨#[]⟩ : ByteArray).toList)) :
    ∃ m', abody E self nf 7 [.string s, .string t] M = some (.bool true, m') := by
  rw [abody_eqF (by kernel_rfl) Tryd.func7 bodyst (by kernel_rfl) (Nat.le_of_ble_eq_true rfl)]
  rw [show Tryd.f7.ntmps = 97 from rfl]
  have e1 : decide (((s.data.toList.length : Nat) : Int) > 1000) = false := decide_eq_false (by omega)
  have e2 : decide (((t.data.toList.length : Nat) : Int) > 1000) = false := decide_eq_false (by omega)
  have z1 : A.size + s.size ≤ 9223372036854775807 := by rw [ba_size s]; omega
  have z2 : (A ++ s).size + B.size ≤ 9223372036854775807 := by rw [ByteArray.size_append, ba_size s]; omega
  have z3 : (A ++ s ++ B).size + t.size ≤ 9223372036854775807 := by rw [ByteArray.size_append, ByteArray.size_append, ba_size s, ba_size t]; omega
  have z4 : s.size + t.size ≤ 9223372036854775807 := by rw [ba_size s, ba_size t]; omega
  cases is with
  | true =>
    have hb := hb rfl
    simp only [est_0, est_1, est_2, est_3, est_4, est_5, est_6, est_7, lst_0, lst_1, lst_2, lst_3, lst_4, lst_5, lst_6, lst_7, gst_3_3, gst_7_13, gst_7_15, gst_7_21, gst_7_24, gst_7_30, gst_7_48, gst_7_5, gst_7_52, gst_7_8, agd_none, gdAt, gdV_bool, gdV_undef, Tryd.f7, List.append_eq, List.cons_append, List.nil_append, apure_call1, apure_call2, apure_call3, bft, btf, acodeN, List.getElem?_toArray, List.getElem?_cons_zero, List.getElem?_cons_succ, aopsN, adrawT, cls, astep, aop, afloat, ev, nth_lst, get_lst, aput, setAt_lst, upd_at, init_zero, init_succ, init_nil, Nat.reduceLT, Nat.reduceEqDiff, reduceIte, abuiltin, alen, Option.map_some, Option.map_none, orElse_some, apure_add, apure_eql, apure_neq, List.map_cons, List.map_nil, List.all_cons, List.all_nil, lit2, lit1, lit0, List.isEmpty_nil, Bool.and_self, Bool.and_true, Bool.true_and, Bool.false_and, Bool.and_false, Bool.not_true, Bool.not_false, Bool.or_true, Bool.true_or, Bool.false_or, Bool.or_false, Bool.false_eq_true, if_true, if_false, List.length_map, beq_self_eq_true, und3, und4, und5, und9, callA, hw, gtr64, e1, e2, callHex, callParse, callRHex, callCounted, callTwo, hX, hP, hQ, hR, hb, aextract, build2, hC1, hA, hB, z1, z2, z3, z4, hC0, hC2, hC3, hY, finish, ares, aresL, ares1]
    rw [eql_bool (p := (t.toList == (⟨#[]⟩ : ByteArray).toList)) (q := (t.toList == (⟨#[]⟩ : ByteArray).toList)) (by simp only [ev, nth_lst, upd_at, Nat.reduceLT, Nat.reduceEqDiff, reduceIte]) (by simp only [ev, nth_lst, upd_at, Nat.reduceLT, Nat.reduceEqDiff, reduceIte]), eqB]
    simp only [est_0, est_1, est_2, est_3, est_4, est_5, est_6, est_7, lst_0, lst_1, lst_2, lst_3, lst_4, lst_5, lst_6, lst_7, gst_3_3, gst_7_13, gst_7_15, gst_7_21, gst_7_24, gst_7_30, gst_7_48, gst_7_5, gst_7_52, gst_7_8, agd_none, gdAt, gdV_bool, gdV_undef, Tryd.f7, List.append_eq, List.cons_append, List.nil_append, apure_call1, apure_call2, apure_call3, bft, btf, acodeN, List.getElem?_toArray, List.getElem?_cons_zero, List.getElem?_cons_succ, aopsN, adrawT, cls, astep, aop, afloat, ev, nth_lst, get_lst, aput, setAt_lst, upd_at, init_zero, init_succ, init_nil, Nat.reduceLT, Nat.reduceEqDiff, reduceIte, abuiltin, alen, Option.map_some, Option.map_none, orElse_some, apure_add, apure_eql, apure_neq, List.map_cons, List.map_nil, List.all_cons, List.all_nil, lit2, lit1, lit0, List.isEmpty_nil, Bool.and_self, Bool.and_true, Bool.true_and, Bool.false_and, Bool.and_false, Bool.not_true, Bool.not_false, Bool.or_true, Bool.true_or, Bool.false_or, Bool.or_false, Bool.false_eq_true, if_true, if_false, List.length_map, beq_self_eq_true, und3, und4, und5, und9, finish, ares, aresL, ares1]
    exact ⟨_, rfl⟩
  | false =>
    obtain rfl := hb' rfl
    simp only [est_0, est_1, est_2, est_3, est_4, est_5, est_6, est_7, lst_0, lst_1, lst_2, lst_3, lst_4, lst_5, lst_6, lst_7, gst_3_3, gst_7_13, gst_7_15, gst_7_21, gst_7_24, gst_7_30, gst_7_48, gst_7_5, gst_7_52, gst_7_8, agd_none, gdAt, gdV_bool, gdV_undef, Tryd.f7, List.append_eq, List.cons_append, List.nil_append, apure_call1, apure_call2, apure_call3, bft, btf, acodeN, List.getElem?_toArray, List.getElem?_cons_zero, List.getElem?_cons_succ, aopsN, adrawT, cls, astep, aop, afloat, ev, nth_lst, get_lst, aput, setAt_lst, upd_at, init_zero, init_succ, init_nil, Nat.reduceLT, Nat.reduceEqDiff, reduceIte, abuiltin, alen, Option.map_some, Option.map_none, orElse_some, apure_add, apure_eql, apure_neq, List.map_cons, List.map_nil, List.all_cons, List.all_nil, lit2, lit1, lit0, List.isEmpty_nil, Bool.and_self, Bool.and_true, Bool.true_and, Bool.false_and, Bool.and_false, Bool.not_true, Bool.not_false, Bool.or_true, Bool.true_or, Bool.false_or, Bool.or_false, Bool.false_eq_true, if_true, if_false, List.length_map, beq_self_eq_true, und3, und4, und5, und9, callA, hw, gtr64, e1, e2, callHex, callParse, callRHex, callCounted, callTwo, hX, hP, hQ, hR, aextract, build2, hC1, hA, hB, z1, z2, z3, z4, hC0, hC2, hC3, hY, finish, ares, aresL, ares1]
    rw [eql_bool (p := (t.toList == (⟨#[]⟩ : ByteArray).toList)) (q := (t.toList == (⟨#[]⟩ : ByteArray).toList)) (by simp only [ev, nth_lst, upd_at, Nat.reduceLT, Nat.reduceEqDiff, reduceIte]) (by simp only [ev, nth_lst, upd_at, Nat.reduceLT, Nat.reduceEqDiff, reduceIte]), eqB]
    simp only [est_0, est_1, est_2, est_3, est_4, est_5, est_6, est_7, lst_0, lst_1, lst_2, lst_3, lst_4, lst_5, lst_6, lst_7, gst_3_3, gst_7_13, gst_7_15, gst_7_21, gst_7_24, gst_7_30, gst_7_48, gst_7_5, gst_7_52, gst_7_8, agd_none, gdAt, gdV_bool, gdV_undef, Tryd.f7, List.append_eq, List.cons_append, List.nil_append, apure_call1, apure_call2, apure_call3, bft, btf, acodeN, List.getElem?_toArray, List.getElem?_cons_zero, List.getElem?_cons_succ, aopsN, adrawT, cls, astep, aop, afloat, ev, nth_lst, get_lst, aput, setAt_lst, upd_at, init_zero, init_succ, init_nil, Nat.reduceLT, Nat.reduceEqDiff, reduceIte, abuiltin, alen, Option.map_some, Option.map_none, orElse_some, apure_add, apure_eql, apure_neq, List.map_cons, List.map_nil, List.all_cons, List.all_nil, lit2, lit1, lit0, List.isEmpty_nil, Bool.and_self, Bool.and_true, Bool.true_and, Bool.false_and, Bool.and_false, Bool.not_true, Bool.not_false, Bool.or_true, Bool.true_or, Bool.false_or, Bool.or_false, Bool.false_eq_true, if_true, if_false, List.length_map, beq_self_eq_true, und3, und4, und5, und9, finish, ares, aresL, ares1]
    exact ⟨_, rfl⟩
end
end Go.Am.Seat
