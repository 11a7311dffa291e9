/-
  Texts of my own, put together: W13, W14, W15, W16, W17.
-/
import Derived.Test.YtmllcnlfocbdjaaGrWireWrites17
/-
  A message's parts: what the law's helper answers over what its calls answer (own work).
-/
set_option linter.unusedSimpArgs false
set_option linter.unusedVariables false
namespace Go.Am.Seat
open Go.Proofs Go.Am
set_option maxRecDepth 100000

noncomputable def rpt_0 : Array Oper := match Try.f12.body with
  | some (.seq (.region _ o _) _) => o
  | _ => #[]
noncomputable def lpt_0 : List Oper := match Try.f12.body with
  | some (.seq (.region _ o _) _) => o.toList
  | _ => []
theorem ept_0 : rpt_0.toList = lpt_0 := rfl
noncomputable def rpt_1 : Array Oper := match Try.f12.body with
  | some (.seq _ (.seq (.seq (.region _ o _) _) _)) => o
  | _ => #[]
noncomputable def lpt_1 : List Oper := match Try.f12.body with
  | some (.seq _ (.seq (.seq (.region _ o _) _) _)) => o.toList
  | _ => []
theorem ept_1 : rpt_1.toList = lpt_1 := rfl
noncomputable def rpt_2 : Array Oper := match Try.f12.body with
  | some (.seq _ (.seq (.seq _ (.block _ (.seq (.region _ o _) _))) _)) => o
  | _ => #[]
noncomputable def lpt_2 : List Oper := match Try.f12.body with
  | some (.seq _ (.seq (.seq _ (.block _ (.seq (.region _ o _) _))) _)) => o.toList
  | _ => []
theorem ept_2 : rpt_2.toList = lpt_2 := rfl
noncomputable def rpt_3 : Array Oper := match Try.f12.body with
  | some (.seq _ (.seq (.seq _ (.block _ (.seq _ (.cond _ (.seq (.region _ o _) _) _)))) _)) => o
  | _ => #[]
noncomputable def lpt_3 : List Oper := match Try.f12.body with
  | some (.seq _ (.seq (.seq _ (.block _ (.seq _ (.cond _ (.seq (.region _ o _) _) _)))) _)) => o.toList
  | _ => []
theorem ept_3 : rpt_3.toList = lpt_3 := rfl
noncomputable def rpt_4 : Array Oper := match Try.f12.body with
  | some (.seq _ (.seq (.seq _ (.block _ (.seq _ (.cond _ (.seq _ (.seq (.region _ o _) _)) _)))) _)) => o
  | _ => #[]
noncomputable def lpt_4 : List Oper := match Try.f12.body with
  | some (.seq _ (.seq (.seq _ (.block _ (.seq _ (.cond _ (.seq _ (.seq (.region _ o _) _)) _)))) _)) => o.toList
  | _ => []
theorem ept_4 : rpt_4.toList = lpt_4 := rfl
noncomputable def rpt_5 : Array Oper := match Try.f12.body with
  | some (.seq _ (.seq (.seq _ (.block _ (.seq _ (.cond _ (.seq _ (.seq _ (.seq (.region _ o _) _))) _)))) _)) => o
  | _ => #[]
noncomputable def lpt_5 : List Oper := match Try.f12.body with
  | some (.seq _ (.seq (.seq _ (.block _ (.seq _ (.cond _ (.seq _ (.seq _ (.seq (.region _ o _) _))) _)))) _)) => o.toList
  | _ => []
theorem ept_5 : rpt_5.toList = lpt_5 := rfl
noncomputable def rpt_6 : Array Oper := match Try.f12.body with
  | some (.seq _ (.seq (.seq _ (.block _ (.seq _ (.cond _ _ (.seq (.region _ o _) _))))) _)) => o
  | _ => #[]
noncomputable def lpt_6 : List Oper := match Try.f12.body with
  | some (.seq _ (.seq (.seq _ (.block _ (.seq _ (.cond _ _ (.seq (.region _ o _) _))))) _)) => o.toList
  | _ => []
theorem ept_6 : rpt_6.toList = lpt_6 := rfl
noncomputable def rpt_7 : Array Oper := match Try.f12.body with
  | some (.seq _ (.seq (.seq _ (.block _ (.seq _ (.cond _ _ (.seq _ (.cond _ (.seq (.region _ o _) _) _)))))) _)) => o
  | _ => #[]
noncomputable def lpt_7 : List Oper := match Try.f12.body with
  | some (.seq _ (.seq (.seq _ (.block _ (.seq _ (.cond _ _ (.seq _ (.cond _ (.seq (.region _ o _) _) _)))))) _)) => o.toList
  | _ => []
theorem ept_7 : rpt_7.toList = lpt_7 := rfl
noncomputable def rpt_8 : Array Oper := match Try.f12.body with
  | some (.seq _ (.seq (.seq _ (.block _ (.seq _ (.cond _ _ (.seq _ (.cond _ (.seq _ (.seq (.region _ o _) _)) _)))))) _)) => o
  | _ => #[]
noncomputable def lpt_8 : List Oper := match Try.f12.body with
  | some (.seq _ (.seq (.seq _ (.block _ (.seq _ (.cond _ _ (.seq _ (.cond _ (.seq _ (.seq (.region _ o _) _)) _)))))) _)) => o.toList
  | _ => []
theorem ept_8 : rpt_8.toList = lpt_8 := rfl
noncomputable def rpt_9 : Array Oper := match Try.f12.body with
  | some (.seq _ (.seq (.seq _ (.block _ (.seq _ (.cond _ _ (.seq _ (.cond _ (.seq _ (.seq _ (.seq (.region _ o _) _))) _)))))) _)) => o
  | _ => #[]
noncomputable def lpt_9 : List Oper := match Try.f12.body with
  | some (.seq _ (.seq (.seq _ (.block _ (.seq _ (.cond _ _ (.seq _ (.cond _ (.seq _ (.seq _ (.seq (.region _ o _) _))) _)))))) _)) => o.toList
  | _ => []
theorem ept_9 : rpt_9.toList = lpt_9 := rfl
noncomputable def rpt_10 : Array Oper := match Try.f12.body with
  | some (.seq _ (.seq (.seq _ (.block _ (.seq _ (.cond _ _ (.seq _ (.cond _ _ (.seq (.region _ o _) _))))))) _)) => o
  | _ => #[]
noncomputable def lpt_10 : List Oper := match Try.f12.body with
  | some (.seq _ (.seq (.seq _ (.block _ (.seq _ (.cond _ _ (.seq _ (.cond _ _ (.seq (.region _ o _) _))))))) _)) => o.toList
  | _ => []
theorem ept_10 : rpt_10.toList = lpt_10 := rfl
noncomputable def rpt_11 : Array Oper := match Try.f12.body with
  | some (.seq _ (.seq (.seq _ (.block _ (.seq _ (.cond _ _ (.seq _ (.cond _ _ (.seq _ (.cond _ (.seq (.region _ o _) _) _)))))))) _)) => o
  | _ => #[]
noncomputable def lpt_11 : List Oper := match Try.f12.body with
  | some (.seq _ (.seq (.seq _ (.block _ (.seq _ (.cond _ _ (.seq _ (.cond _ _ (.seq _ (.cond _ (.seq (.region _ o _) _) _)))))))) _)) => o.toList
  | _ => []
theorem ept_11 : rpt_11.toList = lpt_11 := rfl
noncomputable def rpt_12 : Array Oper := match Try.f12.body with
  | some (.seq _ (.seq (.seq _ (.block _ (.seq _ (.cond _ _ (.seq _ (.cond _ _ (.seq _ (.cond _ (.seq _ (.seq (.region _ o _) _)) _)))))))) _)) => o
  | _ => #[]
noncomputable def lpt_12 : List Oper := match Try.f12.body with
  | some (.seq _ (.seq (.seq _ (.block _ (.seq _ (.cond _ _ (.seq _ (.cond _ _ (.seq _ (.cond _ (.seq _ (.seq (.region _ o _) _)) _)))))))) _)) => o.toList
  | _ => []
theorem ept_12 : rpt_12.toList = lpt_12 := rfl
noncomputable def rpt_13 : Array Oper := match Try.f12.body with
  | some (.seq _ (.seq (.seq _ (.block _ (.seq _ (.cond _ _ (.seq _ (.cond _ _ (.seq _ (.cond _ (.seq _ (.seq _ (.seq (.region _ o _) _))) _)))))))) _)) => o
  | _ => #[]
noncomputable def lpt_13 : List Oper := match Try.f12.body with
  | some (.seq _ (.seq (.seq _ (.block _ (.seq _ (.cond _ _ (.seq _ (.cond _ _ (.seq _ (.cond _ (.seq _ (.seq _ (.seq (.region _ o _) _))) _)))))))) _)) => o.toList
  | _ => []
theorem ept_13 : rpt_13.toList = lpt_13 := rfl
noncomputable def rpt_14 : Array Oper := match Try.f12.body with
  | some (.seq _ (.seq (.seq _ (.block _ (.seq _ (.cond _ _ (.seq _ (.cond _ _ (.seq _ (.cond _ _ (.seq (.region _ o _) _))))))))) _)) => o
  | _ => #[]
noncomputable def lpt_14 : List Oper := match Try.f12.body with
  | some (.seq _ (.seq (.seq _ (.block _ (.seq _ (.cond _ _ (.seq _ (.cond _ _ (.seq _ (.cond _ _ (.seq (.region _ o _) _))))))))) _)) => o.toList
  | _ => []
theorem ept_14 : rpt_14.toList = lpt_14 := rfl
noncomputable def rpt_15 : Array Oper := match Try.f12.body with
  | some (.seq _ (.seq (.seq _ (.block _ (.seq _ (.cond _ _ (.seq _ (.cond _ _ (.seq _ (.cond _ _ (.seq _ (.cond _ (.seq (.region _ o _) _) _)))))))))) _)) => o
  | _ => #[]
noncomputable def lpt_15 : List Oper := match Try.f12.body with
  | some (.seq _ (.seq (.seq _ (.block _ (.seq _ (.cond _ _ (.seq _ (.cond _ _ (.seq _ (.cond _ _ (.seq _ (.cond _ (.seq (.region _ o _) _) _)))))))))) _)) => o.toList
  | _ => []
theorem ept_15 : rpt_15.toList = lpt_15 := rfl
noncomputable def rpt_16 : Array Oper := match Try.f12.body with
  | some (.seq _ (.seq (.seq _ (.block _ (.seq _ (.cond _ _ (.seq _ (.cond _ _ (.seq _ (.cond _ _ (.seq _ (.cond _ (.seq _ (.seq (.region _ o _) _)) _)))))))))) _)) => o
  | _ => #[]
noncomputable def lpt_16 : List Oper := match Try.f12.body with
  | some (.seq _ (.seq (.seq _ (.block _ (.seq _ (.cond _ _ (.seq _ (.cond _ _ (.seq _ (.cond _ _ (.seq _ (.cond _ (.seq _ (.seq (.region _ o _) _)) _)))))))))) _)) => o.toList
  | _ => []
theorem ept_16 : rpt_16.toList = lpt_16 := rfl
noncomputable def rpt_17 : Array Oper := match Try.f12.body with
  | some (.seq _ (.seq (.seq _ (.block _ (.seq _ (.cond _ _ (.seq _ (.cond _ _ (.seq _ (.cond _ _ (.seq _ (.cond _ (.seq _ (.seq _ (.seq (.region _ o _) _))) _)))))))))) _)) => o
  | _ => #[]
noncomputable def lpt_17 : List Oper := match Try.f12.body with
  | some (.seq _ (.seq (.seq _ (.block _ (.seq _ (.cond _ _ (.seq _ (.cond _ _ (.seq _ (.cond _ _ (.seq _ (.cond _ (.seq _ (.seq _ (.seq (.region _ o _) _))) _)))))))))) _)) => o.toList
  | _ => []
theorem ept_17 : rpt_17.toList = lpt_17 := rfl
noncomputable def rpt_18 : Array Oper := match Try.f12.body with
  | some (.seq _ (.seq (.seq _ (.block _ (.seq _ (.cond _ _ (.seq _ (.cond _ _ (.seq _ (.cond _ _ (.seq _ (.cond _ _ (.seq (.region _ o _) _))))))))))) _)) => o
  | _ => #[]
noncomputable def lpt_18 : List Oper := match Try.f12.body with
  | some (.seq _ (.seq (.seq _ (.block _ (.seq _ (.cond _ _ (.seq _ (.cond _ _ (.seq _ (.cond _ _ (.seq _ (.cond _ _ (.seq (.region _ o _) _))))))))))) _)) => o.toList
  | _ => []
theorem ept_18 : rpt_18.toList = lpt_18 := rfl
noncomputable def rpt_19 : Array Oper := match Try.f12.body with
  | some (.seq _ (.seq (.seq _ (.block _ (.seq _ (.cond _ _ (.seq _ (.cond _ _ (.seq _ (.cond _ _ (.seq _ (.cond _ _ (.seq _ (.cond _ (.seq (.region _ o _) _) _)))))))))))) _)) => o
  | _ => #[]
noncomputable def lpt_19 : List Oper := match Try.f12.body with
  | some (.seq _ (.seq (.seq _ (.block _ (.seq _ (.cond _ _ (.seq _ (.cond _ _ (.seq _ (.cond _ _ (.seq _ (.cond _ _ (.seq _ (.cond _ (.seq (.region _ o _) _) _)))))))))))) _)) => o.toList
  | _ => []
theorem ept_19 : rpt_19.toList = lpt_19 := rfl
noncomputable def rpt_20 : Array Oper := match Try.f12.body with
  | some (.seq _ (.seq (.seq _ (.block _ (.seq _ (.cond _ _ (.seq _ (.cond _ _ (.seq _ (.cond _ _ (.seq _ (.cond _ _ (.seq _ (.cond _ (.seq _ (.seq (.region _ o _) _)) _)))))))))))) _)) => o
  | _ => #[]
noncomputable def lpt_20 : List Oper := match Try.f12.body with
  | some (.seq _ (.seq (.seq _ (.block _ (.seq _ (.cond _ _ (.seq _ (.cond _ _ (.seq _ (.cond _ _ (.seq _ (.cond _ _ (.seq _ (.cond _ (.seq _ (.seq (.region _ o _) _)) _)))))))))))) _)) => o.toList
  | _ => []
theorem ept_20 : rpt_20.toList = lpt_20 := rfl
noncomputable def rpt_21 : Array Oper := match Try.f12.body with
  | some (.seq _ (.seq (.seq _ (.block _ (.seq _ (.cond _ _ (.seq _ (.cond _ _ (.seq _ (.cond _ _ (.seq _ (.cond _ _ (.seq _ (.cond _ (.seq _ (.seq _ (.seq (.region _ o _) _))) _)))))))))))) _)) => o
  | _ => #[]
noncomputable def lpt_21 : List Oper := match Try.f12.body with
  | some (.seq _ (.seq (.seq _ (.block _ (.seq _ (.cond _ _ (.seq _ (.cond _ _ (.seq _ (.cond _ _ (.seq _ (.cond _ _ (.seq _ (.cond _ (.seq _ (.seq _ (.seq (.region _ o _) _))) _)))))))))))) _)) => o.toList
  | _ => []
theorem ept_21 : rpt_21.toList = lpt_21 := rfl
noncomputable def rpt_22 : Array Oper := match Try.f12.body with
  | some (.seq _ (.seq _ (.seq (.region _ o _) _))) => o
  | _ => #[]
noncomputable def lpt_22 : List Oper := match Try.f12.body with
  | some (.seq _ (.seq _ (.seq (.region _ o _) _))) => o.toList
  | _ => []
theorem ept_22 : rpt_22.toList = lpt_22 := rfl
noncomputable def rpt_23 : Array Oper := match Try.f12.body with
  | some (.seq _ (.seq _ (.seq _ (.seq (.region _ o _) _)))) => o
  | _ => #[]
noncomputable def lpt_23 : List Oper := match Try.f12.body with
  | some (.seq _ (.seq _ (.seq _ (.seq (.region _ o _) _)))) => o.toList
  | _ => []
theorem ept_23 : rpt_23.toList = lpt_23 := rfl
noncomputable def rpt_24 : Array Oper := match Try.f12.body with
  | some (.seq _ (.seq _ (.seq _ (.seq _ (.seq (.region _ o _) _))))) => o
  | _ => #[]
noncomputable def lpt_24 : List Oper := match Try.f12.body with
  | some (.seq _ (.seq _ (.seq _ (.seq _ (.seq (.region _ o _) _))))) => o.toList
  | _ => []
theorem ept_24 : rpt_24.toList = lpt_24 := rfl
theorem bodypt : Try.f12.body = some (.seq (.region 0 rpt_0 false) (.seq (.seq (.region 1 rpt_1 false) (.block 0 (.seq (.region 2 rpt_2 false) (.cond (.tmp 33) (.seq (.region 3 rpt_3 false) (.seq (.region 4 rpt_4 false) (.seq (.region 5 rpt_5 false) .ret))) (.seq (.region 6 rpt_6 false) (.cond (.tmp 51) (.seq (.region 7 rpt_7 false) (.seq (.region 8 rpt_8 false) (.seq (.region 9 rpt_9 false) .ret))) (.seq (.region 10 rpt_10 false) (.cond (.tmp 71) (.seq (.region 11 rpt_11 false) (.seq (.region 12 rpt_12 false) (.seq (.region 13 rpt_13 false) .ret))) (.seq (.region 14 rpt_14 false) (.cond (.tmp 93) (.seq (.region 15 rpt_15 false) (.seq (.region 16 rpt_16 false) (.seq (.region 17 rpt_17 false) .ret))) (.seq (.region 18 rpt_18 false) (.cond (.tmp 115) (.seq (.region 19 rpt_19 false) (.seq (.region 20 rpt_20 false) (.seq (.region 21 rpt_21 false) .ret))) .skip)))))))))))) (.seq (.region 22 rpt_22 false) (.seq (.region 23 rpt_23 false) (.seq (.region 24 rpt_24 false) .ret))))) := rfl
-- ntmps 159
theorem callP0 : callableB E.P 21 = true := by kernel_rfl
theorem callY0 : callableB E.P 22 = true := by kernel_rfl
theorem callP1 : callableB E.P 23 = true := by kernel_rfl
theorem callY1 : callableB E.P 24 = true := by kernel_rfl
theorem callP2 : callableB E.P 25 = true := by kernel_rfl
theorem callY2 : callableB E.P 16 = true := by kernel_rfl
theorem callP3 : callableB E.P 26 = true := by kernel_rfl
theorem callY3 : callableB E.P 18 = true := by kernel_rfl
theorem callP4 : callableB E.P 27 = true := by kernel_rfl
theorem callY4 : callableB E.P 15 = true := by kernel_rfl
theorem callP5 : callableB E.P 28 = true := by kernel_rfl
theorem callY5 : callableB E.P 29 = true := by kernel_rfl

theorem ptx01 : aalloc E.P 54 mem0 = some ((.pointer (some ⟨1, 0, none⟩)), (mem0 ++ [.row false 54 [.string ⟨#[]⟩]])) := by kernel_rfl
theorem ptx02 (a0 : ByteArray) : astore E.P 54 (.pointer (some ⟨1, 0, none⟩)) (.agg ⟨[.string a0]⟩) (mem0 ++ [.row false 54 [.string ⟨#[]⟩]]) = some (mem0 ++ [.row false 54 [.string a0]]) := by kernel_rfl
theorem ptx03 (a0 : ByteArray) : aload E.P 54 (.pointer (some ⟨1, 0, none⟩)) (mem0 ++ [.row false 54 [.string a0]]) = some (.agg ⟨[.string a0]⟩) := by kernel_rfl
theorem ptx04 (a0 : ByteArray) : abuildSlice E.P 23 1 [(0, .string a0)] (mem0 ++ [.row false 54 [.string a0]]) = some (.slice (some ⟨1 + 1, 0, none⟩) 1 1, mem0 ++ [.row false 54 [.string a0], .row false 9 [.string a0]]) := by kernel_rfl
theorem ptf00 : afieldAddr E.P 54 (.pointer (some ⟨1, 0, none⟩)) 0 = some (.pointer (some ⟨1, 0, none⟩)) := by kernel_rfl
theorem ptc00 (a0 : ByteArray) : cellAt (mem0 ++ [.row false 54 [.string a0]]) (1) 0 = some (.string a0) := by kernel_rfl

theorem pt_0 {self : Self} {nf : Nat} (s a0 t : ByteArray) (e f : Int) (hP : ∀ M, Tabs M → ainv E self 21 [.string s] M = some (.tuple ⟨[.agg ⟨[.string a0]⟩, .int .i64 e]⟩, M)) (hB : ∀ M, Tabs M → ainv E self 22 [.agg ⟨[.string a0]⟩] M = some (.tuple ⟨[.string t, .int .i64 f]⟩, M)) :
    ∃ b mem, abody E self nf 12 [.string s, .int .i64 0] mem0 = some (.tuple ⟨[.slice (some ⟨b, 0, none⟩) 1 1, .string t, .int .i64 e, .int .i64 f]⟩, mem) ∧ mem[b]? = some (.row false 9 [.string a0]) ∧ 1 ≤ b := by
  rw [abody_eqF (by kernel_rfl) Try.func12 bodypt (by kernel_rfl) (Nat.le_of_ble_eq_true rfl)]
  rw [show Try.f12.ntmps = 159 from rfl]
  have hP := hP mem0 tabs0
  have hB := hB (mem0 ++ [.row false 54 [.string a0]]) (tabs_app _)
  simp only [ept_0, ept_1, ept_10, ept_11, ept_12, ept_13, ept_14, ept_15, ept_16, ept_17, ept_18, ept_19, ept_2, ept_20, ept_21, ept_22, ept_23, ept_24, ept_3, ept_4, ept_5, ept_6, ept_7, ept_8, ept_9, lpt_0, lpt_1, lpt_2, lpt_3, lpt_4, lpt_5, lpt_6, lpt_7, lpt_8, lpt_9, lpt_10, lpt_11, lpt_12, lpt_13, lpt_14, lpt_15, lpt_16, lpt_17, lpt_18, lpt_19, lpt_20, lpt_21, lpt_22, lpt_23, lpt_24, agd_none, gdAt, gdV_bool, gdV_undef, Try.f12, List.append_eq, List.cons_append, List.nil_append, apure_call1, apure_call2, apure_call3, bft, btf, acodeN, List.getElem?_toArray, List.getElem?_cons_zero, List.getElem?_cons_succ, aopsN, adrawT, cls, astep, aop, afloat, ev, nth_lst, get_lst, aput, setAt_lst, upd_at, init_zero, init_succ, init_nil, Nat.reduceLT, Nat.reduceEqDiff, reduceIte, abuiltin, alen, Option.map_some, Option.map_none, orElse_some, apure_add, apure_eqlV, eqlVal_str, eqlVal_bool, eqlVal_ptr, eqlVal_slice, eqlVal_int, allT, ↓aop_eqlV, apure_neq, List.map_cons, List.map_nil, List.all_cons, List.all_nil, lit2, lit1, lit0, List.isEmpty_nil, Bool.and_self, Bool.and_true, Bool.true_and, Bool.false_and, Bool.and_false, Bool.not_true, Bool.not_false, Bool.or_true, Bool.true_or, Bool.false_or, Bool.or_false, Bool.false_eq_true, if_true, if_false, List.length_map, beq_self_eq_true, und3, und4, und5, und9, ptx01, ptx02 a0, ptx03 a0, ptx04 a0, ptf00, ptc00 a0, show ((0 : Int) == 0) = true from rfl, show ((0 : Int) == 1) = false from rfl, show ((0 : Int) == 2) = false from rfl, show ((0 : Int) == 3) = false from rfl, show ((0 : Int) == 4) = false from rfl, callP0, callY0, hP, hB, ldS, undSS, eql64, aextract, finish, ares, aresL, ares1]
  refine ⟨1 + 1, _, rfl, ?_, ?_⟩
  · rfl
  · exact Nat.le_of_ble_eq_true rfl

theorem ptx11 : aalloc E.P 58 mem0 = some ((.pointer (some ⟨1, 0, none⟩)), (mem0 ++ [.row false 58 [.string ⟨#[]⟩, .string ⟨#[]⟩]])) := by kernel_rfl
theorem ptx12 (a0 a1 : ByteArray) : astore E.P 58 (.pointer (some ⟨1, 0, none⟩)) (.agg ⟨[.string a0, .string a1]⟩) (mem0 ++ [.row false 58 [.string ⟨#[]⟩, .string ⟨#[]⟩]]) = some (mem0 ++ [.row false 58 [.string a0, .string a1]]) := by kernel_rfl
theorem ptx13 (a0 a1 : ByteArray) : aload E.P 58 (.pointer (some ⟨1, 0, none⟩)) (mem0 ++ [.row false 58 [.string a0, .string a1]]) = some (.agg ⟨[.string a0, .string a1]⟩) := by kernel_rfl
theorem ptx14 (a0 a1 : ByteArray) : abuildSlice E.P 23 2 [(0, .string a0), (1, .string a1)] (mem0 ++ [.row false 58 [.string a0, .string a1]]) = some (.slice (some ⟨1 + 1, 0, none⟩) 2 2, mem0 ++ [.row false 58 [.string a0, .string a1], .row false 9 [.string a0, .string a1]]) := by kernel_rfl
theorem ptf10 : afieldAddr E.P 58 (.pointer (some ⟨1, 0, none⟩)) 0 = some (.pointer (some ⟨1, 0, none⟩)) := by kernel_rfl
theorem ptc10 (a0 a1 : ByteArray) : cellAt (mem0 ++ [.row false 58 [.string a0, .string a1]]) (1) 0 = some (.string a0) := by kernel_rfl
theorem ptf11 : afieldAddr E.P 58 (.pointer (some ⟨1, 0, none⟩)) 1 = some (.pointer (some ⟨1, 1, none⟩)) := by kernel_rfl
theorem ptc11 (a0 a1 : ByteArray) : cellAt (mem0 ++ [.row false 58 [.string a0, .string a1]]) (1) 1 = some (.string a1) := by kernel_rfl

theorem pt_1 {self : Self} {nf : Nat} (s a0 a1 t : ByteArray) (e f : Int) (hP : ∀ M, Tabs M → ainv E self 23 [.string s] M = some (.tuple ⟨[.agg ⟨[.string a0, .string a1]⟩, .int .i64 e]⟩, M)) (hB : ∀ M, Tabs M → ainv E self 24 [.agg ⟨[.string a0, .string a1]⟩] M = some (.tuple ⟨[.string t, .int .i64 f]⟩, M)) :
    ∃ b mem, abody E self nf 12 [.string s, .int .i64 1] mem0 = some (.tuple ⟨[.slice (some ⟨b, 0, none⟩) 2 2, .string t, .int .i64 e, .int .i64 f]⟩, mem) ∧ mem[b]? = some (.row false 9 [.string a0, .string a1]) ∧ 1 ≤ b := by
  rw [abody_eqF (by kernel_rfl) Try.func12 bodypt (by kernel_rfl) (Nat.le_of_ble_eq_true rfl)]
  rw [show Try.f12.ntmps = 159 from rfl]
  have hP := hP mem0 tabs0
  have hB := hB (mem0 ++ [.row false 58 [.string a0, .string a1]]) (tabs_app _)
  simp only [ept_0, ept_1, ept_10, ept_11, ept_12, ept_13, ept_14, ept_15, ept_16, ept_17, ept_18, ept_19, ept_2, ept_20, ept_21, ept_22, ept_23, ept_24, ept_3, ept_4, ept_5, ept_6, ept_7, ept_8, ept_9, lpt_0, lpt_1, lpt_2, lpt_3, lpt_4, lpt_5, lpt_6, lpt_7, lpt_8, lpt_9, lpt_10, lpt_11, lpt_12, lpt_13, lpt_14, lpt_15, lpt_16, lpt_17, lpt_18, lpt_19, lpt_20, lpt_21, lpt_22, lpt_23, lpt_24, agd_none, gdAt, gdV_bool, gdV_undef, Try.f12, List.append_eq, List.cons_append, List.nil_append, apure_call1, apure_call2, apure_call3, bft, btf, acodeN, List.getElem?_toArray, List.getElem?_cons_zero, List.getElem?_cons_succ, aopsN, adrawT, cls, astep, aop, afloat, ev, nth_lst, get_lst, aput, setAt_lst, upd_at, init_zero, init_succ, init_nil, Nat.reduceLT, Nat.reduceEqDiff, reduceIte, abuiltin, alen, Option.map_some, Option.map_none, orElse_some, apure_add, apure_eqlV, eqlVal_str, eqlVal_bool, eqlVal_ptr, eqlVal_slice, eqlVal_int, allT, ↓aop_eqlV, apure_neq, List.map_cons, List.map_nil, List.all_cons, List.all_nil, lit2, lit1, lit0, List.isEmpty_nil, Bool.and_self, Bool.and_true, Bool.true_and, Bool.false_and, Bool.and_false, Bool.not_true, Bool.not_false, Bool.or_true, Bool.true_or, Bool.false_or, Bool.or_false, Bool.false_eq_true, if_true, if_false, List.length_map, beq_self_eq_true, und3, und4, und5, und9, ptx11, ptx12 a0 a1, ptx13 a0 a1, ptx14 a0 a1, ptf10, ptc10 a0 a1, ptf11, ptc11 a0 a1, show ((1 : Int) == 0) = false from rfl, show ((1 : Int) == 1) = true from rfl, show ((1 : Int) == 2) = false from rfl, show ((1 : Int) == 3) = false from rfl, show ((1 : Int) == 4) = false from rfl, callP1, callY1, hP, hB, ldS, undSS, eql64, aextract, finish, ares, aresL, ares1]
  refine ⟨1 + 1, _, rfl, ?_, ?_⟩
  · rfl
  · exact Nat.le_of_ble_eq_true rfl

theorem ptx21 : aalloc E.P 44 mem0 = some ((.pointer (some ⟨1, 0, none⟩)), (mem0 ++ [.row false 44 [.string ⟨#[]⟩, .string ⟨#[]⟩, .string ⟨#[]⟩]])) := by kernel_rfl
theorem ptx22 (a0 a1 a2 : ByteArray) : astore E.P 44 (.pointer (some ⟨1, 0, none⟩)) (.agg ⟨[.string a0, .string a1, .string a2]⟩) (mem0 ++ [.row false 44 [.string ⟨#[]⟩, .string ⟨#[]⟩, .string ⟨#[]⟩]]) = some (mem0 ++ [.row false 44 [.string a0, .string a1, .string a2]]) := by kernel_rfl
theorem ptx23 (a0 a1 a2 : ByteArray) : aload E.P 44 (.pointer (some ⟨1, 0, none⟩)) (mem0 ++ [.row false 44 [.string a0, .string a1, .string a2]]) = some (.agg ⟨[.string a0, .string a1, .string a2]⟩) := by kernel_rfl
theorem ptx24 (a0 a1 a2 : ByteArray) : abuildSlice E.P 23 3 [(0, .string a0), (1, .string a1), (2, .string a2)] (mem0 ++ [.row false 44 [.string a0, .string a1, .string a2]]) = some (.slice (some ⟨1 + 1, 0, none⟩) 3 3, mem0 ++ [.row false 44 [.string a0, .string a1, .string a2], .row false 9 [.string a0, .string a1, .string a2]]) := by kernel_rfl
theorem ptf20 : afieldAddr E.P 44 (.pointer (some ⟨1, 0, none⟩)) 0 = some (.pointer (some ⟨1, 0, none⟩)) := by kernel_rfl
theorem ptc20 (a0 a1 a2 : ByteArray) : cellAt (mem0 ++ [.row false 44 [.string a0, .string a1, .string a2]]) (1) 0 = some (.string a0) := by kernel_rfl
theorem ptf21 : afieldAddr E.P 44 (.pointer (some ⟨1, 0, none⟩)) 1 = some (.pointer (some ⟨1, 1, none⟩)) := by kernel_rfl
theorem ptc21 (a0 a1 a2 : ByteArray) : cellAt (mem0 ++ [.row false 44 [.string a0, .string a1, .string a2]]) (1) 1 = some (.string a1) := by kernel_rfl
theorem ptf22 : afieldAddr E.P 44 (.pointer (some ⟨1, 0, none⟩)) 2 = some (.pointer (some ⟨1, 2, none⟩)) := by kernel_rfl
theorem ptc22 (a0 a1 a2 : ByteArray) : cellAt (mem0 ++ [.row false 44 [.string a0, .string a1, .string a2]]) (1) 2 = some (.string a2) := by kernel_rfl

theorem pt_2 {self : Self} {nf : Nat} (s a0 a1 a2 t : ByteArray) (e f : Int) (hP : ∀ M, Tabs M → ainv E self 25 [.string s] M = some (.tuple ⟨[.agg ⟨[.string a0, .string a1, .string a2]⟩, .int .i64 e]⟩, M)) (hB : ∀ M, Tabs M → ainv E self 16 [.agg ⟨[.string a0, .string a1, .string a2]⟩] M = some (.tuple ⟨[.string t, .int .i64 f]⟩, M)) :
    ∃ b mem, abody E self nf 12 [.string s, .int .i64 2] mem0 = some (.tuple ⟨[.slice (some ⟨b, 0, none⟩) 3 3, .string t, .int .i64 e, .int .i64 f]⟩, mem) ∧ mem[b]? = some (.row false 9 [.string a0, .string a1, .string a2]) ∧ 1 ≤ b := by
  rw [abody_eqF (by kernel_rfl) Try.func12 bodypt (by kernel_rfl) (Nat.le_of_ble_eq_true rfl)]
  rw [show Try.f12.ntmps = 159 from rfl]
  have hP := hP mem0 tabs0
  have hB := hB (mem0 ++ [.row false 44 [.string a0, .string a1, .string a2]]) (tabs_app _)
  simp only [ept_0, ept_1, ept_10, ept_11, ept_12, ept_13, ept_14, ept_15, ept_16, ept_17, ept_18, ept_19, ept_2, ept_20, ept_21, ept_22, ept_23, ept_24, ept_3, ept_4, ept_5, ept_6, ept_7, ept_8, ept_9, lpt_0, lpt_1, lpt_2, lpt_3, lpt_4, lpt_5, lpt_6, lpt_7, lpt_8, lpt_9, lpt_10, lpt_11, lpt_12, lpt_13, lpt_14, lpt_15, lpt_16, lpt_17, lpt_18, lpt_19, lpt_20, lpt_21, lpt_22, lpt_23, lpt_24, agd_none, gdAt, gdV_bool, gdV_undef, Try.f12, List.append_eq, List.cons_append, List.nil_append, apure_call1, apure_call2, apure_call3, bft, btf, acodeN, List.getElem?_toArray, List.getElem?_cons_zero, List.getElem?_cons_succ, aopsN, adrawT, cls, astep, aop, afloat, ev, nth_lst, get_lst, aput, setAt_lst, upd_at, init_zero, init_succ, init_nil, Nat.reduceLT, Nat.reduceEqDiff, reduceIte, abuiltin, alen, Option.map_some, Option.map_none, orElse_some, apure_add, apure_eqlV, eqlVal_str, eqlVal_bool, eqlVal_ptr, eqlVal_slice, eqlVal_int, allT, ↓aop_eqlV, apure_neq, List.map_cons, List.map_nil, List.all_cons, List.all_nil, lit2, lit1, lit0, List.isEmpty_nil, Bool.and_self, Bool.and_true, Bool.true_and, Bool.false_and, Bool.and_false, Bool.not_true, Bool.not_false, Bool.or_true, Bool.true_or, Bool.false_or, Bool.or_false, Bool.false_eq_true, if_true, if_false, List.length_map, beq_self_eq_true, und3, und4, und5, und9, ptx21, ptx22 a0 a1 a2, ptx23 a0 a1 a2, ptx24 a0 a1 a2, ptf20, ptc20 a0 a1 a2, ptf21, ptc21 a0 a1 a2, ptf22, ptc22 a0 a1 a2, show ((2 : Int) == 0) = false from rfl, show ((2 : Int) == 1) = false from rfl, show ((2 : Int) == 2) = true from rfl, show ((2 : Int) == 3) = false from rfl, show ((2 : Int) == 4) = false from rfl, callP2, callY2, hP, hB, ldS, undSS, eql64, aextract, finish, ares, aresL, ares1]
  refine ⟨1 + 1, _, rfl, ?_, ?_⟩
  · rfl
  · exact Nat.le_of_ble_eq_true rfl

theorem ptx31 : aalloc E.P 50 mem0 = some ((.pointer (some ⟨1, 0, none⟩)), (mem0 ++ [.row false 50 [.string ⟨#[]⟩, .string ⟨#[]⟩, .string ⟨#[]⟩]])) := by kernel_rfl
theorem ptx32 (a0 a1 a2 : ByteArray) : astore E.P 50 (.pointer (some ⟨1, 0, none⟩)) (.agg ⟨[.string a0, .string a1, .string a2]⟩) (mem0 ++ [.row false 50 [.string ⟨#[]⟩, .string ⟨#[]⟩, .string ⟨#[]⟩]]) = some (mem0 ++ [.row false 50 [.string a0, .string a1, .string a2]]) := by kernel_rfl
theorem ptx33 (a0 a1 a2 : ByteArray) : aload E.P 50 (.pointer (some ⟨1, 0, none⟩)) (mem0 ++ [.row false 50 [.string a0, .string a1, .string a2]]) = some (.agg ⟨[.string a0, .string a1, .string a2]⟩) := by kernel_rfl
theorem ptx34 (a0 a1 a2 : ByteArray) : abuildSlice E.P 23 3 [(0, .string a0), (1, .string a1), (2, .string a2)] (mem0 ++ [.row false 50 [.string a0, .string a1, .string a2]]) = some (.slice (some ⟨1 + 1, 0, none⟩) 3 3, mem0 ++ [.row false 50 [.string a0, .string a1, .string a2], .row false 9 [.string a0, .string a1, .string a2]]) := by kernel_rfl
theorem ptf30 : afieldAddr E.P 50 (.pointer (some ⟨1, 0, none⟩)) 0 = some (.pointer (some ⟨1, 0, none⟩)) := by kernel_rfl
theorem ptc30 (a0 a1 a2 : ByteArray) : cellAt (mem0 ++ [.row false 50 [.string a0, .string a1, .string a2]]) (1) 0 = some (.string a0) := by kernel_rfl
theorem ptf31 : afieldAddr E.P 50 (.pointer (some ⟨1, 0, none⟩)) 1 = some (.pointer (some ⟨1, 1, none⟩)) := by kernel_rfl
theorem ptc31 (a0 a1 a2 : ByteArray) : cellAt (mem0 ++ [.row false 50 [.string a0, .string a1, .string a2]]) (1) 1 = some (.string a1) := by kernel_rfl
theorem ptf32 : afieldAddr E.P 50 (.pointer (some ⟨1, 0, none⟩)) 2 = some (.pointer (some ⟨1, 2, none⟩)) := by kernel_rfl
theorem ptc32 (a0 a1 a2 : ByteArray) : cellAt (mem0 ++ [.row false 50 [.string a0, .string a1, .string a2]]) (1) 2 = some (.string a2) := by kernel_rfl

theorem pt_3 {self : Self} {nf : Nat} (s a0 a1 a2 t : ByteArray) (e f : Int) (hP : ∀ M, Tabs M → ainv E self 26 [.string s] M = some (.tuple ⟨[.agg ⟨[.string a0, .string a1, .string a2]⟩, .int .i64 e]⟩, M)) (hB : ∀ M, Tabs M → ainv E self 18 [.agg ⟨[.string a0, .string a1, .string a2]⟩] M = some (.tuple ⟨[.string t, .int .i64 f]⟩, M)) :
    ∃ b mem, abody E self nf 12 [.string s, .int .i64 3] mem0 = some (.tuple ⟨[.slice (some ⟨b, 0, none⟩) 3 3, .string t, .int .i64 e, .int .i64 f]⟩, mem) ∧ mem[b]? = some (.row false 9 [.string a0, .string a1, .string a2]) ∧ 1 ≤ b := by
  rw [abody_eqF (by kernel_rfl) Try.func12 bodypt (by kernel_rfl) (Nat.le_of_ble_eq_true rfl)]
  rw [show Try.f12.ntmps = 159 from rfl]
  have hP := hP mem0 tabs0
  have hB := hB (mem0 ++ [.row false 50 [.string a0, .string a1, .string a2]]) (tabs_app _)
  simp only [ept_0, ept_1, ept_10, ept_11, ept_12, ept_13, ept_14, ept_15, ept_16, ept_17, ept_18, ept_19, ept_2, ept_20, ept_21, ept_22, ept_23, ept_24, ept_3, ept_4, ept_5, ept_6, ept_7, ept_8, ept_9, lpt_0, lpt_1, lpt_2, lpt_3, lpt_4, lpt_5, lpt_6, lpt_7, lpt_8, lpt_9, lpt_10, lpt_11, lpt_12, lpt_13, lpt_14, lpt_15, lpt_16, lpt_17, lpt_18, lpt_19, lpt_20, lpt_21, lpt_22, lpt_23, lpt_24, agd_none, gdAt, gdV_bool, gdV_undef, Try.f12, List.append_eq, List.cons_append, List.nil_append, apure_call1, apure_call2, apure_call3, bft, btf, acodeN, List.getElem?_toArray, List.getElem?_cons_zero, List.getElem?_cons_succ, aopsN, adrawT, cls, astep, aop, afloat, ev, nth_lst, get_lst, aput, setAt_lst, upd_at, init_zero, init_succ, init_nil, Nat.reduceLT, Nat.reduceEqDiff, reduceIte, abuiltin, alen, Option.map_some, Option.map_none, orElse_some, apure_add, apure_eqlV, eqlVal_str, eqlVal_bool, eqlVal_ptr, eqlVal_slice, eqlVal_int, allT, ↓aop_eqlV, apure_neq, List.map_cons, List.map_nil, List.all_cons, List.all_nil, lit2, lit1, lit0, List.isEmpty_nil, Bool.and_self, Bool.and_true, Bool.true_and, Bool.false_and, Bool.and_false, Bool.not_true, Bool.not_false, Bool.or_true, Bool.true_or, Bool.false_or, Bool.or_false, Bool.false_eq_true, if_true, if_false, List.length_map, beq_self_eq_true, und3, und4, und5, und9, ptx31, ptx32 a0 a1 a2, ptx33 a0 a1 a2, ptx34 a0 a1 a2, ptf30, ptc30 a0 a1 a2, ptf31, ptc31 a0 a1 a2, ptf32, ptc32 a0 a1 a2, show ((3 : Int) == 0) = false from rfl, show ((3 : Int) == 1) = false from rfl, show ((3 : Int) == 2) = false from rfl, show ((3 : Int) == 3) = true from rfl, show ((3 : Int) == 4) = false from rfl, callP3, callY3, hP, hB, ldS, undSS, eql64, aextract, finish, ares, aresL, ares1]
  refine ⟨1 + 1, _, rfl, ?_, ?_⟩
  · rfl
  · exact Nat.le_of_ble_eq_true rfl

theorem ptx41 : aalloc E.P 42 mem0 = some ((.pointer (some ⟨1, 0, none⟩)), (mem0 ++ [.row false 42 [.string ⟨#[]⟩, .string ⟨#[]⟩, .string ⟨#[]⟩, .string ⟨#[]⟩, .string ⟨#[]⟩, .string ⟨#[]⟩]])) := by kernel_rfl
theorem ptx42 (a0 a1 a2 a3 a4 a5 : ByteArray) : astore E.P 42 (.pointer (some ⟨1, 0, none⟩)) (.agg ⟨[.string a0, .string a1, .string a2, .string a3, .string a4, .string a5]⟩) (mem0 ++ [.row false 42 [.string ⟨#[]⟩, .string ⟨#[]⟩, .string ⟨#[]⟩, .string ⟨#[]⟩, .string ⟨#[]⟩, .string ⟨#[]⟩]]) = some (mem0 ++ [.row false 42 [.string a0, .string a1, .string a2, .string a3, .string a4, .string a5]]) := by kernel_rfl
theorem ptx43 (a0 a1 a2 a3 a4 a5 : ByteArray) : aload E.P 42 (.pointer (some ⟨1, 0, none⟩)) (mem0 ++ [.row false 42 [.string a0, .string a1, .string a2, .string a3, .string a4, .string a5]]) = some (.agg ⟨[.string a0, .string a1, .string a2, .string a3, .string a4, .string a5]⟩) := by kernel_rfl
theorem ptx44 (a0 a1 a2 a3 a4 a5 : ByteArray) : abuildSlice E.P 23 6 [(0, .string a0), (1, .string a1), (2, .string a2), (3, .string a3), (4, .string a4), (5, .string a5)] (mem0 ++ [.row false 42 [.string a0, .string a1, .string a2, .string a3, .string a4, .string a5]]) = some (.slice (some ⟨1 + 1, 0, none⟩) 6 6, mem0 ++ [.row false 42 [.string a0, .string a1, .string a2, .string a3, .string a4, .string a5], .row false 9 [.string a0, .string a1, .string a2, .string a3, .string a4, .string a5]]) := by kernel_rfl
theorem ptf40 : afieldAddr E.P 42 (.pointer (some ⟨1, 0, none⟩)) 0 = some (.pointer (some ⟨1, 0, none⟩)) := by kernel_rfl
theorem ptc40 (a0 a1 a2 a3 a4 a5 : ByteArray) : cellAt (mem0 ++ [.row false 42 [.string a0, .string a1, .string a2, .string a3, .string a4, .string a5]]) (1) 0 = some (.string a0) := by kernel_rfl
theorem ptf41 : afieldAddr E.P 42 (.pointer (some ⟨1, 0, none⟩)) 1 = some (.pointer (some ⟨1, 1, none⟩)) := by kernel_rfl
theorem ptc41 (a0 a1 a2 a3 a4 a5 : ByteArray) : cellAt (mem0 ++ [.row false 42 [.string a0, .string a1, .string a2, .string a3, .string a4, .string a5]]) (1) 1 = some (.string a1) := by kernel_rfl
theorem ptf42 : afieldAddr E.P 42 (.pointer (some ⟨1, 0, none⟩)) 2 = some (.pointer (some ⟨1, 2, none⟩)) := by kernel_rfl
theorem ptc42 (a0 a1 a2 a3 a4 a5 : ByteArray) : cellAt (mem0 ++ [.row false 42 [.string a0, .string a1, .string a2, .string a3, .string a4, .string a5]]) (1) 2 = some (.string a2) := by kernel_rfl
theorem ptf43 : afieldAddr E.P 42 (.pointer (some ⟨1, 0, none⟩)) 3 = some (.pointer (some ⟨1, 3, none⟩)) := by kernel_rfl
theorem ptc43 (a0 a1 a2 a3 a4 a5 : ByteArray) : cellAt (mem0 ++ [.row false 42 [.string a0, .string a1, .string a2, .string a3, .string a4, .string a5]]) (1) 3 = some (.string a3) := by kernel_rfl
theorem ptf44 : afieldAddr E.P 42 (.pointer (some ⟨1, 0, none⟩)) 4 = some (.pointer (some ⟨1, 4, none⟩)) := by kernel_rfl
theorem ptc44 (a0 a1 a2 a3 a4 a5 : ByteArray) : cellAt (mem0 ++ [.row false 42 [.string a0, .string a1, .string a2, .string a3, .string a4, .string a5]]) (1) 4 = some (.string a4) := by kernel_rfl
theorem ptf45 : afieldAddr E.P 42 (.pointer (some ⟨1, 0, none⟩)) 5 = some (.pointer (some ⟨1, 5, none⟩)) := by kernel_rfl
theorem ptc45 (a0 a1 a2 a3 a4 a5 : ByteArray) : cellAt (mem0 ++ [.row false 42 [.string a0, .string a1, .string a2, .string a3, .string a4, .string a5]]) (1) 5 = some (.string a5) := by kernel_rfl

theorem pt_4 {self : Self} {nf : Nat} (s a0 a1 a2 a3 a4 a5 t : ByteArray) (e f : Int) (hP : ∀ M, Tabs M → ainv E self 27 [.string s] M = some (.tuple ⟨[.agg ⟨[.string a0, .string a1, .string a2, .string a3, .string a4, .string a5]⟩, .int .i64 e]⟩, M)) (hB : ∀ M, Tabs M → ainv E self 15 [.agg ⟨[.string a0, .string a1, .string a2, .string a3, .string a4, .string a5]⟩] M = some (.tuple ⟨[.string t, .int .i64 f]⟩, M)) :
    ∃ b mem, abody E self nf 12 [.string s, .int .i64 4] mem0 = some (.tuple ⟨[.slice (some ⟨b, 0, none⟩) 6 6, .string t, .int .i64 e, .int .i64 f]⟩, mem) ∧ mem[b]? = some (.row false 9 [.string a0, .string a1, .string a2, .string a3, .string a4, .string a5]) ∧ 1 ≤ b := by
  rw [abody_eqF (by kernel_rfl) Try.func12 bodypt (by kernel_rfl) (Nat.le_of_ble_eq_true rfl)]
  rw [show Try.f12.ntmps = 159 from rfl]
  have hP := hP mem0 tabs0
  have hB := hB (mem0 ++ [.row false 42 [.string a0, .string a1, .string a2, .string a3, .string a4, .string a5]]) (tabs_app _)
  simp only [ept_0, ept_1, ept_10, ept_11, ept_12, ept_13, ept_14, ept_15, ept_16, ept_17, ept_18, ept_19, ept_2, ept_20, ept_21, ept_22, ept_23, ept_24, ept_3, ept_4, ept_5, ept_6, ept_7, ept_8, ept_9, lpt_0, lpt_1, lpt_2, lpt_3, lpt_4, lpt_5, lpt_6, lpt_7, lpt_8, lpt_9, lpt_10, lpt_11, lpt_12, lpt_13, lpt_14, lpt_15, lpt_16, lpt_17, lpt_18, lpt_19, lpt_20, lpt_21, lpt_22, lpt_23, lpt_24, agd_none, gdAt, gdV_bool, gdV_undef, Try.f12, List.append_eq, List.cons_append, List.nil_append, apure_call1, apure_call2, apure_call3, bft, btf, acodeN, List.getElem?_toArray, List.getElem?_cons_zero, List.getElem?_cons_succ, aopsN, adrawT, cls, astep, aop, afloat, ev, nth_lst, get_lst, aput, setAt_lst, upd_at, init_zero, init_succ, init_nil, Nat.reduceLT, Nat.reduceEqDiff, reduceIte, abuiltin, alen, Option.map_some, Option.map_none, orElse_some, apure_add, apure_eqlV, eqlVal_str, eqlVal_bool, eqlVal_ptr, eqlVal_slice, eqlVal_int, allT, ↓aop_eqlV, apure_neq, List.map_cons, List.map_nil, List.all_cons, List.all_nil, lit2, lit1, lit0, List.isEmpty_nil, Bool.and_self, Bool.and_true, Bool.true_and, Bool.false_and, Bool.and_false, Bool.not_true, Bool.not_false, Bool.or_true, Bool.true_or, Bool.false_or, Bool.or_false, Bool.false_eq_true, if_true, if_false, List.length_map, beq_self_eq_true, und3, und4, und5, und9, ptx41, ptx42 a0 a1 a2 a3 a4 a5, ptx43 a0 a1 a2 a3 a4 a5, ptx44 a0 a1 a2 a3 a4 a5, ptf40, ptc40 a0 a1 a2 a3 a4 a5, ptf41, ptc41 a0 a1 a2 a3 a4 a5, ptf42, ptc42 a0 a1 a2 a3 a4 a5, ptf43, ptc43 a0 a1 a2 a3 a4 a5, ptf44, ptc44 a0 a1 a2 a3 a4 a5, ptf45, ptc45 a0 a1 a2 a3 a4 a5, show ((4 : Int) == 0) = false from rfl, show ((4 : Int) == 1) = false from rfl, show ((4 : Int) == 2) = false from rfl, show ((4 : Int) == 3) = false from rfl, show ((4 : Int) == 4) = true from rfl, callP4, callY4, hP, hB, ldS, undSS, eql64, aextract, finish, ares, aresL, ares1]
  refine ⟨1 + 1, _, rfl, ?_, ?_⟩
  · rfl
  · exact Nat.le_of_ble_eq_true rfl

theorem ptx51 : aalloc E.P 68 mem0 = some ((.pointer (some ⟨1, 0, none⟩)), (mem0 ++ [.row false 68 [.string ⟨#[]⟩]])) := by kernel_rfl
theorem ptx52 (a0 : ByteArray) : astore E.P 68 (.pointer (some ⟨1, 0, none⟩)) (.agg ⟨[.string a0]⟩) (mem0 ++ [.row false 68 [.string ⟨#[]⟩]]) = some (mem0 ++ [.row false 68 [.string a0]]) := by kernel_rfl
theorem ptx53 (a0 : ByteArray) : aload E.P 68 (.pointer (some ⟨1, 0, none⟩)) (mem0 ++ [.row false 68 [.string a0]]) = some (.agg ⟨[.string a0]⟩) := by kernel_rfl
theorem ptx54 (a0 : ByteArray) : abuildSlice E.P 23 1 [(0, .string a0)] (mem0 ++ [.row false 68 [.string a0]]) = some (.slice (some ⟨1 + 1, 0, none⟩) 1 1, mem0 ++ [.row false 68 [.string a0], .row false 9 [.string a0]]) := by kernel_rfl
theorem ptf50 : afieldAddr E.P 68 (.pointer (some ⟨1, 0, none⟩)) 0 = some (.pointer (some ⟨1, 0, none⟩)) := by kernel_rfl
theorem ptc50 (a0 : ByteArray) : cellAt (mem0 ++ [.row false 68 [.string a0]]) (1) 0 = some (.string a0) := by kernel_rfl

theorem pt_5 {self : Self} {nf : Nat} (s a0 t : ByteArray) (e f : Int) (hP : ∀ M, Tabs M → ainv E self 28 [.string s] M = some (.tuple ⟨[.agg ⟨[.string a0]⟩, .int .i64 e]⟩, M)) (hB : ∀ M, Tabs M → ainv E self 29 [.agg ⟨[.string a0]⟩] M = some (.tuple ⟨[.string t, .int .i64 f]⟩, M)) :
    ∃ b mem, abody E self nf 12 [.string s, .int .i64 5] mem0 = some (.tuple ⟨[.slice (some ⟨b, 0, none⟩) 1 1, .string t, .int .i64 e, .int .i64 f]⟩, mem) ∧ mem[b]? = some (.row false 9 [.string a0]) ∧ 1 ≤ b := by
  rw [abody_eqF (by kernel_rfl) Try.func12 bodypt (by kernel_rfl) (Nat.le_of_ble_eq_true rfl)]
  rw [show Try.f12.ntmps = 159 from rfl]
  have hP := hP mem0 tabs0
  have hB := hB (mem0 ++ [.row false 68 [.string a0]]) (tabs_app _)
  simp only [ept_0, ept_1, ept_10, ept_11, ept_12, ept_13, ept_14, ept_15, ept_16, ept_17, ept_18, ept_19, ept_2, ept_20, ept_21, ept_22, ept_23, ept_24, ept_3, ept_4, ept_5, ept_6, ept_7, ept_8, ept_9, lpt_0, lpt_1, lpt_2, lpt_3, lpt_4, lpt_5, lpt_6, lpt_7, lpt_8, lpt_9, lpt_10, lpt_11, lpt_12, lpt_13, lpt_14, lpt_15, lpt_16, lpt_17, lpt_18, lpt_19, lpt_20, lpt_21, lpt_22, lpt_23, lpt_24, agd_none, gdAt, gdV_bool, gdV_undef, Try.f12, List.append_eq, List.cons_append, List.nil_append, apure_call1, apure_call2, apure_call3, bft, btf, acodeN, List.getElem?_toArray, List.getElem?_cons_zero, List.getElem?_cons_succ, aopsN, adrawT, cls, astep, aop, afloat, ev, nth_lst, get_lst, aput, setAt_lst, upd_at, init_zero, init_succ, init_nil, Nat.reduceLT, Nat.reduceEqDiff, reduceIte, abuiltin, alen, Option.map_some, Option.map_none, orElse_some, apure_add, apure_eqlV, eqlVal_str, eqlVal_bool, eqlVal_ptr, eqlVal_slice, eqlVal_int, allT, ↓aop_eqlV, apure_neq, List.map_cons, List.map_nil, List.all_cons, List.all_nil, lit2, lit1, lit0, List.isEmpty_nil, Bool.and_self, Bool.and_true, Bool.true_and, Bool.false_and, Bool.and_false, Bool.not_true, Bool.not_false, Bool.or_true, Bool.true_or, Bool.false_or, Bool.or_false, Bool.false_eq_true, if_true, if_false, List.length_map, beq_self_eq_true, und3, und4, und5, und9, ptx51, ptx52 a0, ptx53 a0, ptx54 a0, ptf50, ptc50 a0, show ((5 : Int) == 0) = false from rfl, show ((5 : Int) == 1) = false from rfl, show ((5 : Int) == 2) = false from rfl, show ((5 : Int) == 3) = false from rfl, show ((5 : Int) == 4) = false from rfl, callP5, callY5, hP, hB, ldS, undSS, eql64, aextract, finish, ares, aresL, ares1]
  refine ⟨1 + 1, _, rfl, ?_, ?_⟩
  · rfl
  · exact Nat.le_of_ble_eq_true rfl
end Go.Am.Seat

/-
  WireReads: one round, over what its calls answer (own work).
-/
set_option linter.unusedSimpArgs false
set_option linter.unusedVariables false
namespace Go.Am.Seat
open Go.Proofs Go.Am
set_option maxRecDepth 100000

noncomputable def rwr_0 : Array Oper := match Try.f4.body with
  | some (.seq (.region _ o _) _) => o
  | _ => #[]
noncomputable def lwr_0 : List Oper := match Try.f4.body with
  | some (.seq (.region _ o _) _) => o.toList
  | _ => []
theorem ewr_0 : rwr_0.toList = lwr_0 := rfl
noncomputable def rwr_1 : Array Oper := match Try.f4.body with
  | some (.seq _ (.seq (.seq (.region _ o _) _) _)) => o
  | _ => #[]
noncomputable def lwr_1 : List Oper := match Try.f4.body with
  | some (.seq _ (.seq (.seq (.region _ o _) _) _)) => o.toList
  | _ => []
theorem ewr_1 : rwr_1.toList = lwr_1 := rfl
noncomputable def rwr_2 : Array Oper := match Try.f4.body with
  | some (.seq _ (.seq (.seq _ (.cond _ (.seq (.region _ o _) _) _)) _)) => o
  | _ => #[]
noncomputable def lwr_2 : List Oper := match Try.f4.body with
  | some (.seq _ (.seq (.seq _ (.cond _ (.seq (.region _ o _) _) _)) _)) => o.toList
  | _ => []
theorem ewr_2 : rwr_2.toList = lwr_2 := rfl
noncomputable def rwr_3 : Array Oper := match Try.f4.body with
  | some (.seq _ (.seq _ (.seq (.seq (.region _ o _) _) _))) => o
  | _ => #[]
noncomputable def lwr_3 : List Oper := match Try.f4.body with
  | some (.seq _ (.seq _ (.seq (.seq (.region _ o _) _) _))) => o.toList
  | _ => []
theorem ewr_3 : rwr_3.toList = lwr_3 := rfl
noncomputable def rwr_4 : Array Oper := match Try.f4.body with
  | some (.seq _ (.seq _ (.seq (.seq _ (.cond _ (.seq (.region _ o _) _) _)) _))) => o
  | _ => #[]
noncomputable def lwr_4 : List Oper := match Try.f4.body with
  | some (.seq _ (.seq _ (.seq (.seq _ (.cond _ (.seq (.region _ o _) _) _)) _))) => o.toList
  | _ => []
theorem ewr_4 : rwr_4.toList = lwr_4 := rfl
noncomputable def rwr_5 : Array Oper := match Try.f4.body with
  | some (.seq _ (.seq _ (.seq _ (.seq (.seq (.region _ o _) _) _)))) => o
  | _ => #[]
noncomputable def lwr_5 : List Oper := match Try.f4.body with
  | some (.seq _ (.seq _ (.seq _ (.seq (.seq (.region _ o _) _) _)))) => o.toList
  | _ => []
theorem ewr_5 : rwr_5.toList = lwr_5 := rfl
noncomputable def lpwr_0 : Code := match Try.f4.body with
  | some (.seq _ (.seq _ (.seq _ (.seq (.seq _ (.block _ (.loop c))) _)))) => c
  | _ => .skip
noncomputable def rwr_6 : Array Oper := match Try.f4.body with
  | some (.seq _ (.seq _ (.seq _ (.seq (.seq _ (.block _ (.loop (.seq (.region _ o _) _)))) _)))) => o
  | _ => #[]
noncomputable def lwr_6 : List Oper := match Try.f4.body with
  | some (.seq _ (.seq _ (.seq _ (.seq (.seq _ (.block _ (.loop (.seq (.region _ o _) _)))) _)))) => o.toList
  | _ => []
theorem ewr_6 : rwr_6.toList = lwr_6 := rfl
noncomputable def rwr_7 : Array Oper := match Try.f4.body with
  | some (.seq _ (.seq _ (.seq _ (.seq (.seq _ (.block _ (.loop (.seq _ (.seq _ (.seq (.block _ (.seq (.region _ o _) _)) _)))))) _)))) => o
  | _ => #[]
noncomputable def lwr_7 : List Oper := match Try.f4.body with
  | some (.seq _ (.seq _ (.seq _ (.seq (.seq _ (.block _ (.loop (.seq _ (.seq _ (.seq (.block _ (.seq (.region _ o _) _)) _)))))) _)))) => o.toList
  | _ => []
theorem ewr_7 : rwr_7.toList = lwr_7 := rfl
noncomputable def rwr_8 : Array Oper := match Try.f4.body with
  | some (.seq _ (.seq _ (.seq _ (.seq (.seq _ (.block _ (.loop (.seq _ (.seq _ (.seq (.block _ (.seq _ (.seq (.region _ o _) _))) _)))))) _)))) => o
  | _ => #[]
noncomputable def lwr_8 : List Oper := match Try.f4.body with
  | some (.seq _ (.seq _ (.seq _ (.seq (.seq _ (.block _ (.loop (.seq _ (.seq _ (.seq (.block _ (.seq _ (.seq (.region _ o _) _))) _)))))) _)))) => o.toList
  | _ => []
theorem ewr_8 : rwr_8.toList = lwr_8 := rfl
noncomputable def rwr_9 : Array Oper := match Try.f4.body with
  | some (.seq _ (.seq _ (.seq _ (.seq (.seq _ (.block _ (.loop (.seq _ (.seq _ (.seq (.block _ (.seq _ (.seq _ (.seq (.region _ o _) _)))) _)))))) _)))) => o
  | _ => #[]
noncomputable def lwr_9 : List Oper := match Try.f4.body with
  | some (.seq _ (.seq _ (.seq _ (.seq (.seq _ (.block _ (.loop (.seq _ (.seq _ (.seq (.block _ (.seq _ (.seq _ (.seq (.region _ o _) _)))) _)))))) _)))) => o.toList
  | _ => []
theorem ewr_9 : rwr_9.toList = lwr_9 := rfl
noncomputable def rwr_10 : Array Oper := match Try.f4.body with
  | some (.seq _ (.seq _ (.seq _ (.seq (.seq _ (.block _ (.loop (.seq _ (.seq _ (.seq (.block _ (.seq _ (.seq _ (.seq _ (.seq (.seq (.region _ o _) _) _))))) _)))))) _)))) => o
  | _ => #[]
noncomputable def lwr_10 : List Oper := match Try.f4.body with
  | some (.seq _ (.seq _ (.seq _ (.seq (.seq _ (.block _ (.loop (.seq _ (.seq _ (.seq (.block _ (.seq _ (.seq _ (.seq _ (.seq (.seq (.region _ o _) _) _))))) _)))))) _)))) => o.toList
  | _ => []
theorem ewr_10 : rwr_10.toList = lwr_10 := rfl
noncomputable def rwr_11 : Array Oper := match Try.f4.body with
  | some (.seq _ (.seq _ (.seq _ (.seq (.seq _ (.block _ (.loop (.seq _ (.seq _ (.seq (.block _ (.seq _ (.seq _ (.seq _ (.seq (.seq _ (.cond _ (.seq (.region _ o _) _) _)) _))))) _)))))) _)))) => o
  | _ => #[]
noncomputable def lwr_11 : List Oper := match Try.f4.body with
  | some (.seq _ (.seq _ (.seq _ (.seq (.seq _ (.block _ (.loop (.seq _ (.seq _ (.seq (.block _ (.seq _ (.seq _ (.seq _ (.seq (.seq _ (.cond _ (.seq (.region _ o _) _) _)) _))))) _)))))) _)))) => o.toList
  | _ => []
theorem ewr_11 : rwr_11.toList = lwr_11 := rfl
noncomputable def rwr_12 : Array Oper := match Try.f4.body with
  | some (.seq _ (.seq _ (.seq _ (.seq (.seq _ (.block _ (.loop (.seq _ (.seq _ (.seq (.block _ (.seq _ (.seq _ (.seq _ (.seq _ (.seq (.seq (.region _ o _) _) _)))))) _)))))) _)))) => o
  | _ => #[]
noncomputable def lwr_12 : List Oper := match Try.f4.body with
  | some (.seq _ (.seq _ (.seq _ (.seq (.seq _ (.block _ (.loop (.seq _ (.seq _ (.seq (.block _ (.seq _ (.seq _ (.seq _ (.seq _ (.seq (.seq (.region _ o _) _) _)))))) _)))))) _)))) => o.toList
  | _ => []
theorem ewr_12 : rwr_12.toList = lwr_12 := rfl
theorem gwr_12_2 {T : List Value} {dd : Option Tmp} {op : Op} {ty : TypeId} {pos : String} {af : Array Edge} {want : Bool} : agd rwr_12 T { dst := dd, op := op, type := ty, pos := pos, after := af, guard := some (2, want) } = gdAt T 38 want := agd_at (by kernel_rfl)
theorem gwr_12_7 {T : List Value} {dd : Option Tmp} {op : Op} {ty : TypeId} {pos : String} {af : Array Edge} {want : Bool} : agd rwr_12 T { dst := dd, op := op, type := ty, pos := pos, after := af, guard := some (7, want) } = gdAt T 43 want := agd_at (by kernel_rfl)
theorem gwr_12_11 {T : List Value} {dd : Option Tmp} {op : Op} {ty : TypeId} {pos : String} {af : Array Edge} {want : Bool} : agd rwr_12 T { dst := dd, op := op, type := ty, pos := pos, after := af, guard := some (11, want) } = gdAt T 47 want := agd_at (by kernel_rfl)
noncomputable def rwr_13 : Array Oper := match Try.f4.body with
  | some (.seq _ (.seq _ (.seq _ (.seq (.seq _ (.block _ (.loop (.seq _ (.seq _ (.seq (.block _ (.seq _ (.seq _ (.seq _ (.seq _ (.seq (.seq _ (.cond _ (.seq (.region _ o _) _) _)) _)))))) _)))))) _)))) => o
  | _ => #[]
noncomputable def lwr_13 : List Oper := match Try.f4.body with
  | some (.seq _ (.seq _ (.seq _ (.seq (.seq _ (.block _ (.loop (.seq _ (.seq _ (.seq (.block _ (.seq _ (.seq _ (.seq _ (.seq _ (.seq (.seq _ (.cond _ (.seq (.region _ o _) _) _)) _)))))) _)))))) _)))) => o.toList
  | _ => []
theorem ewr_13 : rwr_13.toList = lwr_13 := rfl
noncomputable def rwr_14 : Array Oper := match Try.f4.body with
  | some (.seq _ (.seq _ (.seq _ (.seq (.seq _ (.block _ (.loop (.seq _ (.seq _ (.seq (.block _ (.seq _ (.seq _ (.seq _ (.seq _ (.seq _ (.seq (.region _ o _) _))))))) _)))))) _)))) => o
  | _ => #[]
noncomputable def lwr_14 : List Oper := match Try.f4.body with
  | some (.seq _ (.seq _ (.seq _ (.seq (.seq _ (.block _ (.loop (.seq _ (.seq _ (.seq (.block _ (.seq _ (.seq _ (.seq _ (.seq _ (.seq _ (.seq (.region _ o _) _))))))) _)))))) _)))) => o.toList
  | _ => []
theorem ewr_14 : rwr_14.toList = lwr_14 := rfl
theorem gwr_14_2 {T : List Value} {dd : Option Tmp} {op : Op} {ty : TypeId} {pos : String} {af : Array Edge} {want : Bool} : agd rwr_14 T { dst := dd, op := op, type := ty, pos := pos, after := af, guard := some (2, want) } = gdAt T 55 want := agd_at (by kernel_rfl)
theorem gwr_14_11 {T : List Value} {dd : Option Tmp} {op : Op} {ty : TypeId} {pos : String} {af : Array Edge} {want : Bool} : agd rwr_14 T { dst := dd, op := op, type := ty, pos := pos, after := af, guard := some (11, want) } = gdAt T 64 want := agd_at (by kernel_rfl)
theorem gwr_14_17 {T : List Value} {dd : Option Tmp} {op : Op} {ty : TypeId} {pos : String} {af : Array Edge} {want : Bool} : agd rwr_14 T { dst := dd, op := op, type := ty, pos := pos, after := af, guard := some (17, want) } = gdAt T 70 want := agd_at (by kernel_rfl)
noncomputable def rwr_15 : Array Oper := match Try.f4.body with
  | some (.seq _ (.seq _ (.seq _ (.seq (.seq _ (.block _ (.loop (.seq _ (.seq _ (.seq (.block _ (.seq _ (.seq _ (.seq _ (.seq _ (.seq _ (.seq _ (.cond _ (.seq (.region _ o _) _) _)))))))) _)))))) _)))) => o
  | _ => #[]
noncomputable def lwr_15 : List Oper := match Try.f4.body with
  | some (.seq _ (.seq _ (.seq _ (.seq (.seq _ (.block _ (.loop (.seq _ (.seq _ (.seq (.block _ (.seq _ (.seq _ (.seq _ (.seq _ (.seq _ (.seq _ (.cond _ (.seq (.region _ o _) _) _)))))))) _)))))) _)))) => o.toList
  | _ => []
theorem ewr_15 : rwr_15.toList = lwr_15 := rfl
noncomputable def rwr_16 : Array Oper := match Try.f4.body with
  | some (.seq _ (.seq _ (.seq _ (.seq (.seq _ (.block _ (.loop (.seq _ (.seq _ (.seq _ (.region _ o _))))))) _)))) => o
  | _ => #[]
noncomputable def lwr_16 : List Oper := match Try.f4.body with
  | some (.seq _ (.seq _ (.seq _ (.seq (.seq _ (.block _ (.loop (.seq _ (.seq _ (.seq _ (.region _ o _))))))) _)))) => o.toList
  | _ => []
theorem ewr_16 : rwr_16.toList = lwr_16 := rfl
theorem lpwr_0_eq : lpwr_0 = (.seq (.region 6 rwr_6 false) (.seq (.cond (.tmp 16) .skip (.exit 0)) (.seq (.block 1 (.seq (.region 7 rwr_7 false) (.seq (.region 8 rwr_8 false) (.seq (.region 9 rwr_9 false) (.seq (.seq (.region 10 rwr_10 false) (.cond (.tmp 35) (.seq (.region 11 rwr_11 false) .ret) .skip)) (.seq (.seq (.region 12 rwr_12 false) (.cond (.tmp 52) (.seq (.region 13 rwr_13 false) .ret) .skip)) (.seq (.region 14 rwr_14 false) (.cond (.tmp 74) (.seq (.region 15 rwr_15 false) .ret) .skip)))))))) (.region 16 rwr_16 false)))) := rfl
noncomputable def rwr_17 : Array Oper := match Try.f4.body with
  | some (.seq _ (.seq _ (.seq _ (.seq _ (.seq (.region _ o _) _))))) => o
  | _ => #[]
noncomputable def lwr_17 : List Oper := match Try.f4.body with
  | some (.seq _ (.seq _ (.seq _ (.seq _ (.seq (.region _ o _) _))))) => o.toList
  | _ => []
theorem ewr_17 : rwr_17.toList = lwr_17 := rfl
theorem bodywr : Try.f4.body = some (.seq (.region 0 rwr_0 false) (.seq (.seq (.region 1 rwr_1 false) (.cond (.tmp 11) (.seq (.region 2 rwr_2 false) .ret) .skip)) (.seq (.seq (.region 3 rwr_3 false) (.cond (.tmp 14) (.seq (.region 4 rwr_4 false) .ret) .skip)) (.seq (.seq (.region 5 rwr_5 false) (.block 0 (.loop lpwr_0))) (.seq (.region 17 rwr_17 false) .ret))))) := rfl
-- ntmps 76
theorem callPt : callableB E.P 12 = true := by kernel_rfl

section
variable {self : Self} {nf : Nat} {M M1 M2 M3 M4 M5 M6 : Mem} {F : Nat → Value} {s t : ByteArray} {k e f : Nat} {v1 v2 v3 v4 : Value}
theorem wr_good (hk : k < 6) (h0 : F 0 = .string s) (h15 : F 15 = .int .i64 (k : Nat))
    (hpt : ainv E self 12 [.string s, .int .i64 (k : Nat)] M = some (.tuple ⟨[v1, .string s, .int .i64 0, .int .i64 0]⟩, M1))
    (hsz : ainv E self 13 [.int .i64 (k : Nat)] M1 = some (v2, M2))
    (hsp : ainv E self 8 [.string s, v2] M2 = some (.tuple ⟨[v3, .int .i64 0]⟩, M3))
    (hal : ainv E self 11 [v1, v3] M3 = some (.bool true, M3)) :
    ∃ F', acodeN E self nf lpwr_0 (lst F 76) M = some (.normal, lst F' 76, M3) ∧ F' 0 = F 0 ∧ F' 15 = .int .i64 ((k + 1 : Nat) : Int) := by
  have hlt : decide (((k : Nat) : Int) < 6) = true := decide_eq_true (by omega)
  have e1 : wrapF .i64 (((k : Nat) : Int) + 1) = ((k + 1 : Nat) : Int) := by rw [wrap_i64 (by omega) (by omega)]; omega
  simp only [lpwr_0_eq, ewr_0, ewr_1, ewr_10, ewr_11, ewr_12, ewr_13, ewr_14, ewr_15, ewr_16, ewr_17, ewr_2, ewr_3, ewr_4, ewr_5, ewr_6, ewr_7, ewr_8, ewr_9, lwr_0, lwr_1, lwr_2, lwr_3, lwr_4, lwr_5, lwr_6, lwr_7, lwr_8, lwr_9, lwr_10, lwr_11, lwr_12, lwr_13, lwr_14, lwr_15, lwr_16, lwr_17, gwr_12_11, gwr_12_2, gwr_12_7, gwr_14_11, gwr_14_17, gwr_14_2, agd_none, gdAt, gdV_bool, gdV_undef, Try.f4, List.append_eq, List.cons_append, List.nil_append, apure_call1, apure_call2, apure_call3, bft, btf, acodeN, List.getElem?_toArray, List.getElem?_cons_zero, List.getElem?_cons_succ, aopsN, adrawT, cls, astep, aop, afloat, ev, nth_lst, get_lst, aput, setAt_lst, upd_at, init_zero, init_succ, init_nil, Nat.reduceLT, Nat.reduceEqDiff, reduceIte, abuiltin, alen, Option.map_some, Option.map_none, orElse_some, apure_add, apure_eqlV, eqlVal_str, eqlVal_bool, eqlVal_ptr, eqlVal_slice, eqlVal_int, allT, ↓aop_eqlV, apure_neq, List.map_cons, List.map_nil, List.all_cons, List.all_nil, lit2, lit1, lit0, List.isEmpty_nil, Bool.and_self, Bool.and_true, Bool.true_and, Bool.false_and, Bool.and_false, Bool.not_true, Bool.not_false, Bool.or_true, Bool.true_or, Bool.false_or, Bool.or_false, Bool.false_eq_true, if_true, if_false, List.length_map, beq_self_eq_true, und3, und4, und5, und9, h0, h15, hlt, callPt, callSz, callRS11, callSEq, callCc, hpt, hsz, hsp, hal, aextract, selfEq, selfEqI, selfNe, eql64, neq64, lss64, add64', e1]
  exact ⟨_, rfl, by simp only [upd_at, Nat.reduceEqDiff, reduceIte, h0], by simp only [upd_at, Nat.reduceEqDiff, reduceIte]⟩
theorem wr_bad {b1 c c2 c3 : Nat} {b5 b6 : Nat} (hk : k < 6) (he : e ≠ 0) (h0 : F 0 = .string s) (h15 : F 15 = .int .i64 (k : Nat))
    (hpt : ainv E self 12 [.string s, .int .i64 (k : Nat)] M = some (.tuple ⟨[.slice (some ⟨b1, 0, none⟩) c c3, .string t, .int .i64 (e : Nat), .int .i64 4]⟩, M1))
    (hsz : ainv E self 13 [.int .i64 (k : Nat)] M1 = some (v2, M2))
    (hsp : ainv E self 8 [.string s, v2] M2 = some (.tuple ⟨[v3, .int .i64 (e : Nat)]⟩, M3))
    (hbs : abuildSlice E.P 71 1 [(0, .slice (some ⟨b1, 0, none⟩) c c3)] M3 = some (v4, M4))
    (hcc : ainv E self 14 [v4] M4 = some (.slice (some ⟨b5, 0, none⟩) c c, M5))
    (hsz2 : ainv E self 13 [.int .i64 (k : Nat)] M5 = some (.slice (some ⟨b6, 0, none⟩) c c2, M6))
    (hc : 0 < c) (hx : cellAt M6 b1 (0 + 0) = some (.string ⟨#[]⟩)) :
    ∃ F', acodeN E self nf lpwr_0 (lst F 76) M = some (.normal, lst F' 76, M6) ∧ F' 0 = F 0 ∧ F' 15 = .int .i64 ((k + 1 : Nat) : Int) := by
  have hlt : decide (((k : Nat) : Int) < 6) = true := decide_eq_true (by omega)
  have e1 : wrapF .i64 (((k : Nat) : Int) + 1) = ((k + 1 : Nat) : Int) := by rw [wrap_i64 (by omega) (by omega)]; omega
  have q1 : (((e : Nat) : Int) != 0) = true := by
    have : ((e : Nat) : Int) ≠ 0 := by omega
    simpa using this
  have q2 : (((e : Nat) : Int) == 0) = false := by
    have : ((e : Nat) : Int) ≠ 0 := by omega
    simpa using this
  have ix := ixSS (p := b1) (o := 0) (L := c) (c := c3) (i := 0) hc
  rw [show (((0 : Nat) : Int)) = 0 from rfl] at ix
  simp only [lpwr_0_eq, ewr_0, ewr_1, ewr_10, ewr_11, ewr_12, ewr_13, ewr_14, ewr_15, ewr_16, ewr_17, ewr_2, ewr_3, ewr_4, ewr_5, ewr_6, ewr_7, ewr_8, ewr_9, lwr_0, lwr_1, lwr_2, lwr_3, lwr_4, lwr_5, lwr_6, lwr_7, lwr_8, lwr_9, lwr_10, lwr_11, lwr_12, lwr_13, lwr_14, lwr_15, lwr_16, lwr_17, gwr_12_11, gwr_12_2, gwr_12_7, gwr_14_11, gwr_14_17, gwr_14_2, agd_none, gdAt, gdV_bool, gdV_undef, Try.f4, List.append_eq, List.cons_append, List.nil_append, apure_call1, apure_call2, apure_call3, bft, btf, acodeN, List.getElem?_toArray, List.getElem?_cons_zero, List.getElem?_cons_succ, aopsN, adrawT, cls, astep, aop, afloat, ev, nth_lst, get_lst, aput, setAt_lst, upd_at, init_zero, init_succ, init_nil, Nat.reduceLT, Nat.reduceEqDiff, reduceIte, abuiltin, alen, Option.map_some, Option.map_none, orElse_some, apure_add, apure_eqlV, eqlVal_str, eqlVal_bool, eqlVal_ptr, eqlVal_slice, eqlVal_int, allT, ↓aop_eqlV, apure_neq, List.map_cons, List.map_nil, List.all_cons, List.all_nil, lit2, lit1, lit0, List.isEmpty_nil, Bool.and_self, Bool.and_true, Bool.true_and, Bool.false_and, Bool.and_false, Bool.not_true, Bool.not_false, Bool.or_true, Bool.true_or, Bool.false_or, Bool.or_false, Bool.false_eq_true, if_true, if_false, List.length_map, beq_self_eq_true, und3, und4, und5, und9, h0, h15, hlt, callPt, callSz, callRS11, callSEq, callCc, hpt, hsz, hsp, hbs, hcc, hsz2, hx, ix, ldS, undSS, undIS, q1, q2, aextract, selfEq, selfEqI, selfNe, eql64, neq64, lss64, add64', e1]
  exact ⟨_, rfl, by simp only [upd_at, Nat.reduceEqDiff, reduceIte, h0], by simp only [upd_at, Nat.reduceEqDiff, reduceIte]⟩
end
end Go.Am.Seat

/-
  WireReads: its calls, all rounds, the whole law (own work).
-/
set_option linter.unusedSimpArgs false
set_option linter.unusedVariables false
namespace Go.Am.Seat
open Go.Proofs Go.Am
set_option maxRecDepth 100000

theorem acoll_quad {m m1 : Mem} {n b k c : Nat} {ro : Bool} {e : TypeId} {cs : List Value} {s : ByteArray} {kd kd2 : IntKind} {z z2 : Int} (hb : n ≤ b) (hm : m1[b]? = some (.row ro e cs)) (hc : cs.all lit0 = true) :
    acoll m n (.tuple ⟨[.slice (some ⟨b, 0, none⟩) k c, .string s, .int kd z, .int kd2 z2]⟩) m1 = some (.tuple ⟨[.slice (some ⟨m.length, 0, none⟩) k c, .string s, .int kd z, .int kd2 z2]⟩, m ++ [.row ro e cs]) := by
  have hnb : ¬ b < n := by omega
  unfold acoll
  rw [if_neg (by simp [lit2, lit1, lit0])]
  have h1 : idsL n (partsOf (.tuple ⟨[.slice (some ⟨b, 0, none⟩) k c, .string s, .int kd z, .int kd2 z2]⟩)) [] = [b] := by
    show idsL n [.string s, .int kd z, .int kd2 z2] (addIds (idOf n (.slice (some ⟨b, 0, none⟩) k c)) []) = [b]
    have e2 : addIds (idOf n (.slice (some ⟨b, 0, none⟩) k c)) [] = [b] := by simp [idOf, hnb, addIds]
    rw [e2]
    rfl
  have h2 : closeIds n m1 2 [b] = [b] := by
    simp only [closeIds, List.foldl_cons, List.foldl_nil, hm, idsL_lit cs [b] hc]
  simp only [h1, h2]
  rw [if_pos (by simp [nodupB, hb])]
  have h3 : rid n m.length [b] b = some m.length := by
    unfold rid
    rw [if_neg hnb]
    simp [List.idxOf?]
  have h4 : ∀ kd z, ren2 n m.length [b] (.int kd z) = some (.int kd z) := fun _ _ => rfl
  have h6 : ren2 n m.length [b] (.string s) = some (.string s) := rfl
  have h5 : ren2 n m.length [b] (.slice (some ⟨b, 0, none⟩) k c) = some (.slice (some ⟨m.length, 0, none⟩) k c) := by simp only [ren2, ren1, h3]
  simp only [renB, hm, renL_id cs hc, ren3, renT, h4, h5, h6]

theorem buildL (b c c3 : Nat) (m : Mem) : abuildSlice E.P 71 1 [(0, .slice (some ⟨b, 0, none⟩) c c3)] m = some (.slice (some ⟨m.length, 0, none⟩) 1 1, m ++ [.row false 23 [.slice (some ⟨b, 0, none⟩) c c3]]) := by kernel_rfl

/-- The parts' lengths of the messages. -/
def szs11 (k : Nat) : List Int := match k with
  | 0 => [32]
  | 1 => [32, 32]
  | 2 => [32, 64, 96]
  | 3 => [32, 32, 32]
  | 4 => [32, 32, 128, 32, 32, 64]
  | _ => [64]
theorem six {P : Nat → Prop} (h0 : P 0) (h1 : P 1) (h2 : P 2) (h3 : P 3) (h4 : P 4) (h5 : P 5) : ∀ k, k < 6 → P k := by
  intro k hk
  match k, hk with
  | 0, _ => exact h0
  | 1, _ => exact h1
  | 2, _ => exact h2
  | 3, _ => exact h3
  | 4, _ => exact h4
  | 5, _ => exact h5
theorem szs_cases : ∀ k, k < 6 → (szs11 k).length = 1 ∨ (szs11 k).length = 2 ∨ (szs11 k).length = 3 ∨ (szs11 k).length = 6 := six (by decide) (by decide) (by decide) (by decide) (by decide) (by decide)
theorem szs_wf : ∀ k, k < 6 → ∀ n ∈ szs11 k, (Lit.int .i64 n).wf = true := six (by decide) (by decide) (by decide) (by decide) (by decide) (by decide)
theorem szs_blank : ∀ k, k < 6 → joinE (szs11 k) ((szs11 k).map fun _ => (⟨#[]⟩ : ByteArray)) = 4 := six rfl rfl rfl rfl rfl rfl

/-- What a text's parts are, or as many empty ones. -/
def mparts (szs : List Int) (s : ByteArray) : List ByteArray := if splitE s szs = 0 then splitL s szs else szs.map fun _ => ⟨#[]⟩
theorem mparts_len (szs : List Int) (s : ByteArray) : (mparts szs s).length = szs.length := by
  unfold mparts
  split
  · rename_i h
    unfold splitL
    rw [if_pos h]
    simp
  · simp
theorem mparts_small {szs : List Int} {s : ByteArray} (hs : s.data.toList.length ≤ 1000) : ∀ x ∈ mparts szs s, x.size ≤ 1000 := by
  have hz : s.size = s.data.toList.length := rfl
  intro x hx
  unfold mparts at hx
  split at hx
  · rename_i h
    unfold splitL at hx
    rw [if_pos h] at hx
    obtain ⟨i, _, rfl⟩ := List.mem_map.1 hx
    unfold cutAt
    rw [ByteArray.size_extract]
    omega
  · obtain ⟨i, _, rfl⟩ := List.mem_map.1 hx
    exact Nat.zero_le _

/-- A call that reads a message. -/
def CParse (f : FuncId) (szs : List Int) (self : Self) : Prop := ∀ (m : Mem) (s : ByteArray), Tabs m → s.data.toList.length ≤ 1000 → ainv E self f [.string s] m = some (.tuple ⟨[.agg ⟨(mparts szs s).map Value.string⟩, .int .i64 (splitE s szs : Nat)]⟩, m)
/-- The messages' calls. -/
structure CMsgs (sf : Self) : Prop where
  p0 : CParse 21 (szs11 0) sf
  b0 : CBytes 22 (szs11 0) sf
  p1 : CParse 23 (szs11 1) sf
  b1 : CBytes 24 (szs11 1) sf
  p2 : CParse 25 (szs11 2) sf
  b2 : CBytes 16 (szs11 2) sf
  p3 : CParse 26 (szs11 3) sf
  b3 : CBytes 18 (szs11 3) sf
  p4 : CParse 27 (szs11 4) sf
  b4 : CBytes 15 (szs11 4) sf
  p5 : CParse 28 (szs11 5) sf
  b5 : CBytes 29 (szs11 5) sf
theorem len1 {l : List ByteArray} (h : l.length = 1) : ∃ a0, l = [a0] := by
  match l, h with
  | [a0], _ => exact ⟨a0, rfl⟩
theorem len2 {l : List ByteArray} (h : l.length = 2) : ∃ a0 a1, l = [a0, a1] := by
  match l, h with
  | [a0, a1], _ => exact ⟨a0, a1, rfl⟩
theorem len3 {l : List ByteArray} (h : l.length = 3) : ∃ a0 a1 a2, l = [a0, a1, a2] := by
  match l, h with
  | [a0, a1, a2], _ => exact ⟨a0, a1, a2, rfl⟩
theorem len6 {l : List ByteArray} (h : l.length = 6) : ∃ a0 a1 a2 a3 a4 a5, l = [a0, a1, a2, a3, a4, a5] := by
  match l, h with
  | [a0, a1, a2, a3, a4, a5], _ => exact ⟨a0, a1, a2, a3, a4, a5, rfl⟩
theorem parts_run0 {s : ByteArray} (hs : s.data.toList.length ≤ 1000) (hm : CMsgs (runQ E mem0 [] 1999).1) : ∃ b mem, (runQ E mem0 [] 2000).1 12 [.string s, .int .i64 ((0 : Nat) : Int)] mem0 = some (.tuple ⟨[.slice (some ⟨b, 0, none⟩) (szs11 0).length (szs11 0).length, .string (joinS (szs11 0) (mparts (szs11 0) s)), .int .i64 (splitE s (szs11 0) : Nat), .int .i64 (joinE (szs11 0) (mparts (szs11 0) s) : Nat)]⟩, mem) ∧ mem[b]? = some (.row false 9 ((mparts (szs11 0) s).map Value.string)) ∧ 1 ≤ b := by
  obtain ⟨a0, ha⟩ := len1 (mparts_len (szs11 0) s)
  have hP := fun (M : Mem) (hM : Tabs M) => hm.p0 M s hM hs
  have hB := fun (M : Mem) (hM : Tabs M) => hm.b0 M (mparts (szs11 0) s) hM (mparts_len _ _) (mparts_small hs)
  simp only [ha, List.map_cons, List.map_nil] at hP hB ⊢
  obtain ⟨b, mem, h1, h2, h3⟩ := pt_0 (self := (runQ E mem0 [] 1999).1) (nf := 2000) s a0 _ _ _ hP hB
  exact ⟨b, mem, runQ_body h1, h2, h3⟩
theorem sizes_run0 : (runQ E mem0 [] 2000).1 13 [.int .i64 ((0 : Nat) : Int)] mem0 = some (.slice (some ⟨1, 0, none⟩) (szs11 0).length (szs11 0).length, mem0 ++ [.row false 3 ((szs11 0).map (Value.int .i64))]) := by kernel_rfl
theorem parts_run1 {s : ByteArray} (hs : s.data.toList.length ≤ 1000) (hm : CMsgs (runQ E mem0 [] 1999).1) : ∃ b mem, (runQ E mem0 [] 2000).1 12 [.string s, .int .i64 ((1 : Nat) : Int)] mem0 = some (.tuple ⟨[.slice (some ⟨b, 0, none⟩) (szs11 1).length (szs11 1).length, .string (joinS (szs11 1) (mparts (szs11 1) s)), .int .i64 (splitE s (szs11 1) : Nat), .int .i64 (joinE (szs11 1) (mparts (szs11 1) s) : Nat)]⟩, mem) ∧ mem[b]? = some (.row false 9 ((mparts (szs11 1) s).map Value.string)) ∧ 1 ≤ b := by
  obtain ⟨a0, a1, ha⟩ := len2 (mparts_len (szs11 1) s)
  have hP := fun (M : Mem) (hM : Tabs M) => hm.p1 M s hM hs
  have hB := fun (M : Mem) (hM : Tabs M) => hm.b1 M (mparts (szs11 1) s) hM (mparts_len _ _) (mparts_small hs)
  simp only [ha, List.map_cons, List.map_nil] at hP hB ⊢
  obtain ⟨b, mem, h1, h2, h3⟩ := pt_1 (self := (runQ E mem0 [] 1999).1) (nf := 2000) s a0 a1 _ _ _ hP hB
  exact ⟨b, mem, runQ_body h1, h2, h3⟩
theorem sizes_run1 : (runQ E mem0 [] 2000).1 13 [.int .i64 ((1 : Nat) : Int)] mem0 = some (.slice (some ⟨1, 0, none⟩) (szs11 1).length (szs11 1).length, mem0 ++ [.row false 3 ((szs11 1).map (Value.int .i64))]) := by kernel_rfl
theorem parts_run2 {s : ByteArray} (hs : s.data.toList.length ≤ 1000) (hm : CMsgs (runQ E mem0 [] 1999).1) : ∃ b mem, (runQ E mem0 [] 2000).1 12 [.string s, .int .i64 ((2 : Nat) : Int)] mem0 = some (.tuple ⟨[.slice (some ⟨b, 0, none⟩) (szs11 2).length (szs11 2).length, .string (joinS (szs11 2) (mparts (szs11 2) s)), .int .i64 (splitE s (szs11 2) : Nat), .int .i64 (joinE (szs11 2) (mparts (szs11 2) s) : Nat)]⟩, mem) ∧ mem[b]? = some (.row false 9 ((mparts (szs11 2) s).map Value.string)) ∧ 1 ≤ b := by
  obtain ⟨a0, a1, a2, ha⟩ := len3 (mparts_len (szs11 2) s)
  have hP := fun (M : Mem) (hM : Tabs M) => hm.p2 M s hM hs
  have hB := fun (M : Mem) (hM : Tabs M) => hm.b2 M (mparts (szs11 2) s) hM (mparts_len _ _) (mparts_small hs)
  simp only [ha, List.map_cons, List.map_nil] at hP hB ⊢
  obtain ⟨b, mem, h1, h2, h3⟩ := pt_2 (self := (runQ E mem0 [] 1999).1) (nf := 2000) s a0 a1 a2 _ _ _ hP hB
  exact ⟨b, mem, runQ_body h1, h2, h3⟩
theorem sizes_run2 : (runQ E mem0 [] 2000).1 13 [.int .i64 ((2 : Nat) : Int)] mem0 = some (.slice (some ⟨1, 0, none⟩) (szs11 2).length (szs11 2).length, mem0 ++ [.row false 3 ((szs11 2).map (Value.int .i64))]) := by kernel_rfl
theorem parts_run3 {s : ByteArray} (hs : s.data.toList.length ≤ 1000) (hm : CMsgs (runQ E mem0 [] 1999).1) : ∃ b mem, (runQ E mem0 [] 2000).1 12 [.string s, .int .i64 ((3 : Nat) : Int)] mem0 = some (.tuple ⟨[.slice (some ⟨b, 0, none⟩) (szs11 3).length (szs11 3).length, .string (joinS (szs11 3) (mparts (szs11 3) s)), .int .i64 (splitE s (szs11 3) : Nat), .int .i64 (joinE (szs11 3) (mparts (szs11 3) s) : Nat)]⟩, mem) ∧ mem[b]? = some (.row false 9 ((mparts (szs11 3) s).map Value.string)) ∧ 1 ≤ b := by
  obtain ⟨a0, a1, a2, ha⟩ := len3 (mparts_len (szs11 3) s)
  have hP := fun (M : Mem) (hM : Tabs M) => hm.p3 M s hM hs
  have hB := fun (M : Mem) (hM : Tabs M) => hm.b3 M (mparts (szs11 3) s) hM (mparts_len _ _) (mparts_small hs)
  simp only [ha, List.map_cons, List.map_nil] at hP hB ⊢
  obtain ⟨b, mem, h1, h2, h3⟩ := pt_3 (self := (runQ E mem0 [] 1999).1) (nf := 2000) s a0 a1 a2 _ _ _ hP hB
  exact ⟨b, mem, runQ_body h1, h2, h3⟩
theorem sizes_run3 : (runQ E mem0 [] 2000).1 13 [.int .i64 ((3 : Nat) : Int)] mem0 = some (.slice (some ⟨1, 0, none⟩) (szs11 3).length (szs11 3).length, mem0 ++ [.row false 3 ((szs11 3).map (Value.int .i64))]) := by kernel_rfl
theorem parts_run4 {s : ByteArray} (hs : s.data.toList.length ≤ 1000) (hm : CMsgs (runQ E mem0 [] 1999).1) : ∃ b mem, (runQ E mem0 [] 2000).1 12 [.string s, .int .i64 ((4 : Nat) : Int)] mem0 = some (.tuple ⟨[.slice (some ⟨b, 0, none⟩) (szs11 4).length (szs11 4).length, .string (joinS (szs11 4) (mparts (szs11 4) s)), .int .i64 (splitE s (szs11 4) : Nat), .int .i64 (joinE (szs11 4) (mparts (szs11 4) s) : Nat)]⟩, mem) ∧ mem[b]? = some (.row false 9 ((mparts (szs11 4) s).map Value.string)) ∧ 1 ≤ b := by
  obtain ⟨a0, a1, a2, a3, a4, a5, ha⟩ := len6 (mparts_len (szs11 4) s)
  have hP := fun (M : Mem) (hM : Tabs M) => hm.p4 M s hM hs
  have hB := fun (M : Mem) (hM : Tabs M) => hm.b4 M (mparts (szs11 4) s) hM (mparts_len _ _) (mparts_small hs)
  simp only [ha, List.map_cons, List.map_nil] at hP hB ⊢
  obtain ⟨b, mem, h1, h2, h3⟩ := pt_4 (self := (runQ E mem0 [] 1999).1) (nf := 2000) s a0 a1 a2 a3 a4 a5 _ _ _ hP hB
  exact ⟨b, mem, runQ_body h1, h2, h3⟩
theorem sizes_run4 : (runQ E mem0 [] 2000).1 13 [.int .i64 ((4 : Nat) : Int)] mem0 = some (.slice (some ⟨1, 0, none⟩) (szs11 4).length (szs11 4).length, mem0 ++ [.row false 3 ((szs11 4).map (Value.int .i64))]) := by kernel_rfl
theorem parts_run5 {s : ByteArray} (hs : s.data.toList.length ≤ 1000) (hm : CMsgs (runQ E mem0 [] 1999).1) : ∃ b mem, (runQ E mem0 [] 2000).1 12 [.string s, .int .i64 ((5 : Nat) : Int)] mem0 = some (.tuple ⟨[.slice (some ⟨b, 0, none⟩) (szs11 5).length (szs11 5).length, .string (joinS (szs11 5) (mparts (szs11 5) s)), .int .i64 (splitE s (szs11 5) : Nat), .int .i64 (joinE (szs11 5) (mparts (szs11 5) s) : Nat)]⟩, mem) ∧ mem[b]? = some (.row false 9 ((mparts (szs11 5) s).map Value.string)) ∧ 1 ≤ b := by
  obtain ⟨a0, ha⟩ := len1 (mparts_len (szs11 5) s)
  have hP := fun (M : Mem) (hM : Tabs M) => hm.p5 M s hM hs
  have hB := fun (M : Mem) (hM : Tabs M) => hm.b5 M (mparts (szs11 5) s) hM (mparts_len _ _) (mparts_small hs)
  simp only [ha, List.map_cons, List.map_nil] at hP hB ⊢
  obtain ⟨b, mem, h1, h2, h3⟩ := pt_5 (self := (runQ E mem0 [] 1999).1) (nf := 2000) s a0 _ _ _ hP hB
  exact ⟨b, mem, runQ_body h1, h2, h3⟩
theorem sizes_run5 : (runQ E mem0 [] 2000).1 13 [.int .i64 ((5 : Nat) : Int)] mem0 = some (.slice (some ⟨1, 0, none⟩) (szs11 5).length (szs11 5).length, mem0 ++ [.row false 3 ((szs11 5).map (Value.int .i64))]) := by kernel_rfl
theorem lits_ints (l : List Int) : (l.map (Value.int .i64)).all lit0 = true := by
  rw [List.all_map, List.all_eq_true]
  intro x _
  rfl
theorem sizes_call {M : Mem} (hM : Tabs M) : ∀ k, k < 6 → ainv E (runQ E mem0 [] 2000).1 13 [.int .i64 (k : Nat)] M = some (.slice (some ⟨M.length, 0, none⟩) (szs11 k).length (szs11 k).length, M ++ [.row false 3 ((szs11 k).map (Value.int .i64))]) := by
  intro k hk
  have h : (runQ E mem0 [] 2000).1 13 [.int .i64 (k : Nat)] mem0 = some (.slice (some ⟨1, 0, none⟩) (szs11 k).length (szs11 k).length, mem0 ++ [.row false 3 ((szs11 k).map (Value.int .i64))]) := six (P := fun k => (runQ E mem0 [] 2000).1 13 [.int .i64 (k : Nat)] mem0 = some (.slice (some ⟨1, 0, none⟩) (szs11 k).length (szs11 k).length, mem0 ++ [.row false 3 ((szs11 k).map (Value.int .i64))])) sizes_run0 sizes_run1 sizes_run2 sizes_run3 sizes_run4 sizes_run5 k hk
  rw [ainv_tabs rfl (by kernel_rfl) hM h]
  exact acoll_new (Nat.le_of_ble_eq_true (by kernel_rfl)) (by simp [show mem0.length = 1 from rfl]) (lits_ints _)
theorem parts_call {M : Mem} {s : ByteArray} (hM : Tabs M) (hs : s.data.toList.length ≤ 1000) (hm : CMsgs (runQ E mem0 [] 1999).1) : ∀ k, k < 6 → ainv E (runQ E mem0 [] 2000).1 12 [.string s, .int .i64 (k : Nat)] M = some (.tuple ⟨[.slice (some ⟨M.length, 0, none⟩) (szs11 k).length (szs11 k).length, .string (joinS (szs11 k) (mparts (szs11 k) s)), .int .i64 (splitE s (szs11 k) : Nat), .int .i64 (joinE (szs11 k) (mparts (szs11 k) s) : Nat)]⟩, M ++ [.row false 9 ((mparts (szs11 k) s).map Value.string)]) := by
  intro k hk
  obtain ⟨b, mem, h1, h2, h3⟩ := six (P := fun k => ∃ b mem, (runQ E mem0 [] 2000).1 12 [.string s, .int .i64 ((k : Nat) : Int)] mem0 = some (.tuple ⟨[.slice (some ⟨b, 0, none⟩) (szs11 k).length (szs11 k).length, .string (joinS (szs11 k) (mparts (szs11 k) s)), .int .i64 (splitE s (szs11 k) : Nat), .int .i64 (joinE (szs11 k) (mparts (szs11 k) s) : Nat)]⟩, mem) ∧ mem[b]? = some (.row false 9 ((mparts (szs11 k) s).map Value.string)) ∧ 1 ≤ b) (parts_run0 hs hm) (parts_run1 hs hm) (parts_run2 hs hm) (parts_run3 hs hm) (parts_run4 hs hm) (parts_run5 hs hm) k hk
  rw [ainv_tabs rfl (by kernel_rfl) hM h1]
  exact acoll_quad (by rw [show mem0.length = 1 from rfl]; exact h3) h2 (lits_texts _)

theorem wr_round {nf : Nat} {M : Mem} {F : Nat → Value} {s : ByteArray} {k : Nat} (hk : k < 6) (hM : Tabs M) (hg : E.G ≤ M.length) (h0 : F 0 = .string s) (h15 : F 15 = .int .i64 (k : Nat)) (hs : s.data.toList.length ≤ 1000) (hm : CMsgs (runQ E mem0 [] 1999).1) :
    ∃ F' M', acodeN E (runQ E mem0 [] 2000).1 nf lpwr_0 (lst F 76) M = some (.normal, lst F' 76, M') ∧ F' 0 = F 0 ∧ F' 15 = .int .i64 ((k + 1 : Nat) : Int) ∧ Kept M M' := by
  have hpt := parts_call hM hs hm k hk
  have hc := szs_cases k hk
  have hwf := szs_wf k hk
  have hbl := szs_blank k hk
  have hln := mparts_len (szs11 k) s
  have hK1 : Kept M (M ++ [Blk.row false 9 ((mparts (szs11 k) s).map Value.string)]) := Kept.app _ _
  have hR1 : RS (M ++ [Blk.row false 9 ((mparts (szs11 k) s).map Value.string)]) (.slice (some ⟨M.length, 0, none⟩) (szs11 k).length (szs11 k).length) ((mparts (szs11 k) s).map Value.string) := by
    have := RS.row (m := M ++ [Blk.row false 9 ((mparts (szs11 k) s).map Value.string)]) (b := M.length) (c := (szs11 k).length) (ro := false) (e := 9) (cs := (mparts (szs11 k) s).map Value.string) (by simp)
    rw [List.length_map, hln] at this
    exact this
  have hget1 : (M ++ [Blk.row false 9 ((mparts (szs11 k) s).map Value.string)])[M.length]? = some (.row false 9 ((mparts (szs11 k) s).map Value.string)) := by simp
  have hlt1 : M.length < (M ++ [Blk.row false 9 ((mparts (szs11 k) s).map Value.string)]).length := by simp
  generalize (M ++ [Blk.row false 9 ((mparts (szs11 k) s).map Value.string)]) = M1 at *
  have hg1 : E.G ≤ M1.length := Nat.le_trans hg hK1.1
  have hM1 := hM.keep hg hK1
  have hsz := sizes_call hM1 k hk
  have hK2 : Kept M1 (M1 ++ [Blk.row false 3 ((szs11 k).map (Value.int .i64))]) := Kept.app _ _
  have hR2 : RS (M1 ++ [Blk.row false 3 ((szs11 k).map (Value.int .i64))]) (.slice (some ⟨M1.length, 0, none⟩) (szs11 k).length (szs11 k).length) ((szs11 k).map (Value.int .i64)) := by
    have := RS.row (m := M1 ++ [Blk.row false 3 ((szs11 k).map (Value.int .i64))]) (b := M1.length) (c := (szs11 k).length) (ro := false) (e := 3) (cs := (szs11 k).map (Value.int .i64)) (by simp)
    rw [List.length_map] at this
    exact this
  generalize (M1 ++ [Blk.row false 3 ((szs11 k).map (Value.int .i64))]) = M2 at *
  have c2 : CSplit 8 (runQ E mem0 [] 2000).1 := csplit_ref (n := 1999) (by omega)
  have c5 : CAlike 11 (runQ E mem0 [] 2000).1 := calike (n := 1999) (by omega)
  obtain ⟨v3, M3, hsp, hR3, hK3⟩ := c2 M2 s (szs11 k) _ hR2 (by omega) hs hwf
  have hK13 := hK2.trans hK3
  have hK03 := hK1.trans hK13
  by_cases he : splitE s (szs11 k) = 0
  · obtain ⟨j1, j2⟩ := split_join he
    have hl : mparts (szs11 k) s = splitL s (szs11 k) := if_pos he
    have hal := c5 M3 _ _ _ _ (hR1.keep hK13) hR3 (by omega) (by rw [← hl]; omega)
    rw [hl, show decide (splitL s (szs11 k) = splitL s (szs11 k)) = true from by simp] at hal
    rw [hl, j1, j2, he] at hpt
    rw [he] at hsp
    obtain ⟨F', hr, f0, f15⟩ := wr_good (nf := nf) (F := F) hk h0 h15 hpt hsz hsp hal
    exact ⟨F', M3, hr, f0, f15, hK03⟩
  · have hl : mparts (szs11 k) s = (szs11 k).map fun _ => ⟨#[]⟩ := if_neg he
    have hM3 := hM.keep hg hK03
    have hg3 : E.G ≤ M3.length := Nat.le_trans hg hK03.1
    have hbs := buildL M.length (szs11 k).length (szs11 k).length M3
    have hK4 : Kept M3 (M3 ++ [Blk.row false 23 [.slice (some ⟨M.length, 0, none⟩) (szs11 k).length (szs11 k).length]]) := Kept.app _ _
    have hget3 : M3[M.length]? = some (.row false 9 ((mparts (szs11 k) s).map Value.string)) := by rw [hK13.2 _ hlt1]; exact hget1
    have hlt3 : M.length < M3.length := (List.getElem?_eq_some_iff.1 hget3).1
    have hcc := concat1 (k := (szs11 k).length) hc (M := M3 ++ [Blk.row false 23 [.slice (some ⟨M.length, 0, none⟩) (szs11 k).length (szs11 k).length]]) (hM3.keep hg3 hK4) (b := M3.length) (b2 := M.length) (ro := false) (ro2 := false) (l := mparts (szs11 k) s) (by simp) (by rw [hK4.2 _ hlt3]; exact hget3) hln
    generalize (M3 ++ [Blk.row false 23 [.slice (some ⟨M.length, 0, none⟩) (szs11 k).length (szs11 k).length]]) = M4 at *
    have hg4 : E.G ≤ M4.length := Nat.le_trans hg3 hK4.1
    have hM4 := hM3.keep hg3 hK4
    have hK5 : Kept M4 (M4 ++ [Blk.row false 9 ((mparts (szs11 k) s).map Value.string)]) := Kept.app _ _
    generalize (M4 ++ [Blk.row false 9 ((mparts (szs11 k) s).map Value.string)]) = M5 at *
    have hM5 := hM4.keep hg4 hK5
    have hsz2 := sizes_call hM5 k hk
    have hK6 : Kept M5 (M5 ++ [Blk.row false 3 ((szs11 k).map (Value.int .i64))]) := Kept.app _ _
    generalize (M5 ++ [Blk.row false 3 ((szs11 k).map (Value.int .i64))]) = M6 at *
    have hK36 := hK4.trans (hK5.trans hK6)
    have hx : cellAt M6 M.length (0 + 0) = some (.string ⟨#[]⟩) := by
      rw [cellAt_row (show M6[M.length]? = some (.row false 9 ((mparts (szs11 k) s).map Value.string)) by rw [hK36.2 _ hlt3]; exact hget3), hl]
      simp only [List.map_map, Nat.add_zero]
      rw [List.getElem?_map, List.getElem?_eq_getElem (by omega)]
      rfl
    rw [hl, hbl] at hpt
    obtain ⟨F', hr, f0, f15⟩ := wr_bad (nf := nf) (F := F) hk he h0 h15 hpt hsz hsp hbs hcc hsz2 (by omega) hx
    exact ⟨F', M6, hr, f0, f15, hK03.trans hK36⟩
end Go.Am.Seat

/-
  WireReads, whole over what its calls answer (own work).
-/
set_option linter.unusedSimpArgs false
set_option linter.unusedVariables false
namespace Go.Am.Seat
open Go.Proofs Go.Am
set_option maxRecDepth 100000

theorem wr_last {self : Self} {nf : Nat} {M : Mem} {F : Nat → Value} {k : Nat} (hk : 6 ≤ k) (h15 : F 15 = .int .i64 (k : Nat)) :
    ∃ F', acodeN E self nf lpwr_0 (lst F 76) M = some (.exit 0, lst F' 76, M) := by
  have hlt : decide (((k : Nat) : Int) < 6) = false := decide_eq_false (by omega)
  simp only [lpwr_0_eq, ewr_0, ewr_1, ewr_10, ewr_11, ewr_12, ewr_13, ewr_14, ewr_15, ewr_16, ewr_17, ewr_2, ewr_3, ewr_4, ewr_5, ewr_6, ewr_7, ewr_8, ewr_9, lwr_0, lwr_1, lwr_2, lwr_3, lwr_4, lwr_5, lwr_6, lwr_7, lwr_8, lwr_9, lwr_10, lwr_11, lwr_12, lwr_13, lwr_14, lwr_15, lwr_16, lwr_17, gwr_12_11, gwr_12_2, gwr_12_7, gwr_14_11, gwr_14_17, gwr_14_2, agd_none, gdAt, gdV_bool, gdV_undef, Try.f4, List.append_eq, List.cons_append, List.nil_append, apure_call1, apure_call2, apure_call3, bft, btf, acodeN, List.getElem?_toArray, List.getElem?_cons_zero, List.getElem?_cons_succ, aopsN, adrawT, cls, astep, aop, afloat, ev, nth_lst, get_lst, aput, setAt_lst, upd_at, init_zero, init_succ, init_nil, Nat.reduceLT, Nat.reduceEqDiff, reduceIte, abuiltin, alen, Option.map_some, Option.map_none, orElse_some, apure_add, apure_eqlV, eqlVal_str, eqlVal_bool, eqlVal_ptr, eqlVal_slice, eqlVal_int, allT, ↓aop_eqlV, apure_neq, List.map_cons, List.map_nil, List.all_cons, List.all_nil, lit2, lit1, lit0, List.isEmpty_nil, Bool.and_self, Bool.and_true, Bool.true_and, Bool.false_and, Bool.and_false, Bool.not_true, Bool.not_false, Bool.or_true, Bool.true_or, Bool.false_or, Bool.or_false, Bool.false_eq_true, if_true, if_false, List.length_map, beq_self_eq_true, und3, und4, und5, und9, h15, hlt, lss64]
  exact ⟨_, rfl⟩

theorem wr_loop {nf : Nat} {M : Mem} {F : Nat → Value} {s : ByteArray} (hnf : 1000 < nf) (hM : Tabs M) (hg : E.G ≤ M.length) (h0 : F 0 = .string s) (h15 : F 15 = .int .i64 0) (hs : s.data.toList.length ≤ 1000) (hm : CMsgs (runQ E mem0 [] 1999).1) :
    ∃ F' M', aloop (acodeN E (runQ E mem0 [] 2000).1 nf lpwr_0) nf (lst F 76) M = some (.exit 0, lst F' 76, M') := by
  have hloop := aloop_inv (body := acodeN E (runQ E mem0 [] 2000).1 nf lpwr_0) (N := 6)
    (I := fun i T m' => ∃ G, T = lst G 76 ∧ G 0 = .string s ∧ G 15 = .int .i64 (i : Nat) ∧ Tabs m' ∧ E.G ≤ m'.length)
    (Q := fun e T m' => e = .exit 0 ∧ ∃ F', T = lst F' 76) (fun i T m' hi hI => by
      obtain ⟨G, rfl, g0, g15, hT, hG⟩ := hI
      by_cases hlt : i < 6
      · left
        obtain ⟨F', M', hr, f0, f15, hK⟩ := wr_round (nf := nf) hlt hT hG g0 g15 hs hm
        exact ⟨_, _, hr, hlt, F', rfl, f0.trans g0, f15, hT.keep hG hK, Nat.le_trans hG hK.1⟩
      · right
        obtain ⟨F', hr⟩ := wr_last (self := (runQ E mem0 [] 2000).1) (nf := nf) (M := m') (by omega) g15
        exact ⟨_, _, _, hr, by simp, rfl, F', rfl⟩)
  obtain ⟨e, T', m', hr, rfl, F', rfl⟩ := hloop 6 0 nf (lst F 76) M (by omega) (by omega) ⟨F, rfl, h0, h15, hM, hg⟩
  exact ⟨F', m', hr⟩

theorem wr_body {nf : Nat} (s : ByteArray) (hnf : 1000 < nf) (hAw : ∀ m, Tabs m → ainv E (runQ E mem0 [] 2000).1 6 [] m = some (.bool true, m)) (hm : CMsgs (runQ E mem0 [] 1999).1) :
    ∃ m', abody E (runQ E mem0 [] 2000).1 nf 4 [.string s] mem0 = some (.bool true, m') := by
  rw [abody_eqF (by kernel_rfl) Try.func4 bodywr (by kernel_rfl) (Nat.le_of_ble_eq_true rfl)]
  rw [show Try.f4.ntmps = 76 from rfl]
  have hAw := hAw mem0 tabs0
  by_cases hs : s.data.toList.length ≤ 1000
  · have q : decide (((s.data.toList.length : Nat) : Int) > 1000) = false := decide_eq_false (by omega)
    obtain ⟨F', M', hl⟩ := wr_loop (nf := nf) (M := mem0) (F := upd (upd (upd (upd (upd (upd (upd (init [.string s]) 2 (.bool false)) 10 (.bool true)) 11 (.bool false)) 12 (.string s)) 13 (.int .i64 (s.data.toList.length : Nat))) 14 (.bool false)) 15 (.int .i64 0)) (s := s) hnf tabs0 (Nat.le_of_ble_eq_true (by kernel_rfl)) rfl rfl hs hm
    simp only [ewr_0, ewr_1, ewr_10, ewr_11, ewr_12, ewr_13, ewr_14, ewr_15, ewr_16, ewr_17, ewr_2, ewr_3, ewr_4, ewr_5, ewr_6, ewr_7, ewr_8, ewr_9, lwr_0, lwr_1, lwr_2, lwr_3, lwr_4, lwr_5, lwr_6, lwr_7, lwr_8, lwr_9, lwr_10, lwr_11, lwr_12, lwr_13, lwr_14, lwr_15, lwr_16, lwr_17, gwr_12_11, gwr_12_2, gwr_12_7, gwr_14_11, gwr_14_17, gwr_14_2, agd_none, gdAt, gdV_bool, gdV_undef, Try.f4, List.append_eq, List.cons_append, List.nil_append, apure_call1, apure_call2, apure_call3, bft, btf, acodeN, List.getElem?_toArray, List.getElem?_cons_zero, List.getElem?_cons_succ, aopsN, adrawT, cls, astep, aop, afloat, ev, nth_lst, get_lst, aput, setAt_lst, upd_at, init_zero, init_succ, init_nil, Nat.reduceLT, Nat.reduceEqDiff, reduceIte, abuiltin, alen, Option.map_some, Option.map_none, orElse_some, apure_add, apure_eqlV, eqlVal_str, eqlVal_bool, eqlVal_ptr, eqlVal_slice, eqlVal_int, allT, ↓aop_eqlV, apure_neq, List.map_cons, List.map_nil, List.all_cons, List.all_nil, lit2, lit1, lit0, List.isEmpty_nil, Bool.and_self, Bool.and_true, Bool.true_and, Bool.false_and, Bool.and_false, Bool.not_true, Bool.not_false, Bool.or_true, Bool.true_or, Bool.false_or, Bool.or_false, Bool.false_eq_true, if_true, if_false, List.length_map, beq_self_eq_true, und3, und4, und5, und9, callAw11, hAw, q, gtr64', hl, finish, ares, aresL, ares1]
    exact ⟨_, rfl⟩
  · have q : decide (((s.data.toList.length : Nat) : Int) > 1000) = true := decide_eq_true (by omega)
    simp only [ewr_0, ewr_1, ewr_10, ewr_11, ewr_12, ewr_13, ewr_14, ewr_15, ewr_16, ewr_17, ewr_2, ewr_3, ewr_4, ewr_5, ewr_6, ewr_7, ewr_8, ewr_9, lwr_0, lwr_1, lwr_2, lwr_3, lwr_4, lwr_5, lwr_6, lwr_7, lwr_8, lwr_9, lwr_10, lwr_11, lwr_12, lwr_13, lwr_14, lwr_15, lwr_16, lwr_17, gwr_12_11, gwr_12_2, gwr_12_7, gwr_14_11, gwr_14_17, gwr_14_2, agd_none, gdAt, gdV_bool, gdV_undef, Try.f4, List.append_eq, List.cons_append, List.nil_append, apure_call1, apure_call2, apure_call3, bft, btf, acodeN, List.getElem?_toArray, List.getElem?_cons_zero, List.getElem?_cons_succ, aopsN, adrawT, cls, astep, aop, afloat, ev, nth_lst, get_lst, aput, setAt_lst, upd_at, init_zero, init_succ, init_nil, Nat.reduceLT, Nat.reduceEqDiff, reduceIte, abuiltin, alen, Option.map_some, Option.map_none, orElse_some, apure_add, apure_eqlV, eqlVal_str, eqlVal_bool, eqlVal_ptr, eqlVal_slice, eqlVal_int, allT, ↓aop_eqlV, apure_neq, List.map_cons, List.map_nil, List.all_cons, List.all_nil, lit2, lit1, lit0, List.isEmpty_nil, Bool.and_self, Bool.and_true, Bool.true_and, Bool.false_and, Bool.and_false, Bool.not_true, Bool.not_false, Bool.or_true, Bool.true_or, Bool.false_or, Bool.or_false, Bool.false_eq_true, if_true, if_false, List.length_map, beq_self_eq_true, und3, und4, und5, und9, callAw11, hAw, q, gtr64', finish, ares, aresL, ares1]
    exact ⟨_, rfl⟩
end Go.Am.Seat

/-
  The laws of layer 11, over what the program's calls answer (own work).
-/
set_option linter.unusedSimpArgs false
set_option linter.unusedVariables false
namespace Go.Am.Seat
open Go.Proofs Go.Am
set_option maxRecDepth 100000

/-- What is asked of the program. -/
structure Wire11 : Prop where
  aw : ∀ m, Tabs m → ainv E (runQ E mem0 [] 2000).1 6 [] m = some (.bool true, m)
  sp : CSplitC 7 (runQ E mem0 [] 2000).1
  jn : CJoin 9 (runQ E mem0 [] 2000).1
  an : CAnswer 17 (runQ E mem0 [] 2000).1
  ms : ∀ n, 1900 ≤ n → CMsgs (runQ E mem0 [] n).1

theorem lawWC (W : Wire11) {v0 v1 v2 : Value} {m1 m2 : Mem} (h0 : CK.is 1048576 .str v0) (h1 : SliceArg 1048576 [.int .i64] mem0 v1 m1) (h2 : SliceArg 1048576 [.str] m1 v2 m2) :
    ∃ m, (runQ E mem0 [] 2001).1 3 [v0, v1, v2] m2 = some (.bool true, m) := by
  obtain ⟨s, rfl, hs⟩ := h0
  obtain ⟨szs, r1, w1, k1⟩ := sliceArg_ints h1
  obtain ⟨ps, r2, z2, k2, hcp⟩ := sliceArg_texts h2
  obtain ⟨m', hb⟩ := wc_body (self := (runQ E mem0 [] 2000).1) (nf := 2001) (m := m2) (s := s) (szs := szs) (ps := ps) (W.aw m2 (tabs0.keep (Nat.le_of_ble_eq_true (by kernel_rfl)) (k1.trans k2))) W.sp (csplit_ref (n := 1999) (by omega)) W.jn (cjoin_ref (n := 1999) (by omega)) (calike (n := 1999) (by omega)) (r1.keep k2) r2 w1 z2 hcp
  exact ⟨m', runQ_body hb⟩

theorem lawWR (W : Wire11) {v0 : Value} (h0 : CK.is maxLen .str v0) :
    ∃ m, (runQ E mem0 [] 2001).1 4 [v0] mem0 = some (.bool true, m) := by
  obtain ⟨s, rfl, hs⟩ := h0
  obtain ⟨m', hb⟩ := wr_body (nf := 2001) s (by omega) W.aw (W.ms 1999 (by omega))
  exact ⟨m', runQ_body hb⟩

theorem lawWW (W : Wire11) {cs0 cs1 : List Value} (h0 : AllIs maxLen [.str, .str, .str, .str, .str, .str] cs0) (h1 : AllIs maxLen [.str, .str, .str] cs1) :
    ∃ m, (runQ E mem0 [] 2001).1 5 [.agg ⟨cs0⟩, .agg ⟨cs1⟩] mem0 = some (.bool true, m) := by
  obtain ⟨_, l0, rfl, ⟨s0, rfl, _⟩, a0⟩ := h0.cons
  obtain ⟨_, l1, rfl, ⟨s1, rfl, _⟩, a1⟩ := a0.cons
  obtain ⟨_, l2, rfl, ⟨s2, rfl, _⟩, a2⟩ := a1.cons
  obtain ⟨_, l3, rfl, ⟨s3, rfl, _⟩, a3⟩ := a2.cons
  obtain ⟨_, l4, rfl, ⟨s4, rfl, _⟩, a4⟩ := a3.cons
  obtain ⟨_, l5, rfl, ⟨s5, rfl, _⟩, a5⟩ := a4.cons
  obtain rfl := a5.nil
  obtain ⟨_, l6, rfl, ⟨s6, rfl, _⟩, a6⟩ := h1.cons
  obtain ⟨_, l7, rfl, ⟨s7, rfl, _⟩, a7⟩ := a6.cons
  obtain ⟨_, l8, rfl, ⟨s8, rfl, _⟩, a8⟩ := a7.cons
  obtain rfl := a8.nil
  obtain ⟨m', hb⟩ := ww_body (nf := 2001) s0 s1 s2 s3 s4 s5 s6 s7 s8 (by omega) W.aw (W.ms 2000 (by omega)).b4 (W.ms 2000 (by omega)).b2 W.an (cjoin_ref (n := 1999) (by omega))
  exact ⟨m', runQ_body hb⟩
end Go.Am.Seat
