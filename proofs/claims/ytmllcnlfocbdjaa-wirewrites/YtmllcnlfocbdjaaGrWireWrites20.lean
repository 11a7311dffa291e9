/-
  Texts of my own, put together: SJ, SJ2, W25.
-/
import Derived.Test.YtmllcnlfocbdjaaGrWireWrites19
/-
  strings.Join with nothing between the parts (own work).
-/
set_option linter.unusedSimpArgs false
set_option linter.unusedVariables false
namespace Go.Am.Seat
open Go.Proofs Go.Am
set_option maxRecDepth 100000

noncomputable def rsjn_0 : Array Oper := match Try.f20.body with
  | some (.seq (.region _ o _) _) => o
  | _ => #[]
noncomputable def lsjn_0 : List Oper := match Try.f20.body with
  | some (.seq (.region _ o _) _) => o.toList
  | _ => []
theorem esjn_0 : rsjn_0.toList = lsjn_0 := rfl
noncomputable def rsjn_1 : Array Oper := match Try.f20.body with
  | some (.seq _ (.seq (.seq (.region _ o _) _) _)) => o
  | _ => #[]
noncomputable def lsjn_1 : List Oper := match Try.f20.body with
  | some (.seq _ (.seq (.seq (.region _ o _) _) _)) => o.toList
  | _ => []
theorem esjn_1 : rsjn_1.toList = lsjn_1 := rfl
noncomputable def rsjn_2 : Array Oper := match Try.f20.body with
  | some (.seq _ (.seq (.seq _ (.block _ (.seq (.region _ o _) _))) _)) => o
  | _ => #[]
noncomputable def lsjn_2 : List Oper := match Try.f20.body with
  | some (.seq _ (.seq (.seq _ (.block _ (.seq (.region _ o _) _))) _)) => o.toList
  | _ => []
theorem esjn_2 : rsjn_2.toList = lsjn_2 := rfl
noncomputable def rsjn_3 : Array Oper := match Try.f20.body with
  | some (.seq _ (.seq (.seq _ (.block _ (.seq _ (.cond _ (.seq (.region _ o _) _) _)))) _)) => o
  | _ => #[]
noncomputable def lsjn_3 : List Oper := match Try.f20.body with
  | some (.seq _ (.seq (.seq _ (.block _ (.seq _ (.cond _ (.seq (.region _ o _) _) _)))) _)) => o.toList
  | _ => []
theorem esjn_3 : rsjn_3.toList = lsjn_3 := rfl
noncomputable def rsjn_4 : Array Oper := match Try.f20.body with
  | some (.seq _ (.seq (.seq _ (.block _ (.seq _ (.cond _ _ (.seq (.region _ o _) _))))) _)) => o
  | _ => #[]
noncomputable def lsjn_4 : List Oper := match Try.f20.body with
  | some (.seq _ (.seq (.seq _ (.block _ (.seq _ (.cond _ _ (.seq (.region _ o _) _))))) _)) => o.toList
  | _ => []
theorem esjn_4 : rsjn_4.toList = lsjn_4 := rfl
noncomputable def rsjn_5 : Array Oper := match Try.f20.body with
  | some (.seq _ (.seq (.seq _ (.block _ (.seq _ (.cond _ _ (.seq _ (.cond _ (.seq (.region _ o _) _) _)))))) _)) => o
  | _ => #[]
noncomputable def lsjn_5 : List Oper := match Try.f20.body with
  | some (.seq _ (.seq (.seq _ (.block _ (.seq _ (.cond _ _ (.seq _ (.cond _ (.seq (.region _ o _) _) _)))))) _)) => o.toList
  | _ => []
theorem esjn_5 : rsjn_5.toList = lsjn_5 := rfl
noncomputable def rsjn_6 : Array Oper := match Try.f20.body with
  | some (.seq _ (.seq _ (.seq (.region _ o _) _))) => o
  | _ => #[]
noncomputable def lsjn_6 : List Oper := match Try.f20.body with
  | some (.seq _ (.seq _ (.seq (.region _ o _) _))) => o.toList
  | _ => []
theorem esjn_6 : rsjn_6.toList = lsjn_6 := rfl
noncomputable def rsjn_7 : Array Oper := match Try.f20.body with
  | some (.seq _ (.seq _ (.seq _ (.seq (.seq (.region _ o _) _) _)))) => o
  | _ => #[]
noncomputable def lsjn_7 : List Oper := match Try.f20.body with
  | some (.seq _ (.seq _ (.seq _ (.seq (.seq (.region _ o _) _) _)))) => o.toList
  | _ => []
theorem esjn_7 : rsjn_7.toList = lsjn_7 := rfl
noncomputable def rsjn_8 : Array Oper := match Try.f20.body with
  | some (.seq _ (.seq _ (.seq _ (.seq (.seq _ (.cond _ (.seq (.seq (.region _ o _) _) _) _)) _)))) => o
  | _ => #[]
noncomputable def lsjn_8 : List Oper := match Try.f20.body with
  | some (.seq _ (.seq _ (.seq _ (.seq (.seq _ (.cond _ (.seq (.seq (.region _ o _) _) _) _)) _)))) => o.toList
  | _ => []
theorem esjn_8 : rsjn_8.toList = lsjn_8 := rfl
noncomputable def rsjn_9 : Array Oper := match Try.f20.body with
  | some (.seq _ (.seq _ (.seq _ (.seq (.seq _ (.cond _ (.seq (.seq _ (.cond _ (.region _ o _) _)) _) _)) _)))) => o
  | _ => #[]
noncomputable def lsjn_9 : List Oper := match Try.f20.body with
  | some (.seq _ (.seq _ (.seq _ (.seq (.seq _ (.cond _ (.seq (.seq _ (.cond _ (.region _ o _) _)) _) _)) _)))) => o.toList
  | _ => []
theorem esjn_9 : rsjn_9.toList = lsjn_9 := rfl
noncomputable def rsjn_10 : Array Oper := match Try.f20.body with
  | some (.seq _ (.seq _ (.seq _ (.seq (.seq _ (.cond _ (.seq _ (.region _ o _)) _)) _)))) => o
  | _ => #[]
noncomputable def lsjn_10 : List Oper := match Try.f20.body with
  | some (.seq _ (.seq _ (.seq _ (.seq (.seq _ (.cond _ (.seq _ (.region _ o _)) _)) _)))) => o.toList
  | _ => []
theorem esjn_10 : rsjn_10.toList = lsjn_10 := rfl
noncomputable def rsjn_11 : Array Oper := match Try.f20.body with
  | some (.seq _ (.seq _ (.seq _ (.seq _ (.seq (.seq (.region _ o _) _) _))))) => o
  | _ => #[]
noncomputable def lsjn_11 : List Oper := match Try.f20.body with
  | some (.seq _ (.seq _ (.seq _ (.seq _ (.seq (.seq (.region _ o _) _) _))))) => o.toList
  | _ => []
theorem esjn_11 : rsjn_11.toList = lsjn_11 := rfl
noncomputable def lpsjn_0 : Code := match Try.f20.body with
  | some (.seq _ (.seq _ (.seq _ (.seq _ (.seq (.seq _ (.block _ (.loop c))) _))))) => c
  | _ => .skip
noncomputable def rsjn_12 : Array Oper := match Try.f20.body with
  | some (.seq _ (.seq _ (.seq _ (.seq _ (.seq (.seq _ (.block _ (.loop (.seq (.region _ o _) _)))) _))))) => o
  | _ => #[]
noncomputable def lsjn_12 : List Oper := match Try.f20.body with
  | some (.seq _ (.seq _ (.seq _ (.seq _ (.seq (.seq _ (.block _ (.loop (.seq (.region _ o _) _)))) _))))) => o.toList
  | _ => []
theorem esjn_12 : rsjn_12.toList = lsjn_12 := rfl
noncomputable def rsjn_13 : Array Oper := match Try.f20.body with
  | some (.seq _ (.seq _ (.seq _ (.seq _ (.seq (.seq _ (.block _ (.loop (.seq _ (.seq _ (.seq (.block _ (.seq (.region _ o _) _)) _)))))) _))))) => o
  | _ => #[]
noncomputable def lsjn_13 : List Oper := match Try.f20.body with
  | some (.seq _ (.seq _ (.seq _ (.seq _ (.seq (.seq _ (.block _ (.loop (.seq _ (.seq _ (.seq (.block _ (.seq (.region _ o _) _)) _)))))) _))))) => o.toList
  | _ => []
theorem esjn_13 : rsjn_13.toList = lsjn_13 := rfl
noncomputable def rsjn_14 : Array Oper := match Try.f20.body with
  | some (.seq _ (.seq _ (.seq _ (.seq _ (.seq (.seq _ (.block _ (.loop (.seq _ (.seq _ (.seq (.block _ (.seq _ (.seq (.seq (.region _ o _) _) _))) _)))))) _))))) => o
  | _ => #[]
noncomputable def lsjn_14 : List Oper := match Try.f20.body with
  | some (.seq _ (.seq _ (.seq _ (.seq _ (.seq (.seq _ (.block _ (.loop (.seq _ (.seq _ (.seq (.block _ (.seq _ (.seq (.seq (.region _ o _) _) _))) _)))))) _))))) => o.toList
  | _ => []
theorem esjn_14 : rsjn_14.toList = lsjn_14 := rfl
noncomputable def rsjn_15 : Array Oper := match Try.f20.body with
  | some (.seq _ (.seq _ (.seq _ (.seq _ (.seq (.seq _ (.block _ (.loop (.seq _ (.seq _ (.seq (.block _ (.seq _ (.seq (.seq _ (.cond _ (.region _ o _) _)) _))) _)))))) _))))) => o
  | _ => #[]
noncomputable def lsjn_15 : List Oper := match Try.f20.body with
  | some (.seq _ (.seq _ (.seq _ (.seq _ (.seq (.seq _ (.block _ (.loop (.seq _ (.seq _ (.seq (.block _ (.seq _ (.seq (.seq _ (.cond _ (.region _ o _) _)) _))) _)))))) _))))) => o.toList
  | _ => []
theorem esjn_15 : rsjn_15.toList = lsjn_15 := rfl
noncomputable def rsjn_16 : Array Oper := match Try.f20.body with
  | some (.seq _ (.seq _ (.seq _ (.seq _ (.seq (.seq _ (.block _ (.loop (.seq _ (.seq _ (.seq (.block _ (.seq _ (.seq _ (.region _ o _)))) _)))))) _))))) => o
  | _ => #[]
noncomputable def lsjn_16 : List Oper := match Try.f20.body with
  | some (.seq _ (.seq _ (.seq _ (.seq _ (.seq (.seq _ (.block _ (.loop (.seq _ (.seq _ (.seq (.block _ (.seq _ (.seq _ (.region _ o _)))) _)))))) _))))) => o.toList
  | _ => []
theorem esjn_16 : rsjn_16.toList = lsjn_16 := rfl
noncomputable def rsjn_17 : Array Oper := match Try.f20.body with
  | some (.seq _ (.seq _ (.seq _ (.seq _ (.seq (.seq _ (.block _ (.loop (.seq _ (.seq _ (.seq _ (.region _ o _))))))) _))))) => o
  | _ => #[]
noncomputable def lsjn_17 : List Oper := match Try.f20.body with
  | some (.seq _ (.seq _ (.seq _ (.seq _ (.seq (.seq _ (.block _ (.loop (.seq _ (.seq _ (.seq _ (.region _ o _))))))) _))))) => o.toList
  | _ => []
theorem esjn_17 : rsjn_17.toList = lsjn_17 := rfl
theorem lpsjn_0_eq : lpsjn_0 = (.seq (.region 12 rsjn_12 false) (.seq (.cond (.tmp 42) .skip (.exit 1)) (.seq (.block 2 (.seq (.region 13 rsjn_13 false) (.seq (.seq (.region 14 rsjn_14 false) (.cond (.tmp 49) (.region 15 rsjn_15 false) .skip)) (.region 16 rsjn_16 false)))) (.region 17 rsjn_17 false)))) := rfl
noncomputable def rsjn_18 : Array Oper := match Try.f20.body with
  | some (.seq _ (.seq _ (.seq _ (.seq _ (.seq _ (.seq (.region _ o _) _)))))) => o
  | _ => #[]
noncomputable def lsjn_18 : List Oper := match Try.f20.body with
  | some (.seq _ (.seq _ (.seq _ (.seq _ (.seq _ (.seq (.region _ o _) _)))))) => o.toList
  | _ => []
theorem esjn_18 : rsjn_18.toList = lsjn_18 := rfl
noncomputable def rsjn_19 : Array Oper := match Try.f20.body with
  | some (.seq _ (.seq _ (.seq _ (.seq _ (.seq _ (.seq _ (.seq (.region _ o _) _))))))) => o
  | _ => #[]
noncomputable def lsjn_19 : List Oper := match Try.f20.body with
  | some (.seq _ (.seq _ (.seq _ (.seq _ (.seq _ (.seq _ (.seq (.region _ o _) _))))))) => o.toList
  | _ => []
theorem esjn_19 : rsjn_19.toList = lsjn_19 := rfl
noncomputable def rsjn_20 : Array Oper := match Try.f20.body with
  | some (.seq _ (.seq _ (.seq _ (.seq _ (.seq _ (.seq _ (.seq _ (.seq (.region _ o _) _)))))))) => o
  | _ => #[]
noncomputable def lsjn_20 : List Oper := match Try.f20.body with
  | some (.seq _ (.seq _ (.seq _ (.seq _ (.seq _ (.seq _ (.seq _ (.seq (.region _ o _) _)))))))) => o.toList
  | _ => []
theorem esjn_20 : rsjn_20.toList = lsjn_20 := rfl
noncomputable def rsjn_21 : Array Oper := match Try.f20.body with
  | some (.seq _ (.seq _ (.seq _ (.seq _ (.seq _ (.seq _ (.seq _ (.seq _ (.seq (.seq (.region _ o _) _) _))))))))) => o
  | _ => #[]
noncomputable def lsjn_21 : List Oper := match Try.f20.body with
  | some (.seq _ (.seq _ (.seq _ (.seq _ (.seq _ (.seq _ (.seq _ (.seq _ (.seq (.seq (.region _ o _) _) _))))))))) => o.toList
  | _ => []
theorem esjn_21 : rsjn_21.toList = lsjn_21 := rfl
noncomputable def lpsjn_1 : Code := match Try.f20.body with
  | some (.seq _ (.seq _ (.seq _ (.seq _ (.seq _ (.seq _ (.seq _ (.seq _ (.seq (.seq _ (.block _ (.loop c))) _))))))))) => c
  | _ => .skip
noncomputable def rsjn_22 : Array Oper := match Try.f20.body with
  | some (.seq _ (.seq _ (.seq _ (.seq _ (.seq _ (.seq _ (.seq _ (.seq _ (.seq (.seq _ (.block _ (.loop (.seq (.region _ o _) _)))) _))))))))) => o
  | _ => #[]
noncomputable def lsjn_22 : List Oper := match Try.f20.body with
  | some (.seq _ (.seq _ (.seq _ (.seq _ (.seq _ (.seq _ (.seq _ (.seq _ (.seq (.seq _ (.block _ (.loop (.seq (.region _ o _) _)))) _))))))))) => o.toList
  | _ => []
theorem esjn_22 : rsjn_22.toList = lsjn_22 := rfl
noncomputable def rsjn_23 : Array Oper := match Try.f20.body with
  | some (.seq _ (.seq _ (.seq _ (.seq _ (.seq _ (.seq _ (.seq _ (.seq _ (.seq (.seq _ (.block _ (.loop (.seq _ (.seq _ (.seq (.block _ (.seq (.region _ o _) _)) _)))))) _))))))))) => o
  | _ => #[]
noncomputable def lsjn_23 : List Oper := match Try.f20.body with
  | some (.seq _ (.seq _ (.seq _ (.seq _ (.seq _ (.seq _ (.seq _ (.seq _ (.seq (.seq _ (.block _ (.loop (.seq _ (.seq _ (.seq (.block _ (.seq (.region _ o _) _)) _)))))) _))))))))) => o.toList
  | _ => []
theorem esjn_23 : rsjn_23.toList = lsjn_23 := rfl
noncomputable def rsjn_24 : Array Oper := match Try.f20.body with
  | some (.seq _ (.seq _ (.seq _ (.seq _ (.seq _ (.seq _ (.seq _ (.seq _ (.seq (.seq _ (.block _ (.loop (.seq _ (.seq _ (.seq (.block _ (.seq _ (.seq (.region _ o _) _))) _)))))) _))))))))) => o
  | _ => #[]
noncomputable def lsjn_24 : List Oper := match Try.f20.body with
  | some (.seq _ (.seq _ (.seq _ (.seq _ (.seq _ (.seq _ (.seq _ (.seq _ (.seq (.seq _ (.block _ (.loop (.seq _ (.seq _ (.seq (.block _ (.seq _ (.seq (.region _ o _) _))) _)))))) _))))))))) => o.toList
  | _ => []
theorem esjn_24 : rsjn_24.toList = lsjn_24 := rfl
noncomputable def rsjn_25 : Array Oper := match Try.f20.body with
  | some (.seq _ (.seq _ (.seq _ (.seq _ (.seq _ (.seq _ (.seq _ (.seq _ (.seq (.seq _ (.block _ (.loop (.seq _ (.seq _ (.seq (.block _ (.seq _ (.seq _ (.region _ o _)))) _)))))) _))))))))) => o
  | _ => #[]
noncomputable def lsjn_25 : List Oper := match Try.f20.body with
  | some (.seq _ (.seq _ (.seq _ (.seq _ (.seq _ (.seq _ (.seq _ (.seq _ (.seq (.seq _ (.block _ (.loop (.seq _ (.seq _ (.seq (.block _ (.seq _ (.seq _ (.region _ o _)))) _)))))) _))))))))) => o.toList
  | _ => []
theorem esjn_25 : rsjn_25.toList = lsjn_25 := rfl
noncomputable def rsjn_26 : Array Oper := match Try.f20.body with
  | some (.seq _ (.seq _ (.seq _ (.seq _ (.seq _ (.seq _ (.seq _ (.seq _ (.seq (.seq _ (.block _ (.loop (.seq _ (.seq _ (.seq _ (.region _ o _))))))) _))))))))) => o
  | _ => #[]
noncomputable def lsjn_26 : List Oper := match Try.f20.body with
  | some (.seq _ (.seq _ (.seq _ (.seq _ (.seq _ (.seq _ (.seq _ (.seq _ (.seq (.seq _ (.block _ (.loop (.seq _ (.seq _ (.seq _ (.region _ o _))))))) _))))))))) => o.toList
  | _ => []
theorem esjn_26 : rsjn_26.toList = lsjn_26 := rfl
theorem lpsjn_1_eq : lpsjn_1 = (.seq (.region 22 rsjn_22 false) (.seq (.cond (.tmp 66) .skip (.exit 3)) (.seq (.block 4 (.seq (.region 23 rsjn_23 false) (.seq (.region 24 rsjn_24 false) (.region 25 rsjn_25 false)))) (.region 26 rsjn_26 false)))) := rfl
noncomputable def rsjn_27 : Array Oper := match Try.f20.body with
  | some (.seq _ (.seq _ (.seq _ (.seq _ (.seq _ (.seq _ (.seq _ (.seq _ (.seq _ (.seq (.region _ o _) _)))))))))) => o
  | _ => #[]
noncomputable def lsjn_27 : List Oper := match Try.f20.body with
  | some (.seq _ (.seq _ (.seq _ (.seq _ (.seq _ (.seq _ (.seq _ (.seq _ (.seq _ (.seq (.region _ o _) _)))))))))) => o.toList
  | _ => []
theorem esjn_27 : rsjn_27.toList = lsjn_27 := rfl
theorem bodysjn : Try.f20.body = some (.seq (.region 0 rsjn_0 false) (.seq (.seq (.region 1 rsjn_1 false) (.block 0 (.seq (.region 2 rsjn_2 false) (.cond (.tmp 13) (.seq (.region 3 rsjn_3 false) .ret) (.seq (.region 4 rsjn_4 false) (.cond (.tmp 15) (.seq (.region 5 rsjn_5 false) .ret) .skip)))))) (.seq (.region 6 rsjn_6 false) (.seq (.seq (.region 7 rsjn_7 false) (.cond (.tmp 22) (.seq (.seq (.region 8 rsjn_8 false) (.cond (.tmp 29) (.region 9 rsjn_9 false) .skip)) (.region 10 rsjn_10 false)) .skip)) (.seq (.seq (.region 11 rsjn_11 false) (.block 1 (.loop lpsjn_0))) (.seq (.region 18 rsjn_18 false) (.seq (.region 19 rsjn_19 false) (.seq (.region 20 rsjn_20 false) (.seq (.seq (.region 21 rsjn_21 false) (.block 3 (.loop lpsjn_1))) (.seq (.region 27 rsjn_27 false) .ret)))))))))) := rfl
-- ntmps 75

theorem callBW' : callableB E.P 35 = true := by kernel_rfl
theorem bytesI_app' (a b : ByteArray) : bytesI (a ++ b) = bytesI a ++ bytesI b := by
  unfold bytesI
  rw [ByteArray.data_append]
  simp
theorem bytesI_back' (s : ByteArray) : (⟨((bytesI s).map fun n => UInt8.ofNat n.toNat).toArray⟩ : ByteArray) = s := by
  unfold bytesI
  rw [List.map_map]
  have : (s.data.toList.map ((fun n : Int => UInt8.ofNat n.toNat) ∘ fun b => (b.toNat : Int))) = s.data.toList := by
    conv => rhs; rw [← List.map_id s.data.toList]
    apply List.map_congr_left
    intro x _
    simp
  rw [this]
theorem cell_lt' {m : Mem} {b o : Nat} {v : Value} (h : cellAt m b o = some v) : b < m.length := by
  by_cases hb : b < m.length
  · exact hb
  · have : look m b = none := by
      unfold look
      rw [List.getElem?_eq_none (by omega)]
    unfold cellAt at h
    rw [this] at h
    cases h
theorem sliceSt {m : Mem} {b o L c : Nat} {v : Value} {k : Nat} (h : cellAt m b k = some v) (h1 : 1 < c) (h2 : L ≤ c) (h3 : 1 ≤ L) : aslice E.P 23 (.slice (some ⟨b, o, none⟩) L c) (some (.int .i64 1)) none m = some (.slice (some ⟨b, o + 1, none⟩) (L - 1) (c - 1)) := by
  have h9 : (E.P.info? 9).map (·.size) = some 1 := by kernel_rfl
  obtain ⟨i, hi, hs⟩ := Option.map_eq_some_iff.1 h9
  have hl : ∃ r, look m b = some r := by
    unfold cellAt at h
    cases hl : look m b with
    | none => rw [hl] at h; cases h
    | some r => exact ⟨r, rfl⟩
  obtain ⟨⟨ro, be, cs⟩, hl⟩ := hl
  unfold aslice
  simp only [undSS, hi, hl]
  unfold abounds abound
  simp only
  rw [if_pos (by omega)]
  simp only [Int.toNat_one, hs]
  rw [if_neg (by simp; omega)]

section
variable {self : Self} {nf : Nat} {m m1 m2 : Mem} {F : Nat → Value} {b o c L i q a : Nat} {s z : ByteArray} {v1 v2 : Value}
theorem sj_iter (h39 : F 39 = .slice (some ⟨b, o, none⟩) L c) (h40 : F 40 = .int .i64 (L : Nat)) (h41 : F 41 = .int .i64 (i : Nat)) (h5 : F 5 = .int .i64 (a : Nat)) (hi : i < L) (hL : L ≤ 1000000) (hx : cellAt m b (o + i) = some (.string s)) (hs : a + s.data.toList.length ≤ 1000000000) :
    ∃ F', acodeN E self nf lpsjn_0 (lst F 75) m = some (.normal, lst F' 75, m) ∧ F' 0 = F 0 ∧ F' 1 = F 1 ∧ F' 39 = F 39 ∧ F' 40 = F 40 ∧ F' 41 = .int .i64 ((i + 1 : Nat) : Int) ∧ F' 5 = .int .i64 ((a + s.data.toList.length : Nat) : Int) := by
  have hlt : decide (((i : Nat) : Int) < ((L : Nat) : Int)) = true := by simpa using hi
  have e1 := w1 (i := i) (by omega)
  have e2 : wrapF .i64 ((9223372036854775807 : Int) - ((a : Nat) : Int)) = ((9223372036854775807 - a : Nat) : Int) := by rw [wrap_i64 (by omega) (by omega)]; omega
  have hgt : decide (((s.data.toList.length : Nat) : Int) > ((9223372036854775807 - a : Nat) : Int)) = false := decide_eq_false (by omega)
  have e3 : wrapF .i64 (((a : Nat) : Int) + ((s.data.toList.length : Nat) : Int)) = ((a + s.data.toList.length : Nat) : Int) := by rw [wrap_i64 (by omega) (by omega)]; omega
  simp only [lpsjn_0_eq, esjn_0, esjn_1, esjn_10, esjn_11, esjn_12, esjn_13, esjn_14, esjn_15, esjn_16, esjn_17, esjn_18, esjn_19, esjn_2, esjn_20, esjn_21, esjn_22, esjn_23, esjn_24, esjn_25, esjn_26, esjn_27, esjn_3, esjn_4, esjn_5, esjn_6, esjn_7, esjn_8, esjn_9, lsjn_0, lsjn_1, lsjn_2, lsjn_3, lsjn_4, lsjn_5, lsjn_6, lsjn_7, lsjn_8, lsjn_9, lsjn_10, lsjn_11, lsjn_12, lsjn_13, lsjn_14, lsjn_15, lsjn_16, lsjn_17, lsjn_18, lsjn_19, lsjn_20, lsjn_21, lsjn_22, lsjn_23, lsjn_24, lsjn_25, lsjn_26, lsjn_27, agd_none, gdAt, gdV_bool, gdV_undef, Try.f20, List.append_eq, List.cons_append, List.nil_append, apure_call1, apure_call2, apure_call3, bft, btf, acodeN, List.getElem?_toArray, List.getElem?_cons_zero, List.getElem?_cons_succ, aopsN, adrawT, cls, astep, aop, afloat, ev, nth_lst, get_lst, aput, setAt_lst, upd_at, init_zero, init_succ, init_nil, Nat.reduceLT, Nat.reduceEqDiff, reduceIte, abuiltin, alen, Option.map_some, Option.map_none, orElse_some, apure_add, apure_eqlV, eqlVal_str, eqlVal_bool, eqlVal_ptr, eqlVal_slice, eqlVal_int, allT, ↓aop_eqlV, apure_neq, List.map_cons, List.map_nil, List.all_cons, List.all_nil, lit2, lit1, lit0, List.isEmpty_nil, Bool.and_self, Bool.and_true, Bool.true_and, Bool.false_and, Bool.and_false, Bool.not_true, Bool.not_false, Bool.or_true, Bool.true_or, Bool.false_or, Bool.or_false, Bool.false_eq_true, if_true, if_false, List.length_map, beq_self_eq_true, und3, und4, und5, und9, h39, h40, h41, h5, lss64, hlt, ixSS hi, ldS, hx, sub64', e2, gtr64', hgt, add64', e3, e1]
  exact ⟨_, rfl, by simp only [upd_at, Nat.reduceEqDiff, reduceIte], by simp only [upd_at, Nat.reduceEqDiff, reduceIte], by simp only [upd_at, Nat.reduceEqDiff, reduceIte, h39], by simp only [upd_at, Nat.reduceEqDiff, reduceIte, h40], by simp only [upd_at, Nat.reduceEqDiff, reduceIte], by simp only [upd_at, Nat.reduceEqDiff, reduceIte]⟩
theorem sj_last (h40 : F 40 = .int .i64 (L : Nat)) (h41 : F 41 = .int .i64 (i : Nat)) (hi : L ≤ i) :
    ∃ F', acodeN E self nf lpsjn_0 (lst F 75) m = some (.exit 1, lst F' 75, m) ∧ F' 0 = F 0 ∧ F' 1 = F 1 ∧ F' 5 = F 5 := by
  have hlt : decide (((i : Nat) : Int) < ((L : Nat) : Int)) = false := by simpa using hi
  simp only [lpsjn_0_eq, esjn_0, esjn_1, esjn_10, esjn_11, esjn_12, esjn_13, esjn_14, esjn_15, esjn_16, esjn_17, esjn_18, esjn_19, esjn_2, esjn_20, esjn_21, esjn_22, esjn_23, esjn_24, esjn_25, esjn_26, esjn_27, esjn_3, esjn_4, esjn_5, esjn_6, esjn_7, esjn_8, esjn_9, lsjn_0, lsjn_1, lsjn_2, lsjn_3, lsjn_4, lsjn_5, lsjn_6, lsjn_7, lsjn_8, lsjn_9, lsjn_10, lsjn_11, lsjn_12, lsjn_13, lsjn_14, lsjn_15, lsjn_16, lsjn_17, lsjn_18, lsjn_19, lsjn_20, lsjn_21, lsjn_22, lsjn_23, lsjn_24, lsjn_25, lsjn_26, lsjn_27, agd_none, gdAt, gdV_bool, gdV_undef, Try.f20, List.append_eq, List.cons_append, List.nil_append, apure_call1, apure_call2, apure_call3, bft, btf, acodeN, List.getElem?_toArray, List.getElem?_cons_zero, List.getElem?_cons_succ, aopsN, adrawT, cls, astep, aop, afloat, ev, nth_lst, get_lst, aput, setAt_lst, upd_at, init_zero, init_succ, init_nil, Nat.reduceLT, Nat.reduceEqDiff, reduceIte, abuiltin, alen, Option.map_some, Option.map_none, orElse_some, apure_add, apure_eqlV, eqlVal_str, eqlVal_bool, eqlVal_ptr, eqlVal_slice, eqlVal_int, allT, ↓aop_eqlV, apure_neq, List.map_cons, List.map_nil, List.all_cons, List.all_nil, lit2, lit1, lit0, List.isEmpty_nil, Bool.and_self, Bool.and_true, Bool.true_and, Bool.false_and, Bool.and_false, Bool.not_true, Bool.not_false, Bool.or_true, Bool.true_or, Bool.false_or, Bool.or_false, Bool.false_eq_true, if_true, if_false, List.length_map, beq_self_eq_true, und3, und4, und5, und9, h40, h41, lss64, hlt]
  exact ⟨_, rfl, by simp only [upd_at, Nat.reduceEqDiff, reduceIte], by simp only [upd_at, Nat.reduceEqDiff, reduceIte], by simp only [upd_at, Nat.reduceEqDiff, reduceIte]⟩
theorem sj2_iter (h1 : F 1 = .string z) (h8 : F 8 = .pointer (some ⟨q, 0, none⟩)) (h63 : F 63 = .slice (some ⟨b, o, none⟩) L c) (h64 : F 64 = .int .i64 (L : Nat)) (h65 : F 65 = .int .i64 (i : Nat)) (hi : i < L) (hL : L ≤ 1000000) (hx : cellAt m b (o + i) = some (.string s))
    (w1' : ainv E self 35 [.pointer (some ⟨q, 0, none⟩), .string z] m = some (v1, m1)) (w2' : ainv E self 35 [.pointer (some ⟨q, 0, none⟩), .string s] m1 = some (v2, m2)) :
    ∃ F', acodeN E self nf lpsjn_1 (lst F 75) m = some (.normal, lst F' 75, m2) ∧ F' 1 = F 1 ∧ F' 8 = F 8 ∧ F' 63 = F 63 ∧ F' 64 = F 64 ∧ F' 65 = .int .i64 ((i + 1 : Nat) : Int) := by
  have hlt : decide (((i : Nat) : Int) < ((L : Nat) : Int)) = true := by simpa using hi
  have e1 := w1 (i := i) (by omega)
  simp only [lpsjn_1_eq, esjn_0, esjn_1, esjn_10, esjn_11, esjn_12, esjn_13, esjn_14, esjn_15, esjn_16, esjn_17, esjn_18, esjn_19, esjn_2, esjn_20, esjn_21, esjn_22, esjn_23, esjn_24, esjn_25, esjn_26, esjn_27, esjn_3, esjn_4, esjn_5, esjn_6, esjn_7, esjn_8, esjn_9, lsjn_0, lsjn_1, lsjn_2, lsjn_3, lsjn_4, lsjn_5, lsjn_6, lsjn_7, lsjn_8, lsjn_9, lsjn_10, lsjn_11, lsjn_12, lsjn_13, lsjn_14, lsjn_15, lsjn_16, lsjn_17, lsjn_18, lsjn_19, lsjn_20, lsjn_21, lsjn_22, lsjn_23, lsjn_24, lsjn_25, lsjn_26, lsjn_27, agd_none, gdAt, gdV_bool, gdV_undef, Try.f20, List.append_eq, List.cons_append, List.nil_append, apure_call1, apure_call2, apure_call3, bft, btf, acodeN, List.getElem?_toArray, List.getElem?_cons_zero, List.getElem?_cons_succ, aopsN, adrawT, cls, astep, aop, afloat, ev, nth_lst, get_lst, aput, setAt_lst, upd_at, init_zero, init_succ, init_nil, Nat.reduceLT, Nat.reduceEqDiff, reduceIte, abuiltin, alen, Option.map_some, Option.map_none, orElse_some, apure_add, apure_eqlV, eqlVal_str, eqlVal_bool, eqlVal_ptr, eqlVal_slice, eqlVal_int, allT, ↓aop_eqlV, apure_neq, List.map_cons, List.map_nil, List.all_cons, List.all_nil, lit2, lit1, lit0, List.isEmpty_nil, Bool.and_self, Bool.and_true, Bool.true_and, Bool.false_and, Bool.and_false, Bool.not_true, Bool.not_false, Bool.or_true, Bool.true_or, Bool.false_or, Bool.or_false, Bool.false_eq_true, if_true, if_false, List.length_map, beq_self_eq_true, und3, und4, und5, und9, h1, h8, h63, h64, h65, lss64, hlt, ixSS hi, ldS, hx, callBW', w1', w2', add64', e1]
  exact ⟨_, rfl, by simp only [upd_at, Nat.reduceEqDiff, reduceIte, h1], by simp only [upd_at, Nat.reduceEqDiff, reduceIte, h8], by simp only [upd_at, Nat.reduceEqDiff, reduceIte, h63], by simp only [upd_at, Nat.reduceEqDiff, reduceIte, h64], by simp only [upd_at, Nat.reduceEqDiff, reduceIte]⟩
theorem sj2_last (h64 : F 64 = .int .i64 (L : Nat)) (h65 : F 65 = .int .i64 (i : Nat)) (hi : L ≤ i) :
    ∃ F', acodeN E self nf lpsjn_1 (lst F 75) m = some (.exit 3, lst F' 75, m) ∧ F' 8 = F 8 := by
  have hlt : decide (((i : Nat) : Int) < ((L : Nat) : Int)) = false := by simpa using hi
  simp only [lpsjn_1_eq, esjn_0, esjn_1, esjn_10, esjn_11, esjn_12, esjn_13, esjn_14, esjn_15, esjn_16, esjn_17, esjn_18, esjn_19, esjn_2, esjn_20, esjn_21, esjn_22, esjn_23, esjn_24, esjn_25, esjn_26, esjn_27, esjn_3, esjn_4, esjn_5, esjn_6, esjn_7, esjn_8, esjn_9, lsjn_0, lsjn_1, lsjn_2, lsjn_3, lsjn_4, lsjn_5, lsjn_6, lsjn_7, lsjn_8, lsjn_9, lsjn_10, lsjn_11, lsjn_12, lsjn_13, lsjn_14, lsjn_15, lsjn_16, lsjn_17, lsjn_18, lsjn_19, lsjn_20, lsjn_21, lsjn_22, lsjn_23, lsjn_24, lsjn_25, lsjn_26, lsjn_27, agd_none, gdAt, gdV_bool, gdV_undef, Try.f20, List.append_eq, List.cons_append, List.nil_append, apure_call1, apure_call2, apure_call3, bft, btf, acodeN, List.getElem?_toArray, List.getElem?_cons_zero, List.getElem?_cons_succ, aopsN, adrawT, cls, astep, aop, afloat, ev, nth_lst, get_lst, aput, setAt_lst, upd_at, init_zero, init_succ, init_nil, Nat.reduceLT, Nat.reduceEqDiff, reduceIte, abuiltin, alen, Option.map_some, Option.map_none, orElse_some, apure_add, apure_eqlV, eqlVal_str, eqlVal_bool, eqlVal_ptr, eqlVal_slice, eqlVal_int, allT, ↓aop_eqlV, apure_neq, List.map_cons, List.map_nil, List.all_cons, List.all_nil, lit2, lit1, lit0, List.isEmpty_nil, Bool.and_self, Bool.and_true, Bool.true_and, Bool.false_and, Bool.and_false, Bool.not_true, Bool.not_false, Bool.or_true, Bool.true_or, Bool.false_or, Bool.or_false, Bool.false_eq_true, if_true, if_false, List.length_map, beq_self_eq_true, und3, und4, und5, und9, h64, h65, lss64, hlt]
  exact ⟨_, rfl, by simp only [upd_at, Nat.reduceEqDiff, reduceIte]⟩
end

theorem cat_take_le (ps : List ByteArray) (i : Nat) : (catL (ps.take i)).size ≤ (catL ps).size := by
  rw [catL_size, catL_size, List.map_take]
  exact sum_take_le _ _

theorem sj_loop {self : Self} {nf : Nat} {m : Mem} {ps : List ByteArray} {b o c : Nat} (hL : ps.length ≤ 1000) (hnf : 1000 < nf) (htot : (catL ps).size ≤ 1000000000)
    (hp : ∀ (i : Nat) (x : Value), (ps.map Value.string)[i]? = some x → cellAt m b (o + i) = some x)
    {F : Nat → Value} (h39 : F 39 = .slice (some ⟨b, o, none⟩) ps.length c) (h40 : F 40 = .int .i64 (ps.length : Nat)) (h41 : F 41 = .int .i64 (0 : Nat)) (h5 : F 5 = .int .i64 (0 : Nat)) :
    ∃ F', aloop (acodeN E self nf lpsjn_0) nf (lst F 75) m = some (.exit 1, lst F' 75, m) ∧ F' 0 = F 0 ∧ F' 1 = F 1 ∧ F' 5 = .int .i64 ((catL ps).size : Nat) := by
  have hloop := aloop_inv (body := acodeN E self nf lpsjn_0) (N := ps.length)
    (I := fun i T m' => ∃ G, T = lst G 75 ∧ m' = m ∧ G 0 = F 0 ∧ G 1 = F 1 ∧ G 39 = .slice (some ⟨b, o, none⟩) ps.length c ∧ G 40 = .int .i64 (ps.length : Nat) ∧ G 41 = .int .i64 (i : Nat) ∧ G 5 = .int .i64 ((catL (ps.take i)).size : Nat))
    (Q := fun e T m' => e = .exit 1 ∧ ∃ F', T = lst F' 75 ∧ m' = m ∧ F' 0 = F 0 ∧ F' 1 = F 1 ∧ F' 5 = .int .i64 ((catL ps).size : Nat)) (fun i T m' hi hI => by
      obtain ⟨G, rfl, rfl, g0, g1, g39, g40, g41, g5⟩ := hI
      by_cases hlt : i < ps.length
      · left
        have hpi : ps[i]? = some ps[i] := by simp [hlt]
        have hx := hp i (.string ps[i]) (by rw [List.getElem?_map, hpi]; rfl)
        have hst := catL_step hpi
        have hz := cat_take_le ps (i + 1)
        rw [hst, ByteArray.size_append] at hz
        have z2 : ps[i].size = ps[i].data.toList.length := rfl
        obtain ⟨F', hr, f0, f1, f39, f40, f41, f5⟩ := sj_iter (self := self) (nf := nf) g39 g40 g41 g5 hlt (by omega) hx (by omega)
        refine ⟨_, _, hr, hlt, F', rfl, rfl, f0.trans g0, f1.trans g1, f39.trans g39, f40.trans g40, f41, ?_⟩
        rw [f5, hst, ByteArray.size_append, z2]
      · right
        obtain ⟨F', hr, f0, f1, f5⟩ := sj_last (self := self) (nf := nf) (m := m') g40 g41 (by omega)
        rw [List.take_of_length_le (by omega)] at g5
        exact ⟨_, _, _, hr, by simp, rfl, F', rfl, rfl, f0.trans g0, f1.trans g1, f5.trans g5⟩)
  obtain ⟨e, T', m', hr, rfl, F', rfl, rfl, hq⟩ := hloop ps.length 0 nf (lst F 75) m (by omega) (by omega) ⟨F, rfl, rfl, rfl, rfl, h39, h40, h41, h5⟩
  exact ⟨F', hr, hq⟩

theorem sj2_loop {n nf : Nat} {m m0 : Mem} {ps : List ByteArray} {z : ByteArray} {b o c : Nat} (hL : ps.length ≤ 1000) (hnf : 1000 < nf) (htot : (catL ps).size ≤ 1000000000) (hz0 : z.data.toList.length = 0) (hlen : 1 ≤ ps.length)
    (hp : ∀ (i : Nat) (x : Value), (ps.map Value.string)[i]? = some x → cellAt m b (o + i) = some x) (hk : Keeps m m.length m0) (hb : BufR m0 m.length (bytesI (catL (ps.take 1))) (catL ps).size)
    {F : Nat → Value} (h1 : F 1 = .string z) (h8 : F 8 = .pointer (some ⟨m.length, 0, none⟩)) (h63 : F 63 = .slice (some ⟨b, o + 1, none⟩) (ps.length - 1) c) (h64 : F 64 = .int .i64 ((ps.length - 1 : Nat) : Int)) (h65 : F 65 = .int .i64 (0 : Nat)) :
    ∃ F' m', aloop (acodeN E (runQ E mem0 [] (n + 2)).1 nf lpsjn_1) nf (lst F 75) m0 = some (.exit 3, lst F' 75, m') ∧ F' 8 = .pointer (some ⟨m.length, 0, none⟩) ∧ BufR m' m.length (bytesI (catL ps)) (catL ps).size := by
  have hloop := aloop_inv (body := acodeN E (runQ E mem0 [] (n + 2)).1 nf lpsjn_1) (N := ps.length - 1)
    (I := fun i T m' => ∃ G, T = lst G 75 ∧ Keeps m m.length m' ∧ BufR m' m.length (bytesI (catL (ps.take (i + 1)))) (catL ps).size ∧ G 1 = .string z ∧ G 8 = .pointer (some ⟨m.length, 0, none⟩) ∧ G 63 = .slice (some ⟨b, o + 1, none⟩) (ps.length - 1) c ∧ G 64 = .int .i64 ((ps.length - 1 : Nat) : Int) ∧ G 65 = .int .i64 (i : Nat))
    (Q := fun e T m' => e = .exit 3 ∧ ∃ F', T = lst F' 75 ∧ F' 8 = .pointer (some ⟨m.length, 0, none⟩) ∧ BufR m' m.length (bytesI (catL ps)) (catL ps).size) (fun i T m' hi hI => by
      obtain ⟨G, rfl, gK, gB, g1, g8, g63, g64, g65⟩ := hI
      by_cases hlt : i < ps.length - 1
      · left
        have hlt' : i + 1 < ps.length := by omega
        have hpi : ps[i + 1]? = some ps[i + 1] := by simp [hlt']
        have hx := hp (i + 1) (.string ps[i + 1]) (by rw [List.getElem?_map, hpi]; rfl)
        rw [← cellAt_same (gK b (cell_lt' hx)), show o + (i + 1) = o + 1 + i by omega] at hx
        have hst := catL_step hpi
        have hz := cat_take_le ps (i + 1 + 1)
        rw [hst, ByteArray.size_append] at hz
        have z1 : (catL (ps.take (i + 1))).size = (catL (ps.take (i + 1))).data.toList.length := rfl
        have z2 : ps[i + 1].size = ps[i + 1].data.toList.length := rfl
        have hbz : bytesI z = [] := List.eq_nil_of_length_eq_zero (by rw [bytesI_len]; exact hz0)
        obtain ⟨v1, m1, a1, a2, a3⟩ := writeR (n := n) z gB (by rw [bytesI_len]; omega) htot
        rw [hbz, List.append_nil] at a2
        obtain ⟨v2, m2, b1, b2, b3⟩ := writeR (n := n) ps[i + 1] a2 (by rw [bytesI_len]; omega) htot
        obtain ⟨F', hr, f1, f8, f63, f64, f65⟩ := sj2_iter (nf := nf) g1 g8 g63 g64 g65 hlt (by omega) hx ((ainv_wr (by kernel_rfl) rfl).trans a1) ((ainv_wr (by kernel_rfl) rfl).trans b1)
        exact ⟨_, _, hr, hlt, F', rfl, (gK.trans a3).trans b3, by rw [hst, bytesI_app']; exact b2, f1.trans g1, f8.trans g8, f63.trans g63, f64.trans g64, f65⟩
      · right
        obtain ⟨F', hr, f8⟩ := sj2_last (self := (runQ E mem0 [] (n + 2)).1) (nf := nf) (m := m') g64 g65 (by omega)
        rw [List.take_of_length_le (by omega)] at gB
        exact ⟨_, _, _, hr, by simp, rfl, F', rfl, f8.trans g8, gB⟩)
  obtain ⟨e, T', m', hr, rfl, F', rfl, hq⟩ := hloop (ps.length - 1) 0 nf (lst F 75) m0 (by omega) (by omega) ⟨F, rfl, hk, hb, h1, h8, h63, h64, h65⟩
  exact ⟨F', m', hr, hq⟩
end Go.Am.Seat

/-
  strings.Join with nothing between the parts, whole (own work).
-/
set_option linter.unusedSimpArgs false
set_option linter.unusedVariables false
namespace Go.Am.Seat
open Go.Proofs Go.Am
set_option maxRecDepth 100000

theorem allocB (m : Mem) : aalloc E.P 76 m = some (.pointer (some ⟨m.length, 0, none⟩), (m ++ [.row false 76 [.pointer none, .slice none 0 0]])) := by kernel_rfl
theorem allPtr (q : Nat) (v : Value) : ([Value.pointer (some ⟨q, 0, none⟩), v].all lit2) = false := rfl
theorem ix0 {p o L c : Nat} (h : 0 < L) : aindexAddr E.P 23 (.slice (some ⟨p, o, none⟩) L c) (.int .i64 0) = some (.pointer (some ⟨p, o + 0, none⟩)) := ixSS (i := 0) h

theorem sj_body {n nf : Nat} {m : Mem} {ps : List ByteArray} {vp : Value} {z : ByteArray} (hz : z.data.toList.length = 0) (hp : RS m vp (ps.map Value.string)) (hcap : CapOk vp) (hL : ps.length ≤ 1000) (htot : (catL ps).size ≤ 1000000000) (hnf : 1000 < nf) :
    ∃ m', abody E (runQ E mem0 [] (n + 3)).1 nf 20 [vp, .string z] m = some (.string (catL ps), m') := by
  rw [abody_eqF (by kernel_rfl) Try.func20 bodysjn (by kernel_rfl) (Nat.le_of_ble_eq_true rfl)]
  rw [show Try.f20.ntmps = 75 from rfl]
  rcases hp with ⟨hp0, rfl⟩ | ⟨b, o, c, rfl, hp⟩
  · have hz : ps = [] := by simpa using hp0
    subst hz
    have q : ((0 : Int) == 0) = true := rfl
    simp only [esjn_0, esjn_1, esjn_10, esjn_11, esjn_12, esjn_13, esjn_14, esjn_15, esjn_16, esjn_17, esjn_18, esjn_19, esjn_2, esjn_20, esjn_21, esjn_22, esjn_23, esjn_24, esjn_25, esjn_26, esjn_27, esjn_3, esjn_4, esjn_5, esjn_6, esjn_7, esjn_8, esjn_9, lsjn_0, lsjn_1, lsjn_2, lsjn_3, lsjn_4, lsjn_5, lsjn_6, lsjn_7, lsjn_8, lsjn_9, lsjn_10, lsjn_11, lsjn_12, lsjn_13, lsjn_14, lsjn_15, lsjn_16, lsjn_17, lsjn_18, lsjn_19, lsjn_20, lsjn_21, lsjn_22, lsjn_23, lsjn_24, lsjn_25, lsjn_26, lsjn_27, agd_none, gdAt, gdV_bool, gdV_undef, Try.f20, List.append_eq, List.cons_append, List.nil_append, apure_call1, apure_call2, apure_call3, bft, btf, acodeN, List.getElem?_toArray, List.getElem?_cons_zero, List.getElem?_cons_succ, aopsN, adrawT, cls, astep, aop, afloat, ev, nth_lst, get_lst, aput, setAt_lst, upd_at, init_zero, init_succ, init_nil, Nat.reduceLT, Nat.reduceEqDiff, reduceIte, abuiltin, alen, Option.map_some, Option.map_none, orElse_some, apure_add, apure_eqlV, eqlVal_str, eqlVal_bool, eqlVal_ptr, eqlVal_slice, eqlVal_int, allT, ↓aop_eqlV, apure_neq, List.map_cons, List.map_nil, List.all_cons, List.all_nil, lit2, lit1, lit0, List.isEmpty_nil, Bool.and_self, Bool.and_true, Bool.true_and, Bool.false_and, Bool.and_false, Bool.not_true, Bool.not_false, Bool.or_true, Bool.true_or, Bool.false_or, Bool.or_false, Bool.false_eq_true, if_true, if_false, List.length_map, beq_self_eq_true, und3, und4, und5, und9, lenS, eql64, q, finish, ares, aresL, ares1]
    exact ⟨_, rfl⟩
  · rw [List.length_map] at hcap ⊢
    have hcap : ps.length ≤ c := hcap
    by_cases l0 : ps.length = 0
    · have hz : ps = [] := List.eq_nil_of_length_eq_zero l0
      subst hz
      have q : ((((0 : Nat)) : Int) == 0) = true := rfl
      simp only [List.length_nil, esjn_0, esjn_1, esjn_10, esjn_11, esjn_12, esjn_13, esjn_14, esjn_15, esjn_16, esjn_17, esjn_18, esjn_19, esjn_2, esjn_20, esjn_21, esjn_22, esjn_23, esjn_24, esjn_25, esjn_26, esjn_27, esjn_3, esjn_4, esjn_5, esjn_6, esjn_7, esjn_8, esjn_9, lsjn_0, lsjn_1, lsjn_2, lsjn_3, lsjn_4, lsjn_5, lsjn_6, lsjn_7, lsjn_8, lsjn_9, lsjn_10, lsjn_11, lsjn_12, lsjn_13, lsjn_14, lsjn_15, lsjn_16, lsjn_17, lsjn_18, lsjn_19, lsjn_20, lsjn_21, lsjn_22, lsjn_23, lsjn_24, lsjn_25, lsjn_26, lsjn_27, agd_none, gdAt, gdV_bool, gdV_undef, Try.f20, List.append_eq, List.cons_append, List.nil_append, apure_call1, apure_call2, apure_call3, bft, btf, acodeN, List.getElem?_toArray, List.getElem?_cons_zero, List.getElem?_cons_succ, aopsN, adrawT, cls, astep, aop, afloat, ev, nth_lst, get_lst, aput, setAt_lst, upd_at, init_zero, init_succ, init_nil, Nat.reduceLT, Nat.reduceEqDiff, reduceIte, abuiltin, alen, Option.map_some, Option.map_none, orElse_some, apure_add, apure_eqlV, eqlVal_str, eqlVal_bool, eqlVal_ptr, eqlVal_slice, eqlVal_int, allT, ↓aop_eqlV, apure_neq, List.map_cons, List.map_nil, List.all_cons, List.all_nil, lit2, lit1, lit0, List.isEmpty_nil, Bool.and_self, Bool.and_true, Bool.true_and, Bool.false_and, Bool.and_false, Bool.not_true, Bool.not_false, Bool.or_true, Bool.true_or, Bool.false_or, Bool.or_false, Bool.false_eq_true, if_true, if_false, List.length_map, beq_self_eq_true, und3, und4, und5, und9, undSS, eql64, q, finish, ares, aresL, ares1]
      exact ⟨_, rfl⟩
    · have q0 : (((ps.length : Nat) : Int) == 0) = false := by
        have : ((ps.length : Nat) : Int) ≠ 0 := by omega
        simpa using this
      have hp0 : ps[0]? = some (ps[0]'(by omega)) := by simp [show 0 < ps.length by omega]
      have hx0 := hp 0 (.string (ps[0]'(by omega))) (by rw [List.getElem?_map, hp0]; rfl)
      generalize hs0 : ps[0]'(by omega) = s0 at hp0 hx0
      have i0 := ix0 (p := b) (o := o) (c := c) (show 0 < ps.length by omega)
      by_cases l1 : ps.length = 1
      · have q1 : (((ps.length : Nat) : Int) == 1) = true := by rw [l1]; rfl
        have hcat : catL ps = s0 := by
          have h1 := catL_step hp0
          rw [List.take_of_length_le (by omega), List.take_zero] at h1
          rw [h1]
          show (⟨#[]⟩ : ByteArray) ++ s0 = s0
          apply ba_eq
          rw [ba_append]
          rfl
        simp only [esjn_0, esjn_1, esjn_10, esjn_11, esjn_12, esjn_13, esjn_14, esjn_15, esjn_16, esjn_17, esjn_18, esjn_19, esjn_2, esjn_20, esjn_21, esjn_22, esjn_23, esjn_24, esjn_25, esjn_26, esjn_27, esjn_3, esjn_4, esjn_5, esjn_6, esjn_7, esjn_8, esjn_9, lsjn_0, lsjn_1, lsjn_2, lsjn_3, lsjn_4, lsjn_5, lsjn_6, lsjn_7, lsjn_8, lsjn_9, lsjn_10, lsjn_11, lsjn_12, lsjn_13, lsjn_14, lsjn_15, lsjn_16, lsjn_17, lsjn_18, lsjn_19, lsjn_20, lsjn_21, lsjn_22, lsjn_23, lsjn_24, lsjn_25, lsjn_26, lsjn_27, agd_none, gdAt, gdV_bool, gdV_undef, Try.f20, List.append_eq, List.cons_append, List.nil_append, apure_call1, apure_call2, apure_call3, bft, btf, acodeN, List.getElem?_toArray, List.getElem?_cons_zero, List.getElem?_cons_succ, aopsN, adrawT, cls, astep, aop, afloat, ev, nth_lst, get_lst, aput, setAt_lst, upd_at, init_zero, init_succ, init_nil, Nat.reduceLT, Nat.reduceEqDiff, reduceIte, abuiltin, alen, Option.map_some, Option.map_none, orElse_some, apure_add, apure_eqlV, eqlVal_str, eqlVal_bool, eqlVal_ptr, eqlVal_slice, eqlVal_int, allT, ↓aop_eqlV, apure_neq, List.map_cons, List.map_nil, List.all_cons, List.all_nil, lit2, lit1, lit0, List.isEmpty_nil, Bool.and_self, Bool.and_true, Bool.true_and, Bool.false_and, Bool.and_false, Bool.not_true, Bool.not_false, Bool.or_true, Bool.true_or, Bool.false_or, Bool.or_false, Bool.false_eq_true, if_true, if_false, List.length_map, beq_self_eq_true, und3, und4, und5, und9, undSS, eql64, q0, q1, i0, ldS, hx0, finish, ares, aresL, ares1, hcat]
        exact ⟨_, rfl⟩
      · have q1 : (((ps.length : Nat) : Int) == 1) = false := by
          have : ((ps.length : Nat) : Int) ≠ 1 := by omega
          simpa using this
        have q2 : decide (((z.data.toList.length : Nat) : Int) > 0) = false := decide_eq_false (by omega)
        obtain ⟨F', hr, f0, f1, f5⟩ := sj_loop (self := (runQ E mem0 [] (n + 3)).1) (nf := nf) (m := m) (c := c) hL hnf htot hp (F := upd (upd (upd (upd (upd (upd (upd (upd (upd (upd (upd (upd (upd (upd (init [.slice (some ⟨b, o, none⟩) ps.length c, .string z]) 4 (.string ⟨#[]⟩)) 11 (.slice (some ⟨b, o, none⟩) ps.length c)) 12 (.int .i64 ((ps.length : Nat) : Int))) 14 (.bool false)) 13 (.bool false)) 16 (.bool false)) 15 (.bool false)) 5 (.int .i64 0)) 20 (.string z)) 21 (.int .i64 ((z.data.toList.length : Nat) : Int))) 22 (.bool false)) 39 (.slice (some ⟨b, o, none⟩) ps.length c)) 40 (.int .i64 ((ps.length : Nat) : Int))) 41 (.int .i64 0)) rfl rfl rfl rfl
        have f0 : F' 0 = .slice (some ⟨b, o, none⟩) ps.length c := f0
        have f1 : F' 1 = .string z := f1
        obtain ⟨m1, g1, g2, g3⟩ := growR (n := n) (k := (catL ps).size) (q := m.length) (m := m ++ [.row false 76 [.pointer none, .slice none 0 0]]) (by simp) htot
        have g1' : ainv E (runQ E mem0 [] (n + 3)).1 34 [.pointer (some ⟨m.length, 0, none⟩), .int .i64 ((catL ps).size : Nat)] (m ++ [.row false 76 [.pointer none, .slice none 0 0]]) = some (.tuple ⟨[]⟩, m1) := by
          rw [ainv_wr (by kernel_rfl) (allPtr _ _)]
          exact g1
        have k1 : Keeps m m.length m1 := fun j hj => by rw [g3 j hj, List.getElem?_append_left hj]
        have hx1 := hx0
        rw [← cellAt_same (k1 b (cell_lt' hx0))] at hx1
        have hst := catL_step hp0
        rw [List.take_zero] at hst
        have hst : catL (ps.take 1) = s0 := by
          rw [hst]
          show (⟨#[]⟩ : ByteArray) ++ s0 = s0
          apply ba_eq
          rw [ba_append]
          rfl
        have hle := cat_take_le ps 1
        rw [hst] at hle
        have z2 : s0.size = s0.data.toList.length := rfl
        obtain ⟨v1, m2, w1', w2', w3'⟩ := writeR (n := n + 1) s0 g2 (by rw [List.length_nil]; omega) htot
        have w1'' := (ainv_wr (self := (runQ E mem0 [] (n + 3)).1) (g := 35) (by kernel_rfl) (allPtr _ _)).trans w1'
        have k2 : Keeps m m.length m2 := k1.trans w3'
        rw [List.nil_append, ← hst] at w2'
        have hx2 := hx0
        rw [← cellAt_same (k2 b (cell_lt' hx0))] at hx2
        have hsl := sliceSt (m := m2) (o := o) (L := ps.length) (c := c) hx2 (by omega) hcap (by omega)
        obtain ⟨G, m3, hr2, e8, eB⟩ := sj2_loop (n := n + 1) (nf := nf) (m := m) (m0 := m2) (z := z) (c := c - 1) hL hnf htot hz (by omega) hp k2 w2' (F := upd (upd (upd (upd (upd (upd (upd (upd (upd (upd (upd (F') 8 (.pointer (some ⟨m.length, 0, none⟩))) 56 (.int .i64 (((catL ps).size : Nat) : Int))) 57 (.tuple ⟨[]⟩)) 58 (.slice (some ⟨b, o, none⟩) ps.length c)) 59 (.pointer (some ⟨b, o + 0, none⟩))) 60 (.string s0)) 61 (v1)) 62 (.slice (some ⟨b, o, none⟩) ps.length c)) 63 (.slice (some ⟨b, o + 1, none⟩) (ps.length - 1) (c - 1))) 64 (.int .i64 ((ps.length - 1 : Nat) : Int))) 65 (.int .i64 0)) f1 rfl rfl rfl rfl
        obtain ⟨m4, hst4⟩ := stringR (self := (runQ E mem0 [] (n + 2)).1) (nf := n + 3) eB (by rw [bytesI_len]; rfl) htot
        rw [bytesI_back'] at hst4
        have s4 := (ainv_wr (self := (runQ E mem0 [] (n + 3)).1) (g := 36) (by kernel_rfl) rfl).trans (runQ_body hst4)
        simp only [esjn_0, esjn_1, esjn_10, esjn_11, esjn_12, esjn_13, esjn_14, esjn_15, esjn_16, esjn_17, esjn_18, esjn_19, esjn_2, esjn_20, esjn_21, esjn_22, esjn_23, esjn_24, esjn_25, esjn_26, esjn_27, esjn_3, esjn_4, esjn_5, esjn_6, esjn_7, esjn_8, esjn_9, lsjn_0, lsjn_1, lsjn_2, lsjn_3, lsjn_4, lsjn_5, lsjn_6, lsjn_7, lsjn_8, lsjn_9, lsjn_10, lsjn_11, lsjn_12, lsjn_13, lsjn_14, lsjn_15, lsjn_16, lsjn_17, lsjn_18, lsjn_19, lsjn_20, lsjn_21, lsjn_22, lsjn_23, lsjn_24, lsjn_25, lsjn_26, lsjn_27, agd_none, gdAt, gdV_bool, gdV_undef, Try.f20, List.append_eq, List.cons_append, List.nil_append, apure_call1, apure_call2, apure_call3, bft, btf, acodeN, List.getElem?_toArray, List.getElem?_cons_zero, List.getElem?_cons_succ, aopsN, adrawT, cls, astep, aop, afloat, ev, nth_lst, get_lst, aput, setAt_lst, upd_at, init_zero, init_succ, init_nil, Nat.reduceLT, Nat.reduceEqDiff, reduceIte, abuiltin, alen, Option.map_some, Option.map_none, orElse_some, apure_add, apure_eqlV, eqlVal_str, eqlVal_bool, eqlVal_ptr, eqlVal_slice, eqlVal_int, allT, ↓aop_eqlV, apure_neq, List.map_cons, List.map_nil, List.all_cons, List.all_nil, lit2, lit1, lit0, List.isEmpty_nil, Bool.and_self, Bool.and_true, Bool.true_and, Bool.false_and, Bool.and_false, Bool.not_true, Bool.not_false, Bool.or_true, Bool.true_or, Bool.false_or, Bool.or_false, Bool.false_eq_true, if_true, if_false, List.length_map, beq_self_eq_true, und3, und4, und5, und9, undSS, eql64, q0, q1, gtr64', q2, hr, f0, f1, f5, allocB, callGrow, g1', i0, ldS, hx1, callBW', w1'', hsl, hr2, e8, callString, s4, finish, ares, aresL, ares1]
        exact ⟨_, rfl⟩
end Go.Am.Seat

/-
  wire.Join (own work).
-/
set_option linter.unusedSimpArgs false
set_option linter.unusedVariables false
namespace Go.Am.Seat
open Go.Proofs Go.Am
set_option maxRecDepth 100000

noncomputable def rwjn_0 : Array Oper := match Try.f9.body with
  | some (.seq (.region _ o _) _) => o
  | _ => #[]
noncomputable def lwjn_0 : List Oper := match Try.f9.body with
  | some (.seq (.region _ o _) _) => o.toList
  | _ => []
theorem ewjn_0 : rwjn_0.toList = lwjn_0 := rfl
noncomputable def rwjn_1 : Array Oper := match Try.f9.body with
  | some (.seq _ (.seq (.seq (.region _ o _) _) _)) => o
  | _ => #[]
noncomputable def lwjn_1 : List Oper := match Try.f9.body with
  | some (.seq _ (.seq (.seq (.region _ o _) _) _)) => o.toList
  | _ => []
theorem ewjn_1 : rwjn_1.toList = lwjn_1 := rfl
noncomputable def rwjn_2 : Array Oper := match Try.f9.body with
  | some (.seq _ (.seq (.seq _ (.cond _ (.seq (.region _ o _) _) _)) _)) => o
  | _ => #[]
noncomputable def lwjn_2 : List Oper := match Try.f9.body with
  | some (.seq _ (.seq (.seq _ (.cond _ (.seq (.region _ o _) _) _)) _)) => o.toList
  | _ => []
theorem ewjn_2 : rwjn_2.toList = lwjn_2 := rfl
noncomputable def rwjn_3 : Array Oper := match Try.f9.body with
  | some (.seq _ (.seq _ (.seq (.seq (.region _ o _) _) _))) => o
  | _ => #[]
noncomputable def lwjn_3 : List Oper := match Try.f9.body with
  | some (.seq _ (.seq _ (.seq (.seq (.region _ o _) _) _))) => o.toList
  | _ => []
theorem ewjn_3 : rwjn_3.toList = lwjn_3 := rfl
noncomputable def lpwjn_0 : Code := match Try.f9.body with
  | some (.seq _ (.seq _ (.seq (.seq _ (.block _ (.loop c))) _))) => c
  | _ => .skip
noncomputable def rwjn_4 : Array Oper := match Try.f9.body with
  | some (.seq _ (.seq _ (.seq (.seq _ (.block _ (.loop (.seq (.region _ o _) _)))) _))) => o
  | _ => #[]
noncomputable def lwjn_4 : List Oper := match Try.f9.body with
  | some (.seq _ (.seq _ (.seq (.seq _ (.block _ (.loop (.seq (.region _ o _) _)))) _))) => o.toList
  | _ => []
theorem ewjn_4 : rwjn_4.toList = lwjn_4 := rfl
noncomputable def rwjn_5 : Array Oper := match Try.f9.body with
  | some (.seq _ (.seq _ (.seq (.seq _ (.block _ (.loop (.seq _ (.seq _ (.seq (.block _ (.seq (.region _ o _) _)) _)))))) _))) => o
  | _ => #[]
noncomputable def lwjn_5 : List Oper := match Try.f9.body with
  | some (.seq _ (.seq _ (.seq (.seq _ (.block _ (.loop (.seq _ (.seq _ (.seq (.block _ (.seq (.region _ o _) _)) _)))))) _))) => o.toList
  | _ => []
theorem ewjn_5 : rwjn_5.toList = lwjn_5 := rfl
noncomputable def rwjn_6 : Array Oper := match Try.f9.body with
  | some (.seq _ (.seq _ (.seq (.seq _ (.block _ (.loop (.seq _ (.seq _ (.seq (.block _ (.seq _ (.seq (.region _ o _) _))) _)))))) _))) => o
  | _ => #[]
noncomputable def lwjn_6 : List Oper := match Try.f9.body with
  | some (.seq _ (.seq _ (.seq (.seq _ (.block _ (.loop (.seq _ (.seq _ (.seq (.block _ (.seq _ (.seq (.region _ o _) _))) _)))))) _))) => o.toList
  | _ => []
theorem ewjn_6 : rwjn_6.toList = lwjn_6 := rfl
noncomputable def rwjn_7 : Array Oper := match Try.f9.body with
  | some (.seq _ (.seq _ (.seq (.seq _ (.block _ (.loop (.seq _ (.seq _ (.seq (.block _ (.seq _ (.seq _ (.cond _ (.seq (.region _ o _) _) _)))) _)))))) _))) => o
  | _ => #[]
noncomputable def lwjn_7 : List Oper := match Try.f9.body with
  | some (.seq _ (.seq _ (.seq (.seq _ (.block _ (.loop (.seq _ (.seq _ (.seq (.block _ (.seq _ (.seq _ (.cond _ (.seq (.region _ o _) _) _)))) _)))))) _))) => o.toList
  | _ => []
theorem ewjn_7 : rwjn_7.toList = lwjn_7 := rfl
noncomputable def rwjn_8 : Array Oper := match Try.f9.body with
  | some (.seq _ (.seq _ (.seq (.seq _ (.block _ (.loop (.seq _ (.seq _ (.seq _ (.region _ o _))))))) _))) => o
  | _ => #[]
noncomputable def lwjn_8 : List Oper := match Try.f9.body with
  | some (.seq _ (.seq _ (.seq (.seq _ (.block _ (.loop (.seq _ (.seq _ (.seq _ (.region _ o _))))))) _))) => o.toList
  | _ => []
theorem ewjn_8 : rwjn_8.toList = lwjn_8 := rfl
theorem lpwjn_0_eq : lpwjn_0 = (.seq (.region 4 rwjn_4 false) (.seq (.cond (.tmp 16) .skip (.exit 0)) (.seq (.block 1 (.seq (.region 5 rwjn_5 false) (.seq (.region 6 rwjn_6 false) (.cond (.tmp 26) (.seq (.region 7 rwjn_7 false) .ret) .skip)))) (.region 8 rwjn_8 false)))) := rfl
noncomputable def rwjn_9 : Array Oper := match Try.f9.body with
  | some (.seq _ (.seq _ (.seq _ (.seq (.region _ o _) _)))) => o
  | _ => #[]
noncomputable def lwjn_9 : List Oper := match Try.f9.body with
  | some (.seq _ (.seq _ (.seq _ (.seq (.region _ o _) _)))) => o.toList
  | _ => []
theorem ewjn_9 : rwjn_9.toList = lwjn_9 := rfl
theorem bodywjn : Try.f9.body = some (.seq (.region 0 rwjn_0 false) (.seq (.seq (.region 1 rwjn_1 false) (.cond (.tmp 12) (.seq (.region 2 rwjn_2 false) .ret) .skip)) (.seq (.seq (.region 3 rwjn_3 false) (.block 0 (.loop lpwjn_0))) (.seq (.region 9 rwjn_9 false) .ret)))) := rfl
-- ntmps 30

theorem callSJ : callableB E.P 20 = true := by kernel_rfl
section
variable {self : Self} {nf : Nat} {m : Mem} {F : Nat → Value} {b0 o0 c0 b1 o1 c1 L i : Nat} {s : ByteArray} {n : Int}
theorem wj_iter (h0 : F 0 = .slice (some ⟨b0, o0, none⟩) L c0) (h13 : F 13 = .slice (some ⟨b1, o1, none⟩) L c1) (h14 : F 14 = .int .i64 (L : Nat)) (h15 : F 15 = .int .i64 (i : Nat)) (hi : i < L) (hL : L ≤ 1000000)
    (hx : cellAt m b1 (o1 + i) = some (.string s)) (hy : cellAt m b0 (o0 + i) = some (.int .i64 n)) (hn : ((s.data.toList.length : Nat) : Int) = n) :
    ∃ F', acodeN E self nf lpwjn_0 (lst F 30) m = some (.normal, lst F' 30, m) ∧ F' 0 = F 0 ∧ F' 1 = F 1 ∧ F' 13 = F 13 ∧ F' 14 = F 14 ∧ F' 15 = .int .i64 ((i + 1 : Nat) : Int) := by
  have hlt : decide (((i : Nat) : Int) < ((L : Nat) : Int)) = true := by simpa using hi
  have hne : ((((s.data.toList.length : Nat) : Int)) != n) = false := by rw [hn]; simp
  have e1 := w1 (i := i) (by omega)
  simp only [lpwjn_0_eq, ewjn_0, ewjn_1, ewjn_2, ewjn_3, ewjn_4, ewjn_5, ewjn_6, ewjn_7, ewjn_8, ewjn_9, lwjn_0, lwjn_1, lwjn_2, lwjn_3, lwjn_4, lwjn_5, lwjn_6, lwjn_7, lwjn_8, lwjn_9, agd_none, gdAt, gdV_bool, gdV_undef, Try.f9, List.append_eq, List.cons_append, List.nil_append, apure_call1, apure_call2, apure_call3, bft, btf, acodeN, List.getElem?_toArray, List.getElem?_cons_zero, List.getElem?_cons_succ, aopsN, adrawT, cls, astep, aop, afloat, ev, nth_lst, get_lst, aput, setAt_lst, upd_at, init_zero, init_succ, init_nil, Nat.reduceLT, Nat.reduceEqDiff, reduceIte, abuiltin, alen, Option.map_some, Option.map_none, orElse_some, apure_add, apure_eqlV, eqlVal_str, eqlVal_bool, eqlVal_ptr, eqlVal_slice, eqlVal_int, allT, ↓aop_eqlV, apure_neq, List.map_cons, List.map_nil, List.all_cons, List.all_nil, lit2, lit1, lit0, List.isEmpty_nil, Bool.and_self, Bool.and_true, Bool.true_and, Bool.false_and, Bool.and_false, Bool.not_true, Bool.not_false, Bool.or_true, Bool.true_or, Bool.false_or, Bool.or_false, Bool.false_eq_true, if_true, if_false, List.length_map, beq_self_eq_true, und3, und4, und5, und9, h0, h13, h14, h15, lss64, hlt, ixSS hi, ixIS hi, ldS, ldI, hx, hy, neq64, hne, add64', e1]
  exact ⟨_, rfl, by simp only [upd_at, Nat.reduceEqDiff, reduceIte, h0], by simp only [upd_at, Nat.reduceEqDiff, reduceIte], by simp only [upd_at, Nat.reduceEqDiff, reduceIte, h13], by simp only [upd_at, Nat.reduceEqDiff, reduceIte, h14], by simp only [upd_at, Nat.reduceEqDiff, reduceIte]⟩
theorem wj_bad (h0 : F 0 = .slice (some ⟨b0, o0, none⟩) L c0) (h13 : F 13 = .slice (some ⟨b1, o1, none⟩) L c1) (h14 : F 14 = .int .i64 (L : Nat)) (h15 : F 15 = .int .i64 (i : Nat)) (hi : i < L)
    (hx : cellAt m b1 (o1 + i) = some (.string s)) (hy : cellAt m b0 (o0 + i) = some (.int .i64 n)) (hn : ((s.data.toList.length : Nat) : Int) ≠ n) :
    ∃ F', acodeN E self nf lpwjn_0 (lst F 30) m = some (.ret, lst F' 30, m) ∧ F' 4 = .string ⟨#[]⟩ ∧ F' 5 = .int .i64 4 := by
  have hlt : decide (((i : Nat) : Int) < ((L : Nat) : Int)) = true := by simpa using hi
  have hne : ((((s.data.toList.length : Nat) : Int)) != n) = true := by simpa using hn
  simp only [lpwjn_0_eq, ewjn_0, ewjn_1, ewjn_2, ewjn_3, ewjn_4, ewjn_5, ewjn_6, ewjn_7, ewjn_8, ewjn_9, lwjn_0, lwjn_1, lwjn_2, lwjn_3, lwjn_4, lwjn_5, lwjn_6, lwjn_7, lwjn_8, lwjn_9, agd_none, gdAt, gdV_bool, gdV_undef, Try.f9, List.append_eq, List.cons_append, List.nil_append, apure_call1, apure_call2, apure_call3, bft, btf, acodeN, List.getElem?_toArray, List.getElem?_cons_zero, List.getElem?_cons_succ, aopsN, adrawT, cls, astep, aop, afloat, ev, nth_lst, get_lst, aput, setAt_lst, upd_at, init_zero, init_succ, init_nil, Nat.reduceLT, Nat.reduceEqDiff, reduceIte, abuiltin, alen, Option.map_some, Option.map_none, orElse_some, apure_add, apure_eqlV, eqlVal_str, eqlVal_bool, eqlVal_ptr, eqlVal_slice, eqlVal_int, allT, ↓aop_eqlV, apure_neq, List.map_cons, List.map_nil, List.all_cons, List.all_nil, lit2, lit1, lit0, List.isEmpty_nil, Bool.and_self, Bool.and_true, Bool.true_and, Bool.false_and, Bool.and_false, Bool.not_true, Bool.not_false, Bool.or_true, Bool.true_or, Bool.false_or, Bool.or_false, Bool.false_eq_true, if_true, if_false, List.length_map, beq_self_eq_true, und3, und4, und5, und9, h0, h13, h14, h15, lss64, hlt, ixSS hi, ixIS hi, ldS, ldI, hx, hy, neq64, hne]
  exact ⟨_, rfl, by simp only [upd_at, Nat.reduceEqDiff, reduceIte], by simp only [upd_at, Nat.reduceEqDiff, reduceIte]⟩
theorem wj_last (h14 : F 14 = .int .i64 (L : Nat)) (h15 : F 15 = .int .i64 (i : Nat)) (hi : L ≤ i) :
    ∃ F', acodeN E self nf lpwjn_0 (lst F 30) m = some (.exit 0, lst F' 30, m) ∧ F' 1 = F 1 := by
  have hlt : decide (((i : Nat) : Int) < ((L : Nat) : Int)) = false := by simpa using hi
  simp only [lpwjn_0_eq, ewjn_0, ewjn_1, ewjn_2, ewjn_3, ewjn_4, ewjn_5, ewjn_6, ewjn_7, ewjn_8, ewjn_9, lwjn_0, lwjn_1, lwjn_2, lwjn_3, lwjn_4, lwjn_5, lwjn_6, lwjn_7, lwjn_8, lwjn_9, agd_none, gdAt, gdV_bool, gdV_undef, Try.f9, List.append_eq, List.cons_append, List.nil_append, apure_call1, apure_call2, apure_call3, bft, btf, acodeN, List.getElem?_toArray, List.getElem?_cons_zero, List.getElem?_cons_succ, aopsN, adrawT, cls, astep, aop, afloat, ev, nth_lst, get_lst, aput, setAt_lst, upd_at, init_zero, init_succ, init_nil, Nat.reduceLT, Nat.reduceEqDiff, reduceIte, abuiltin, alen, Option.map_some, Option.map_none, orElse_some, apure_add, apure_eqlV, eqlVal_str, eqlVal_bool, eqlVal_ptr, eqlVal_slice, eqlVal_int, allT, ↓aop_eqlV, apure_neq, List.map_cons, List.map_nil, List.all_cons, List.all_nil, lit2, lit1, lit0, List.isEmpty_nil, Bool.and_self, Bool.and_true, Bool.true_and, Bool.false_and, Bool.and_false, Bool.not_true, Bool.not_false, Bool.or_true, Bool.true_or, Bool.false_or, Bool.or_false, Bool.false_eq_true, if_true, if_false, List.length_map, beq_self_eq_true, und3, und4, und5, und9, h14, h15, lss64, hlt]
  exact ⟨_, rfl, by simp only [upd_at, Nat.reduceEqDiff, reduceIte]⟩
end

theorem wj_loop {self : Self} {nf : Nat} {m : Mem} {szs : List Int} {ps : List ByteArray} {b0 o0 c0 b1 o1 c1 : Nat} (hl : szs.length = ps.length) (hL : ps.length ≤ 1000) (hnf : 1000 < nf)
    (hs : ∀ (i : Nat) (x : Value), (szs.map (Value.int .i64))[i]? = some x → cellAt m b0 (o0 + i) = some x) (hp : ∀ (i : Nat) (x : Value), (ps.map Value.string)[i]? = some x → cellAt m b1 (o1 + i) = some x)
    {F : Nat → Value} (h0 : F 0 = .slice (some ⟨b0, o0, none⟩) ps.length c0) (h13 : F 13 = .slice (some ⟨b1, o1, none⟩) ps.length c1) (h14 : F 14 = .int .i64 (ps.length : Nat)) (h15 : F 15 = .int .i64 (0 : Nat)) :
    ∃ e F', aloop (acodeN E self nf lpwjn_0) nf (lst F 30) m = some (e, lst F' 30, m) ∧ ((e = .exit 0 ∧ F' 1 = F 1 ∧ fitsB szs ps = true) ∨ (e = .ret ∧ F' 4 = .string ⟨#[]⟩ ∧ F' 5 = .int .i64 4 ∧ fitsB szs ps = false)) := by
  have hloop := aloop_inv (body := acodeN E self nf lpwjn_0) (N := ps.length)
    (I := fun i T m' => ∃ G, T = lst G 30 ∧ m' = m ∧ G 0 = .slice (some ⟨b0, o0, none⟩) ps.length c0 ∧ G 1 = F 1 ∧ G 13 = .slice (some ⟨b1, o1, none⟩) ps.length c1 ∧ G 14 = .int .i64 (ps.length : Nat) ∧ G 15 = .int .i64 (i : Nat) ∧
      ∀ (j : Nat) (n : Int) (s : ByteArray), j < i → szs[j]? = some n → ps[j]? = some s → ((s.data.toList.length : Nat) : Int) = n)
    (Q := fun e T m' => ∃ F', T = lst F' 30 ∧ m' = m ∧ ((e = .exit 0 ∧ F' 1 = F 1 ∧ fitsB szs ps = true) ∨ (e = .ret ∧ F' 4 = .string ⟨#[]⟩ ∧ F' 5 = .int .i64 4 ∧ fitsB szs ps = false))) (fun i T m' hi hI => by
      obtain ⟨G, rfl, rfl, g0, g1, g13, g14, g15, gall⟩ := hI
      by_cases hlt : i < ps.length
      · have hpi : ps[i]? = some ps[i] := by simp [hlt]
        have hsi : szs[i]? = some (szs[i]'(by omega)) := by simp [hl, hlt]
        have hx := hp i (.string ps[i]) (by rw [List.getElem?_map, hpi]; rfl)
        have hy := hs i (.int .i64 (szs[i]'(by omega))) (by rw [List.getElem?_map, hsi]; rfl)
        by_cases hn : ((ps[i].data.toList.length : Nat) : Int) = szs[i]'(by omega)
        · left
          obtain ⟨F', hr, f0, f1, f13, f14, f15⟩ := wj_iter (self := self) (nf := nf) g0 g13 g14 g15 hlt (by omega) hx hy hn
          refine ⟨_, _, hr, hlt, F', rfl, rfl, f0.trans g0, f1.trans g1, f13.trans g13, f14.trans g14, f15, fun j n s hj h1 h2 => ?_⟩
          by_cases hji : j < i
          · exact gall j n s hji h1 h2
          · have : j = i := by omega
            subst this
            rw [hsi] at h1; cases h1
            rw [hpi] at h2; cases h2
            exact hn
        · right
          obtain ⟨F', hr, f4, f5⟩ := wj_bad (self := self) (nf := nf) g0 g13 g14 g15 hlt hx hy hn
          exact ⟨_, _, _, hr, by simp, F', rfl, rfl, .inr ⟨rfl, f4, f5, fits_not hsi hpi hn⟩⟩
      · right
        obtain ⟨F', hr, f1⟩ := wj_last (self := self) (nf := nf) (m := m') g14 g15 (by omega)
        refine ⟨_, _, _, hr, by simp, F', rfl, rfl, .inl ⟨rfl, f1.trans g1, fits_all fun j n s h1 h2 => ?_⟩⟩
        exact gall j n s (by have := (List.getElem?_eq_some_iff.1 h2).1; omega) h1 h2)
  obtain ⟨e, T', m', hr, F', rfl, rfl, hq⟩ := hloop ps.length 0 nf (lst F 30) m (by omega) (by omega) ⟨F, rfl, rfl, h0, rfl, h13, h14, h15, fun j n s hj => by omega⟩
  exact ⟨e, F', hr, hq⟩

theorem wj_none {self : Self} {nf : Nat} {m : Mem} (hnf : 0 < nf) {F : Nat → Value} (h14 : F 14 = .int .i64 0) (h15 : F 15 = .int .i64 0) :
    ∃ F', aloop (acodeN E self nf lpwjn_0) nf (lst F 30) m = some (.exit 0, lst F' 30, m) ∧ F' 1 = F 1 := by
  obtain ⟨k, rfl⟩ : ∃ g, nf = g + 1 := ⟨nf - 1, by omega⟩
  obtain ⟨F', hr, f1⟩ := wj_last (self := self) (nf := k + 1) (m := m) (L := 0) (i := 0) h14 h15 (Nat.le_refl _)
  exact ⟨F', by rw [aloop, hr], f1⟩

/-- What strings.Join answers. -/
def CCat (self : Self) : Prop := ∀ (m : Mem) (ps : List ByteArray) (vp : Value), RS m vp (ps.map Value.string) → CapOk vp → ps.length ≤ 1000 → (catL ps).size ≤ 1000000000 → ainv E self 20 [vp, .string ⟨#[]⟩] m = some (.string (catL ps), m)
theorem ccat {n : Nat} (hn : 1000 ≤ n) : CCat (runQ E mem0 [] (n + 4)).1 := by
  intro m ps vp hp hc hL ht
  refine ainv_plain (by kernel_rfl) (by kernel_rfl) rfl fun M hM => ?_
  have hp' : RS M vp (ps.map Value.string) := by
    rcases hM with h | rfl
    · simp only [List.all_cons, List.all_nil, Bool.and_true, Bool.and_eq_true] at h
      exact .inl (hp.lit h.1)
    · exact hp.sealed
  obtain ⟨m', hb⟩ := sj_body (n := n) (nf := n + 4) (z := ⟨#[]⟩) rfl hp' hc hL ht (by omega)
  exact ⟨m', runQ_body hb⟩

theorem wj_body {self : Self} {nf : Nat} {m : Mem} {szs : List Int} {ps : List ByteArray} {vs vp : Value} (cc : CCat self) (hs : RS m vs (szs.map (Value.int .i64))) (hp : RS m vp (ps.map Value.string)) (hcap : CapOk vp) (hL : ps.length ≤ 1000) (hl : szs.length ≤ 1000000) (hnf : 1000 < nf) (htot : (catL ps).size ≤ 1000000000) :
    abody E self nf 9 [vs, vp] m = some (.tuple ⟨[.string (joinS szs ps), .int .i64 (joinE szs ps : Nat)]⟩, m) := by
  have hc := cc m ps vp hp hcap hL htot
  rw [abody_eqF (by kernel_rfl) Try.func9 bodywjn (by kernel_rfl) (Nat.le_of_ble_eq_true rfl)]
  rw [show Try.f9.ntmps = 30 from rfl]
  have hlenN : ∀ (a b : Nat), (((a : Nat) : Int) != ((b : Nat) : Int)) = decide (a ≠ b) := by
    intro a b
    by_cases h : a = b
    · subst h; simp
    · have : ((a : Nat) : Int) ≠ (b : Int) := by omega
      simp [h, this]
  rcases hs with ⟨hs0, rfl⟩ | ⟨b0, o0, c0, rfl, hs⟩
  · have hz : szs = [] := by simpa using hs0
    subst hz
    rcases hp with ⟨hp0, rfl⟩ | ⟨b1, o1, c1, rfl, hp⟩
    · have hz : ps = [] := by simpa using hp0
      subst hz
      have hne : ((0 : Int) != 0) = false := rfl
      obtain ⟨F', hr, f1⟩ := wj_none (self := self) (nf := nf) (m := m) (by omega) (F := upd (upd (upd (upd (upd (upd (upd (upd (upd (upd (init [.slice none 0 0, .slice none 0 0]) 4 (.string ⟨#[]⟩)) 5 (.int .i64 0)) 8 (.slice none 0 0)) 9 (.int .i64 0)) 10 (.slice none 0 0)) 11 (.int .i64 0)) 12 (.bool false)) 13 (.slice none 0 0)) 14 (.int .i64 0)) 15 (.int .i64 0)) rfl rfl
      have f1 : F' 1 = .slice none 0 0 := f1
      simp only [ewjn_0, ewjn_1, ewjn_2, ewjn_3, ewjn_4, ewjn_5, ewjn_6, ewjn_7, ewjn_8, ewjn_9, lwjn_0, lwjn_1, lwjn_2, lwjn_3, lwjn_4, lwjn_5, lwjn_6, lwjn_7, lwjn_8, lwjn_9, agd_none, gdAt, gdV_bool, gdV_undef, Try.f9, List.append_eq, List.cons_append, List.nil_append, apure_call1, apure_call2, apure_call3, bft, btf, acodeN, List.getElem?_toArray, List.getElem?_cons_zero, List.getElem?_cons_succ, aopsN, adrawT, cls, astep, aop, afloat, ev, nth_lst, get_lst, aput, setAt_lst, upd_at, init_zero, init_succ, init_nil, Nat.reduceLT, Nat.reduceEqDiff, reduceIte, abuiltin, alen, Option.map_some, Option.map_none, orElse_some, apure_add, apure_eqlV, eqlVal_str, eqlVal_bool, eqlVal_ptr, eqlVal_slice, eqlVal_int, allT, ↓aop_eqlV, apure_neq, List.map_cons, List.map_nil, List.all_cons, List.all_nil, lit2, lit1, lit0, List.isEmpty_nil, Bool.and_self, Bool.and_true, Bool.true_and, Bool.false_and, Bool.and_false, Bool.not_true, Bool.not_false, Bool.or_true, Bool.true_or, Bool.false_or, Bool.or_false, Bool.false_eq_true, if_true, if_false, List.length_map, beq_self_eq_true, und3, und4, und5, und9, lenI, lenS, neq64, hne, hr, f1, callSJ, hc, finish, ares, aresL, ares1]
      rfl
    · rw [List.length_map] at hc ⊢
      by_cases h0 : ps.length = 0
      · have hz : ps = [] := List.eq_nil_of_length_eq_zero h0
        subst hz
        have hne : (((0 : Nat) : Int) != 0) = false := rfl
        obtain ⟨F', hr, f1⟩ := wj_none (self := self) (nf := nf) (m := m) (by omega) (F := upd (upd (upd (upd (upd (upd (upd (upd (upd (upd (init [.slice none 0 0, .slice (some ⟨b1, o1, none⟩) 0 c1]) 4 (.string ⟨#[]⟩)) 5 (.int .i64 0)) 8 (.slice (some ⟨b1, o1, none⟩) 0 c1)) 9 (.int .i64 ((0 : Nat) : Int))) 10 (.slice none 0 0)) 11 (.int .i64 0)) 12 (.bool false)) 13 (.slice (some ⟨b1, o1, none⟩) 0 c1)) 14 (.int .i64 ((0 : Nat) : Int))) 15 (.int .i64 0)) rfl rfl
        have f1 : F' 1 = .slice (some ⟨b1, o1, none⟩) 0 c1 := f1
        simp only [List.length_nil] at hc
        simp only [List.length_nil, ewjn_0, ewjn_1, ewjn_2, ewjn_3, ewjn_4, ewjn_5, ewjn_6, ewjn_7, ewjn_8, ewjn_9, lwjn_0, lwjn_1, lwjn_2, lwjn_3, lwjn_4, lwjn_5, lwjn_6, lwjn_7, lwjn_8, lwjn_9, agd_none, gdAt, gdV_bool, gdV_undef, Try.f9, List.append_eq, List.cons_append, List.nil_append, apure_call1, apure_call2, apure_call3, bft, btf, acodeN, List.getElem?_toArray, List.getElem?_cons_zero, List.getElem?_cons_succ, aopsN, adrawT, cls, astep, aop, afloat, ev, nth_lst, get_lst, aput, setAt_lst, upd_at, init_zero, init_succ, init_nil, Nat.reduceLT, Nat.reduceEqDiff, reduceIte, abuiltin, alen, Option.map_some, Option.map_none, orElse_some, apure_add, apure_eqlV, eqlVal_str, eqlVal_bool, eqlVal_ptr, eqlVal_slice, eqlVal_int, allT, ↓aop_eqlV, apure_neq, List.map_cons, List.map_nil, List.all_cons, List.all_nil, lit2, lit1, lit0, List.isEmpty_nil, Bool.and_self, Bool.and_true, Bool.true_and, Bool.false_and, Bool.and_false, Bool.not_true, Bool.not_false, Bool.or_true, Bool.true_or, Bool.false_or, Bool.or_false, Bool.false_eq_true, if_true, if_false, List.length_map, beq_self_eq_true, und3, und4, und5, und9, lenI, undSS, neq64, hne, hr, f1, callSJ, hc, finish, ares, aresL, ares1]
        rfl
      · have hne : (((ps.length : Nat) : Int) != 0) = true := by
          have := hlenN ps.length 0
          rw [show ((0 : Nat) : Int) = 0 from rfl] at this
          rw [this]
          simpa using h0
        have he : joinE [] ps = 6 := by
          unfold joinE
          rw [if_pos (fun h => h0 h.symm)]
        have hj : joinS [] ps = ⟨#[]⟩ := by unfold joinS; rw [he]; rfl
        simp only [ewjn_0, ewjn_1, ewjn_2, ewjn_3, ewjn_4, ewjn_5, ewjn_6, ewjn_7, ewjn_8, ewjn_9, lwjn_0, lwjn_1, lwjn_2, lwjn_3, lwjn_4, lwjn_5, lwjn_6, lwjn_7, lwjn_8, lwjn_9, agd_none, gdAt, gdV_bool, gdV_undef, Try.f9, List.append_eq, List.cons_append, List.nil_append, apure_call1, apure_call2, apure_call3, bft, btf, acodeN, List.getElem?_toArray, List.getElem?_cons_zero, List.getElem?_cons_succ, aopsN, adrawT, cls, astep, aop, afloat, ev, nth_lst, get_lst, aput, setAt_lst, upd_at, init_zero, init_succ, init_nil, Nat.reduceLT, Nat.reduceEqDiff, reduceIte, abuiltin, alen, Option.map_some, Option.map_none, orElse_some, apure_add, apure_eqlV, eqlVal_str, eqlVal_bool, eqlVal_ptr, eqlVal_slice, eqlVal_int, allT, ↓aop_eqlV, apure_neq, List.map_cons, List.map_nil, List.all_cons, List.all_nil, lit2, lit1, lit0, List.isEmpty_nil, Bool.and_self, Bool.and_true, Bool.true_and, Bool.false_and, Bool.and_false, Bool.not_true, Bool.not_false, Bool.or_true, Bool.true_or, Bool.false_or, Bool.or_false, Bool.false_eq_true, if_true, if_false, List.length_map, beq_self_eq_true, und3, und4, und5, und9, lenI, undSS, neq64, hne, finish, ares, aresL, ares1, he, hj]
        rfl
  · rw [List.length_map]
    rcases hp with ⟨hp0, rfl⟩ | ⟨b1, o1, c1, rfl, hp⟩
    · have hz : ps = [] := by simpa using hp0
      subst hz
      by_cases h0 : szs.length = 0
      · have hz : szs = [] := List.eq_nil_of_length_eq_zero h0
        subst hz
        have hne : ((0 : Int) != ((0 : Nat) : Int)) = false := rfl
        obtain ⟨F', hr, f1⟩ := wj_none (self := self) (nf := nf) (m := m) (by omega) (F := upd (upd (upd (upd (upd (upd (upd (upd (upd (upd (init [.slice (some ⟨b0, o0, none⟩) 0 c0, .slice none 0 0]) 4 (.string ⟨#[]⟩)) 5 (.int .i64 0)) 8 (.slice none 0 0)) 9 (.int .i64 0)) 10 (.slice (some ⟨b0, o0, none⟩) 0 c0)) 11 (.int .i64 ((0 : Nat) : Int))) 12 (.bool false)) 13 (.slice none 0 0)) 14 (.int .i64 0)) 15 (.int .i64 0)) rfl rfl
        have f1 : F' 1 = .slice none 0 0 := f1
        simp only [List.length_nil, ewjn_0, ewjn_1, ewjn_2, ewjn_3, ewjn_4, ewjn_5, ewjn_6, ewjn_7, ewjn_8, ewjn_9, lwjn_0, lwjn_1, lwjn_2, lwjn_3, lwjn_4, lwjn_5, lwjn_6, lwjn_7, lwjn_8, lwjn_9, agd_none, gdAt, gdV_bool, gdV_undef, Try.f9, List.append_eq, List.cons_append, List.nil_append, apure_call1, apure_call2, apure_call3, bft, btf, acodeN, List.getElem?_toArray, List.getElem?_cons_zero, List.getElem?_cons_succ, aopsN, adrawT, cls, astep, aop, afloat, ev, nth_lst, get_lst, aput, setAt_lst, upd_at, init_zero, init_succ, init_nil, Nat.reduceLT, Nat.reduceEqDiff, reduceIte, abuiltin, alen, Option.map_some, Option.map_none, orElse_some, apure_add, apure_eqlV, eqlVal_str, eqlVal_bool, eqlVal_ptr, eqlVal_slice, eqlVal_int, allT, ↓aop_eqlV, apure_neq, List.map_cons, List.map_nil, List.all_cons, List.all_nil, lit2, lit1, lit0, List.isEmpty_nil, Bool.and_self, Bool.and_true, Bool.true_and, Bool.false_and, Bool.and_false, Bool.not_true, Bool.not_false, Bool.or_true, Bool.true_or, Bool.false_or, Bool.or_false, Bool.false_eq_true, if_true, if_false, List.length_map, beq_self_eq_true, und3, und4, und5, und9, lenS, undIS, neq64, hne, hr, f1, callSJ, hc, finish, ares, aresL, ares1]
        rfl
      · have hne : ((0 : Int) != ((szs.length : Nat) : Int)) = true := by
          have := hlenN 0 szs.length
          rw [show ((0 : Nat) : Int) = 0 from rfl] at this
          rw [this]
          simpa using fun h => h0 h.symm
        have he : joinE szs [] = 6 := by
          unfold joinE
          rw [if_pos (by simpa using h0)]
        have hj : joinS szs [] = ⟨#[]⟩ := by unfold joinS; rw [he]; rfl
        simp only [ewjn_0, ewjn_1, ewjn_2, ewjn_3, ewjn_4, ewjn_5, ewjn_6, ewjn_7, ewjn_8, ewjn_9, lwjn_0, lwjn_1, lwjn_2, lwjn_3, lwjn_4, lwjn_5, lwjn_6, lwjn_7, lwjn_8, lwjn_9, agd_none, gdAt, gdV_bool, gdV_undef, Try.f9, List.append_eq, List.cons_append, List.nil_append, apure_call1, apure_call2, apure_call3, bft, btf, acodeN, List.getElem?_toArray, List.getElem?_cons_zero, List.getElem?_cons_succ, aopsN, adrawT, cls, astep, aop, afloat, ev, nth_lst, get_lst, aput, setAt_lst, upd_at, init_zero, init_succ, init_nil, Nat.reduceLT, Nat.reduceEqDiff, reduceIte, abuiltin, alen, Option.map_some, Option.map_none, orElse_some, apure_add, apure_eqlV, eqlVal_str, eqlVal_bool, eqlVal_ptr, eqlVal_slice, eqlVal_int, allT, ↓aop_eqlV, apure_neq, List.map_cons, List.map_nil, List.all_cons, List.all_nil, lit2, lit1, lit0, List.isEmpty_nil, Bool.and_self, Bool.and_true, Bool.true_and, Bool.false_and, Bool.and_false, Bool.not_true, Bool.not_false, Bool.or_true, Bool.true_or, Bool.false_or, Bool.or_false, Bool.false_eq_true, if_true, if_false, List.length_map, beq_self_eq_true, und3, und4, und5, und9, lenS, undIS, neq64, hne, finish, ares, aresL, ares1, he, hj]
        rfl
    · rw [List.length_map] at hc ⊢
      by_cases hlen : szs.length = ps.length
      · have hne : (((ps.length : Nat) : Int) != ((ps.length : Nat) : Int)) = false := by simp
        obtain ⟨e, F', hr, hq⟩ := wj_loop (self := self) (nf := nf) (m := m) (c0 := c0) (c1 := c1) hlen hL hnf hs hp (F := upd (upd (upd (upd (upd (upd (upd (upd (upd (upd (init [.slice (some ⟨b0, o0, none⟩) ps.length c0, .slice (some ⟨b1, o1, none⟩) ps.length c1]) 4 (.string ⟨#[]⟩)) 5 (.int .i64 0)) 8 (.slice (some ⟨b1, o1, none⟩) ps.length c1)) 9 (.int .i64 ((ps.length : Nat) : Int))) 10 (.slice (some ⟨b0, o0, none⟩) ps.length c0)) 11 (.int .i64 ((ps.length : Nat) : Int))) 12 (.bool false)) 13 (.slice (some ⟨b1, o1, none⟩) ps.length c1)) 14 (.int .i64 ((ps.length : Nat) : Int))) 15 (.int .i64 0)) rfl rfl rfl rfl
        rcases hq with ⟨rfl, f1, hf⟩ | ⟨rfl, f4, f5, hf⟩
        · have f1 : F' 1 = .slice (some ⟨b1, o1, none⟩) ps.length c1 := f1
          have he : joinE szs ps = 0 := by unfold joinE; rw [if_neg (by simpa using hlen), if_pos hf]
          have hj : joinS szs ps = catL ps := by unfold joinS; rw [if_pos he]
          simp only [hlen, ewjn_0, ewjn_1, ewjn_2, ewjn_3, ewjn_4, ewjn_5, ewjn_6, ewjn_7, ewjn_8, ewjn_9, lwjn_0, lwjn_1, lwjn_2, lwjn_3, lwjn_4, lwjn_5, lwjn_6, lwjn_7, lwjn_8, lwjn_9, agd_none, gdAt, gdV_bool, gdV_undef, Try.f9, List.append_eq, List.cons_append, List.nil_append, apure_call1, apure_call2, apure_call3, bft, btf, acodeN, List.getElem?_toArray, List.getElem?_cons_zero, List.getElem?_cons_succ, aopsN, adrawT, cls, astep, aop, afloat, ev, nth_lst, get_lst, aput, setAt_lst, upd_at, init_zero, init_succ, init_nil, Nat.reduceLT, Nat.reduceEqDiff, reduceIte, abuiltin, alen, Option.map_some, Option.map_none, orElse_some, apure_add, apure_eqlV, eqlVal_str, eqlVal_bool, eqlVal_ptr, eqlVal_slice, eqlVal_int, allT, ↓aop_eqlV, apure_neq, List.map_cons, List.map_nil, List.all_cons, List.all_nil, lit2, lit1, lit0, List.isEmpty_nil, Bool.and_self, Bool.and_true, Bool.true_and, Bool.false_and, Bool.and_false, Bool.not_true, Bool.not_false, Bool.or_true, Bool.true_or, Bool.false_or, Bool.or_false, Bool.false_eq_true, if_true, if_false, List.length_map, beq_self_eq_true, und3, und4, und5, und9, undSS, undIS, neq64, hne, hr, f1, callSJ, hc, finish, ares, aresL, ares1, he, hj]
          rfl
        · have he : joinE szs ps = 4 := by unfold joinE; rw [if_neg (by simpa using hlen), hf]; rfl
          have hj : joinS szs ps = ⟨#[]⟩ := by unfold joinS; rw [he]; rfl
          simp only [hlen, ewjn_0, ewjn_1, ewjn_2, ewjn_3, ewjn_4, ewjn_5, ewjn_6, ewjn_7, ewjn_8, ewjn_9, lwjn_0, lwjn_1, lwjn_2, lwjn_3, lwjn_4, lwjn_5, lwjn_6, lwjn_7, lwjn_8, lwjn_9, agd_none, gdAt, gdV_bool, gdV_undef, Try.f9, List.append_eq, List.cons_append, List.nil_append, apure_call1, apure_call2, apure_call3, bft, btf, acodeN, List.getElem?_toArray, List.getElem?_cons_zero, List.getElem?_cons_succ, aopsN, adrawT, cls, astep, aop, afloat, ev, nth_lst, get_lst, aput, setAt_lst, upd_at, init_zero, init_succ, init_nil, Nat.reduceLT, Nat.reduceEqDiff, reduceIte, abuiltin, alen, Option.map_some, Option.map_none, orElse_some, apure_add, apure_eqlV, eqlVal_str, eqlVal_bool, eqlVal_ptr, eqlVal_slice, eqlVal_int, allT, ↓aop_eqlV, apure_neq, List.map_cons, List.map_nil, List.all_cons, List.all_nil, lit2, lit1, lit0, List.isEmpty_nil, Bool.and_self, Bool.and_true, Bool.true_and, Bool.false_and, Bool.and_false, Bool.not_true, Bool.not_false, Bool.or_true, Bool.true_or, Bool.false_or, Bool.or_false, Bool.false_eq_true, if_true, if_false, List.length_map, beq_self_eq_true, und3, und4, und5, und9, undSS, undIS, neq64, hne, hr, f4, f5, finish, ares, aresL, ares1, he, hj]
          rfl
      · have hne : (((ps.length : Nat) : Int) != ((szs.length : Nat) : Int)) = true := by rw [hlenN]; simpa using fun h => hlen h.symm
        have he : joinE szs ps = 6 := by unfold joinE; rw [if_pos hlen]
        have hj : joinS szs ps = ⟨#[]⟩ := by unfold joinS; rw [he]; rfl
        simp only [ewjn_0, ewjn_1, ewjn_2, ewjn_3, ewjn_4, ewjn_5, ewjn_6, ewjn_7, ewjn_8, ewjn_9, lwjn_0, lwjn_1, lwjn_2, lwjn_3, lwjn_4, lwjn_5, lwjn_6, lwjn_7, lwjn_8, lwjn_9, agd_none, gdAt, gdV_bool, gdV_undef, Try.f9, List.append_eq, List.cons_append, List.nil_append, apure_call1, apure_call2, apure_call3, bft, btf, acodeN, List.getElem?_toArray, List.getElem?_cons_zero, List.getElem?_cons_succ, aopsN, adrawT, cls, astep, aop, afloat, ev, nth_lst, get_lst, aput, setAt_lst, upd_at, init_zero, init_succ, init_nil, Nat.reduceLT, Nat.reduceEqDiff, reduceIte, abuiltin, alen, Option.map_some, Option.map_none, orElse_some, apure_add, apure_eqlV, eqlVal_str, eqlVal_bool, eqlVal_ptr, eqlVal_slice, eqlVal_int, allT, ↓aop_eqlV, apure_neq, List.map_cons, List.map_nil, List.all_cons, List.all_nil, lit2, lit1, lit0, List.isEmpty_nil, Bool.and_self, Bool.and_true, Bool.true_and, Bool.false_and, Bool.and_false, Bool.not_true, Bool.not_false, Bool.or_true, Bool.true_or, Bool.false_or, Bool.or_false, Bool.false_eq_true, if_true, if_false, List.length_map, beq_self_eq_true, und3, und4, und5, und9, undSS, undIS, neq64, hne, finish, ares, aresL, ares1, he, hj]
        rfl

theorem cjoin_wire' {n : Nat} (hn : 1000 ≤ n) : CJoin 9 (runQ E mem0 [] (n + 5)).1 := by
  intro m szs ps vs vp hs hp hl1 hl2 hcat hw hcap
  refine ainv_plain (by kernel_rfl) (by kernel_rfl) rfl fun M hM => ⟨M, runQ_body ?_⟩
  have hs' : RS M vs (szs.map (Value.int .i64)) := by
    rcases hM with h | rfl
    · simp only [List.all_cons, List.all_nil, Bool.and_true, Bool.and_eq_true] at h
      exact .inl (hs.lit h.1)
    · exact hs.sealed
  have hp' : RS M vp (ps.map Value.string) := by
    rcases hM with h | rfl
    · simp only [List.all_cons, List.all_nil, Bool.and_true, Bool.and_eq_true] at h
      exact .inl (hp.lit h.2)
    · exact hp.sealed
  exact wj_body (ccat hn) hs' hp' hcap (by omega) (by omega) (by omega) (by omega)
end Go.Am.Seat
