/-
  Texts of my own, put together: FP3, FP4, Y16, Y17, D1, G1, G2, G3, G4, G5, G6, D2, D3.
-/
import Derived.Test.YtfgincdpgdlfnaaDoorGrLimbTexts21
import Derived.Test.YtfgincdpgdlfnaaDoorGrLimbTexts20
set_option linter.unusedSimpArgs false
set_option linter.unusedVariables false
set_option maxRecDepth 100000
namespace Go.Am.Seat
open Go.Proofs Go.Am Go.Am.Num Go.Am.Kn
theorem owdc_0 : rwdc_0.toList = [⟨some 2, .alloc 24, 0, "limb.go:54", #[], none⟩, ⟨some 3, .assign (.const (.int .i64 0)), 26, "limb.go:54", #[], none⟩] := rfl
theorem owdc_1 : rwdc_1.toList = [⟨some 8, .move (.tmp 0), 9, "limb.go:56", #[], none⟩, ⟨some 9, .call { callee := .value (.func 17), args := #[.tmp 8], argTypes := #[9] }, 4, "limb.go:56", #[eD 0], none⟩, ⟨some 10, .unOp .not 4 (.tmp 9), 4, "limb.go:56", #[eD 1], none⟩] := rfl
theorem owdc_2 : rwdc_2.toList = [⟨some 11, .build 24 #[], 24, "limb.go:57", #[], none⟩, ⟨none, .store 24 (.tmp 2) (.tmp 11), 0, "limb.go:57", #[eD 0, eP 0], none⟩, ⟨some 3, .assign (.const (.int .i64 4)), 26, "limb.go:57", #[eC 1, eP 0, eP 1], none⟩] := rfl
theorem owdc_3 : rwdc_3.toList = [⟨some 4, .alloc 24, 0, "limb.go:59", #[], none⟩] := rfl
theorem owdc_4 : rwdc_4.toList = [⟨some 12, .move (.tmp 0), 9, "limb.go:60", #[], none⟩, ⟨some 13, .call { callee := .builtin .len, args := #[.tmp 12], argTypes := #[9] }, 3, "limb.go:60", #[eD 0], none⟩, ⟨some 14, .move (.const (.int .i64 0)), 3, "limb.go:60", #[], none⟩] := rfl
theorem owdc_5 : rwdc_5.toList = [⟨some 15, .binOp .lss 3 (.tmp 14) (.tmp 13) 3, 4, "limb.go:60", #[], none⟩] := rfl
theorem owdc_6 : rwdc_6.toList = [⟨some 16, .move (.tmp 14), 3, "limb.go:60", #[], none⟩, ⟨some 5, .assign (.tmp 16), 3, "limb.go:60", #[eD 0, eP 0], none⟩] := rfl
theorem owdc_7 : rwdc_7.toList = [⟨some 18, .load 24 (.tmp 4), 24, "limb.go:61", #[], none⟩, ⟨some 19, .move (.tmp 0), 9, "limb.go:61", #[], none⟩, ⟨some 20, .move (.tmp 5), 3, "limb.go:61", #[], none⟩, ⟨some 21, .index 9 (.tmp 19) (.tmp 20), 5, "limb.go:61", #[eD 1, eD 2], none⟩, ⟨some 22, .binOp .sub 5 (.tmp 21) (.const (.int .u8 48)) 5, 5, "limb.go:61", #[eD 3], none⟩, ⟨some 23, .convert 5 22 (.tmp 22), 22, "limb.go:61", #[eD 4], none⟩, ⟨some 24, .call { callee := .value (.func 18), args := #[.tmp 18, .const (.int .u64 10), .tmp 23], argTypes := #[24, 22, 22] }, 45, "limb.go:61", #[eD 0, eD 5], none⟩, ⟨some 17, .move (.tmp 24), 45, "limb.go:61", #[eD 6], none⟩, ⟨some 25, .extract (.tmp 17) 0, 24, "limb.go:61", #[eD 7], none⟩, ⟨some 26, .extract (.tmp 17) 1, 22, "limb.go:61", #[eD 7, { on := 11, ground := Ground.gcOnly Departure.lateStores }], none⟩, ⟨some 6, .alloc 24, 0, "limb.go:61", #[], none⟩, ⟨none, .store 24 (.tmp 6) (.tmp 25), 0, "limb.go:61", #[eD 10, eD 8, eC 6, eP 0, eP 1, eP 2, eP 3, eP 4, eP 5, eP 6, eP 7, eP 8, { on := 9, ground := Ground.textOnly Departure.lateStores }, eP 10], none⟩, ⟨some 7, .assign (.tmp 26), 22, "limb.go:61", #[eD 9, eC 11, eP 0, eP 1, eP 2, eP 3, eP 4, eP 5, eP 6, eP 7, eP 8, eP 9, eP 10, eP 11], none⟩] := rfl
theorem owdc_8 : rwdc_8.toList = [⟨some 27, .move (.tmp 7), 22, "limb.go:62", #[], none⟩, ⟨some 28, .binOp .neq 22 (.tmp 27) (.const (.int .u64 0)) 22, 4, "limb.go:62", #[eD 0], none⟩] := rfl
theorem owdc_9 : rwdc_9.toList = [⟨some 29, .build 24 #[], 24, "limb.go:63", #[], none⟩, ⟨none, .store 24 (.tmp 2) (.tmp 29), 0, "limb.go:63", #[eD 0, eP 0], none⟩, ⟨some 3, .assign (.const (.int .i64 7)), 26, "limb.go:63", #[eC 1, eP 0, eP 1], none⟩] := rfl
theorem owdc_10 : rwdc_10.toList = [⟨some 30, .load 24 (.tmp 6), 24, "limb.go:65", #[], none⟩, ⟨none, .store 24 (.tmp 4) (.tmp 30), 0, "limb.go:65", #[eD 0, eP 0], none⟩] := rfl
theorem owdc_11 : rwdc_11.toList = [⟨some 31, .binOp .add 3 (.tmp 14) (.const (.int .i64 1)) 3, 3, "limb.go:60", #[], none⟩, ⟨some 14, .move (.tmp 31), 3, "limb.go:60", #[eD 0], none⟩] := rfl
theorem owdc_12 : rwdc_12.toList = [⟨some 32, .load 24 (.tmp 4), 24, "limb.go:67", #[], none⟩, ⟨none, .store 24 (.tmp 2) (.tmp 32), 0, "limb.go:67", #[eD 0, eP 0], none⟩, ⟨some 3, .assign (.const (.int .i64 0)), 26, "limb.go:67", #[eC 1, eP 0, eP 1], none⟩] := rfl
theorem callIsn : callableB E.P 17 = true := by kernel_rfl
theorem callMw : callableB E.P 18 = true := by kernel_rfl
theorem wrMw : E.wr 18 = false := by kernel_rfl
theorem addrMw : addrT E.P 4 45 = false := by kernel_rfl
theorem ahead_wdc_7a : aheadB E.P E.wr rwdc_7 0 11 = true := by kernel_rfl
theorem lit_mw (x b : Nat) : lit2 (.tuple ⟨[wd x, U b]⟩) = true := rfl
section
variable {self : Self} {nf : Nat} {m : Mem} {F : Nat → Value} {s : ByteArray} {k r q x n : Nat} {w o : Nat → Nat}
theorem wdc_0 {m1 : Mem} (ha : aalloc E.P 24 m = some (.pointer (some ⟨r, 0, none⟩), m1)) : ∃ F', acodeN E self nf (.region 0 rwdc_0 false) (lst F 33) m = some (.normal, lst F' 33, m1) ∧ F' 2 = .pointer (some ⟨r, 0, none⟩) ∧ F' 0 = F 0 := by
  simp only [owdc_0, agd_none, gdAt, gdV_bool, gdV_undef, List.append_eq, List.cons_append, List.nil_append, apure_call1, apure_call2, apure_call3, bft, btf, acodeN, List.getElem?_toArray, List.getElem?_cons_zero, List.getElem?_cons_succ, aopsN, adrawT, cls, astep, aop, afloat, ev, nth_lst, get_lst, aput, setAt_lst, upd_at, init_zero, init_succ, init_nil, Nat.reduceLT, Nat.reduceEqDiff, reduceIte, abuiltin, alen, Option.map_some, Option.map_none, orElse_some, apure_add, apure_eqlV, eqlVal_str, eqlVal_bool, eqlVal_ptr, eqlVal_slice, eqlVal_wide, eqlVal_int, allT, ↓aop_eqlV, apure_neq, List.map_cons, List.map_nil, List.all_cons, List.all_nil, lit2, lit1, lit0, List.isEmpty_nil, bls, Bool.false_eq_true, if_true, if_false, List.length_map, beq_self_eq_true, uns, ha]
  exact ⟨_, rfl, by simp only [upd_at, Nat.reduceEqDiff, reduceIte], by simp only [upd_at, Nat.reduceEqDiff, reduceIte]⟩
theorem wdc_1 {b : Bool} (h0 : F 0 = .string s) (hc : ∀ M, ainv E self 17 [.string s] M = some (.bool b, M)) : ∃ F', acodeN E self nf (.region 1 rwdc_1 false) (lst F 33) m = some (.normal, lst F' 33, m) ∧ F' 10 = .bool (!b) ∧ ∀ j, j < 8 → F' j = F j := by
  simp only [owdc_1, agd_none, gdAt, gdV_bool, gdV_undef, List.append_eq, List.cons_append, List.nil_append, apure_call1, apure_call2, apure_call3, bft, btf, acodeN, List.getElem?_toArray, List.getElem?_cons_zero, List.getElem?_cons_succ, aopsN, adrawT, cls, astep, aop, afloat, ev, nth_lst, get_lst, aput, setAt_lst, upd_at, init_zero, init_succ, init_nil, Nat.reduceLT, Nat.reduceEqDiff, reduceIte, abuiltin, alen, Option.map_some, Option.map_none, orElse_some, apure_add, apure_eqlV, eqlVal_str, eqlVal_bool, eqlVal_ptr, eqlVal_slice, eqlVal_wide, eqlVal_int, allT, ↓aop_eqlV, apure_neq, List.map_cons, List.map_nil, List.all_cons, List.all_nil, lit2, lit1, lit0, List.isEmpty_nil, bls, Bool.false_eq_true, if_true, if_false, List.length_map, beq_self_eq_true, uns, h0, callIsn, hc]
  exact ⟨_, rfl, by simp only [upd_at, Nat.reduceEqDiff, reduceIte], fun j h1 => by repeat rw [upd_ne (by omega)]⟩
theorem wdc_2 {m1 : Mem} (h2 : F 2 = .pointer (some ⟨r, 0, none⟩)) (st : astore E.P 24 (.pointer (some ⟨r, 0, none⟩)) (wide fun _ => 0) m = some m1) : ∃ F', acodeN E self nf (.region 2 rwdc_2 false) (lst F 33) m = some (.normal, lst F' 33, m1) ∧ F' 2 = .pointer (some ⟨r, 0, none⟩) ∧ F' 3 = .int .i64 4 := by
  simp only [owdc_2, agd_none, gdAt, gdV_bool, gdV_undef, List.append_eq, List.cons_append, List.nil_append, apure_call1, apure_call2, apure_call3, bft, btf, acodeN, List.getElem?_toArray, List.getElem?_cons_zero, List.getElem?_cons_succ, aopsN, adrawT, cls, astep, aop, afloat, ev, nth_lst, get_lst, aput, setAt_lst, upd_at, init_zero, init_succ, init_nil, Nat.reduceLT, Nat.reduceEqDiff, reduceIte, abuiltin, alen, Option.map_some, Option.map_none, orElse_some, apure_add, apure_eqlV, eqlVal_str, eqlVal_bool, eqlVal_ptr, eqlVal_slice, eqlVal_wide, eqlVal_int, allT, ↓aop_eqlV, apure_neq, List.map_cons, List.map_nil, List.all_cons, List.all_nil, lit2, lit1, lit0, List.isEmpty_nil, bls, Bool.false_eq_true, if_true, if_false, List.length_map, beq_self_eq_true, uns, h2, apure24, abuild24, st]
  exact ⟨_, rfl, by simp only [upd_at, Nat.reduceEqDiff, reduceIte, h2], by simp only [upd_at, Nat.reduceEqDiff, reduceIte]⟩
theorem wdc_3 {m1 : Mem} (ha : aalloc E.P 24 m = some (.pointer (some ⟨q, 0, none⟩), m1)) : ∃ F', acodeN E self nf (.region 3 rwdc_3 false) (lst F 33) m = some (.normal, lst F' 33, m1) ∧ F' 4 = .pointer (some ⟨q, 0, none⟩) ∧ ∀ j, j < 4 → F' j = F j := by
  simp only [owdc_3, agd_none, gdAt, gdV_bool, gdV_undef, List.append_eq, List.cons_append, List.nil_append, apure_call1, apure_call2, apure_call3, bft, btf, acodeN, List.getElem?_toArray, List.getElem?_cons_zero, List.getElem?_cons_succ, aopsN, adrawT, cls, astep, aop, afloat, ev, nth_lst, get_lst, aput, setAt_lst, upd_at, init_zero, init_succ, init_nil, Nat.reduceLT, Nat.reduceEqDiff, reduceIte, abuiltin, alen, Option.map_some, Option.map_none, orElse_some, apure_add, apure_eqlV, eqlVal_str, eqlVal_bool, eqlVal_ptr, eqlVal_slice, eqlVal_wide, eqlVal_int, allT, ↓aop_eqlV, apure_neq, List.map_cons, List.map_nil, List.all_cons, List.all_nil, lit2, lit1, lit0, List.isEmpty_nil, bls, Bool.false_eq_true, if_true, if_false, List.length_map, beq_self_eq_true, uns, ha]
  exact ⟨_, rfl, by simp only [upd_at, Nat.reduceEqDiff, reduceIte], fun j h1 => by repeat rw [upd_ne (by omega)]⟩
theorem wdc_4 (h0 : F 0 = .string s) : ∃ F', acodeN E self nf (.region 4 rwdc_4 false) (lst F 33) m = some (.normal, lst F' 33, m) ∧ F' 13 = .int .i64 ((s.data.toList.length : Nat) : Int) ∧ F' 14 = .int .i64 ((0 : Nat) : Int) ∧ ∀ j, j < 8 → F' j = F j := by
  simp only [owdc_4, agd_none, gdAt, gdV_bool, gdV_undef, List.append_eq, List.cons_append, List.nil_append, apure_call1, apure_call2, apure_call3, bft, btf, acodeN, List.getElem?_toArray, List.getElem?_cons_zero, List.getElem?_cons_succ, aopsN, adrawT, cls, astep, aop, afloat, ev, nth_lst, get_lst, aput, setAt_lst, upd_at, init_zero, init_succ, init_nil, Nat.reduceLT, Nat.reduceEqDiff, reduceIte, len_N, abuiltin_app, Option.map_some, Option.map_none, orElse_some, apure_add, apure_eqlV, eqlVal_str, eqlVal_bool, eqlVal_ptr, eqlVal_slice, eqlVal_wide, eqlVal_int, allT, ↓aop_eqlV, apure_neq, List.map_cons, List.map_nil, List.all_cons, List.all_nil, lit2, lit1, lit0, List.isEmpty_nil, bls, Bool.false_eq_true, if_true, if_false, List.length_map, beq_self_eq_true, uns, h0, len_S, alen]
  exact ⟨_, rfl, by simp only [upd_at, Nat.reduceEqDiff, reduceIte], by simp only [upd_at, Nat.reduceEqDiff, reduceIte]; rfl, fun j h1 => by repeat rw [upd_ne (by omega)]⟩
theorem wdc_5 {b : Bool} (h13 : F 13 = .int .i64 ((n : Nat) : Int)) (h14 : F 14 = .int .i64 ((k : Nat) : Int)) (hb : decide (((k : Nat) : Int) < ((n : Nat) : Int)) = b) : ∃ F', acodeN E self nf (.region 5 rwdc_5 false) (lst F 33) m = some (.normal, lst F' 33, m) ∧ F' 15 = .bool b ∧ ∀ j, j < 15 → F' j = F j := by
  simp only [owdc_5, agd_none, gdAt, gdV_bool, gdV_undef, List.append_eq, List.cons_append, List.nil_append, apure_call1, apure_call2, apure_call3, bft, btf, acodeN, List.getElem?_toArray, List.getElem?_cons_zero, List.getElem?_cons_succ, aopsN, adrawT, cls, astep, aop, afloat, ev, nth_lst, get_lst, aput, setAt_lst, upd_at, init_zero, init_succ, init_nil, Nat.reduceLT, Nat.reduceEqDiff, reduceIte, abuiltin, alen, Option.map_some, Option.map_none, orElse_some, apure_add, apure_eqlV, eqlVal_str, eqlVal_bool, eqlVal_ptr, eqlVal_slice, eqlVal_wide, eqlVal_int, allT, ↓aop_eqlV, apure_neq, List.map_cons, List.map_nil, List.all_cons, List.all_nil, lit2, lit1, lit0, List.isEmpty_nil, bls, Bool.false_eq_true, if_true, if_false, List.length_map, beq_self_eq_true, uns, h13, h14, lss64, hb]
  exact ⟨_, rfl, by simp only [upd_at, Nat.reduceEqDiff, reduceIte], fun j h1 => by repeat rw [upd_ne (by omega)]⟩
theorem wdc_6 (h14 : F 14 = .int .i64 ((k : Nat) : Int)) : ∃ F', acodeN E self nf (.region 6 rwdc_6 false) (lst F 33) m = some (.normal, lst F' 33, m) ∧ F' 5 = .int .i64 ((k : Nat) : Int) ∧ ∀ j, j ≠ 5 → j < 15 → F' j = F j := by
  simp only [owdc_6, agd_none, gdAt, gdV_bool, gdV_undef, List.append_eq, List.cons_append, List.nil_append, apure_call1, apure_call2, apure_call3, bft, btf, acodeN, List.getElem?_toArray, List.getElem?_cons_zero, List.getElem?_cons_succ, aopsN, adrawT, cls, astep, aop, afloat, ev, nth_lst, get_lst, aput, setAt_lst, upd_at, init_zero, init_succ, init_nil, Nat.reduceLT, Nat.reduceEqDiff, reduceIte, abuiltin, alen, Option.map_some, Option.map_none, orElse_some, apure_add, apure_eqlV, eqlVal_str, eqlVal_bool, eqlVal_ptr, eqlVal_slice, eqlVal_wide, eqlVal_int, allT, ↓aop_eqlV, apure_neq, List.map_cons, List.map_nil, List.all_cons, List.all_nil, lit2, lit1, lit0, List.isEmpty_nil, bls, Bool.false_eq_true, if_true, if_false, List.length_map, beq_self_eq_true, uns, h14]
  exact ⟨_, rfl, by simp only [upd_at, Nat.reduceEqDiff, reduceIte], fun j h1 h2 => by repeat rw [upd_ne (by omega)]⟩
theorem wdc_7 {m1 m2 : Mem} {ch : UInt8} {a y c : Nat} (dG : decide (E.G ≤ m.length) = true) (h0 : F 0 = .string s) (h4 : F 4 = .pointer (some ⟨q, 0, none⟩)) (h5 : F 5 = .int .i64 ((k : Nat) : Int)) (hx : s.data.toList[k]? = some ch) (hd : 48 ≤ ch.toNat) (ld : aload E.P 24 (.pointer (some ⟨q, 0, none⟩)) (m.map sealed) = some (wd x)) (hc : ∀ M, ainv E self 18 [wd x, .int .u64 10, U (ch.toNat - 48)] M = some (.tuple ⟨[wd y, U c]⟩, M)) (ha : aalloc E.P 24 m = some (.pointer (some ⟨a, 0, none⟩), m1)) (st : astore E.P 24 (.pointer (some ⟨a, 0, none⟩)) (wd y) m1 = some m2) :
    ∃ F', acodeN E self nf (.region 7 rwdc_7 true) (lst F 33) m = some (.normal, lst F' 33, m2) ∧ F' 6 = .pointer (some ⟨a, 0, none⟩) ∧ F' 7 = U c ∧ ∀ j, j ≠ 6 → j ≠ 7 → j < 15 → F' j = F j := by
  have hi9 := index9 hx
  have s1 := sub48 hd
  have hlt : ch.toNat < 256 := ch.toNat_lt
  have e : wrapF .u8 (((ch.toNat : Nat) : Int) - 48) = ((ch.toNat - 48 : Nat) : Int) := by simp only [wrapF]; omega
  rw [e] at s1
  have cv := conv5u (x := ch.toNat - 48) (by omega)
  have l1 := lit_wd x
  have l2 := lit_mw y c
  have a1 := ahead_wdc_7a
  generalize wd x = X at *
  generalize wd y = Y at *
  generalize ch.toNat - 48 = d at *
  simp only [↓dwdc_7, ↓swdc_7, owdc_7, agd_none, gdAt, gdV_bool, gdV_undef, List.append_eq, List.cons_append, List.nil_append, apure_call1, apure_call2, apure_call3, bft, btf, acodeN, List.getElem?_toArray, List.getElem?_cons_zero, List.getElem?_cons_succ, aopsN, adrawT, cls, astep, aop, afloat, ev, nth_lst, get_lst, aput, setAt_lst, upd_at, init_zero, init_succ, init_nil, Nat.reduceLT, Nat.reduceEqDiff, reduceIte, abuiltin, alen, Option.map_some, Option.map_none, orElse_some, apure_add, apure_eqlV, eqlVal_str, eqlVal_bool, eqlVal_ptr, eqlVal_slice, eqlVal_wide, eqlVal_int, allT, ↓aop_eqlV, apure_neq, List.map_cons, List.map_nil, List.all_cons, List.all_nil, lit2, lit1, lit0, List.isEmpty_nil, bls, Bool.false_eq_true, if_true, if_false, List.length_map, beq_self_eq_true, uns, h0, h4, h5, hi9, s1, cv, ld, callMw, wrMw, addrMw, hc, ↓l1, ↓l2, dG, ha, st, exW0, exW1, laterOk, capsLit0, sparesB, liveB, loadAt, loadBlk, Nat.reduceAdd, Nat.zero_add, a1, List.filter_cons, List.filter_nil, List.append_nil, List.contains_cons, List.contains_nil, Option.toList]
  exact ⟨_, rfl, by simp only [upd_at, Nat.reduceEqDiff, reduceIte], by simp only [upd_at, Nat.reduceEqDiff, reduceIte], fun j h1 h2 h3 => by repeat rw [upd_ne (by omega)]⟩
theorem wdc_8 {c : Nat} {b : Bool} (h7 : F 7 = U c) (hb : (((c : Nat) : Int) != 0) = b) : ∃ F', acodeN E self nf (.region 8 rwdc_8 false) (lst F 33) m = some (.normal, lst F' 33, m) ∧ F' 28 = .bool b ∧ ∀ j, j < 15 → F' j = F j := by
  simp only [owdc_8, agd_none, gdAt, gdV_bool, gdV_undef, List.append_eq, List.cons_append, List.nil_append, apure_call1, apure_call2, apure_call3, bft, btf, acodeN, List.getElem?_toArray, List.getElem?_cons_zero, List.getElem?_cons_succ, aopsN, adrawT, cls, astep, aop, afloat, ev, nth_lst, get_lst, aput, setAt_lst, upd_at, init_zero, init_succ, init_nil, Nat.reduceLT, Nat.reduceEqDiff, reduceIte, abuiltin, alen, Option.map_some, Option.map_none, orElse_some, apure_add, apure_eqlV, eqlVal_str, eqlVal_bool, eqlVal_ptr, eqlVal_slice, eqlVal_wide, eqlVal_int, allT, ↓aop_eqlV, apure_neq, List.map_cons, List.map_nil, List.all_cons, List.all_nil, lit2, lit1, lit0, List.isEmpty_nil, bls, Bool.false_eq_true, if_true, if_false, List.length_map, beq_self_eq_true, uns, h7, neqU', hb]
  exact ⟨_, rfl, by simp only [upd_at, Nat.reduceEqDiff, reduceIte], fun j h1 => by repeat rw [upd_ne (by omega)]⟩
theorem wdc_9 {m1 : Mem} (h2 : F 2 = .pointer (some ⟨r, 0, none⟩)) (st : astore E.P 24 (.pointer (some ⟨r, 0, none⟩)) (wide fun _ => 0) m = some m1) : ∃ F', acodeN E self nf (.region 9 rwdc_9 false) (lst F 33) m = some (.normal, lst F' 33, m1) ∧ F' 2 = .pointer (some ⟨r, 0, none⟩) ∧ F' 3 = .int .i64 7 := by
  simp only [owdc_9, agd_none, gdAt, gdV_bool, gdV_undef, List.append_eq, List.cons_append, List.nil_append, apure_call1, apure_call2, apure_call3, bft, btf, acodeN, List.getElem?_toArray, List.getElem?_cons_zero, List.getElem?_cons_succ, aopsN, adrawT, cls, astep, aop, afloat, ev, nth_lst, get_lst, aput, setAt_lst, upd_at, init_zero, init_succ, init_nil, Nat.reduceLT, Nat.reduceEqDiff, reduceIte, abuiltin, alen, Option.map_some, Option.map_none, orElse_some, apure_add, apure_eqlV, eqlVal_str, eqlVal_bool, eqlVal_ptr, eqlVal_slice, eqlVal_wide, eqlVal_int, allT, ↓aop_eqlV, apure_neq, List.map_cons, List.map_nil, List.all_cons, List.all_nil, lit2, lit1, lit0, List.isEmpty_nil, bls, Bool.false_eq_true, if_true, if_false, List.length_map, beq_self_eq_true, uns, h2, apure24, abuild24, st]
  exact ⟨_, rfl, by simp only [upd_at, Nat.reduceEqDiff, reduceIte, h2], by simp only [upd_at, Nat.reduceEqDiff, reduceIte]⟩
theorem wdc_10 {m1 : Mem} {a : Nat} (h4 : F 4 = .pointer (some ⟨q, 0, none⟩)) (h6 : F 6 = .pointer (some ⟨a, 0, none⟩)) (ld : aload E.P 24 (.pointer (some ⟨a, 0, none⟩)) m = some (wide o)) (st : astore E.P 24 (.pointer (some ⟨q, 0, none⟩)) (wide o) m = some m1) : ∃ F', acodeN E self nf (.region 10 rwdc_10 false) (lst F 33) m = some (.normal, lst F' 33, m1) ∧ ∀ j, j < 15 → F' j = F j := by
  simp only [owdc_10, agd_none, gdAt, gdV_bool, gdV_undef, List.append_eq, List.cons_append, List.nil_append, apure_call1, apure_call2, apure_call3, bft, btf, acodeN, List.getElem?_toArray, List.getElem?_cons_zero, List.getElem?_cons_succ, aopsN, adrawT, cls, astep, aop, afloat, ev, nth_lst, get_lst, aput, setAt_lst, upd_at, init_zero, init_succ, init_nil, Nat.reduceLT, Nat.reduceEqDiff, reduceIte, abuiltin, alen, Option.map_some, Option.map_none, orElse_some, apure_add, apure_eqlV, eqlVal_str, eqlVal_bool, eqlVal_ptr, eqlVal_slice, eqlVal_wide, eqlVal_int, allT, ↓aop_eqlV, apure_neq, List.map_cons, List.map_nil, List.all_cons, List.all_nil, lit2, lit1, lit0, List.isEmpty_nil, bls, Bool.false_eq_true, if_true, if_false, List.length_map, beq_self_eq_true, uns, h4, h6, ld, st]
  exact ⟨_, rfl, fun j h1 => by repeat rw [upd_ne (by omega)]⟩
theorem wdc_11 (h14 : F 14 = .int .i64 ((k : Nat) : Int)) (hk : k < 100000) : ∃ F', acodeN E self nf (.region 11 rwdc_11 false) (lst F 33) m = some (.normal, lst F' 33, m) ∧ F' 14 = .int .i64 ((k + 1 : Nat) : Int) ∧ ∀ j, j < 14 → F' j = F j := by
  have e : wrapF .i64 (((k : Nat) : Int) + 1) = ((k + 1 : Nat) : Int) := by rw [wrap_i64 (by omega) (by omega)]; omega
  simp only [owdc_11, agd_none, gdAt, gdV_bool, gdV_undef, List.append_eq, List.cons_append, List.nil_append, apure_call1, apure_call2, apure_call3, bft, btf, acodeN, List.getElem?_toArray, List.getElem?_cons_zero, List.getElem?_cons_succ, aopsN, adrawT, cls, astep, aop, afloat, ev, nth_lst, get_lst, aput, setAt_lst, upd_at, init_zero, init_succ, init_nil, Nat.reduceLT, Nat.reduceEqDiff, reduceIte, abuiltin, alen, Option.map_some, Option.map_none, orElse_some, apure_add, apure_eqlV, eqlVal_str, eqlVal_bool, eqlVal_ptr, eqlVal_slice, eqlVal_wide, eqlVal_int, allT, ↓aop_eqlV, apure_neq, List.map_cons, List.map_nil, List.all_cons, List.all_nil, lit2, lit1, lit0, List.isEmpty_nil, bls, Bool.false_eq_true, if_true, if_false, List.length_map, beq_self_eq_true, uns, h14, add64', e]
  exact ⟨_, rfl, by simp only [upd_at, Nat.reduceEqDiff, reduceIte], fun j h1 => by repeat rw [upd_ne (by omega)]⟩
theorem wdc_12 {m1 : Mem} (h2 : F 2 = .pointer (some ⟨r, 0, none⟩)) (h4 : F 4 = .pointer (some ⟨q, 0, none⟩)) (ld : aload E.P 24 (.pointer (some ⟨q, 0, none⟩)) m = some (wide o)) (st : astore E.P 24 (.pointer (some ⟨r, 0, none⟩)) (wide o) m = some m1) : ∃ F', acodeN E self nf (.region 12 rwdc_12 false) (lst F 33) m = some (.normal, lst F' 33, m1) ∧ F' 2 = .pointer (some ⟨r, 0, none⟩) ∧ F' 3 = .int .i64 0 := by
  simp only [owdc_12, agd_none, gdAt, gdV_bool, gdV_undef, List.append_eq, List.cons_append, List.nil_append, apure_call1, apure_call2, apure_call3, bft, btf, acodeN, List.getElem?_toArray, List.getElem?_cons_zero, List.getElem?_cons_succ, aopsN, adrawT, cls, astep, aop, afloat, ev, nth_lst, get_lst, aput, setAt_lst, upd_at, init_zero, init_succ, init_nil, Nat.reduceLT, Nat.reduceEqDiff, reduceIte, abuiltin, alen, Option.map_some, Option.map_none, orElse_some, apure_add, apure_eqlV, eqlVal_str, eqlVal_bool, eqlVal_ptr, eqlVal_slice, eqlVal_wide, eqlVal_int, allT, ↓aop_eqlV, apure_neq, List.map_cons, List.map_nil, List.all_cons, List.all_nil, lit2, lit1, lit0, List.isEmpty_nil, bls, Bool.false_eq_true, if_true, if_false, List.length_map, beq_self_eq_true, uns, h2, h4, ld, st]
  exact ⟨_, rfl, by simp only [upd_at, Nat.reduceEqDiff, reduceIte, h2], by simp only [upd_at, Nat.reduceEqDiff, reduceIte]⟩
end
end Go.Am.Seat
namespace Go.Am.Seat
open Go.Proofs Go.Am Go.Am.Num Go.Am.Kn
theorem decV_le {l : List Nat} : ∀ k i, decV (l.take i) ≤ decV (l.take (i + k))
  | 0, i => Nat.le_refl _
  | k + 1, i => by
    have h := decV_le (l := l) k i
    cases hx : l[i + k]? with
    | none =>
      have : l.length ≤ i + k := by
        rcases Nat.lt_or_ge (i + k) l.length with h1 | h1
        · rw [List.getElem?_eq_getElem h1] at hx; cases hx
        · exact h1
      rw [List.take_of_length_le (show l.length ≤ i + (k + 1) by omega)]
      rw [List.take_of_length_le this] at h
      exact h
    | some c =>
      rw [show i + (k + 1) = (i + k) + 1 by omega, decV_step hx]
      omega
theorem decV_top {l : List Nat} {i : Nat} (h : i ≤ l.length) : decV (l.take i) ≤ decV l := by
  have := decV_le (l := l) (l.length - i) i
  rw [show i + (l.length - i) = l.length by omega, List.take_length] at this
  exact this
def decAns (l : List Nat) : Value := if decOk l = true then (if decV l < W8 then .tuple ⟨[wd (decV l), .int .i64 0]⟩ else .tuple ⟨[wd 0, .int .i64 7]⟩) else .tuple ⟨[wd 0, .int .i64 4]⟩
section
variable {self : Self} {nf : Nat} {m M : Mem} {F : Nat → Value} {s : ByteArray} {k r q x n : Nat}
structure DcAt (m : Mem) (G : Nat → Value) (s : ByteArray) (r q k : Nat) : Prop where
  g : E.G ≤ m.length
  gr : m[r]? = some (.row false 24 (rowOf fun _ => 0))
  gq : m[q]? = some (.row false 24 (rowOf (wN (decV ((natsOf s).take k)))))
  lt : decV ((natsOf s).take k) < W8
  s0 : G 0 = .string s
  s2 : G 2 = .pointer (some ⟨r, 0, none⟩)
  s4 : G 4 = .pointer (some ⟨q, 0, none⟩)
  s13 : G 13 = .int .i64 ((s.data.toList.length : Nat) : Int)
  s14 : G 14 = .int .i64 ((k : Nat) : Int)
theorem wdc_it (hmw : CMw self) (hrq : r ≠ q) (h : DcAt m F s r q k) (hs : s.data.toList.length ≤ 390) (hk : k < s.data.toList.length) (hok : digitsOk (natsOf s) = true) :
    (∃ G m', acodeN E self nf lpwdc_0 (lst F 33) m = some (.normal, lst G 33, m') ∧ DcAt m' G s r q (k + 1)) ∨
    (∃ G m', acodeN E self nf lpwdc_0 (lst F 33) m = some (.ret, lst G 33, m') ∧ W8 ≤ decV (natsOf s) ∧ G 2 = .pointer (some ⟨r, 0, none⟩) ∧ G 3 = .int .i64 7 ∧ aload E.P 24 (.pointer (some ⟨r, 0, none⟩)) m' = some (wd 0)) := by
  have hnl := natsOf_len s
  have hx : s.data.toList[k]? = some (s.data.toList[k]'hk) := by simp [hk]
  have hn : (natsOf s)[k]? = some (s.data.toList[k]'hk).toNat := by unfold natsOf; rw [List.getElem?_map, hx]; rfl
  generalize s.data.toList[k]'hk = ch at hx hn
  have hdig : 48 ≤ ch.toNat ∧ ch.toNat ≤ 57 := by
    unfold digitsOk at hok
    rw [List.all_eq_true] at hok
    exact of_decide_eq_true (hok ch.toNat (List.mem_of_getElem? hn))
  have hv := decV_step hn
  have hlt := h.lt
  have hq0 := h.gq
  generalize hA : decV ((natsOf s).take k) = acc at hv hlt hq0
  have hc : ∀ M, ainv E self 18 [wd acc, .int .u64 10, U (ch.toNat - 48)] M = some (.tuple ⟨[wd ((acc * 10 + (ch.toNat - 48)) % W8), U ((acc * 10 + (ch.toNat - 48)) / W8)]⟩, M) := hmw acc 10 (ch.toNat - 48) hlt (by decide) (by omega)
  rw [← hv] at hc
  have hle : decV ((natsOf s).take (k + 1)) ≤ decV (natsOf s) := decV_top (by omega)
  obtain ⟨A, ra, a15, ak⟩ := wdc_5 (self := self) (nf := nf) (m := m) h.s13 h.s14 (b := true) (decide_eq_true (by omega))
  obtain ⟨B, rb, b5, bk⟩ := wdc_6 (self := self) (nf := nf) (m := m) ((ak 14 (by omega)).trans h.s14)
  have kb : ∀ j, j ≠ 5 → j < 15 → B j = F j := fun j h1 h2 => (bk j h1 h2).trans (ak j h2)
  obtain ⟨m1, m2, ha, st, ga, k2⟩ : ∃ m1 m2, aalloc E.P 24 m = some (.pointer (some ⟨m.length, 0, none⟩), m1) ∧ astore E.P 24 (.pointer (some ⟨m.length, 0, none⟩)) (wd (decV ((natsOf s).take (k + 1)) % W8)) m1 = some m2 ∧ m2[m.length]? = some (.row false 24 (rowOf (wN (decV ((natsOf s).take (k + 1)) % W8)))) ∧ (m.length ≤ m2.length ∧ ∀ j, j < m.length → m2[j]? = m[j]?) := by
    have ha := alloc24 m
    have g : (m ++ [Blk.row false 24 (rowOf fun _ => 0)])[m.length]? = some (.row false 24 (rowOf fun _ => 0)) := by rw [List.getElem?_append_right (Nat.le_refl _)]; simp
    have st := store24 (w := wN (decV ((natsOf s).take (k + 1)) % W8)) g (rowOf_length _)
    refine ⟨_, _, ha, st, by rw [List.getElem?_set_self (lt_of_at g)], by simp, fun j hj => ?_⟩
    rw [List.getElem?_set_ne (by omega), List.getElem?_append_left hj]
  obtain ⟨C, rc, c6, c7, ck⟩ := wdc_7 (self := self) (nf := nf) (m := m) (decide_eq_true h.g) ((kb 0 (by omega) (by omega)).trans h.s0) ((kb 4 (by omega) (by omega)).trans h.s4) b5 hx hdig.1 (load24s hq0) hc ha st
  have kc : ∀ j, j ≠ 5 → j ≠ 6 → j ≠ 7 → j < 15 → C j = F j := fun j h1 h2 h3 h4 => (ck j h2 h3 h4).trans (kb j h1 h4)
  have gr2 : m2[r]? = some (.row false 24 (rowOf fun _ => 0)) := (k2.2 r (lt_of_at h.gr)).trans h.gr
  have gq2 : m2[q]? = some (.row false 24 (rowOf (wN acc))) := (k2.2 q (lt_of_at h.gq)).trans hq0
  by_cases hbig : decV ((natsOf s).take (k + 1)) < W8
  · left
    have hm : decV ((natsOf s).take (k + 1)) % W8 = decV ((natsOf s).take (k + 1)) := Nat.mod_eq_of_lt hbig
    have hz : decV ((natsOf s).take (k + 1)) / W8 = 0 := Nat.div_eq_of_lt hbig
    rw [hz] at c7
    rw [hm] at ga
    obtain ⟨D, rd, d28, dk⟩ := wdc_8 (self := self) (nf := nf) (m := m2) c7 (b := false) rfl
    have st2 := store24 (w := wN (decV ((natsOf s).take (k + 1)))) gq2 (rowOf_length _)
    obtain ⟨G, rg, gk⟩ := wdc_10 (self := self) (nf := nf) (m := m2) ((dk 4 (by omega)).trans ((kc 4 (by omega) (by omega) (by omega) (by omega)).trans h.s4)) ((dk 6 (by omega)).trans c6) (load24 ga) st2
    obtain ⟨m3, hm3⟩ : ∃ m3, m3 = m2.set q (.row false 24 (rowOf (wN (decV ((natsOf s).take (k + 1)))))) := ⟨_, rfl⟩
    rw [← hm3] at rg
    obtain ⟨H, rh, x14, hk2⟩ := wdc_11 (self := self) (nf := nf) (m := m3) ((gk 14 (by omega)).trans ((dk 14 (by omega)).trans ((kc 14 (by omega) (by omega) (by omega) (by omega)).trans h.s14))) (by omega)
    have kh : ∀ j, j ≠ 5 → j ≠ 6 → j ≠ 7 → j < 14 → H j = F j := fun j h1 h2 h3 h4 => (hk2 j h4).trans ((gk j (by omega)).trans ((dk j (by omega)).trans (kc j h1 h2 h3 (by omega))))
    refine ⟨H, m3, ?_, ?_, ?_, ?_, hbig, (kh 0 (by omega) (by omega) (by omega) (by omega)).trans h.s0, (kh 2 (by omega) (by omega) (by omega) (by omega)).trans h.s2, (kh 4 (by omega) (by omega) (by omega) (by omega)).trans h.s4, (kh 13 (by omega) (by omega) (by omega) (by omega)).trans h.s13, x14⟩
    · rw [lpwdc_0_eq]
      clear hm3 hc hA ha st ga st2
      generalize Code.region 5 rwdc_5 false = C5 at *
      generalize Code.region 6 rwdc_6 false = C6 at *
      generalize Code.region 7 rwdc_7 true = C7 at *
      generalize Code.region 8 rwdc_8 false = C8 at *
      generalize Code.region 10 rwdc_10 false = C10 at *
      generalize Code.region 11 rwdc_11 false = C11 at *
      simp only [acodeN, ra, rb, rc, rd, rg, rh, ev, nth_lst, Nat.reduceLT, if_true, a15, d28]
    · rw [hm3, List.length_set]; have := h.g; omega
    · rw [hm3, List.getElem?_set_ne (fun e => hrq e.symm)]; exact gr2
    · rw [hm3, List.getElem?_set_self (lt_of_at gq2)]
  · right
    have hz : decV ((natsOf s).take (k + 1)) / W8 ≠ 0 := by
      exact fun e => hbig ((Nat.div_eq_zero_iff_lt W8_pos).1 e)
    obtain ⟨D, rd, d28, dk⟩ := wdc_8 (self := self) (nf := nf) (m := m2) c7 (b := true) (by rw [bne_iff_ne]; omega)
    have st2 := store24 (w := fun _ => 0) gr2 (rowOf_length _)
    obtain ⟨G, rg, g2, g3⟩ := wdc_9 (self := self) (nf := nf) (m := m2) ((dk 2 (by omega)).trans ((kc 2 (by omega) (by omega) (by omega) (by omega)).trans h.s2)) st2
    refine ⟨G, m2.set r (.row false 24 (rowOf fun _ => 0)), ?_, by omega, g2, g3, ?_⟩
    · rw [lpwdc_0_eq]
      clear hc hA ha st ga st2
      generalize m2.set r (.row false 24 (rowOf fun _ => 0)) = m9 at *
      generalize Code.region 5 rwdc_5 false = C5 at *
      generalize Code.region 6 rwdc_6 false = C6 at *
      generalize Code.region 7 rwdc_7 true = C7 at *
      generalize Code.region 8 rwdc_8 false = C8 at *
      generalize Code.region 9 rwdc_9 false = C9 at *
      simp only [acodeN, ra, rb, rc, rd, rg, ev, nth_lst, Nat.reduceLT, if_true, a15, d28]
    · rw [wd_zero]
      exact load24 (by rw [List.getElem?_set_self (lt_of_at gr2)])
theorem wdc_x (h13 : F 13 = .int .i64 ((n : Nat) : Int)) (h14 : F 14 = .int .i64 ((n : Nat) : Int)) : ∃ F', acodeN E self nf lpwdc_0 (lst F 33) m = some (.exit 0, lst F' 33, m) ∧ ∀ j, j < 15 → F' j = F j := by
  obtain ⟨A, ra, a15, ak⟩ := wdc_5 (self := self) (nf := nf) (m := m) h13 h14 (b := false) (decide_eq_false (by omega))
  rw [lpwdc_0_eq]
  refine ⟨A, ?_, ak⟩
  generalize Code.region 5 rwdc_5 false = C5 at *
  simp only [acodeN, ra, ev, nth_lst, Nat.reduceLT, if_true, a15]
theorem wdc_loop (hmw : CMw self) (hrq : r ≠ q) (h : DcAt m F s r q 0) (hs : s.data.toList.length ≤ 390) (hok : digitsOk (natsOf s) = true) (hnf : 1000 < nf) :
    ∃ e G m', aloop (acodeN E self nf lpwdc_0) nf (lst F 33) m = some (e, lst G 33, m') ∧ ((e = .exit 0 ∧ DcAt m' G s r q s.data.toList.length) ∨ (e = .ret ∧ W8 ≤ decV (natsOf s) ∧ G 2 = .pointer (some ⟨r, 0, none⟩) ∧ G 3 = .int .i64 7 ∧ aload E.P 24 (.pointer (some ⟨r, 0, none⟩)) m' = some (wd 0))) := by
  have hloop := aloop_inv (body := acodeN E self nf lpwdc_0) (N := s.data.toList.length)
    (I := fun k T m' => ∃ G, T = lst G 33 ∧ DcAt m' G s r q k)
    (Q := fun e T m' => ∃ G, T = lst G 33 ∧ ((e = .exit 0 ∧ DcAt m' G s r q s.data.toList.length) ∨ (e = .ret ∧ W8 ≤ decV (natsOf s) ∧ G 2 = .pointer (some ⟨r, 0, none⟩) ∧ G 3 = .int .i64 7 ∧ aload E.P 24 (.pointer (some ⟨r, 0, none⟩)) m' = some (wd 0)))) (fun k T m' hk hI => by
      obtain ⟨G, rfl, hD⟩ := hI
      by_cases h1 : k = s.data.toList.length
      · right
        subst h1
        obtain ⟨A, ra, ak⟩ := wdc_x (self := self) (nf := nf) (m := m') hD.s13 hD.s14
        exact ⟨_, _, _, ra, by simp, A, rfl, .inl ⟨rfl, hD.g, hD.gr, hD.gq, hD.lt, (ak 0 (by omega)).trans hD.s0, (ak 2 (by omega)).trans hD.s2, (ak 4 (by omega)).trans hD.s4, (ak 13 (by omega)).trans hD.s13, (ak 14 (by omega)).trans hD.s14⟩⟩
      · rcases wdc_it (self := self) (nf := nf) hmw hrq hD hs (by omega) hok with ⟨A, m1, ra, hA⟩ | ⟨A, m1, ra, h2, h3, h4, h5⟩
        · left
          exact ⟨_, _, ra, by omega, A, rfl, hA⟩
        · right
          exact ⟨_, _, _, ra, by simp, A, rfl, .inr ⟨rfl, h2, h3, h4, h5⟩⟩)
  obtain ⟨e, T', m', hr, G, rfl, hq⟩ := hloop s.data.toList.length 0 nf (lst F 33) m (by omega) (by omega) ⟨F, rfl, h⟩
  exact ⟨e, G, m', hr, hq⟩
theorem wdc_body (hmw : CMw self) (his : CIsn self) (hs : s.data.toList.length ≤ 390) (hG : E.G ≤ m.length) (hnf : 1000 < nf) : ∃ m', abody E self nf 9 [.string s] m = some (decAns (natsOf s), m') := by
  rw [abody_eqF (by kernel_rfl) Tryd.func9 bodywdc (by kernel_rfl) (Nat.le_of_ble_eq_true rfl)]
  rw [show Tryd.f9.ntmps = 33 from rfl]
  have hnl := natsOf_len s
  obtain ⟨A, ra, a2, a0⟩ := wdc_0 (self := self) (nf := nf) (F := init [.string s]) (alloc24 m)
  obtain ⟨M, hM⟩ : ∃ M, M = m ++ [Blk.row false 24 (rowOf fun _ => 0)] := ⟨_, rfl⟩
  rw [← hM] at ra
  have lM : M.length = m.length + 1 := by rw [hM]; simp
  have gr : M[m.length]? = some (.row false 24 (rowOf fun _ => 0)) := by rw [hM, List.getElem?_append_right (Nat.le_refl _)]; simp
  clear hM
  obtain ⟨B, rb, b10, bk⟩ := wdc_1 (self := self) (nf := nf) (m := M) a0 (his s hs)
  unfold decAns
  by_cases hok : decOk (natsOf s) = true
  · rw [if_pos hok]
    rw [hok] at b10
    have hdo : digitsOk (natsOf s) = true := by
      unfold decOk at hok
      simp only [Bool.and_eq_true] at hok
      exact hok.2.2
    have ha := alloc24 M
    rw [lM] at ha
    obtain ⟨C, rc, c4, ck⟩ := wdc_3 (self := self) (nf := nf) (F := B) ha
    obtain ⟨N, hN⟩ : ∃ N, N = M ++ [Blk.row false 24 (rowOf fun _ => 0)] := ⟨_, rfl⟩
    rw [← hN] at rc
    have nr : N[m.length]? = some (.row false 24 (rowOf fun _ => 0)) := by rw [hN, List.getElem?_append_left (by omega)]; exact gr
    have nq : N[m.length + 1]? = some (.row false 24 (rowOf fun _ => 0)) := by rw [hN, ← lM, List.getElem?_append_right (Nat.le_refl _)]; simp
    have lN : N.length = m.length + 2 := by rw [hN]; simp [lM]
    clear hN
    obtain ⟨D, rd, d13, d14, dk⟩ := wdc_4 (self := self) (nf := nf) (m := N) ((ck 0 (by omega)).trans ((bk 0 (by omega)).trans a0))
    have hD0 : DcAt N D s m.length (m.length + 1) 0 := ⟨by omega, nr, by rw [List.take_zero, show decV [] = 0 from rfl, wN_zero]; exact nq, by rw [List.take_zero]; exact W8_pos, (dk 0 (by omega)).trans ((ck 0 (by omega)).trans ((bk 0 (by omega)).trans a0)), (dk 2 (by omega)).trans ((ck 2 (by omega)).trans ((bk 2 (by omega)).trans a2)), (dk 4 (by omega)).trans c4, d13, d14⟩
    obtain ⟨e, G, m', rl, hq⟩ := wdc_loop (self := self) (nf := nf) hmw (by omega) hD0 hs hdo hnf
    rcases hq with ⟨rfl, hD⟩ | ⟨rfl, hbig, g2, g3, ld⟩
    · have hlt := hD.lt
      have hDq := hD.gq
      rw [← hnl, List.take_length] at hlt hDq
      rw [if_pos hlt]
      have st := store24 (w := wN (decV (natsOf s))) hD.gr (rowOf_length _)
      obtain ⟨H, rh, h2, h3⟩ := wdc_12 (self := self) (nf := nf) (m := m') hD.s2 hD.s4 (load24 hDq) st
      have ld2 : aload E.P 24 (.pointer (some ⟨m.length, 0, none⟩)) (m'.set m.length (.row false 24 (rowOf (wN (decV (natsOf s)))))) = some (wd (decV (natsOf s))) := load24 (by rw [List.getElem?_set_self (lt_of_at hD.gr)])
      refine ⟨m'.set m.length (.row false 24 (rowOf (wN (decV (natsOf s))))), ?_⟩
      clear hD hDq hD0 hlt
      generalize m'.set m.length (.row false 24 (rowOf (wN (decV (natsOf s))))) = m9 at *
      generalize wd (decV (natsOf s)) = V at *
      generalize Code.region 0 rwdc_0 false = C0 at *
      generalize Code.region 1 rwdc_1 false = C1 at *
      generalize Code.region 3 rwdc_3 false = C3 at *
      generalize Code.region 4 rwdc_4 false = C4 at *
      generalize Code.region 12 rwdc_12 false = C12 at *
      simp only [acodeN, ra, rb, rc, rd, rl, rh, finish, ares, aresL, ares1, Tryd.f9, ev, nth_lst, Nat.reduceLT, if_true, b10, h2, h3, ld2, Option.map_some, Bool.not_true]
    · rw [if_neg (by omega)]
      refine ⟨m', ?_⟩
      clear hD0
      generalize wd 0 = V at *
      generalize Code.region 0 rwdc_0 false = C0 at *
      generalize Code.region 1 rwdc_1 false = C1 at *
      generalize Code.region 3 rwdc_3 false = C3 at *
      generalize Code.region 4 rwdc_4 false = C4 at *
      simp only [acodeN, ra, rb, rc, rd, rl, finish, ares, aresL, ares1, Tryd.f9, ev, nth_lst, Nat.reduceLT, if_true, b10, g2, g3, ld, Option.map_some, Bool.not_true]
  · rw [if_neg hok]
    have hno : decOk (natsOf s) = false := by simpa using hok
    rw [hno] at b10
    have st := store24 (w := fun _ => 0) gr (rowOf_length _)
    obtain ⟨C, rc, c2, c3⟩ := wdc_2 (self := self) (nf := nf) (m := M) ((bk 2 (by omega)).trans a2) st
    have ld : aload E.P 24 (.pointer (some ⟨m.length, 0, none⟩)) (M.set m.length (.row false 24 (rowOf fun _ => 0))) = some (wd 0) := by
      rw [wd_zero]
      exact load24 (by rw [List.getElem?_set_self (lt_of_at gr)])
    refine ⟨M.set m.length (.row false 24 (rowOf fun _ => 0)), ?_⟩
    generalize M.set m.length (.row false 24 (rowOf fun _ => 0)) = m9 at *
    generalize wd 0 = V at *
    generalize Code.region 0 rwdc_0 false = C0 at *
    generalize Code.region 1 rwdc_1 false = C1 at *
    generalize Code.region 2 rwdc_2 false = C2 at *
    simp only [acodeN, ra, rb, rc, finish, ares, aresL, ares1, Tryd.f9, ev, nth_lst, Nat.reduceLT, if_true, b10, c2, c3, ld, Option.map_some, Bool.not_false]
end
theorem decAns_lit (l : List Nat) : lit2 (decAns l) = true := by unfold decAns; split <;> (try split) <;> rfl
def CDecW (self : Self) : Prop := ∀ s : ByteArray, s.data.toList.length ≤ 390 → AnsG self 9 [.string s] (decAns (natsOf s))
theorem kDecW {R : Nat → Self} {K : List Fact} (hR : Runs R K) (hK : NoL K) {n : Nat} (h1 : hasF K 9 = false) (h2 : hasF K 18 = false) (h3 : hasF K 17 = false) (hn : 1004 ≤ n) : CDecW (R n) := by
  obtain ⟨j, rfl⟩ : ∃ j, n = j + 1 := ⟨n - 1, by omega⟩
  intro s hs
  refine ans_ofG rfl (by kernel_rfl) (decAns_lit _) fun m hm => ?_
  obtain ⟨m', h⟩ := wdc_body (self := R j) (nf := j + 1) (m := m) (kMw hR hK h2 (by omega)) (kIsn hR h3 (by omega)) hs hm (by omega)
  exact ⟨m', hR.b h1 h⟩
end Go.Am.Seat
namespace Go.Am.Seat
open Go.Proofs Go.Am
-- ntmps 11
-- ntmps 2
theorem NumR.b {m m' : Mem} {v : Value} {r : Nat} (h : NumR m v m' r) : NumB m.length v m' r := by
  rcases h with ⟨rfl, rfl, rfl⟩ | ⟨L, n, h1, h2, rfl, rfl, hne⟩
  · exact .inl ⟨rfl, rfl⟩
  · exact .inr ⟨L, n, m.length, false, h1, h2, Nat.le_refl _, rfl, by simp, hne⟩
end Go.Am.Seat
namespace Go.Am.Seat
open Go.Proofs Go.Am
def Kept (m m' : Mem) : Prop := m.length ≤ m'.length ∧ ∀ k, k < m.length → m'[k]? = m[k]?
theorem Kept.refl (m : Mem) : Kept m m := ⟨Nat.le_refl _, fun _ _ => rfl⟩
theorem Kept.trans {a b c : Mem} (h : Kept a b) (h' : Kept b c) : Kept a c := ⟨Nat.le_trans h.1 h'.1, fun k hk => (h'.2 k (by have := h.1; omega)).trans (h.2 k hk)⟩
theorem NumR.keeps {m m' : Mem} {v : Value} {r : Nat} (h : NumR m v m' r) : Kept m m' := ⟨by
  rcases h with ⟨rfl, rfl, rfl⟩ | ⟨L, n, h1, h2, rfl, rfl, hne⟩
  · exact Nat.le_refl _
  · simp, h.kept⟩
theorem Kept.app (m nb : Mem) : Kept m (m ++ nb) := ⟨by simp, fun k hk => List.getElem?_append_left hk⟩
theorem NumA.on {m m' : Mem} {v : Value} {l : List Nat} (h : NumA m v l) (hk : Kept m m') : NumA m' v l := h.keep hk.2
def NumO (m : Mem) (nb : List Blk) (ow : List Nat) (j : Nat) (v : Value) (x : Nat) : Prop :=
  (v = .slice none 0 0 ∧ x = 0) ∨ (NumA m v (dig x) ∧ NumIn m.length v) ∨
  ∃ (L : List Nat) (n k : Nat), n ≤ L.length ∧ L.take n = dig x ∧ v = .slice (some ⟨m.length + k, 0, none⟩) n L.length ∧ nb[k]? = some (.row false 3 (cellsN L)) ∧ ow[k]? = some j ∧ L ≠ []
def NumN (m : Mem) (nb : List Blk) (ow : List Nat) (j : Nat) (v : Value) (x : Nat) : Prop := (v = .slice none 0 0 ∧ x = 0) ∨
  ∃ (L : List Nat) (n k : Nat), n ≤ L.length ∧ L.take n = dig x ∧ v = .slice (some ⟨m.length + k, 0, none⟩) n L.length ∧ nb[k]? = some (.row false 3 (cellsN L)) ∧ ow[k]? = some j ∧ L ≠ []
theorem NumN.o {m : Mem} {nb : List Blk} {ow : List Nat} {j : Nat} {v : Value} {x : Nat} (h : NumN m nb ow j v x) : NumO m nb ow j v x := h.elim .inl fun h => .inr (.inr h)
theorem NumN.b {m : Mem} {nb : List Blk} {ow : List Nat} {j : Nat} {v : Value} {x : Nat} (h : NumN m nb ow j v x) : NumB m.length v (m ++ nb) x := by
  rcases h with ⟨rfl, rfl⟩ | ⟨L, n, k, h1, h2, rfl, h4, h5, hne⟩
  · exact .inl ⟨rfl, rfl⟩
  · refine .inr ⟨L, n, m.length + k, false, h1, h2, by omega, rfl, ?_, hne⟩
    rw [List.getElem?_append_right (by omega), Nat.add_sub_cancel_left]
    exact h4
def US (nb : List Blk) (ow : List Nat) : Prop := nb.length = ow.length ∧ ∀ b ∈ nb, ∃ ro e cs, b = Blk.row ro e cs ∧ cs.all lit0 = true
theorem US.nil : US [] [] := ⟨rfl, fun b hb => by cases hb⟩
theorem NumO.old {m : Mem} {nb : List Blk} {ow : List Nat} {j : Nat} {v : Value} {x : Nat} (h : NumA m v (dig x)) (hi : NumIn m.length v) : NumO m nb ow j v x := .inr (.inl ⟨h, hi⟩)
theorem NumO.more {m : Mem} {nb bs : List Blk} {ow os : List Nat} {j : Nat} {v : Value} {x : Nat} (h : NumO m nb ow j v x) : NumO m (nb ++ bs) (ow ++ os) j v x := by
  rcases h with h | h | ⟨L, n, k, h1, h2, h3, h4, h5, hne⟩
  · exact .inl h
  · exact .inr (.inl h)
  · refine .inr (.inr ⟨L, n, k, h1, h2, h3, ?_, ?_, hne⟩)
    · rw [List.getElem?_append_left (List.getElem?_eq_some_iff.1 h4).1]; exact h4
    · rw [List.getElem?_append_left (List.getElem?_eq_some_iff.1 h5).1]; exact h5
theorem mask_get {ops : Array Oper} {i k j : Nat} {nb : List Blk} {ow : List Nat} {b : Blk} (h1 : nb[k]? = some b) (h2 : ow[k]? = some j) (hc : chainB ops 4 i j = true) : (maskN ops i nb ow)[k]? = some b := by
  unfold maskN
  have hz : (List.zip nb ow)[k]? = some (b, j) := List.getElem?_zip_eq_some.2 ⟨h1, h2⟩
  rw [List.getElem?_map, hz]
  simp [hc]
theorem NumO.at {ops : Array Oper} {i : Nat} {m : Mem} {nb : List Blk} {ow : List Nat} {j : Nat} {v : Value} {x : Nat} (h : NumO m nb ow j v x) (hc : chainB ops 4 i j = true) : NumA ((m ++ maskN ops i nb ow).map Am.sealed) v (dig x) ∧ belowP (pW ops i m.length ow) 4 v = true := by
  rcases h with ⟨rfl, rfl⟩ | ⟨h1, h2⟩ | ⟨L, n, k, h1, h2, rfl, h4, h5, hne⟩
  · rw [dig_zero]; exact ⟨NumA.nil _, rfl⟩
  · exact ⟨(h1.keep fun k hk => List.getElem?_append_left hk).sealed, h2.below fun k hk => by unfold pW; simp [hk]⟩
  · refine ⟨?_, ?_⟩
    · rw [← h2]
      refine (NumA.row (ro := false) ?_ h1).sealed
      rw [List.getElem?_append_right (by omega), Nat.add_sub_cancel_left]
      exact mask_get h4 h5 hc
    · show pW ops i m.length ow (m.length + k) = true
      unfold pW
      rw [Nat.add_sub_cancel_left, h5]
      simp [hc]
theorem NumO.end {m : Mem} {nb : List Blk} {ow : List Nat} {j : Nat} {v : Value} {x : Nat} (h : NumO m nb ow j v x) : NumA (m ++ nb) v (dig x) ∧ NumIn (m ++ nb).length v := by
  rcases h with ⟨rfl, rfl⟩ | ⟨h1, h2⟩ | ⟨L, n, k, h1, h2, rfl, h4, h5, hne⟩
  · rw [dig_zero]; exact ⟨NumA.nil _, .inl rfl⟩
  · exact ⟨h1.keep fun k hk => List.getElem?_append_left hk, h2.mono (by simp)⟩
  · have := (List.getElem?_eq_some_iff.1 h4).1
    refine ⟨?_, .inr ⟨_, _, _, rfl, by simp; omega⟩⟩
    rw [← h2]
    refine NumA.row (ro := false) ?_ h1
    rw [List.getElem?_append_right (by omega), Nat.add_sub_cancel_left]
    exact h4
theorem lit0_below (p : Nat → Bool) {c : Value} (h : lit0 c = true) : belowP p 4 c = true := by
  cases c with
  | pointer a => cases a with
    | none => rfl
    | some a => cases h
  | slice a l c => cases a with
    | none => rfl
    | some a => cases h
  | func f a b =>
    simp only [lit0, Bool.and_eq_true] at h
    have h1 : a = #[] := Array.toList_eq_nil_iff.1 (List.isEmpty_iff.1 h.1)
    have h2 : b = #[] := Array.toList_eq_nil_iff.1 (List.isEmpty_iff.1 h.2)
    subst h1; subst h2
    rfl
  | iface t v => simp [lit0] at h
  | agg c => simp [lit0] at h
  | tuple c => simp [lit0] at h
  | _ => exact h
theorem US.rows {ops : Array Oper} {i : Nat} {nb : List Blk} {ow : List Nat} (h : US nb ow) (p : Nat → Bool) : rowsP p (maskN ops i nb ow) = true := by
  unfold rowsP maskN
  rw [List.all_map, List.all_eq_true]
  intro q hq
  obtain ⟨b, j⟩ := q
  have hb := (List.of_mem_zip hq).1
  obtain ⟨ro, e, cs, rfl, hc⟩ := h.2 b hb
  simp only [Function.comp]
  by_cases hj : chainB ops 4 i j = true
  · simp only [hj, if_true]
    rw [List.all_eq_true] at hc ⊢
    intro c hm
    exact lit0_below p (hc c hm)
  · simp only [hj]
    rfl
theorem US.add {nb bs : List Blk} {ow : List Nat} {i : Nat} (h : US nb ow) (hb : ∀ b ∈ bs, ∃ ro e cs, b = Blk.row ro e cs ∧ cs.all lit0 = true) : US (nb ++ bs) (ow ++ List.replicate bs.length i) :=
  ⟨by rw [List.length_append, List.length_append, List.length_replicate, h.1], fun b hm => (List.mem_append.1 hm).elim (h.2 b) (hb b)⟩
section
variable {self : Self} {ops : Array Oper} {m : Mem} {o : Oper} {l : List Oper} {i c : Nat} {T : List Value} {nb : List Blk} {ow : List Nat} {v : Value}
end
section
variable {q : List Value → List Blk → Prop} {self : Self} {ops : Array Oper} {m : Mem} {o : Oper} {l : List Oper} {i : Nat} {T : List Value} {nb : List Blk} {ow : List Nat}
end
end Go.Am.Seat
namespace Go.Am.Seat
open Go.Proofs Go.Am
section
variable {self : Self} {nf : Nat} {m : Mem}
end
end Go.Am.Seat
namespace Go.Am.Seat
open Go.Proofs Go.Am
-- ntmps 41
theorem ix27o {b o L c j : Nat} (h : j < L) : aindexAddr E.P 31 (.slice (some ⟨b, o, none⟩) L c) (.int .i64 (j : Nat)) = some (.pointer (some ⟨b, o + j, none⟩)) := by
  obtain ⟨i, h1, h2⟩ := info3
  unfold aindexAddr
  simp only [und27, h1]
  rw [if_pos (by omega)]
  simp [h2]
theorem NumA.rowAt {m : Mem} {b o n c : Nat} {ro : Bool} {L : List Nat} (h : m[b]? = some (.row ro 3 (cellsN L))) (hn : o + n ≤ L.length) : NumA m (.slice (some ⟨b, o, none⟩) n c) ((L.drop o).take n) := by
  refine ⟨by simp only [lenV, List.length_take, List.length_drop, Nat.min_eq_left (show n ≤ L.length - o by omega)], fun i x hx => ⟨b, o + i, ?_, ?_⟩⟩
  · have hi : i < n := by
      have := (List.getElem?_eq_some_iff.1 hx).1
      rw [List.length_take] at this
      omega
    exact ix27o hi
  · have hi : i < n := by
      have := (List.getElem?_eq_some_iff.1 hx).1
      rw [List.length_take] at this
      omega
    rw [List.getElem?_take, if_pos hi, List.getElem?_drop] at hx
    rw [cellAt_row h, cellsN_get hx]
def NumW (m : Mem) (b : Nat) (ro : Bool) (L : List Nat) (n x : Nat) : Prop := n ≤ L.length ∧ L.take n = dig x ∧ m[b]? = some (.row ro 3 (cellsN L)) ∧ L ≠ []
theorem NumW.parts {m : Mem} {b n x : Nat} {ro : Bool} {L : List Nat} (h : NumW m b ro L n x) (hn : 32 < n) : NumA m (.slice (some ⟨b, 0, none⟩) 32 32) ((dig x).take 32) ∧ NumA m (.slice (some ⟨b, 32, none⟩) (n - 32) (L.length - 32)) (dig (x / 256 ^ 32)) ∧ val ((dig x).take 32) = x % 256 ^ 32 := by
  obtain ⟨h1, h2, h3, _⟩ := h
  have hl : (dig x).length = n := by rw [← h2, List.length_take, Nat.min_eq_left h1]
  refine ⟨?_, ?_, ?_⟩
  · have := NumA.row (n := 32) (c := 32) h3 (by omega)
    have e : L.take 32 = (dig x).take 32 := by rw [← h2, List.take_take, Nat.min_eq_left (by omega)]
    rw [e] at this
    exact this
  · have := NumA.rowAt (o := 32) (n := n - 32) (c := L.length - 32) h3 (by omega)
    have e : (L.drop 32).take (n - 32) = dig (x / 256 ^ 32) := by
      have e1 : (L.drop 32).take (n - 32) = (dig x).drop 32 := by rw [← h2, List.drop_take]
      rw [e1]
      have e2 := val_drop (dig_lt x) (k := 32) (by omega)
      rw [val_dig] at e2
      rw [← e2]
      refine (dig_val (fun y hy => dig_lt x y (List.mem_of_mem_drop hy)) ?_).symm
      right
      rcases dig_last x with h0 | ⟨z, hz, hz2⟩
      · rw [h0] at hl; simp at hl; omega
      · refine ⟨z, hz, ?_⟩
        rw [List.length_drop, List.getElem?_drop, show 32 + ((dig x).length - 32 - 1) = (dig x).length - 1 by omega]
        exact hz2
    rw [e] at this
    exact this
  · rw [val_take (dig_lt x), val_dig]
end Go.Am.Seat
namespace Go.Am.Seat
open Go.Proofs Go.Am
end Go.Am.Seat
namespace Go.Am.Seat
open Go.Proofs Go.Am
def NumS (m : Mem) (v : Value) (x : Nat) : Prop := (v = .slice none 0 0 ∧ x = 0) ∨ ∃ (b : Nat) (ro : Bool) (L : List Nat) (n : Nat), v = .slice (some ⟨b, 0, none⟩) n L.length ∧ NumW m b ro L n x
theorem NumS.a {m : Mem} {v : Value} {x : Nat} (h : NumS m v x) : NumA m v (dig x) := by
  rcases h with ⟨rfl, rfl⟩ | ⟨b, ro, L, n, rfl, h1, h2, h3, hne⟩
  · rw [dig_zero]; exact NumA.nil _
  · rw [← h2]; exact NumA.row h3 h1
theorem NumS.on {m m' : Mem} {v : Value} {x : Nat} (h : NumS m v x) (hk : Kept m m') : NumS m' v x := by
  rcases h with h | ⟨b, ro, L, n, rfl, h1, h2, h3, hne⟩
  · exact .inl h
  · exact .inr ⟨b, ro, L, n, rfl, h1, h2, by rw [hk.2 b (List.getElem?_eq_some_iff.1 h3).1]; exact h3, hne⟩
theorem NumS.sealed {m : Mem} {v : Value} {x : Nat} (h : NumS m v x) : NumS (m.map Am.sealed) v x := by
  rcases h with h | ⟨b, ro, L, n, rfl, h1, h2, h3, hne⟩
  · exact .inl h
  · exact .inr ⟨b, true, L, n, rfl, h1, h2, by rw [List.getElem?_map, h3]; rfl, hne⟩
theorem NumB.s {m : Mem} {B : Nat} {v : Value} {x : Nat} (h : NumB B v m x) : NumS m v x := by
  rcases h with h | ⟨L, n, b, ro, h1, h2, h3, rfl, h5, hne⟩
  · exact .inl h
  · exact .inr ⟨b, false, L, n, rfl, h1, h2, h5, hne⟩
theorem NumR.s {m m' : Mem} {v : Value} {x : Nat} (h : NumR m v m' x) : NumS m' v x := h.b.s
theorem NumS.len {m : Mem} {v : Value} {x : Nat} (h : NumS m v x) : lenV v = some (((dig x).length : Nat) : Int) := h.a.1
section
variable {self : Self} {nf : Nat} {m : Mem} {F : Nat → Value}
end
end Go.Am.Seat
namespace Go.Am.Seat
open Go.Proofs Go.Am
def bnd : Nat → Nat → Prop
  | 0, y => y < 256 ^ 65
  | 1, y => y < 256 ^ 36
  | 2, y => y < 256 ^ 32 + 256 ^ 6
  | _, y => y < 256 ^ 32
section
variable {self : Self} {nf : Nat} {m : Mem} {F : Nat → Value}
end
end Go.Am.Seat
namespace Go.Am.Seat
open Go.Proofs Go.Am
theorem NumB.on {B r : Nat} {v : Value} {m m' : Mem} (h : NumB B v m r) (hk : Kept m m') : NumB B v m' r := by
  rcases h with h | ⟨L, n, b, ro, h1, h2, h3, h4, h5, hne⟩
  · exact .inl h
  · exact .inr ⟨L, n, b, ro, h1, h2, h3, h4, by rw [hk.2 b (List.getElem?_eq_some_iff.1 h5).1]; exact h5, hne⟩
section
variable {self : Self} {nf : Nat} {m : Mem} {F : Nat → Value}
end
end Go.Am.Seat
namespace Go.Am.Seat
open Go.Proofs Go.Am
-- ntmps 9
-- ntmps 11
-- ntmps 9
-- ntmps 13
-- ntmps 8
section
variable {self : Self} {nf : Nat} {m : Mem} {a b : Value} {x y : Nat}
end
section
variable {self : Self} {nf : Nat} {m : Mem} {a : Value} {x : Nat}
end
end Go.Am.Seat
namespace Go.Am.Seat
open Go.Proofs Go.Am
end Go.Am.Seat
namespace Go.Am.Seat
open Go.Proofs Go.Am
-- ntmps 19
section
variable {self : Self} {nf : Nat} {m : Mem} {F : Nat → Value} {a b : Value} {x y k : Nat}
end
end Go.Am.Seat
