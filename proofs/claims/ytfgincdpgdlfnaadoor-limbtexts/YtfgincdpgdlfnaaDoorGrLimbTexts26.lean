/-
  Texts of my own, put together: LT7, LT8, LT9.
-/
import Derived.Test.YtfgincdpgdlfnaaDoorGrLimbTexts25
set_option linter.unusedSimpArgs false
set_option linter.unusedVariables false
set_option maxRecDepth 100000
namespace Go.Am.Seat
open Go.Proofs Go.Am Go.Am.Num Go.Am.Kn
theorem remE8 (v : Nat) : abin .rem .u64 ((v : Nat) : Int) .u64 100000000 = some (.int .u64 ((v % 100000000 : Nat) : Int)) := remN v 99999999
theorem quoE8 {v : Nat} (h : v < 18446744073709551616) : abin .quo .u64 ((v : Nat) : Int) .u64 100000000 = some (.int .u64 ((v / 100000000 : Nat) : Int)) := quoN v 99999999 h
theorem rem1e4 (v : Nat) : abin .rem .u32 ((v : Nat) : Int) .u32 10000 = some (.int .u32 ((v % 10000 : Nat) : Int)) := rem32 (a := v) (c := 9999) (by decide)
theorem quo1e4 {v : Nat} (h : v < 4294967296) : abin .quo .u32 ((v : Nat) : Int) .u32 10000 = some (.int .u32 ((v / 10000 : Nat) : Int)) := quo32 (a := v) (c := 9999) h
theorem rem1e2 (v : Nat) : abin .rem .u32 ((v : Nat) : Int) .u32 100 = some (.int .u32 ((v % 100 : Nat) : Int)) := rem32 (a := v) (c := 99) (by decide)
theorem quo1e2 {v : Nat} (h : v < 4294967296) : abin .quo .u32 ((v : Nat) : Int) .u32 100 = some (.int .u32 ((v / 100 : Nat) : Int)) := quo32 (a := v) (c := 99) h
theorem geqI7 (a b : Int) : abin .geq .i64 a .i64 b = some (.bool (decide (a ≥ b))) := by kernel_rfl
abbrev X3 (x : Nat) : Value := .int .u32 ((x : Nat) : Int)
section
variable {self : Self} {nf : Nat} {M M0 : Mem} {F : Nat → Value} {q n k v x nd N : Nat} {u : Nat → Nat}
theorem fbt_0 (h0 : F 0 = .slice (some ⟨q, 0, none⟩) n 24) : ∃ F', acodeN E self nf (.region 0 rfbt_0 false) (lst F 167) M = some (.normal, lst F' 167, M) ∧ F' 4 = .int .i64 (n : Nat) ∧ ∀ j, j < 4 → F' j = F j := by
  have hl : ∀ (c : Nat), alen E.P 41 (.slice (some ⟨q, 0, none⟩) n c) = some (.int .i64 (n : Nat)) := fun c => by kernel_rfl
  simp only [ofbt_0, agd_none, gdAt, gdV_bool, gdV_undef, List.append_eq, List.cons_append, List.nil_append, apure_call1, apure_call2, apure_call3, bft, btf, acodeN, List.getElem?_toArray, List.getElem?_cons_zero, List.getElem?_cons_succ, aopsN, adrawT, cls, astep, aop, afloat, ev, nth_lst, get_lst, aput, setAt_lst, upd_at, init_zero, init_succ, init_nil, Nat.reduceLT, Nat.reduceEqDiff, reduceIte, abuiltin, alen, Option.map_some, Option.map_none, orElse_some, apure_add, apure_eqlV, eqlVal_str, eqlVal_bool, eqlVal_ptr, eqlVal_slice, eqlVal_wide, eqlVal_int, allT, ↓aop_eqlV, apure_neq, List.map_cons, List.map_nil, List.all_cons, List.all_nil, lit2, lit1, lit0, List.isEmpty_nil, bls, Bool.false_eq_true, if_true, if_false, List.length_map, beq_self_eq_true, uns, h0, hl]
  exact ⟨_, rfl, by simp only [upd_at, Nat.reduceEqDiff, reduceIte], fun j hj => by repeat rw [upd_ne (by omega)]⟩
theorem fbt_1 {b : Bool} (h4 : F 4 = .int .i64 (nd : Nat)) (hb : decide (((nd : Nat) : Int) ≥ 8) = b) : ∃ F', acodeN E self nf (.region 1 rfbt_1 false) (lst F 167) M = some (.normal, lst F' 167, M) ∧ F' 20 = .bool b ∧ ∀ j, j < 17 → F' j = F j := by
  simp only [ofbt_1, agd_none, gdAt, gdV_bool, gdV_undef, List.append_eq, List.cons_append, List.nil_append, apure_call1, apure_call2, apure_call3, bft, btf, acodeN, List.getElem?_toArray, List.getElem?_cons_zero, List.getElem?_cons_succ, aopsN, adrawT, cls, astep, aop, afloat, ev, nth_lst, get_lst, aput, setAt_lst, upd_at, init_zero, init_succ, init_nil, Nat.reduceLT, Nat.reduceEqDiff, reduceIte, abuiltin, alen, Option.map_some, Option.map_none, orElse_some, apure_add, apure_eqlV, eqlVal_str, eqlVal_bool, eqlVal_ptr, eqlVal_slice, eqlVal_wide, eqlVal_int, allT, ↓aop_eqlV, apure_neq, List.map_cons, List.map_nil, List.all_cons, List.all_nil, lit2, lit1, lit0, List.isEmpty_nil, bls, Bool.false_eq_true, if_true, if_false, List.length_map, beq_self_eq_true, uns, h4, geqI7, hb]
  exact ⟨_, rfl, by simp only [upd_at, Nat.reduceEqDiff, reduceIte], fun j hj => by repeat rw [upd_ne (by omega)]⟩
theorem fbt_2 (h1 : F 1 = U v) : ∃ F', acodeN E self nf (.region 2 rfbt_2 false) (lst F 167) M = some (.normal, lst F' 167, M) ∧ F' 5 = X3 (v % 100000000) ∧ ∀ j, j ≠ 5 → j < 17 → F' j = F j := by
  have c := cv64_32 (a := v % 100000000) (by omega)
  simp only [ofbt_2, agd_none, gdAt, gdV_bool, gdV_undef, List.append_eq, List.cons_append, List.nil_append, apure_call1, apure_call2, apure_call3, bft, btf, acodeN, List.getElem?_toArray, List.getElem?_cons_zero, List.getElem?_cons_succ, aopsN, adrawT, cls, astep, aop, afloat, ev, nth_lst, get_lst, aput, setAt_lst, upd_at, init_zero, init_succ, init_nil, Nat.reduceLT, Nat.reduceEqDiff, reduceIte, abuiltin, alen, Option.map_some, Option.map_none, orElse_some, apure_add, apure_eqlV, eqlVal_str, eqlVal_bool, eqlVal_ptr, eqlVal_slice, eqlVal_wide, eqlVal_int, allT, ↓aop_eqlV, apure_neq, List.map_cons, List.map_nil, List.all_cons, List.all_nil, lit2, lit1, lit0, List.isEmpty_nil, bls, Bool.false_eq_true, if_true, if_false, List.length_map, beq_self_eq_true, uns, h1, remE8, apure_convert, isAddr, c]
  exact ⟨_, rfl, by simp only [upd_at, Nat.reduceEqDiff, reduceIte], fun j h hj => by repeat rw [upd_ne (by omega)]⟩
theorem fbt_3 (h1 : F 1 = U v) (hv : v < 18446744073709551616) : ∃ F', acodeN E self nf (.region 3 rfbt_3 false) (lst F 167) M = some (.normal, lst F' 167, M) ∧ F' 1 = U (v / 100000000) ∧ ∀ j, j ≠ 1 → j < 17 → F' j = F j := by
  have c := quoE8 hv
  simp only [ofbt_3, agd_none, gdAt, gdV_bool, gdV_undef, List.append_eq, List.cons_append, List.nil_append, apure_call1, apure_call2, apure_call3, bft, btf, acodeN, List.getElem?_toArray, List.getElem?_cons_zero, List.getElem?_cons_succ, aopsN, adrawT, cls, astep, aop, afloat, ev, nth_lst, get_lst, aput, setAt_lst, upd_at, init_zero, init_succ, init_nil, Nat.reduceLT, Nat.reduceEqDiff, reduceIte, abuiltin, alen, Option.map_some, Option.map_none, orElse_some, apure_add, apure_eqlV, eqlVal_str, eqlVal_bool, eqlVal_ptr, eqlVal_slice, eqlVal_wide, eqlVal_int, allT, ↓aop_eqlV, apure_neq, List.map_cons, List.map_nil, List.all_cons, List.all_nil, lit2, lit1, lit0, List.isEmpty_nil, bls, Bool.false_eq_true, if_true, if_false, List.length_map, beq_self_eq_true, uns, h1, c]
  exact ⟨_, rfl, by simp only [upd_at, Nat.reduceEqDiff, reduceIte], fun j h hj => by repeat rw [upd_ne (by omega)]⟩
theorem fbt_4 (h5 : F 5 = X3 x) (hx : x < 100000000) : ∃ F', acodeN E self nf (.region 4 rfbt_4 false) (lst F 167) M = some (.normal, lst F' 167, M) ∧ F' 6 = X3 (x / 10000) ∧ F' 7 = X3 (x % 10000) ∧ ∀ j, j ≠ 6 → j ≠ 7 → j < 17 → F' j = F j := by
  have c := quo1e4 (v := x) (by omega)
  simp only [ofbt_4, agd_none, gdAt, gdV_bool, gdV_undef, List.append_eq, List.cons_append, List.nil_append, apure_call1, apure_call2, apure_call3, bft, btf, acodeN, List.getElem?_toArray, List.getElem?_cons_zero, List.getElem?_cons_succ, aopsN, adrawT, cls, astep, aop, afloat, ev, nth_lst, get_lst, aput, setAt_lst, upd_at, init_zero, init_succ, init_nil, Nat.reduceLT, Nat.reduceEqDiff, reduceIte, abuiltin, alen, Option.map_some, Option.map_none, orElse_some, apure_add, apure_eqlV, eqlVal_str, eqlVal_bool, eqlVal_ptr, eqlVal_slice, eqlVal_wide, eqlVal_int, allT, ↓aop_eqlV, apure_neq, List.map_cons, List.map_nil, List.all_cons, List.all_nil, lit2, lit1, lit0, List.isEmpty_nil, bls, Bool.false_eq_true, if_true, if_false, List.length_map, beq_self_eq_true, uns, h5, c, rem1e4]
  exact ⟨_, rfl, by simp only [upd_at, Nat.reduceEqDiff, reduceIte], by simp only [upd_at, Nat.reduceEqDiff, reduceIte], fun j h h2 hj => by repeat rw [upd_ne (by omega)]⟩
theorem fbt_5 (h7 : F 7 = X3 x) (hx : x < 10000) : ∃ F', acodeN E self nf (.region 5 rfbt_5 false) (lst F 167) M = some (.normal, lst F' 167, M) ∧ F' 8 = X3 (x / 100 * 2) ∧ F' 9 = X3 (x % 100 * 2) ∧ ∀ j, j ≠ 8 → j ≠ 9 → j < 17 → F' j = F j := by
  have c := quo1e2 (v := x) (by omega)
  have d1 := mul32 (a := x / 100) (by omega)
  have d2 := mul32 (a := x % 100) (by omega)
  simp only [ofbt_5, agd_none, gdAt, gdV_bool, gdV_undef, List.append_eq, List.cons_append, List.nil_append, apure_call1, apure_call2, apure_call3, bft, btf, acodeN, List.getElem?_toArray, List.getElem?_cons_zero, List.getElem?_cons_succ, aopsN, adrawT, cls, astep, aop, afloat, ev, nth_lst, get_lst, aput, setAt_lst, upd_at, init_zero, init_succ, init_nil, Nat.reduceLT, Nat.reduceEqDiff, reduceIte, abuiltin, alen, Option.map_some, Option.map_none, orElse_some, apure_add, apure_eqlV, eqlVal_str, eqlVal_bool, eqlVal_ptr, eqlVal_slice, eqlVal_wide, eqlVal_int, allT, ↓aop_eqlV, apure_neq, List.map_cons, List.map_nil, List.all_cons, List.all_nil, lit2, lit1, lit0, List.isEmpty_nil, bls, Bool.false_eq_true, if_true, if_false, List.length_map, beq_self_eq_true, uns, h7, c, rem1e2, d1, d2]
  exact ⟨_, rfl, by simp only [upd_at, Nat.reduceEqDiff, reduceIte], by simp only [upd_at, Nat.reduceEqDiff, reduceIte], fun j h h2 hj => by repeat rw [upd_ne (by omega)]⟩
theorem fbt_6 (h6 : F 6 = X3 x) (hx : x < 10000) : ∃ F', acodeN E self nf (.region 6 rfbt_6 false) (lst F 167) M = some (.normal, lst F' 167, M) ∧ F' 10 = X3 (x / 100 * 2) ∧ F' 11 = X3 (x % 100 * 2) ∧ ∀ j, j ≠ 10 → j ≠ 11 → j < 17 → F' j = F j := by
  have c := quo1e2 (v := x) (by omega)
  have d1 := mul32 (a := x / 100) (by omega)
  have d2 := mul32 (a := x % 100) (by omega)
  simp only [ofbt_6, agd_none, gdAt, gdV_bool, gdV_undef, List.append_eq, List.cons_append, List.nil_append, apure_call1, apure_call2, apure_call3, bft, btf, acodeN, List.getElem?_toArray, List.getElem?_cons_zero, List.getElem?_cons_succ, aopsN, adrawT, cls, astep, aop, afloat, ev, nth_lst, get_lst, aput, setAt_lst, upd_at, init_zero, init_succ, init_nil, Nat.reduceLT, Nat.reduceEqDiff, reduceIte, abuiltin, alen, Option.map_some, Option.map_none, orElse_some, apure_add, apure_eqlV, eqlVal_str, eqlVal_bool, eqlVal_ptr, eqlVal_slice, eqlVal_wide, eqlVal_int, allT, ↓aop_eqlV, apure_neq, List.map_cons, List.map_nil, List.all_cons, List.all_nil, lit2, lit1, lit0, List.isEmpty_nil, bls, Bool.false_eq_true, if_true, if_false, List.length_map, beq_self_eq_true, uns, h6, c, rem1e2, d1, d2]
  exact ⟨_, rfl, by simp only [upd_at, Nat.reduceEqDiff, reduceIte], by simp only [upd_at, Nat.reduceEqDiff, reduceIte], fun j h h2 hj => by repeat rw [upd_ne (by omega)]⟩
theorem fbt_11 (h4 : F 4 = .int .i64 ((k + 8 : Nat) : Int)) (hk : k < 100) : ∃ F', acodeN E self nf (.region 11 rfbt_11 false) (lst F 167) M = some (.normal, lst F' 167, M) ∧ F' 4 = .int .i64 (k : Nat) ∧ ∀ j, j ≠ 4 → j < 17 → F' j = F j := by
  have e1 := subI (k + 8) 8 (by omega) (by omega)
  rw [show ((8 : Nat) : Int) = 8 from rfl, Nat.add_sub_cancel] at e1
  simp only [ofbt_11, agd_none, gdAt, gdV_bool, gdV_undef, List.append_eq, List.cons_append, List.nil_append, apure_call1, apure_call2, apure_call3, bft, btf, acodeN, List.getElem?_toArray, List.getElem?_cons_zero, List.getElem?_cons_succ, aopsN, adrawT, cls, astep, aop, afloat, ev, nth_lst, get_lst, aput, setAt_lst, upd_at, init_zero, init_succ, init_nil, Nat.reduceLT, Nat.reduceEqDiff, reduceIte, abuiltin, alen, Option.map_some, Option.map_none, orElse_some, apure_add, apure_eqlV, eqlVal_str, eqlVal_bool, eqlVal_ptr, eqlVal_slice, eqlVal_wide, eqlVal_int, allT, ↓aop_eqlV, apure_neq, List.map_cons, List.map_nil, List.all_cons, List.all_nil, lit2, lit1, lit0, List.isEmpty_nil, bls, Bool.false_eq_true, if_true, if_false, List.length_map, beq_self_eq_true, uns, h4, sub64', e1]
  exact ⟨_, rfl, by simp only [upd_at, Nat.reduceEqDiff, reduceIte], fun j h hj => by repeat rw [upd_ne (by omega)]⟩
theorem fbt_12 (h1 : F 1 = U v) (hv : v < 4294967296) : ∃ F', acodeN E self nf (.region 12 rfbt_12 false) (lst F 167) M = some (.normal, lst F' 167, M) ∧ F' 12 = X3 v ∧ ∀ j, j ≠ 12 → j < 17 → F' j = F j := by
  have c := cv64_32 (a := v) hv
  simp only [ofbt_12, agd_none, gdAt, gdV_bool, gdV_undef, List.append_eq, List.cons_append, List.nil_append, apure_call1, apure_call2, apure_call3, bft, btf, acodeN, List.getElem?_toArray, List.getElem?_cons_zero, List.getElem?_cons_succ, aopsN, adrawT, cls, astep, aop, afloat, ev, nth_lst, get_lst, aput, setAt_lst, upd_at, init_zero, init_succ, init_nil, Nat.reduceLT, Nat.reduceEqDiff, reduceIte, abuiltin, alen, Option.map_some, Option.map_none, orElse_some, apure_add, apure_eqlV, eqlVal_str, eqlVal_bool, eqlVal_ptr, eqlVal_slice, eqlVal_wide, eqlVal_int, allT, ↓aop_eqlV, apure_neq, List.map_cons, List.map_nil, List.all_cons, List.all_nil, lit2, lit1, lit0, List.isEmpty_nil, bls, Bool.false_eq_true, if_true, if_false, List.length_map, beq_self_eq_true, uns, h1, apure_convert, isAddr, c]
  exact ⟨_, rfl, by simp only [upd_at, Nat.reduceEqDiff, reduceIte], fun j h hj => by repeat rw [upd_ne (by omega)]⟩
theorem fbt_13 {b : Bool} (h4 : F 4 = .int .i64 (nd : Nat)) (hb : decide (((nd : Nat) : Int) ≥ 4) = b) : ∃ F', acodeN E self nf (.region 13 rfbt_13 false) (lst F 167) M = some (.normal, lst F' 167, M) ∧ F' 99 = .bool b ∧ ∀ j, j < 17 → F' j = F j := by
  simp only [ofbt_13, agd_none, gdAt, gdV_bool, gdV_undef, List.append_eq, List.cons_append, List.nil_append, apure_call1, apure_call2, apure_call3, bft, btf, acodeN, List.getElem?_toArray, List.getElem?_cons_zero, List.getElem?_cons_succ, aopsN, adrawT, cls, astep, aop, afloat, ev, nth_lst, get_lst, aput, setAt_lst, upd_at, init_zero, init_succ, init_nil, Nat.reduceLT, Nat.reduceEqDiff, reduceIte, abuiltin, alen, Option.map_some, Option.map_none, orElse_some, apure_add, apure_eqlV, eqlVal_str, eqlVal_bool, eqlVal_ptr, eqlVal_slice, eqlVal_wide, eqlVal_int, allT, ↓aop_eqlV, apure_neq, List.map_cons, List.map_nil, List.all_cons, List.all_nil, lit2, lit1, lit0, List.isEmpty_nil, bls, Bool.false_eq_true, if_true, if_false, List.length_map, beq_self_eq_true, uns, h4, geqI7, hb]
  exact ⟨_, rfl, by simp only [upd_at, Nat.reduceEqDiff, reduceIte], fun j hj => by repeat rw [upd_ne (by omega)]⟩
theorem fbt_14 (h12 : F 12 = X3 x) : ∃ F', acodeN E self nf (.region 14 rfbt_14 false) (lst F 167) M = some (.normal, lst F' 167, M) ∧ F' 13 = X3 (x % 10000) ∧ ∀ j, j ≠ 13 → j < 17 → F' j = F j := by
  simp only [ofbt_14, agd_none, gdAt, gdV_bool, gdV_undef, List.append_eq, List.cons_append, List.nil_append, apure_call1, apure_call2, apure_call3, bft, btf, acodeN, List.getElem?_toArray, List.getElem?_cons_zero, List.getElem?_cons_succ, aopsN, adrawT, cls, astep, aop, afloat, ev, nth_lst, get_lst, aput, setAt_lst, upd_at, init_zero, init_succ, init_nil, Nat.reduceLT, Nat.reduceEqDiff, reduceIte, abuiltin, alen, Option.map_some, Option.map_none, orElse_some, apure_add, apure_eqlV, eqlVal_str, eqlVal_bool, eqlVal_ptr, eqlVal_slice, eqlVal_wide, eqlVal_int, allT, ↓aop_eqlV, apure_neq, List.map_cons, List.map_nil, List.all_cons, List.all_nil, lit2, lit1, lit0, List.isEmpty_nil, bls, Bool.false_eq_true, if_true, if_false, List.length_map, beq_self_eq_true, uns, h12, rem1e4]
  exact ⟨_, rfl, by simp only [upd_at, Nat.reduceEqDiff, reduceIte], fun j h hj => by repeat rw [upd_ne (by omega)]⟩
theorem fbt_15 (h12 : F 12 = X3 x) (hx : x < 4294967296) : ∃ F', acodeN E self nf (.region 15 rfbt_15 false) (lst F 167) M = some (.normal, lst F' 167, M) ∧ F' 12 = X3 (x / 10000) ∧ ∀ j, j ≠ 12 → j < 17 → F' j = F j := by
  have c := quo1e4 hx
  simp only [ofbt_15, agd_none, gdAt, gdV_bool, gdV_undef, List.append_eq, List.cons_append, List.nil_append, apure_call1, apure_call2, apure_call3, bft, btf, acodeN, List.getElem?_toArray, List.getElem?_cons_zero, List.getElem?_cons_succ, aopsN, adrawT, cls, astep, aop, afloat, ev, nth_lst, get_lst, aput, setAt_lst, upd_at, init_zero, init_succ, init_nil, Nat.reduceLT, Nat.reduceEqDiff, reduceIte, abuiltin, alen, Option.map_some, Option.map_none, orElse_some, apure_add, apure_eqlV, eqlVal_str, eqlVal_bool, eqlVal_ptr, eqlVal_slice, eqlVal_wide, eqlVal_int, allT, ↓aop_eqlV, apure_neq, List.map_cons, List.map_nil, List.all_cons, List.all_nil, lit2, lit1, lit0, List.isEmpty_nil, bls, Bool.false_eq_true, if_true, if_false, List.length_map, beq_self_eq_true, uns, h12, c]
  exact ⟨_, rfl, by simp only [upd_at, Nat.reduceEqDiff, reduceIte], fun j h hj => by repeat rw [upd_ne (by omega)]⟩
theorem fbt_16 (h13 : F 13 = X3 x) (hx : x < 10000) : ∃ F', acodeN E self nf (.region 16 rfbt_16 false) (lst F 167) M = some (.normal, lst F' 167, M) ∧ F' 14 = X3 (x / 100 * 2) ∧ F' 15 = X3 (x % 100 * 2) ∧ ∀ j, j ≠ 14 → j ≠ 15 → j < 17 → F' j = F j := by
  have c := quo1e2 (v := x) (by omega)
  have d1 := mul32 (a := x / 100) (by omega)
  have d2 := mul32 (a := x % 100) (by omega)
  simp only [ofbt_16, agd_none, gdAt, gdV_bool, gdV_undef, List.append_eq, List.cons_append, List.nil_append, apure_call1, apure_call2, apure_call3, bft, btf, acodeN, List.getElem?_toArray, List.getElem?_cons_zero, List.getElem?_cons_succ, aopsN, adrawT, cls, astep, aop, afloat, ev, nth_lst, get_lst, aput, setAt_lst, upd_at, init_zero, init_succ, init_nil, Nat.reduceLT, Nat.reduceEqDiff, reduceIte, abuiltin, alen, Option.map_some, Option.map_none, orElse_some, apure_add, apure_eqlV, eqlVal_str, eqlVal_bool, eqlVal_ptr, eqlVal_slice, eqlVal_wide, eqlVal_int, allT, ↓aop_eqlV, apure_neq, List.map_cons, List.map_nil, List.all_cons, List.all_nil, lit2, lit1, lit0, List.isEmpty_nil, bls, Bool.false_eq_true, if_true, if_false, List.length_map, beq_self_eq_true, uns, h13, c, rem1e2, d1, d2]
  exact ⟨_, rfl, by simp only [upd_at, Nat.reduceEqDiff, reduceIte], by simp only [upd_at, Nat.reduceEqDiff, reduceIte], fun j h h2 hj => by repeat rw [upd_ne (by omega)]⟩
theorem fbt_19 (h4 : F 4 = .int .i64 ((k + 4 : Nat) : Int)) (hk : k < 100) : ∃ F', acodeN E self nf (.region 19 rfbt_19 false) (lst F 167) M = some (.normal, lst F' 167, M) ∧ F' 4 = .int .i64 (k : Nat) ∧ ∀ j, j ≠ 4 → j < 17 → F' j = F j := by
  have e1 := subI (k + 4) 4 (by omega) (by omega)
  rw [show ((4 : Nat) : Int) = 4 from rfl, Nat.add_sub_cancel] at e1
  simp only [ofbt_19, agd_none, gdAt, gdV_bool, gdV_undef, List.append_eq, List.cons_append, List.nil_append, apure_call1, apure_call2, apure_call3, bft, btf, acodeN, List.getElem?_toArray, List.getElem?_cons_zero, List.getElem?_cons_succ, aopsN, adrawT, cls, astep, aop, afloat, ev, nth_lst, get_lst, aput, setAt_lst, upd_at, init_zero, init_succ, init_nil, Nat.reduceLT, Nat.reduceEqDiff, reduceIte, abuiltin, alen, Option.map_some, Option.map_none, orElse_some, apure_add, apure_eqlV, eqlVal_str, eqlVal_bool, eqlVal_ptr, eqlVal_slice, eqlVal_wide, eqlVal_int, allT, ↓aop_eqlV, apure_neq, List.map_cons, List.map_nil, List.all_cons, List.all_nil, lit2, lit1, lit0, List.isEmpty_nil, bls, Bool.false_eq_true, if_true, if_false, List.length_map, beq_self_eq_true, uns, h4, sub64', e1]
  exact ⟨_, rfl, by simp only [upd_at, Nat.reduceEqDiff, reduceIte], fun j h hj => by repeat rw [upd_ne (by omega)]⟩
theorem fbt_20 {b : Bool} (h4 : F 4 = .int .i64 (nd : Nat)) (hb : decide (((nd : Nat) : Int) ≥ 2) = b) : ∃ F', acodeN E self nf (.region 20 rfbt_20 false) (lst F 167) M = some (.normal, lst F' 167, M) ∧ F' 139 = .bool b ∧ ∀ j, j < 17 → F' j = F j := by
  simp only [ofbt_20, agd_none, gdAt, gdV_bool, gdV_undef, List.append_eq, List.cons_append, List.nil_append, apure_call1, apure_call2, apure_call3, bft, btf, acodeN, List.getElem?_toArray, List.getElem?_cons_zero, List.getElem?_cons_succ, aopsN, adrawT, cls, astep, aop, afloat, ev, nth_lst, get_lst, aput, setAt_lst, upd_at, init_zero, init_succ, init_nil, Nat.reduceLT, Nat.reduceEqDiff, reduceIte, abuiltin, alen, Option.map_some, Option.map_none, orElse_some, apure_add, apure_eqlV, eqlVal_str, eqlVal_bool, eqlVal_ptr, eqlVal_slice, eqlVal_wide, eqlVal_int, allT, ↓aop_eqlV, apure_neq, List.map_cons, List.map_nil, List.all_cons, List.all_nil, lit2, lit1, lit0, List.isEmpty_nil, bls, Bool.false_eq_true, if_true, if_false, List.length_map, beq_self_eq_true, uns, h4, geqI7, hb]
  exact ⟨_, rfl, by simp only [upd_at, Nat.reduceEqDiff, reduceIte], fun j hj => by repeat rw [upd_ne (by omega)]⟩
theorem fbt_21 (h12 : F 12 = X3 x) : ∃ F', acodeN E self nf (.region 21 rfbt_21 false) (lst F 167) M = some (.normal, lst F' 167, M) ∧ F' 16 = X3 (x % 100 * 2) ∧ ∀ j, j ≠ 16 → j < 17 → F' j = F j := by
  have d2 := mul32 (a := x % 100) (by omega)
  simp only [ofbt_21, agd_none, gdAt, gdV_bool, gdV_undef, List.append_eq, List.cons_append, List.nil_append, apure_call1, apure_call2, apure_call3, bft, btf, acodeN, List.getElem?_toArray, List.getElem?_cons_zero, List.getElem?_cons_succ, aopsN, adrawT, cls, astep, aop, afloat, ev, nth_lst, get_lst, aput, setAt_lst, upd_at, init_zero, init_succ, init_nil, Nat.reduceLT, Nat.reduceEqDiff, reduceIte, abuiltin, alen, Option.map_some, Option.map_none, orElse_some, apure_add, apure_eqlV, eqlVal_str, eqlVal_bool, eqlVal_ptr, eqlVal_slice, eqlVal_wide, eqlVal_int, allT, ↓aop_eqlV, apure_neq, List.map_cons, List.map_nil, List.all_cons, List.all_nil, lit2, lit1, lit0, List.isEmpty_nil, bls, Bool.false_eq_true, if_true, if_false, List.length_map, beq_self_eq_true, uns, h12, rem1e2, d2]
  exact ⟨_, rfl, by simp only [upd_at, Nat.reduceEqDiff, reduceIte], fun j h hj => by repeat rw [upd_ne (by omega)]⟩
theorem fbt_22 (h12 : F 12 = X3 x) (hx : x < 4294967296) : ∃ F', acodeN E self nf (.region 22 rfbt_22 false) (lst F 167) M = some (.normal, lst F' 167, M) ∧ F' 12 = X3 (x / 100) ∧ ∀ j, j ≠ 12 → j < 17 → F' j = F j := by
  have c := quo1e2 hx
  simp only [ofbt_22, agd_none, gdAt, gdV_bool, gdV_undef, List.append_eq, List.cons_append, List.nil_append, apure_call1, apure_call2, apure_call3, bft, btf, acodeN, List.getElem?_toArray, List.getElem?_cons_zero, List.getElem?_cons_succ, aopsN, adrawT, cls, astep, aop, afloat, ev, nth_lst, get_lst, aput, setAt_lst, upd_at, init_zero, init_succ, init_nil, Nat.reduceLT, Nat.reduceEqDiff, reduceIte, abuiltin, alen, Option.map_some, Option.map_none, orElse_some, apure_add, apure_eqlV, eqlVal_str, eqlVal_bool, eqlVal_ptr, eqlVal_slice, eqlVal_wide, eqlVal_int, allT, ↓aop_eqlV, apure_neq, List.map_cons, List.map_nil, List.all_cons, List.all_nil, lit2, lit1, lit0, List.isEmpty_nil, bls, Bool.false_eq_true, if_true, if_false, List.length_map, beq_self_eq_true, uns, h12, c]
  exact ⟨_, rfl, by simp only [upd_at, Nat.reduceEqDiff, reduceIte], fun j h hj => by repeat rw [upd_ne (by omega)]⟩
theorem fbt_24 (h4 : F 4 = .int .i64 ((k + 2 : Nat) : Int)) (hk : k < 100) : ∃ F', acodeN E self nf (.region 24 rfbt_24 false) (lst F 167) M = some (.normal, lst F' 167, M) ∧ F' 4 = .int .i64 (k : Nat) ∧ ∀ j, j ≠ 4 → j < 17 → F' j = F j := by
  have e1 := subI (k + 2) 2 (by omega) (by omega)
  rw [show ((2 : Nat) : Int) = 2 from rfl, Nat.add_sub_cancel] at e1
  simp only [ofbt_24, agd_none, gdAt, gdV_bool, gdV_undef, List.append_eq, List.cons_append, List.nil_append, apure_call1, apure_call2, apure_call3, bft, btf, acodeN, List.getElem?_toArray, List.getElem?_cons_zero, List.getElem?_cons_succ, aopsN, adrawT, cls, astep, aop, afloat, ev, nth_lst, get_lst, aput, setAt_lst, upd_at, init_zero, init_succ, init_nil, Nat.reduceLT, Nat.reduceEqDiff, reduceIte, abuiltin, alen, Option.map_some, Option.map_none, orElse_some, apure_add, apure_eqlV, eqlVal_str, eqlVal_bool, eqlVal_ptr, eqlVal_slice, eqlVal_wide, eqlVal_int, allT, ↓aop_eqlV, apure_neq, List.map_cons, List.map_nil, List.all_cons, List.all_nil, lit2, lit1, lit0, List.isEmpty_nil, bls, Bool.false_eq_true, if_true, if_false, List.length_map, beq_self_eq_true, uns, h4, sub64', e1]
  exact ⟨_, rfl, by simp only [upd_at, Nat.reduceEqDiff, reduceIte], fun j h hj => by repeat rw [upd_ne (by omega)]⟩
theorem fbt_25 {b : Bool} (h4 : F 4 = .int .i64 (nd : Nat)) (hb : decide (((nd : Nat) : Int) > 0) = b) : ∃ F', acodeN E self nf (.region 25 rfbt_25 false) (lst F 167) M = some (.normal, lst F' 167, M) ∧ F' 161 = .bool b ∧ ∀ j, j < 17 → F' j = F j := by
  simp only [ofbt_25, agd_none, gdAt, gdV_bool, gdV_undef, List.append_eq, List.cons_append, List.nil_append, apure_call1, apure_call2, apure_call3, bft, btf, acodeN, List.getElem?_toArray, List.getElem?_cons_zero, List.getElem?_cons_succ, aopsN, adrawT, cls, astep, aop, afloat, ev, nth_lst, get_lst, aput, setAt_lst, upd_at, init_zero, init_succ, init_nil, Nat.reduceLT, Nat.reduceEqDiff, reduceIte, abuiltin, alen, Option.map_some, Option.map_none, orElse_some, apure_add, apure_eqlV, eqlVal_str, eqlVal_bool, eqlVal_ptr, eqlVal_slice, eqlVal_wide, eqlVal_int, allT, ↓aop_eqlV, apure_neq, List.map_cons, List.map_nil, List.all_cons, List.all_nil, lit2, lit1, lit0, List.isEmpty_nil, bls, Bool.false_eq_true, if_true, if_false, List.length_map, beq_self_eq_true, uns, h4, gtr64', hb]
  exact ⟨_, rfl, by simp only [upd_at, Nat.reduceEqDiff, reduceIte], fun j hj => by repeat rw [upd_ne (by omega)]⟩
theorem fbt_26 (h0 : F 0 = .slice (some ⟨q, 0, none⟩) n 24) (h12 : F 12 = X3 x) (hx : x < 10) (hn : 1 ≤ n) (hq : M[q]? = some (.row false 70 (rowK .u8 24 u))) :
    ∃ F', acodeN E self nf (.region 26 rfbt_26 false) (lst F 167) M = some (.normal, lst F' 167, M.set q (.row false 70 (rowK .u8 24 (putW u 0 (48 + x))))) := by
  have a := add48 (a := x) (by omega)
  have c := cv32_8 (a := 48 + x) (by omega)
  have i1 := ix35w (b := q) (L := n) (c := 24) (j := 0) (by omega)
  rw [show ((0 : Nat) : Int) = 0 from rfl] at i1
  have st1 := aU24.storeE (x := 48 + x) hq (j := 0) (by omega)
  change astore E.P _ _ _ M = some (M.set q (.row false 70 (rowK .u8 24 (putW u 0 (48 + x))))) at st1
  generalize M.set q (.row false 70 (rowK .u8 24 (putW u 0 (48 + x)))) = M1 at *
  simp only [ofbt_26, agd_none, gdAt, gdV_bool, gdV_undef, List.append_eq, List.cons_append, List.nil_append, apure_call1, apure_call2, apure_call3, bft, btf, acodeN, List.getElem?_toArray, List.getElem?_cons_zero, List.getElem?_cons_succ, aopsN, adrawT, cls, astep, aop, afloat, ev, nth_lst, get_lst, aput, setAt_lst, upd_at, init_zero, init_succ, init_nil, Nat.reduceLT, Nat.reduceEqDiff, reduceIte, abuiltin, alen, Option.map_some, Option.map_none, orElse_some, apure_add, apure_eqlV, eqlVal_str, eqlVal_bool, eqlVal_ptr, eqlVal_slice, eqlVal_wide, eqlVal_int, allT, ↓aop_eqlV, apure_neq, List.map_cons, List.map_nil, List.all_cons, List.all_nil, lit2, lit1, lit0, List.isEmpty_nil, bls, Bool.false_eq_true, if_true, if_false, List.length_map, beq_self_eq_true, uns, h0, h12, a, apure_convert, isAddr, c, i1, st1]
  exact ⟨_, rfl⟩
end
end Go.Am.Seat
namespace Go.Am.Seat
open Go.Proofs Go.Am Go.Am.Num Go.Am.Kn
section
variable {self : Self} {nf : Nat} {M M0 : Mem} {F : Nat → Value} {q n k v x nd N : Nat} {u : Nat → Nat}
def rb (u : Nat → Nat) : Blk := .row false 70 (rowK .u8 24 u)
theorem rb_at (hq : q < M0.length) (u : Nat → Nat) : (M0.set q (rb u))[q]? = some (.row false 70 (rowK .u8 24 u)) := by rw [List.getElem?_set_self hq]; rfl
theorem fbt_it (h0 : F 0 = .slice (some ⟨q, 0, none⟩) n 24) (h1 : F 1 = U v) (h4 : F 4 = .int .i64 ((k + 8 : Nat) : Int)) (hv : v < 18446744073709551616) (hf : Fm n N (k + 8) v u) (hn : n ≤ 24) (hq : q < M0.length) :
    ∃ G u', acodeN E self nf lpfbt_0 (lst F 167) (M0.set q (rb u)) = some (.normal, lst G 167, M0.set q (rb u')) ∧ Fm n N k (v / 100000000) u' ∧ G 0 = F 0 ∧ G 1 = U (v / 100000000) ∧ G 4 = .int .i64 (k : Nat) := by
  have hle := hf.le
  obtain ⟨A, ra, a20, ak⟩ := fbt_1 (self := self) (nf := nf) (M := M0.set q (rb u)) h4 (b := true) (decide_eq_true (by omega))
  obtain ⟨B, rb', b5, bk⟩ := fbt_2 (self := self) (nf := nf) (M := M0.set q (rb u)) ((ak 1 (by omega)).trans h1)
  obtain ⟨C, rc, c1, ck⟩ := fbt_3 (self := self) (nf := nf) (M := M0.set q (rb u)) ((bk 1 (by omega) (by omega)).trans ((ak 1 (by omega)).trans h1)) hv
  obtain ⟨D, rd, d6, d7, dk⟩ := fbt_4 (self := self) (nf := nf) (M := M0.set q (rb u)) ((ck 5 (by omega) (by omega)).trans b5) (Nat.mod_lt _ (by decide))
  obtain ⟨H, rh, e8, e9, ek⟩ := fbt_5 (self := self) (nf := nf) (M := M0.set q (rb u)) d7 (Nat.mod_lt _ (by decide))
  obtain ⟨I, ri, i10, i11, ik⟩ := fbt_6 (self := self) (nf := nf) (M := M0.set q (rb u)) ((ek 6 (by omega) (by omega) (by omega)).trans d6) (by omega)
  have ki : ∀ j, j = 0 ∨ j = 4 → I j = F j := fun j hj => (ik j (by omega) (by omega) (by omega)).trans ((ek j (by omega) (by omega) (by omega)).trans ((dk j (by omega) (by omega) (by omega)).trans ((ck j (by omega) (by omega)).trans ((bk j (by omega) (by omega)).trans (ak j (by omega))))))
  have i0 := (ki 0 (.inl rfl)).trans h0
  have i4 := (ki 4 (.inr rfl)).trans h4
  have i1 : I 1 = U (v / 100000000) := (ik 1 (by omega) (by omega) (by omega)).trans ((ek 1 (by omega) (by omega) (by omega)).trans ((dk 1 (by omega) (by omega) (by omega)).trans c1))
  have i8 := (ik 8 (by omega) (by omega) (by omega)).trans e8
  have i9 := (ik 9 (by omega) (by omega) (by omega)).trans e9
  rw [show v % 100000000 % 10000 % 100 = v % 100 by omega] at i9
  rw [show v % 100000000 % 10000 / 100 = v / 100 % 100 by omega] at i8
  rw [show v % 100000000 / 10000 % 100 = v / 100 / 100 % 100 by omega] at i11
  rw [show v % 100000000 / 10000 / 100 = v / 100 / 100 / 100 % 100 by omega] at i10
  have f1 := Fm.step2 (k := k + 6) hf
  have f2 := Fm.step2 (k := k + 4) f1
  have f3 := Fm.step2 (k := k + 2) f2
  have f4 := Fm.step2 (k := k) f3
  rw [show v / 100 / 100 / 100 / 100 = v / 100000000 by omega] at f4
  obtain ⟨u1, hu1⟩ : ∃ w, w = putW (putW u (k + 6 + 1) (48 + v % 100 % 10)) (k + 6) (48 + v % 100 / 10) := ⟨_, rfl⟩
  obtain ⟨u2, hu2⟩ : ∃ w, w = putW (putW u1 (k + 4 + 1) (48 + v / 100 % 100 % 10)) (k + 4) (48 + v / 100 % 100 / 10) := ⟨_, rfl⟩
  obtain ⟨u3, hu3⟩ : ∃ w, w = putW (putW u2 (k + 2 + 1) (48 + v / 100 / 100 % 100 % 10)) (k + 2) (48 + v / 100 / 100 % 100 / 10) := ⟨_, rfl⟩
  obtain ⟨u4, hu4⟩ : ∃ w, w = putW (putW u3 (k + 1) (48 + v / 100 / 100 / 100 % 100 % 10)) k (48 + v / 100 / 100 / 100 % 100 / 10) := ⟨_, rfl⟩
  rw [← hu1, ← hu2, ← hu3, ← hu4] at f4
  obtain ⟨J, rj, jk⟩ := fbt_7 (self := self) (nf := nf) (k := k + 6) i0 i4 i9 (Nat.mod_lt _ (by decide)) (by omega) hn (rb_at hq u)
  rw [List.set_set] at rj
  change _ = some (_, _, M0.set q (rb (putW (putW u (k + 6 + 1) _) (k + 6) _))) at rj
  rw [← hu1] at rj
  obtain ⟨K, rk, kk⟩ := fbt_8 (self := self) (nf := nf) (k := k + 4) ((jk 0 (by omega)).trans i0) ((jk 4 (by omega)).trans i4) ((jk 8 (by omega)).trans i8) (Nat.mod_lt _ (by decide)) (by omega) hn (rb_at hq u1)
  rw [List.set_set] at rk
  change _ = some (_, _, M0.set q (rb (putW (putW u1 (k + 4 + 1) _) (k + 4) _))) at rk
  rw [← hu2] at rk
  obtain ⟨L, rl, lk⟩ := fbt_9 (self := self) (nf := nf) (k := k + 2) ((kk 0 (by omega)).trans ((jk 0 (by omega)).trans i0)) ((kk 4 (by omega)).trans ((jk 4 (by omega)).trans i4)) ((kk 11 (by omega)).trans ((jk 11 (by omega)).trans i11)) (Nat.mod_lt _ (by decide)) (by omega) hn (rb_at hq u2)
  rw [List.set_set] at rl
  change _ = some (_, _, M0.set q (rb (putW (putW u2 (k + 2 + 1) _) (k + 2) _))) at rl
  rw [← hu3] at rl
  obtain ⟨P, rp, pk⟩ := fbt_10 (self := self) (nf := nf) (k := k) ((lk 0 (by omega)).trans ((kk 0 (by omega)).trans ((jk 0 (by omega)).trans i0))) ((lk 4 (by omega)).trans ((kk 4 (by omega)).trans ((jk 4 (by omega)).trans i4))) ((lk 10 (by omega)).trans ((kk 10 (by omega)).trans ((jk 10 (by omega)).trans i10))) (Nat.mod_lt _ (by decide)) (by omega) hn (rb_at hq u3)
  rw [List.set_set] at rp
  change _ = some (_, _, M0.set q (rb (putW (putW u3 (k + 1) _) k _))) at rp
  rw [← hu4] at rp
  have kp : ∀ j, j < 12 → P j = I j := fun j hj => (pk j (by omega)).trans ((lk j (by omega)).trans ((kk j (by omega)).trans (jk j (by omega))))
  obtain ⟨Q, rq, q4, qk⟩ := fbt_11 (self := self) (nf := nf) (M := M0.set q (rb u4)) ((kp 4 (by omega)).trans i4) (by omega)
  refine ⟨Q, u4, ?_, f4, (qk 0 (by omega) (by omega)).trans ((kp 0 (by omega)).trans (ki 0 (.inl rfl))), (qk 1 (by omega) (by omega)).trans ((kp 1 (by omega)).trans i1), q4⟩
  rw [lpfbt_0_eq]
  clear f1 f2 f3 f4 hf hu1 hu2 hu3 hu4
  generalize M0.set q (rb u) = m0 at *
  generalize M0.set q (rb u1) = m1 at *
  generalize M0.set q (rb u2) = m2 at *
  generalize M0.set q (rb u3) = m3 at *
  generalize M0.set q (rb u4) = m4 at *
  generalize Code.region 1 rfbt_1 false = C1 at *
  generalize Code.region 2 rfbt_2 false = C2 at *
  generalize Code.region 3 rfbt_3 false = C3 at *
  generalize Code.region 4 rfbt_4 false = C4 at *
  generalize Code.region 5 rfbt_5 false = C5 at *
  generalize Code.region 6 rfbt_6 false = C6 at *
  generalize Code.region 7 rfbt_7 true = C7 at *
  generalize Code.region 8 rfbt_8 true = C8 at *
  generalize Code.region 9 rfbt_9 true = C9 at *
  generalize Code.region 10 rfbt_10 true = C10 at *
  generalize Code.region 11 rfbt_11 false = C11 at *
  simp only [acodeN, ra, rb', rc, rd, rh, ri, rj, rk, rl, rp, rq, ev, nth_lst, Nat.reduceLT, if_true, a20]
theorem fbt_end (h4 : F 4 = .int .i64 (nd : Nat)) (hnd : nd < 8) : ∃ G, acodeN E self nf lpfbt_0 (lst F 167) M = some (.exit 0, lst G 167, M) ∧ ∀ j, j < 17 → G j = F j := by
  obtain ⟨A, ra, a20, ak⟩ := fbt_1 (self := self) (nf := nf) (M := M) h4 (b := false) (decide_eq_false (by omega))
  rw [lpfbt_0_eq]
  refine ⟨A, ?_, ak⟩
  generalize Code.region 1 rfbt_1 false = C1 at *
  simp only [acodeN, ra, ev, nth_lst, Nat.reduceLT, if_true, a20]
theorem fbt_loop (h0 : F 0 = .slice (some ⟨q, 0, none⟩) n 24) (h1 : F 1 = U N) (h4 : F 4 = .int .i64 (n : Nat)) (hN : N < 18446744073709551616) (hN2 : N < 10 ^ n) (hn : n ≤ 24) (hq : q < M0.length) (hnf : 100 < nf) :
    ∃ G u' k v, aloop (acodeN E self nf lpfbt_0) nf (lst F 167) (M0.set q (rb u)) = some (.exit 0, lst G 167, M0.set q (rb u')) ∧ k < 8 ∧ Fm n N k v u' ∧ G 0 = .slice (some ⟨q, 0, none⟩) n 24 ∧ G 1 = U v ∧ G 4 = .int .i64 (k : Nat) := by
  have hloop := aloop_inv (body := acodeN E self nf lpfbt_0) (N := 3)
    (I := fun i T m' => ∃ G u' k v, k + 8 * i = n ∧ T = lst G 167 ∧ m' = M0.set q (rb u') ∧ v < 18446744073709551616 ∧ Fm n N k v u' ∧ G 0 = .slice (some ⟨q, 0, none⟩) n 24 ∧ G 1 = U v ∧ G 4 = .int .i64 (k : Nat))
    (Q := fun e T m' => e = .exit 0 ∧ ∃ G u' k v, T = lst G 167 ∧ m' = M0.set q (rb u') ∧ k < 8 ∧ Fm n N k v u' ∧ G 0 = .slice (some ⟨q, 0, none⟩) n 24 ∧ G 1 = U v ∧ G 4 = .int .i64 (k : Nat)) (fun i T m' hi hI => by
      obtain ⟨G, u', k, v, hk, rfl, rfl, hv, hf, g0, g1, g4⟩ := hI
      by_cases h8 : k < 8
      · right
        obtain ⟨A, ra, ak⟩ := fbt_end (self := self) (nf := nf) (M := M0.set q (rb u')) g4 h8
        exact ⟨_, _, _, ra, by simp, rfl, A, u', k, v, rfl, rfl, h8, hf, (ak 0 (by omega)).trans g0, (ak 1 (by omega)).trans g1, (ak 4 (by omega)).trans g4⟩
      · left
        obtain ⟨k', rfl⟩ : ∃ k', k = k' + 8 := ⟨k - 8, by omega⟩
        obtain ⟨A, u2, ra, hf2, a0, a1, a4⟩ := fbt_it (self := self) (nf := nf) g0 g1 g4 hv hf hn hq
        exact ⟨_, _, ra, by omega, A, u2, k', v / 100000000, by omega, rfl, rfl, Nat.lt_of_le_of_lt (Nat.div_le_self _ _) hv, hf2, a0.trans g0, a1, a4⟩)
  obtain ⟨e, T', m', hr, rfl, G, u', k, v, rfl, rfl, h8, hf, g0, g1, g4⟩ := hloop 3 0 nf (lst F 167) (M0.set q (rb u)) (by omega) (by omega) ⟨F, u, n, N, by omega, rfl, rfl, hN, Fm.start hN2, h0, h1, h4⟩
  exact ⟨G, u', k, v, hr, h8, hf, g0, g1, g4⟩
theorem fbt_four (h0 : F 0 = .slice (some ⟨q, 0, none⟩) n 24) (h12 : F 12 = X3 v) (h4 : F 4 = .int .i64 (nd : Nat)) (h8 : nd < 8) (hf : Fm n N nd v u) (hn : n ≤ 24) (hq : q < M0.length) :
    ∃ G u' k v', acodeN E self nf (.seq (.region 13 rfbt_13 false) (.cond (.tmp 99) (.seq (.region 14 rfbt_14 false) (.seq (.region 15 rfbt_15 false) (.seq (.region 16 rfbt_16 false) (.seq (.region 17 rfbt_17 true) (.seq (.region 18 rfbt_18 true) (.region 19 rfbt_19 false)))))) .skip)) (lst F 167) (M0.set q (rb u)) = some (.normal, lst G 167, M0.set q (rb u')) ∧ k < 4 ∧ Fm n N k v' u' ∧ G 0 = .slice (some ⟨q, 0, none⟩) n 24 ∧ G 12 = X3 v' ∧ G 4 = .int .i64 (k : Nat) := by
  have hle := hf.le
  by_cases hc : nd < 4
  · obtain ⟨A, ra, g99, ak⟩ := fbt_13 (self := self) (nf := nf) (M := M0.set q (rb u)) h4 (b := false) (decide_eq_false (by omega))
    refine ⟨A, u, nd, v, ?_, hc, hf, (ak 0 (by omega)).trans h0, (ak 12 (by omega)).trans h12, (ak 4 (by omega)).trans h4⟩
    generalize Code.region 13 rfbt_13 false = C13 at *
    simp only [acodeN, ra, ev, nth_lst, Nat.reduceLT, if_true, g99]
  · obtain ⟨k, rfl⟩ : ∃ k, nd = k + 4 := ⟨nd - 4, by omega⟩
    have hv : v < 10000000 := Nat.lt_of_lt_of_le hf.small (by have := Nat.pow_le_pow_right (n := 10) (by decide) (show k + 4 ≤ 7 by omega); simpa using this)
    obtain ⟨A, ra, g99, ak⟩ := fbt_13 (self := self) (nf := nf) (M := M0.set q (rb u)) h4 (b := true) (decide_eq_true (by omega))
    obtain ⟨B, rb', b13, bk⟩ := fbt_14 (self := self) (nf := nf) (M := M0.set q (rb u)) ((ak 12 (by omega)).trans h12)
    obtain ⟨C, rc, c12, ck⟩ := fbt_15 (self := self) (nf := nf) (M := M0.set q (rb u)) ((bk 12 (by omega) (by omega)).trans ((ak 12 (by omega)).trans h12)) (by omega)
    obtain ⟨D, rd, d14, d15, dk⟩ := fbt_16 (self := self) (nf := nf) (M := M0.set q (rb u)) ((ck 13 (by omega) (by omega)).trans b13) (Nat.mod_lt _ (by decide))
    have kd : ∀ j, j = 0 ∨ j = 4 → D j = F j := fun j hj => (dk j (by omega) (by omega) (by omega)).trans ((ck j (by omega) (by omega)).trans ((bk j (by omega) (by omega)).trans (ak j (by omega))))
    have d0 := (kd 0 (.inl rfl)).trans h0
    have d4 := (kd 4 (.inr rfl)).trans h4
    have d12 := (dk 12 (by omega) (by omega) (by omega)).trans c12
    rw [show v % 10000 % 100 = v % 100 by omega] at d15
    rw [show v % 10000 / 100 = v / 100 % 100 by omega] at d14
    have f1 := Fm.step2 (k := k + 2) hf
    have f2 := Fm.step2 (k := k) f1
    rw [show v / 100 / 100 = v / 10000 by omega] at f2
    obtain ⟨u1, hu1⟩ : ∃ w, w = putW (putW u (k + 2 + 1) (48 + v % 100 % 10)) (k + 2) (48 + v % 100 / 10) := ⟨_, rfl⟩
    obtain ⟨u2, hu2⟩ : ∃ w, w = putW (putW u1 (k + 1) (48 + v / 100 % 100 % 10)) k (48 + v / 100 % 100 / 10) := ⟨_, rfl⟩
    rw [← hu1, ← hu2] at f2
    obtain ⟨J, rj, jk⟩ := fbt_17 (self := self) (nf := nf) (k := k + 2) d0 d4 d15 (Nat.mod_lt _ (by decide)) (by omega) hn (rb_at hq u)
    rw [List.set_set] at rj
    change _ = some (_, _, M0.set q (rb (putW (putW u (k + 2 + 1) _) (k + 2) _))) at rj
    rw [← hu1] at rj
    obtain ⟨K, rk, kk⟩ := fbt_18 (self := self) (nf := nf) (k := k) ((jk 0 (by omega)).trans d0) ((jk 4 (by omega)).trans d4) ((jk 14 (by omega)).trans d14) (Nat.mod_lt _ (by decide)) (by omega) hn (rb_at hq u1)
    rw [List.set_set] at rk
    change _ = some (_, _, M0.set q (rb (putW (putW u1 (k + 1) _) k _))) at rk
    rw [← hu2] at rk
    obtain ⟨Q, rq, q4, qk⟩ := fbt_19 (self := self) (nf := nf) (M := M0.set q (rb u2)) (k := k) ((kk 4 (by omega)).trans ((jk 4 (by omega)).trans d4)) (by omega)
    refine ⟨Q, u2, k, v / 10000, ?_, by omega, f2, (qk 0 (by omega) (by omega)).trans ((kk 0 (by omega)).trans ((jk 0 (by omega)).trans d0)), (qk 12 (by omega) (by omega)).trans ((kk 12 (by omega)).trans ((jk 12 (by omega)).trans d12)), q4⟩
    clear f1 f2 hf hu1 hu2
    generalize M0.set q (rb u) = m0 at *
    generalize M0.set q (rb u1) = m1 at *
    generalize M0.set q (rb u2) = m2 at *
    generalize Code.region 13 rfbt_13 false = C13 at *
    generalize Code.region 14 rfbt_14 false = C14 at *
    generalize Code.region 15 rfbt_15 false = C15 at *
    generalize Code.region 16 rfbt_16 false = C16 at *
    generalize Code.region 17 rfbt_17 true = C17 at *
    generalize Code.region 18 rfbt_18 true = C18 at *
    generalize Code.region 19 rfbt_19 false = C19 at *
    simp only [acodeN, ra, rb', rc, rd, rj, rk, rq, ev, nth_lst, Nat.reduceLT, if_true, g99]
theorem fbt_two (h0 : F 0 = .slice (some ⟨q, 0, none⟩) n 24) (h12 : F 12 = X3 v) (h4 : F 4 = .int .i64 (nd : Nat)) (h8 : nd < 4) (hf : Fm n N nd v u) (hn : n ≤ 24) (hq : q < M0.length) :
    ∃ G u' k v', acodeN E self nf (.seq (.region 20 rfbt_20 false) (.cond (.tmp 139) (.seq (.region 21 rfbt_21 false) (.seq (.region 22 rfbt_22 false) (.seq (.region 23 rfbt_23 true) (.region 24 rfbt_24 false)))) .skip)) (lst F 167) (M0.set q (rb u)) = some (.normal, lst G 167, M0.set q (rb u')) ∧ k < 2 ∧ Fm n N k v' u' ∧ G 0 = .slice (some ⟨q, 0, none⟩) n 24 ∧ G 12 = X3 v' ∧ G 4 = .int .i64 (k : Nat) := by
  have hle := hf.le
  by_cases hc : nd < 2
  · obtain ⟨A, ra, g99, ak⟩ := fbt_20 (self := self) (nf := nf) (M := M0.set q (rb u)) h4 (b := false) (decide_eq_false (by omega))
    refine ⟨A, u, nd, v, ?_, hc, hf, (ak 0 (by omega)).trans h0, (ak 12 (by omega)).trans h12, (ak 4 (by omega)).trans h4⟩
    generalize Code.region 20 rfbt_20 false = C20 at *
    simp only [acodeN, ra, ev, nth_lst, Nat.reduceLT, if_true, g99]
  · obtain ⟨k, rfl⟩ : ∃ k, nd = k + 2 := ⟨nd - 2, by omega⟩
    have hv : v < 10000000 := Nat.lt_of_lt_of_le hf.small (by have := Nat.pow_le_pow_right (n := 10) (by decide) (show k + 2 ≤ 7 by omega); simpa using this)
    obtain ⟨A, ra, g99, ak⟩ := fbt_20 (self := self) (nf := nf) (M := M0.set q (rb u)) h4 (b := true) (decide_eq_true (by omega))
    obtain ⟨B, rb', b16, bk⟩ := fbt_21 (self := self) (nf := nf) (M := M0.set q (rb u)) ((ak 12 (by omega)).trans h12)
    obtain ⟨C, rc, c12, ck⟩ := fbt_22 (self := self) (nf := nf) (M := M0.set q (rb u)) ((bk 12 (by omega) (by omega)).trans ((ak 12 (by omega)).trans h12)) (by omega)
    have kc : ∀ j, j = 0 ∨ j = 4 → C j = F j := fun j hj => (ck j (by omega) (by omega)).trans ((bk j (by omega) (by omega)).trans (ak j (by omega)))
    have c0 := (kc 0 (.inl rfl)).trans h0
    have c4 := (kc 4 (.inr rfl)).trans h4
    have f1 := Fm.step2 (k := k) hf
    obtain ⟨u1, hu1⟩ : ∃ w, w = putW (putW u (k + 1) (48 + v % 100 % 10)) k (48 + v % 100 / 10) := ⟨_, rfl⟩
    rw [← hu1] at f1
    obtain ⟨J, rj, jk⟩ := fbt_23 (self := self) (nf := nf) (k := k) c0 c4 ((ck 16 (by omega) (by omega)).trans b16) (Nat.mod_lt _ (by decide)) (by omega) hn (rb_at hq u)
    rw [List.set_set] at rj
    change _ = some (_, _, M0.set q (rb (putW (putW u (k + 1) _) k _))) at rj
    rw [← hu1] at rj
    obtain ⟨Q, rq, q4, qk⟩ := fbt_24 (self := self) (nf := nf) (M := M0.set q (rb u1)) (k := k) ((jk 4 (by omega)).trans c4) (by omega)
    refine ⟨Q, u1, k, v / 100, ?_, by omega, f1, (qk 0 (by omega) (by omega)).trans ((jk 0 (by omega)).trans c0), (qk 12 (by omega) (by omega)).trans ((jk 12 (by omega)).trans c12), q4⟩
    clear f1 hf hu1
    generalize M0.set q (rb u) = m0 at *
    generalize M0.set q (rb u1) = m1 at *
    generalize Code.region 20 rfbt_20 false = C20 at *
    generalize Code.region 21 rfbt_21 false = C21 at *
    generalize Code.region 22 rfbt_22 false = C22 at *
    generalize Code.region 23 rfbt_23 true = C23 at *
    generalize Code.region 24 rfbt_24 false = C24 at *
    simp only [acodeN, ra, rb', rc, rj, rq, ev, nth_lst, Nat.reduceLT, if_true, g99]
theorem fbt_one (h0 : F 0 = .slice (some ⟨q, 0, none⟩) n 24) (h12 : F 12 = X3 v) (h4 : F 4 = .int .i64 (nd : Nat)) (h8 : nd < 2) (hf : Fm n N nd v u) (hn : n ≤ 24) (hq : q < M0.length) :
    ∃ G u' v', acodeN E self nf (.seq (.region 25 rfbt_25 false) (.cond (.tmp 161) (.region 26 rfbt_26 false) .skip)) (lst F 167) (M0.set q (rb u)) = some (.normal, lst G 167, M0.set q (rb u')) ∧ Fm n N 0 v' u' := by
  have hle := hf.le
  by_cases hc : nd = 0
  · subst hc
    obtain ⟨A, ra, g99, ak⟩ := fbt_25 (self := self) (nf := nf) (M := M0.set q (rb u)) h4 (b := false) (decide_eq_false (by omega))
    refine ⟨A, u, v, ?_, hf⟩
    generalize Code.region 25 rfbt_25 false = C25 at *
    simp only [acodeN, ra, ev, nth_lst, Nat.reduceLT, if_true, g99]
  · have h1 : nd = 1 := by omega
    subst h1
    have hv : v < 10 := by simpa using hf.small
    obtain ⟨A, ra, g99, ak⟩ := fbt_25 (self := self) (nf := nf) (M := M0.set q (rb u)) h4 (b := true) (decide_eq_true (by omega))
    obtain ⟨B, rb'⟩ := fbt_26 (self := self) (nf := nf) ((ak 0 (by omega)).trans h0) ((ak 12 (by omega)).trans h12) hv (by omega) (rb_at hq u)
    rw [List.set_set] at rb'
    change _ = some (_, _, M0.set q (rb (putW u 0 _))) at rb'
    refine ⟨B, putW u 0 (48 + v), 0, ?_, hf.step1⟩
    generalize Code.region 25 rfbt_25 false = C25 at *
    generalize Code.region 26 rfbt_26 false = C26 at *
    simp only [acodeN, ra, rb', ev, nth_lst, Nat.reduceLT, if_true, g99]
theorem fbt_body (hq : M[q]? = some (rb u)) (hN : N < 18446744073709551616) (hN2 : N < 10 ^ n) (hn : n ≤ 24) (hnf : 100 < nf) :
    ∃ u', (List.range n).map u' = padN n N ∧ abody E self nf 41 [.slice (some ⟨q, 0, none⟩) n 24, U N] M = some (.tuple ⟨[]⟩, M.set q (rb u')) := by
  rw [abody_eqF (by kernel_rfl) Tryd.func41 bodyfbt (by kernel_rfl) (Nat.le_of_ble_eq_true rfl)]
  rw [show Tryd.f41.ntmps = 167 from rfl]
  have hql := lt_of_at hq
  have hM : M = M.set q (rb u) := by
    refine (List.ext_getElem? fun i => ?_)
    by_cases hi : i = q
    · subst hi; rw [List.getElem?_set_self hql]; exact hq
    · rw [List.getElem?_set_ne (fun e => hi e.symm)]
  obtain ⟨A, ra, a4, ak⟩ := fbt_0 (self := self) (nf := nf) (M := M.set q (rb u)) (F := init [.slice (some ⟨q, 0, none⟩) n 24, U N]) rfl
  obtain ⟨B, u1, k1, v1, rb', h8, f1, b0, b1, b4⟩ := fbt_loop (self := self) (nf := nf) (M0 := M) (u := u) (F := A) (N := N) ((ak 0 (by omega)).trans rfl) ((ak 1 (by omega)).trans rfl) a4 hN hN2 hn hql hnf
  have hv1 : v1 < 10000000 := Nat.lt_of_lt_of_le f1.small (by have := Nat.pow_le_pow_right (n := 10) (by decide) (show k1 ≤ 7 by omega); simpa using this)
  obtain ⟨C, rc, c12, ck⟩ := fbt_12 (self := self) (nf := nf) (M := M.set q (rb u1)) b1 (by omega)
  obtain ⟨D, u2, k2, v2, rd, h4, f2, d0, d12, d4⟩ := fbt_four (self := self) (nf := nf) (M0 := M) ((ck 0 (by omega) (by omega)).trans b0) c12 ((ck 4 (by omega) (by omega)).trans b4) h8 f1 hn hql
  obtain ⟨H, u3, k3, v3, rh, h2, f3, e0, e12, e4⟩ := fbt_two (self := self) (nf := nf) (M0 := M) d0 d12 d4 h4 f2 hn hql
  obtain ⟨I, u4, v4, ri, f4⟩ := fbt_one (self := self) (nf := nf) (M0 := M) e0 e12 e4 h2 f3 hn hql
  refine ⟨u4, f4.all, ?_⟩
  rw [show (List.set M q (rb u4)) = M.set q (rb u4) from rfl]
  clear f1 f2 f3 f4
  rw [← hM] at ra
  rw [← hM] at rb'
  clear hM hq
  generalize M.set q (rb u1) = m1 at *
  generalize M.set q (rb u2) = m2 at *
  generalize M.set q (rb u3) = m3 at *
  generalize M.set q (rb u4) = m4 at *
  generalize Code.region 0 rfbt_0 false = C0 at *
  generalize Code.region 12 rfbt_12 false = C12 at *
  generalize Code.seq (.region 13 rfbt_13 false) (.cond (.tmp 99) (.seq (.region 14 rfbt_14 false) (.seq (.region 15 rfbt_15 false) (.seq (.region 16 rfbt_16 false) (.seq (.region 17 rfbt_17 true) (.seq (.region 18 rfbt_18 true) (.region 19 rfbt_19 false)))))) .skip) = S1 at *
  generalize Code.seq (.region 20 rfbt_20 false) (.cond (.tmp 139) (.seq (.region 21 rfbt_21 false) (.seq (.region 22 rfbt_22 false) (.seq (.region 23 rfbt_23 true) (.region 24 rfbt_24 false)))) .skip) = S2 at *
  generalize Code.seq (.region 25 rfbt_25 false) (.cond (.tmp 161) (.region 26 rfbt_26 false) .skip) = S3 at *
  simp only [acodeN, ra, rb', rc, rd, rh, ri, Option.map_some, finish, ares, aresL, ares1, Tryd.f41, ev, nth_lst, Nat.reduceLT, if_true]
end
end Go.Am.Seat
namespace Go.Am.Seat
open Go.Proofs Go.Am Go.Am.Num Go.Am.Kn
theorem aU20 : ArrT 80 20 22 .u64 := ⟨Tryd.underlying80, und22, info_of (by kernel_rfl), info_of (by kernel_rfl)⟩
theorem pows_at : ∀ q, q < 20 → (int64s pows)[q]? = some (.int .u64 ((10 ^ q : Nat) : Int))
  | 0, _ => rfl
  | 1, _ => rfl
  | 2, _ => rfl
  | 3, _ => rfl
  | 4, _ => rfl
  | 5, _ => rfl
  | 6, _ => rfl
  | 7, _ => rfl
  | 8, _ => rfl
  | 9, _ => rfl
  | 10, _ => rfl
  | 11, _ => rfl
  | 12, _ => rfl
  | 13, _ => rfl
  | 14, _ => rfl
  | 15, _ => rfl
  | 16, _ => rfl
  | 17, _ => rfl
  | 18, _ => rfl
  | 19, _ => rfl
  | n + 20, h => by omega
theorem cellAt_tab {m : Mem} {b : Nat} {e : TypeId} {cs : List Value} (h : m[b]? = some (.tab e cs)) (o : Nat) : cellAt m b o = cs[o]? := by
  unfold cellAt look
  rw [h]
  rfl
theorem pow_cell {m : Mem} (h : TabT m) {q : Nat} (hq : q < 20) : cellAt m 2 q = some (U (10 ^ q)) := by rw [cellAt_tab h, pows_at q hq]
theorem callLgp : callableB E.P 47 = true := by kernel_rfl
theorem callBto : callableB E.P 48 = true := by kernel_rfl
theorem callNdg : callableB E.P 40 = true := by kernel_rfl
theorem callSmlS : callableB E.P 39 = true := by kernel_rfl
theorem callFbt : callableB E.P 41 = true := by kernel_rfl
theorem callIfu : callableB E.P 29 = true := by kernel_rfl
theorem callLen9 : callableB E.P 26 = true := by kernel_rfl
theorem wrFbt : E.wr 41 = true := by kernel_rfl
theorem geqU9 (a b : Int) : abin .geq .u64 a .u64 b = some (.bool (decide (a ≥ b))) := by kernel_rfl
theorem alloc24u (m : Mem) : aalloc E.P 70 m = some (.pointer (some ⟨m.length, 0, none⟩), m ++ [rb fun _ => 0]) := by kernel_rfl
theorem sl24u {b n : Nat} (m : Mem) (h : n ≤ 24) : aslice E.P 70 (.pointer (some ⟨b, 0, none⟩)) none (some (.int .i64 ((n : Nat) : Int))) m = some (.slice (some ⟨b, 0, none⟩) n 24) := by
  obtain ⟨i, h1, h2⟩ := info_of (t := 5) (n := 1) (by kernel_rfl)
  unfold aslice
  simp only [show E.P.underlying 70 = some (.array 24 5) from Tryd.underlying70, h1]
  unfold abounds abound
  simp only
  rw [if_pos (by omega)]
  simp only
  rw [if_neg (by simp)]
  simp
section
variable {self : Self} {nf : Nat} {m M : Mem} {F : Nat → Value} {x u n : Nat}
theorem ndg_body (hT : TabT m) (h0 : 0 < u) (hu : u < 18446744073709551616) (hl : Ans self 26 [U u] (.int .i64 ((lenW u : Nat) : Int))) (hg : ∀ n, n ≤ 64 → Ans self 47 [.int .i64 ((n : Nat) : Int)] (.int .i64 ((Lib.l10 n : Nat) : Int)))
    (hb : ∀ b, Ans self 48 [.bool b] (.int .i64 (if b then 1 else 0))) : abody E self nf 40 [U u] m = some (.int .i64 ((Lib.nDigits u : Nat) : Int), m) := by
  rw [abody_eqF (by kernel_rfl) Tryd.func40 bodyndg (by kernel_rfl) (Nat.le_of_ble_eq_true rfl)]
  rw [show Tryd.f40.ntmps = 15 from rfl]
  obtain ⟨e1, e2⟩ := Lib.numDigits_eq u h0 hu
  rw [← lenW_bit hu h0] at e1 e2
  have hg := hg (lenW u) (lenW_le u)
  generalize Lib.l10 (lenW u) = q at *
  have i1 := aU20.ix (p := 2) (j := q) (by omega)
  have c1 := pow_cell hT (q := q) (by omega)
  have c2 := pow_cell hT.sealed (q := q) (by omega)
  obtain ⟨b, hb9⟩ : ∃ b, decide (((u : Nat) : Int) ≥ ((10 ^ q : Nat) : Int)) = b := ⟨_, rfl⟩
  have hn : wrapF .i64 (((q : Nat) : Int) + (if b then 1 else 0)) = ((Lib.nDigits u : Nat) : Int) := by
    rw [← e1, ← hb9]
    by_cases hc : 10 ^ q ≤ u
    · rw [decide_eq_true (by omega), if_pos rfl, if_pos hc, wrap_i64 (by omega) (by omega)]
      omega
    · rw [decide_eq_false (by omega), if_neg (by simp), if_neg hc, wrap_i64 (by omega) (by omega)]
      omega
  have hb := hb b
  generalize lenW u = L at *
  generalize 10 ^ q = Y at *
  generalize Lib.nDigits u = N at *
  generalize (if b then 1 else 0 : Int) = Z at *
  unfold Ans at hl hg hb
  simp only [ondg_0, ondg_1, ondg_2, agd_none, gdAt, gdV_bool, gdV_undef, List.append_eq, List.cons_append, List.nil_append, apure_call1, apure_call2, apure_call3, bft, btf, acodeN, List.getElem?_toArray, List.getElem?_cons_zero, List.getElem?_cons_succ, aopsN, adrawT, cls, astep, aop, afloat, ev, nth_lst, get_lst, aput, setAt_lst, upd_at, init_zero, init_succ, init_nil, Nat.reduceLT, Nat.reduceEqDiff, reduceIte, abuiltin, alen, Option.map_some, Option.map_none, orElse_some, apure_add, apure_eqlV, eqlVal_str, eqlVal_bool, eqlVal_ptr, eqlVal_slice, eqlVal_wide, eqlVal_int, allT, ↓aop_eqlV, apure_neq, List.map_cons, List.map_nil, List.all_cons, List.all_nil, lit2, lit1, lit0, List.isEmpty_nil, bls, Bool.false_eq_true, if_true, if_false, List.length_map, beq_self_eq_true, uns, callLen9, hl, callLgp, hg, i1, load22, c1, c2, geqU9, hb9, callBto, hb, add64', hn, finish, ares, aresL, ares1, Tryd.f40]
theorem ifu_small (h : u < 100) (hs : ∃ t, natsOf t = decs u ∧ Ans self 39 [.int .i64 ((u : Nat) : Int)] (.string t)) : ∃ t, natsOf t = decs u ∧ abody E self nf 29 [U u, .int .i64 10] m = some (.string t, m) := by
  rw [abody_eqF (by kernel_rfl) Tryd.func29 bodyifu (by kernel_rfl) (Nat.le_of_ble_eq_true rfl)]
  rw [show Tryd.f29.ntmps = 32 from rfl]
  obtain ⟨t, e1, e2⟩ := hs
  refine ⟨t, e1, ?_⟩
  have q1 : decide (((u : Nat) : Int) < 100) = true := decide_eq_true (by omega)
  have c1 : aconv E.P 22 3 (U u) = some (.int .i64 ((u : Nat) : Int)) := by
    have h9 : ∀ k : Int, aconv E.P 22 3 (.int .u64 k) = some (.int .i64 (wrapF .i64 k)) := fun k => by kernel_rfl
    rw [h9, wrap_i64 (by omega) (by omega)]
  have q2 : ((10 : Int) == 10) = true := rfl
  unfold Ans at e2
  simp only [oifu_0, oifu_1, oifu_2, oifu_3, oifu_4, oifu_5, oifu_6, oifu_7, oifu_8, oifu_9, agd_none, gdAt, gdV_bool, gdV_undef, List.append_eq, List.cons_append, List.nil_append, apure_call1, apure_call2, apure_call3, bft, btf, acodeN, List.getElem?_toArray, List.getElem?_cons_zero, List.getElem?_cons_succ, aopsN, adrawT, cls, astep, aop, afloat, ev, nth_lst, get_lst, aput, setAt_lst, upd_at, init_zero, init_succ, init_nil, Nat.reduceLT, Nat.reduceEqDiff, reduceIte, abuiltin, alen, Option.map_some, Option.map_none, orElse_some, apure_add, apure_eqlV, eqlVal_str, eqlVal_bool, eqlVal_ptr, eqlVal_slice, eqlVal_wide, eqlVal_int, allT, ↓aop_eqlV, apure_neq, List.map_cons, List.map_nil, List.all_cons, List.all_nil, lit2, lit1, lit0, List.isEmpty_nil, bls, Bool.false_eq_true, if_true, if_false, List.length_map, beq_self_eq_true, uns, q2, lssU', q1, apure_convert, isAddr, c1, callSmlS, e2, finish, ares, aresL, ares1, Tryd.f29]
theorem ifu_big (h : ¬ u < 100) (hu : u < 18446744073709551616) (hT : TabT m) (hn : AnsP self 40 [U u] (.int .i64 ((Lib.nDigits u : Nat) : Int)))
    (hf : ∀ M q w, M[q]? = some (rb w) → ∃ u', (List.range (Lib.nDigits u)).map u' = padN (Lib.nDigits u) u ∧ self 41 [.slice (some ⟨q, 0, none⟩) (Lib.nDigits u) 24, U u] M = some (.tuple ⟨[]⟩, M.set q (rb u'))) :
    ∃ t m', natsOf t = decs u ∧ abody E self nf 29 [U u, .int .i64 10] m = some (.string t, m') := by
  rw [abody_eqF (by kernel_rfl) Tryd.func29 bodyifu (by kernel_rfl) (Nat.le_of_ble_eq_true rfl)]
  rw [show Tryd.f29.ntmps = 32 from rfl]
  have q1 : decide (((u : Nat) : Int) < 100) = false := decide_eq_false (by omega)
  have q2 : ((10 : Int) == 10) = true := rfl
  have hd : Lib.nDigits u ≤ 20 := nDigits_le (by omega) (by omega)
  have b1 := alloc24u m
  obtain ⟨M, hM⟩ : ∃ M, M = m ++ [rb fun _ => 0] := ⟨_, rfl⟩
  have hq : M[m.length]? = some (rb fun _ => 0) := by rw [hM]; simp
  rw [← hM] at b1
  have hTM : TabT M := by rw [hM]; exact hT.app
  have n1 := hn M hTM
  obtain ⟨w, hw, f1⟩ := hf M m.length _ hq
  have f2 : ainv E self 41 [.slice (some ⟨m.length, 0, none⟩) (Lib.nDigits u) 24, U u] M = some (.tuple ⟨[]⟩, M.set m.length (rb w)) := (ainv_wr wrFbt rfl).trans f1
  have g1 := sl24u (b := m.length) M (n := Lib.nDigits u) (by omega)
  have g2 := sl24u (b := m.length) (M.set m.length (rb w)) (n := Lib.nDigits u) (by omega)
  have hq2 : (M.set m.length (rb w))[m.length]? = some (.row false 70 (rowK .u8 24 w)) := by rw [List.getElem?_set_self (lt_of_at hq)]; rfl
  have ht : (rowK .u8 24 w).take (Lib.nDigits u) = ((List.range (Lib.nDigits u)).map fun j => ((w j : Nat) : Int)).map (.int .u8) := by
    unfold rowK
    rw [← List.map_take, List.take_range, Nat.min_eq_left (by omega), List.map_map]
    rfl
  have hc := conv35_str (n := Lib.nDigits u) (c := 24) (l := (List.range (Lib.nDigits u)).map fun j => ((w j : Nat) : Int)) hq2 ht (by rw [rowK_length]; omega)
  refine ⟨bytesOfL (((List.range (Lib.nDigits u)).map fun j => ((w j : Nat) : Int)).map fun n => UInt8.ofNat n.toNat), M.set m.length (rb w), ?_, ?_⟩
  rotate_left
  · clear hM hq hTM f1 hw ht hq2
    generalize bytesOfL (((List.range (Lib.nDigits u)).map fun j => ((w j : Nat) : Int)).map fun n => UInt8.ofNat n.toNat) = S at *
    generalize M.set m.length (rb w) = M2 at *
    simp only [oifu_0, oifu_1, oifu_2, oifu_3, oifu_4, oifu_5, oifu_6, oifu_7, oifu_8, oifu_9, agd_none, gdAt, gdV_bool, gdV_undef, List.append_eq, List.cons_append, List.nil_append, apure_call1, apure_call2, apure_call3, bft, btf, acodeN, List.getElem?_toArray, List.getElem?_cons_zero, List.getElem?_cons_succ, aopsN, adrawT, cls, astep, aop, afloat, ev, nth_lst, get_lst, aput, setAt_lst, upd_at, init_zero, init_succ, init_nil, Nat.reduceLT, Nat.reduceEqDiff, reduceIte, abuiltin, alen, Option.map_some, Option.map_none, orElse_some, apure_add, apure_eqlV, eqlVal_str, eqlVal_bool, eqlVal_ptr, eqlVal_slice, eqlVal_wide, eqlVal_int, allT, ↓aop_eqlV, apure_neq, List.map_cons, List.map_nil, List.all_cons, List.all_nil, lit2, lit1, lit0, List.isEmpty_nil, bls, Bool.false_eq_true, if_true, if_false, List.length_map, beq_self_eq_true, uns, q2, lssU', q1, b1, callNdg, n1, g1, callFbt, f2, g2, aconv35, apure_convert, isAddr, hc, finish, ares, aresL, ares1, Tryd.f29]
  · rw [bytes_nats, List.map_map, List.map_map]
    show _ = padN (Lib.nDigits u) u
    rw [← hw]
    refine List.map_congr_left fun j hj => ?_
    have hj := List.mem_range.1 hj
    have h9 : w j < 256 := by
      have : w j ∈ padN (Lib.nDigits u) u := by rw [← hw]; exact List.mem_map_of_mem (List.mem_range.2 hj)
      unfold padN at this
      obtain ⟨t, _, e⟩ := List.mem_map.1 this
      rw [← e]
      unfold dgN
      omega
    simp only [Function.comp, Int.toNat_natCast]
    exact ofN h9
theorem fmu_body {t : ByteArray} (h : AnsP self 29 [U u, .int .i64 10] (.string t)) (hT : TabT m) : abody E self nf 23 [U u, .int .i64 10] m = some (.string t, m) := by
  rw [abody_eqF (by kernel_rfl) Tryd.func23 bodyfmu (by kernel_rfl) (Nat.le_of_ble_eq_true rfl)]
  rw [show Tryd.f23.ntmps = 8 from rfl]
  have h := h m hT
  simp only [ofmu_0, ofmu_1, agd_none, gdAt, gdV_bool, gdV_undef, List.append_eq, List.cons_append, List.nil_append, apure_call1, apure_call2, apure_call3, bft, btf, acodeN, List.getElem?_toArray, List.getElem?_cons_zero, List.getElem?_cons_succ, aopsN, adrawT, cls, astep, aop, afloat, ev, nth_lst, get_lst, aput, setAt_lst, upd_at, init_zero, init_succ, init_nil, Nat.reduceLT, Nat.reduceEqDiff, reduceIte, abuiltin, alen, Option.map_some, Option.map_none, orElse_some, apure_add, apure_eqlV, eqlVal_str, eqlVal_bool, eqlVal_ptr, eqlVal_slice, eqlVal_wide, eqlVal_int, allT, ↓aop_eqlV, apure_neq, List.map_cons, List.map_nil, List.all_cons, List.all_nil, lit2, lit1, lit0, List.isEmpty_nil, bls, Bool.false_eq_true, if_true, if_false, List.length_map, beq_self_eq_true, uns, callIfu, h, finish, ares, aresL, ares1, Tryd.f23]
end
end Go.Am.Seat
