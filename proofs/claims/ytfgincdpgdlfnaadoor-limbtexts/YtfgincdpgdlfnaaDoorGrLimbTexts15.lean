/-
  Texts of my own, put together: KD4, KD5.
-/
import Derived.Test.YtfgincdpgdlfnaaDoorGrLimbTexts14
set_option linter.unusedSimpArgs false
set_option linter.unusedVariables false
set_option maxRecDepth 100000
namespace Go.Am
open Go
def eC (n : Nat) : Edge := ⟨n, .chain⟩
def eD (n : Nat) : Edge := ⟨n, .data⟩
def eGuard (n : Nat) : Edge := ⟨n, .guard⟩
def eP (n : Nat) : Edge := ⟨n, .phase⟩
end Go.Am
namespace Go.Am.Seat
open Go.Proofs Go.Am Go.Am.Num Go.Am.Kn
section
variable {self : Self} {nf : Nat} {m : Mem} {F : Nat → Value} {hi lo y s Y y1 y0 u t d1 d0 q r p h' l' A1 A2 A3 A4 A5 A6 v q1 q0 : Nat}
abbrev U (x : Nat) : Value := .int .u64 ((x : Nat) : Int)
theorem dvr_7 (h2 : F 2 = U y) (clz : Ans self 38 [U y] (.int .i64 ((s : Nat) : Int))) (a1 : aconv E.P 3 42 (.int .i64 ((s : Nat) : Int)) = some (U s)) :
    ∃ F', acodeN E self nf (.region 7 rdv64_7 false) (lst F 135) m = some (.normal, lst F' 135, m) ∧ F' 8 = U s ∧ ∀ j, j ≠ 8 → j < 19 → F' j = F j := by
  unfold Ans at clz
  simp only [edv64_7, ldv64_7, agd_none, gdAt, gdV_bool, gdV_undef, Tryd.f28, List.append_eq, List.cons_append, List.nil_append, apure_call1, apure_call2, apure_call3, bft, btf, acodeN, List.getElem?_toArray, List.getElem?_cons_zero, List.getElem?_cons_succ, aopsN, adrawT, cls, astep, aop, afloat, ev, nth_lst, get_lst, aput, setAt_lst, upd_at, init_zero, init_succ, init_nil, Nat.reduceLT, Nat.reduceEqDiff, reduceIte, abuiltin, alen, Option.map_some, Option.map_none, orElse_some, apure_add, apure_eqlV, eqlVal_str, eqlVal_bool, eqlVal_ptr, eqlVal_slice, eqlVal_wide, eqlVal_int, allT, ↓aop_eqlV, apure_neq, List.map_cons, List.map_nil, List.all_cons, List.all_nil, lit2, lit1, lit0, List.isEmpty_nil, bls, Bool.false_eq_true, if_true, if_false, List.length_map, beq_self_eq_true, uns, h2, callLz, clz, a1]
  exact ⟨_, rfl, by simp only [upd_at, Nat.reduceEqDiff, reduceIte], fun j h1 h2 => by repeat rw [upd_ne (by omega)]⟩
theorem dvr_8 (h2 : F 2 = U y) (h8 : F 8 = U s) (b : abin .shl .u64 ((y : Nat) : Int) .u64 ((s : Nat) : Int) = some (U Y)) :
    ∃ F', acodeN E self nf (.region 8 rdv64_8 false) (lst F 135) m = some (.normal, lst F' 135, m) ∧ F' 2 = U Y ∧ ∀ j, j ≠ 2 → j < 19 → F' j = F j := by
  simp only [edv64_8, ldv64_8, agd_none, gdAt, gdV_bool, gdV_undef, Tryd.f28, List.append_eq, List.cons_append, List.nil_append, apure_call1, apure_call2, apure_call3, bft, btf, acodeN, List.getElem?_toArray, List.getElem?_cons_zero, List.getElem?_cons_succ, aopsN, adrawT, cls, astep, aop, afloat, ev, nth_lst, get_lst, aput, setAt_lst, upd_at, init_zero, init_succ, init_nil, Nat.reduceLT, Nat.reduceEqDiff, reduceIte, abuiltin, alen, Option.map_some, Option.map_none, orElse_some, apure_add, apure_eqlV, eqlVal_str, eqlVal_bool, eqlVal_ptr, eqlVal_slice, eqlVal_wide, eqlVal_int, allT, ↓aop_eqlV, apure_neq, List.map_cons, List.map_nil, List.all_cons, List.all_nil, lit2, lit1, lit0, List.isEmpty_nil, bls, Bool.false_eq_true, if_true, if_false, List.length_map, beq_self_eq_true, uns, h2, h8, b]
  exact ⟨_, rfl, by simp only [upd_at, Nat.reduceEqDiff, reduceIte], fun j h1 h2 => by repeat rw [upd_ne (by omega)]⟩
theorem dvr_9 (h2 : F 2 = U Y) (b : abin .shr .u64 ((Y : Nat) : Int) .u64 32 = some (U y1)) :
    ∃ F', acodeN E self nf (.region 9 rdv64_9 false) (lst F 135) m = some (.normal, lst F' 135, m) ∧ F' 9 = U y1 ∧ ∀ j, j ≠ 9 → j < 19 → F' j = F j := by
  simp only [edv64_9, ldv64_9, agd_none, gdAt, gdV_bool, gdV_undef, Tryd.f28, List.append_eq, List.cons_append, List.nil_append, apure_call1, apure_call2, apure_call3, bft, btf, acodeN, List.getElem?_toArray, List.getElem?_cons_zero, List.getElem?_cons_succ, aopsN, adrawT, cls, astep, aop, afloat, ev, nth_lst, get_lst, aput, setAt_lst, upd_at, init_zero, init_succ, init_nil, Nat.reduceLT, Nat.reduceEqDiff, reduceIte, abuiltin, alen, Option.map_some, Option.map_none, orElse_some, apure_add, apure_eqlV, eqlVal_str, eqlVal_bool, eqlVal_ptr, eqlVal_slice, eqlVal_wide, eqlVal_int, allT, ↓aop_eqlV, apure_neq, List.map_cons, List.map_nil, List.all_cons, List.all_nil, lit2, lit1, lit0, List.isEmpty_nil, bls, Bool.false_eq_true, if_true, if_false, List.length_map, beq_self_eq_true, uns, h2, b]
  exact ⟨_, rfl, by simp only [upd_at, Nat.reduceEqDiff, reduceIte], fun j h1 h2 => by repeat rw [upd_ne (by omega)]⟩
theorem dvr_10 (h2 : F 2 = U Y) (b : abin .and .u64 ((Y : Nat) : Int) .u64 4294967295 = some (U y0)) :
    ∃ F', acodeN E self nf (.region 10 rdv64_10 false) (lst F 135) m = some (.normal, lst F' 135, m) ∧ F' 10 = U y0 ∧ ∀ j, j ≠ 10 → j < 19 → F' j = F j := by
  simp only [edv64_10, ldv64_10, agd_none, gdAt, gdV_bool, gdV_undef, Tryd.f28, List.append_eq, List.cons_append, List.nil_append, apure_call1, apure_call2, apure_call3, bft, btf, acodeN, List.getElem?_toArray, List.getElem?_cons_zero, List.getElem?_cons_succ, aopsN, adrawT, cls, astep, aop, afloat, ev, nth_lst, get_lst, aput, setAt_lst, upd_at, init_zero, init_succ, init_nil, Nat.reduceLT, Nat.reduceEqDiff, reduceIte, abuiltin, alen, Option.map_some, Option.map_none, orElse_some, apure_add, apure_eqlV, eqlVal_str, eqlVal_bool, eqlVal_ptr, eqlVal_slice, eqlVal_wide, eqlVal_int, allT, ↓aop_eqlV, apure_neq, List.map_cons, List.map_nil, List.all_cons, List.all_nil, lit2, lit1, lit0, List.isEmpty_nil, bls, Bool.false_eq_true, if_true, if_false, List.length_map, beq_self_eq_true, uns, h2, b]
  exact ⟨_, rfl, by simp only [upd_at, Nat.reduceEqDiff, reduceIte], fun j h1 h2 => by repeat rw [upd_ne (by omega)]⟩
theorem dvr_11 (h0 : F 0 = U hi) (h1 : F 1 = U lo) (h8 : F 8 = U s) (b1 : abin .shl .u64 ((hi : Nat) : Int) .u64 ((s : Nat) : Int) = some (U h')) (b2 : wrapF .u64 (64 - ((s : Nat) : Int)) = ((64 - s : Nat) : Int)) (b3 : abin .shr .u64 ((lo : Nat) : Int) .u64 ((64 - s : Nat) : Int) = some (U l')) (b4 : abin .or .u64 ((h' : Nat) : Int) .u64 ((l' : Nat) : Int) = some (U u)) :
    ∃ F', acodeN E self nf (.region 11 rdv64_11 false) (lst F 135) m = some (.normal, lst F' 135, m) ∧ F' 11 = U u ∧ ∀ j, j ≠ 11 → j < 19 → F' j = F j := by
  simp only [edv64_11, ldv64_11, agd_none, gdAt, gdV_bool, gdV_undef, Tryd.f28, List.append_eq, List.cons_append, List.nil_append, apure_call1, apure_call2, apure_call3, bft, btf, acodeN, List.getElem?_toArray, List.getElem?_cons_zero, List.getElem?_cons_succ, aopsN, adrawT, cls, astep, aop, afloat, ev, nth_lst, get_lst, aput, setAt_lst, upd_at, init_zero, init_succ, init_nil, Nat.reduceLT, Nat.reduceEqDiff, reduceIte, abuiltin, alen, Option.map_some, Option.map_none, orElse_some, apure_add, apure_eqlV, eqlVal_str, eqlVal_bool, eqlVal_ptr, eqlVal_slice, eqlVal_wide, eqlVal_int, allT, ↓aop_eqlV, apure_neq, List.map_cons, List.map_nil, List.all_cons, List.all_nil, lit2, lit1, lit0, List.isEmpty_nil, bls, Bool.false_eq_true, if_true, if_false, List.length_map, beq_self_eq_true, uns, h0, h1, h8, b1, subU, b2, b3, b4]
  exact ⟨_, rfl, by simp only [upd_at, Nat.reduceEqDiff, reduceIte], fun j h1 h2 => by repeat rw [upd_ne (by omega)]⟩
theorem dvr_12 (h1 : F 1 = U lo) (h8 : F 8 = U s) (b : abin .shl .u64 ((lo : Nat) : Int) .u64 ((s : Nat) : Int) = some (U t)) :
    ∃ F', acodeN E self nf (.region 12 rdv64_12 false) (lst F 135) m = some (.normal, lst F' 135, m) ∧ F' 12 = U t ∧ ∀ j, j ≠ 12 → j < 19 → F' j = F j := by
  simp only [edv64_12, ldv64_12, agd_none, gdAt, gdV_bool, gdV_undef, Tryd.f28, List.append_eq, List.cons_append, List.nil_append, apure_call1, apure_call2, apure_call3, bft, btf, acodeN, List.getElem?_toArray, List.getElem?_cons_zero, List.getElem?_cons_succ, aopsN, adrawT, cls, astep, aop, afloat, ev, nth_lst, get_lst, aput, setAt_lst, upd_at, init_zero, init_succ, init_nil, Nat.reduceLT, Nat.reduceEqDiff, reduceIte, abuiltin, alen, Option.map_some, Option.map_none, orElse_some, apure_add, apure_eqlV, eqlVal_str, eqlVal_bool, eqlVal_ptr, eqlVal_slice, eqlVal_wide, eqlVal_int, allT, ↓aop_eqlV, apure_neq, List.map_cons, List.map_nil, List.all_cons, List.all_nil, lit2, lit1, lit0, List.isEmpty_nil, bls, Bool.false_eq_true, if_true, if_false, List.length_map, beq_self_eq_true, uns, h1, h8, b]
  exact ⟨_, rfl, by simp only [upd_at, Nat.reduceEqDiff, reduceIte], fun j h1 h2 => by repeat rw [upd_ne (by omega)]⟩
theorem dvr_13 (h12 : F 12 = U t) (b : abin .shr .u64 ((t : Nat) : Int) .u64 32 = some (U d1)) :
    ∃ F', acodeN E self nf (.region 13 rdv64_13 false) (lst F 135) m = some (.normal, lst F' 135, m) ∧ F' 13 = U d1 ∧ ∀ j, j ≠ 13 → j < 19 → F' j = F j := by
  simp only [edv64_13, ldv64_13, agd_none, gdAt, gdV_bool, gdV_undef, Tryd.f28, List.append_eq, List.cons_append, List.nil_append, apure_call1, apure_call2, apure_call3, bft, btf, acodeN, List.getElem?_toArray, List.getElem?_cons_zero, List.getElem?_cons_succ, aopsN, adrawT, cls, astep, aop, afloat, ev, nth_lst, get_lst, aput, setAt_lst, upd_at, init_zero, init_succ, init_nil, Nat.reduceLT, Nat.reduceEqDiff, reduceIte, abuiltin, alen, Option.map_some, Option.map_none, orElse_some, apure_add, apure_eqlV, eqlVal_str, eqlVal_bool, eqlVal_ptr, eqlVal_slice, eqlVal_wide, eqlVal_int, allT, ↓aop_eqlV, apure_neq, List.map_cons, List.map_nil, List.all_cons, List.all_nil, lit2, lit1, lit0, List.isEmpty_nil, bls, Bool.false_eq_true, if_true, if_false, List.length_map, beq_self_eq_true, uns, h12, b]
  exact ⟨_, rfl, by simp only [upd_at, Nat.reduceEqDiff, reduceIte], fun j h1 h2 => by repeat rw [upd_ne (by omega)]⟩
theorem dvr_14 (h12 : F 12 = U t) (b : abin .and .u64 ((t : Nat) : Int) .u64 4294967295 = some (U d0)) :
    ∃ F', acodeN E self nf (.region 14 rdv64_14 false) (lst F 135) m = some (.normal, lst F' 135, m) ∧ F' 14 = U d0 ∧ ∀ j, j ≠ 14 → j < 19 → F' j = F j := by
  simp only [edv64_14, ldv64_14, agd_none, gdAt, gdV_bool, gdV_undef, Tryd.f28, List.append_eq, List.cons_append, List.nil_append, apure_call1, apure_call2, apure_call3, bft, btf, acodeN, List.getElem?_toArray, List.getElem?_cons_zero, List.getElem?_cons_succ, aopsN, adrawT, cls, astep, aop, afloat, ev, nth_lst, get_lst, aput, setAt_lst, upd_at, init_zero, init_succ, init_nil, Nat.reduceLT, Nat.reduceEqDiff, reduceIte, abuiltin, alen, Option.map_some, Option.map_none, orElse_some, apure_add, apure_eqlV, eqlVal_str, eqlVal_bool, eqlVal_ptr, eqlVal_slice, eqlVal_wide, eqlVal_int, allT, ↓aop_eqlV, apure_neq, List.map_cons, List.map_nil, List.all_cons, List.all_nil, lit2, lit1, lit0, List.isEmpty_nil, bls, Bool.false_eq_true, if_true, if_false, List.length_map, beq_self_eq_true, uns, h12, b]
  exact ⟨_, rfl, by simp only [upd_at, Nat.reduceEqDiff, reduceIte], fun j h1 h2 => by repeat rw [upd_ne (by omega)]⟩
theorem dvr_15 (h11 : F 11 = U u) (h9 : F 9 = U y1) (b : abin .quo .u64 ((u : Nat) : Int) .u64 ((y1 : Nat) : Int) = some (U q)) :
    ∃ F', acodeN E self nf (.region 15 rdv64_15 false) (lst F 135) m = some (.normal, lst F' 135, m) ∧ F' 15 = U q ∧ ∀ j, j ≠ 15 → j < 19 → F' j = F j := by
  simp only [edv64_15, ldv64_15, agd_none, gdAt, gdV_bool, gdV_undef, Tryd.f28, List.append_eq, List.cons_append, List.nil_append, apure_call1, apure_call2, apure_call3, bft, btf, acodeN, List.getElem?_toArray, List.getElem?_cons_zero, List.getElem?_cons_succ, aopsN, adrawT, cls, astep, aop, afloat, ev, nth_lst, get_lst, aput, setAt_lst, upd_at, init_zero, init_succ, init_nil, Nat.reduceLT, Nat.reduceEqDiff, reduceIte, abuiltin, alen, Option.map_some, Option.map_none, orElse_some, apure_add, apure_eqlV, eqlVal_str, eqlVal_bool, eqlVal_ptr, eqlVal_slice, eqlVal_wide, eqlVal_int, allT, ↓aop_eqlV, apure_neq, List.map_cons, List.map_nil, List.all_cons, List.all_nil, lit2, lit1, lit0, List.isEmpty_nil, bls, Bool.false_eq_true, if_true, if_false, List.length_map, beq_self_eq_true, uns, h11, h9, b]
  exact ⟨_, rfl, by simp only [upd_at, Nat.reduceEqDiff, reduceIte], fun j h1 h2 => by repeat rw [upd_ne (by omega)]⟩
theorem dvr_16 (h11 : F 11 = U u) (h15 : F 15 = U q) (h9 : F 9 = U y1) (b1 : abin .mul .u64 ((q : Nat) : Int) .u64 ((y1 : Nat) : Int) = some (U p)) (b2 : wrapF .u64 (((u : Nat) : Int) - ((p : Nat) : Int)) = ((r : Nat) : Int)) :
    ∃ F', acodeN E self nf (.region 16 rdv64_16 false) (lst F 135) m = some (.normal, lst F' 135, m) ∧ F' 16 = U r ∧ ∀ j, j ≠ 16 → j < 19 → F' j = F j := by
  simp only [edv64_16, ldv64_16, agd_none, gdAt, gdV_bool, gdV_undef, Tryd.f28, List.append_eq, List.cons_append, List.nil_append, apure_call1, apure_call2, apure_call3, bft, btf, acodeN, List.getElem?_toArray, List.getElem?_cons_zero, List.getElem?_cons_succ, aopsN, adrawT, cls, astep, aop, afloat, ev, nth_lst, get_lst, aput, setAt_lst, upd_at, init_zero, init_succ, init_nil, Nat.reduceLT, Nat.reduceEqDiff, reduceIte, abuiltin, alen, Option.map_some, Option.map_none, orElse_some, apure_add, apure_eqlV, eqlVal_str, eqlVal_bool, eqlVal_ptr, eqlVal_slice, eqlVal_wide, eqlVal_int, allT, ↓aop_eqlV, apure_neq, List.map_cons, List.map_nil, List.all_cons, List.all_nil, lit2, lit1, lit0, List.isEmpty_nil, bls, Bool.false_eq_true, if_true, if_false, List.length_map, beq_self_eq_true, uns, h11, h15, h9, b1, subU, b2]
  exact ⟨_, rfl, by simp only [upd_at, Nat.reduceEqDiff, reduceIte], fun j h1 h2 => by repeat rw [upd_ne (by omega)]⟩
theorem dvo_21 : rdv64_21.toList = [⟨some 86, .move (.tmp 11), 22, "bits.go:555", #[], none⟩, ⟨some 87, .binOp .mul 22 (.tmp 86) (.const (.int .u64 4294967296)) 22, 22, "bits.go:555", #[eD 0], none⟩, ⟨some 88, .move (.tmp 13), 22, "bits.go:555", #[], none⟩, ⟨some 89, .binOp .add 22 (.tmp 87) (.tmp 88) 22, 22, "bits.go:555", #[eD 1, eD 2], none⟩, ⟨some 90, .move (.tmp 15), 22, "bits.go:555", #[], none⟩, ⟨some 91, .move (.tmp 2), 22, "bits.go:555", #[], none⟩, ⟨some 92, .binOp .mul 22 (.tmp 90) (.tmp 91) 22, 22, "bits.go:555", #[eD 4, eD 5], none⟩, ⟨some 93, .binOp .sub 22 (.tmp 89) (.tmp 92) 22, 22, "bits.go:555", #[eD 3, eD 6], none⟩, ⟨some 17, .assign (.tmp 93), 22, "bits.go:555", #[eD 7, eP 0, eP 1, eP 2, eP 3, eP 4, eP 5, eP 6, eP 7], none⟩] := rfl
theorem dvz_21 {K : Int} {R : Array Oper} (h11 : F 11 = U u) (h13 : F 13 = U d1) (h15 : F 15 = U q1) (h2 : F 2 = U Y) (c1 : abin .mul .u64 ((u : Nat) : Int) .u64 K = some (U A1)) (c2 : abin .add .u64 ((A1 : Nat) : Int) .u64 ((d1 : Nat) : Int) = some (U A2)) (c3 : abin .mul .u64 ((q1 : Nat) : Int) .u64 ((Y : Nat) : Int) = some (U A3)) (c4 : wrapF .u64 (((A2 : Nat) : Int) - ((A3 : Nat) : Int)) = ((v : Nat) : Int)) :
    ∃ F', aopsN E self R [⟨some 86, .move (.tmp 11), 22, "bits.go:555", #[], none⟩, ⟨some 87, .binOp .mul 22 (.tmp 86) (.const (.int .u64 K)) 22, 22, "bits.go:555", #[eD 0], none⟩, ⟨some 88, .move (.tmp 13), 22, "bits.go:555", #[], none⟩, ⟨some 89, .binOp .add 22 (.tmp 87) (.tmp 88) 22, 22, "bits.go:555", #[eD 1, eD 2], none⟩, ⟨some 90, .move (.tmp 15), 22, "bits.go:555", #[], none⟩, ⟨some 91, .move (.tmp 2), 22, "bits.go:555", #[], none⟩, ⟨some 92, .binOp .mul 22 (.tmp 90) (.tmp 91) 22, 22, "bits.go:555", #[eD 4, eD 5], none⟩, ⟨some 93, .binOp .sub 22 (.tmp 89) (.tmp 92) 22, 22, "bits.go:555", #[eD 3, eD 6], none⟩, ⟨some 17, .assign (.tmp 93), 22, "bits.go:555", #[eD 7, eP 0, eP 1, eP 2, eP 3, eP 4, eP 5, eP 6, eP 7], none⟩] (lst F 135) m = some (lst F' 135, m) ∧ F' 17 = U v ∧ ∀ j, j ≠ 17 → j < 19 → F' j = F j := by
  simp only [agd_none, List.append_eq, List.cons_append, List.nil_append, apure_call1, apure_call2, apure_call3, bft, btf, acodeN, List.getElem?_toArray, List.getElem?_cons_zero, List.getElem?_cons_succ, aopsN, adrawT, cls, astep, aop, afloat, ev, nth_lst, get_lst, aput, setAt_lst, upd_at, init_zero, init_succ, init_nil, Nat.reduceLT, Nat.reduceEqDiff, reduceIte, abuiltin, alen, Option.map_some, Option.map_none, orElse_some, apure_add, apure_eqlV, eqlVal_str, eqlVal_bool, eqlVal_ptr, eqlVal_slice, eqlVal_wide, eqlVal_int, allT, ↓aop_eqlV, apure_neq, List.map_cons, List.map_nil, List.all_cons, List.all_nil, lit2, lit1, lit0, List.isEmpty_nil, bls, Bool.false_eq_true, if_true, if_false, List.length_map, beq_self_eq_true, uns, h11, h13, h15, h2, c1, c2, c3, subU, c4]
  exact ⟨_, rfl, by simp only [upd_at, Nat.reduceEqDiff, reduceIte], fun j h1 h2 => by repeat rw [upd_ne (by omega)]⟩
theorem acodeR {id : Nat} {R : Array Oper} {T T' : List Value} {m m' : Mem} (h : aopsN E self R R.toList T m = some (T', m')) : acodeN E self nf (.region id R false) T m = some (.normal, T', m') := by
  simp only [acodeN, h]
theorem dvr_21 (h11 : F 11 = U u) (h13 : F 13 = U d1) (h15 : F 15 = U q1) (h2 : F 2 = U Y) (c1 : abin .mul .u64 ((u : Nat) : Int) .u64 4294967296 = some (U A1)) (c2 : abin .add .u64 ((A1 : Nat) : Int) .u64 ((d1 : Nat) : Int) = some (U A2)) (c3 : abin .mul .u64 ((q1 : Nat) : Int) .u64 ((Y : Nat) : Int) = some (U A3)) (c4 : wrapF .u64 (((A2 : Nat) : Int) - ((A3 : Nat) : Int)) = ((v : Nat) : Int)) :
    ∃ F', acodeN E self nf (.region 21 rdv64_21 false) (lst F 135) m = some (.normal, lst F' 135, m) ∧ F' 17 = U v ∧ ∀ j, j ≠ 17 → j < 19 → F' j = F j := by
  obtain ⟨F', h, p⟩ := dvz_21 (self := self) (m := m) (K := 4294967296) (R := rdv64_21) h11 h13 h15 h2 c1 c2 c3 c4
  rw [← dvo_21] at h
  exact ⟨F', acodeR h, p⟩
theorem dvr_22 (h17 : F 17 = U v) (h9 : F 9 = U y1) (b : abin .quo .u64 ((v : Nat) : Int) .u64 ((y1 : Nat) : Int) = some (U q)) :
    ∃ F', acodeN E self nf (.region 22 rdv64_22 false) (lst F 135) m = some (.normal, lst F' 135, m) ∧ F' 18 = U q ∧ ∀ j, j ≠ 18 → j < 19 → F' j = F j := by
  simp only [edv64_22, ldv64_22, agd_none, gdAt, gdV_bool, gdV_undef, Tryd.f28, List.append_eq, List.cons_append, List.nil_append, apure_call1, apure_call2, apure_call3, bft, btf, acodeN, List.getElem?_toArray, List.getElem?_cons_zero, List.getElem?_cons_succ, aopsN, adrawT, cls, astep, aop, afloat, ev, nth_lst, get_lst, aput, setAt_lst, upd_at, init_zero, init_succ, init_nil, Nat.reduceLT, Nat.reduceEqDiff, reduceIte, abuiltin, alen, Option.map_some, Option.map_none, orElse_some, apure_add, apure_eqlV, eqlVal_str, eqlVal_bool, eqlVal_ptr, eqlVal_slice, eqlVal_wide, eqlVal_int, allT, ↓aop_eqlV, apure_neq, List.map_cons, List.map_nil, List.all_cons, List.all_nil, lit2, lit1, lit0, List.isEmpty_nil, bls, Bool.false_eq_true, if_true, if_false, List.length_map, beq_self_eq_true, uns, h17, h9, b]
  exact ⟨_, rfl, by simp only [upd_at, Nat.reduceEqDiff, reduceIte], fun j h1 h2 => by repeat rw [upd_ne (by omega)]⟩
theorem dvr_23 (h17 : F 17 = U v) (h18 : F 18 = U q) (h9 : F 9 = U y1) (b1 : abin .mul .u64 ((q : Nat) : Int) .u64 ((y1 : Nat) : Int) = some (U p)) (b2 : wrapF .u64 (((v : Nat) : Int) - ((p : Nat) : Int)) = ((r : Nat) : Int)) :
    ∃ F', acodeN E self nf (.region 23 rdv64_23 false) (lst F 135) m = some (.normal, lst F' 135, m) ∧ F' 16 = U r ∧ ∀ j, j ≠ 16 → j < 19 → F' j = F j := by
  simp only [edv64_23, ldv64_23, agd_none, gdAt, gdV_bool, gdV_undef, Tryd.f28, List.append_eq, List.cons_append, List.nil_append, apure_call1, apure_call2, apure_call3, bft, btf, acodeN, List.getElem?_toArray, List.getElem?_cons_zero, List.getElem?_cons_succ, aopsN, adrawT, cls, astep, aop, afloat, ev, nth_lst, get_lst, aput, setAt_lst, upd_at, init_zero, init_succ, init_nil, Nat.reduceLT, Nat.reduceEqDiff, reduceIte, abuiltin, alen, Option.map_some, Option.map_none, orElse_some, apure_add, apure_eqlV, eqlVal_str, eqlVal_bool, eqlVal_ptr, eqlVal_slice, eqlVal_wide, eqlVal_int, allT, ↓aop_eqlV, apure_neq, List.map_cons, List.map_nil, List.all_cons, List.all_nil, lit2, lit1, lit0, List.isEmpty_nil, bls, Bool.false_eq_true, if_true, if_false, List.length_map, beq_self_eq_true, uns, h17, h18, h9, b1, subU, b2]
  exact ⟨_, rfl, by simp only [upd_at, Nat.reduceEqDiff, reduceIte], fun j h1 h2 => by repeat rw [upd_ne (by omega)]⟩
theorem dvo_28 : rdv64_28.toList = [⟨some 121, .move (.tmp 15), 22, "bits.go:567", #[], none⟩, ⟨some 122, .binOp .mul 22 (.tmp 121) (.const (.int .u64 4294967296)) 22, 22, "bits.go:567", #[eD 0], none⟩, ⟨some 123, .move (.tmp 18), 22, "bits.go:567", #[], none⟩, ⟨some 124, .binOp .add 22 (.tmp 122) (.tmp 123) 22, 22, "bits.go:567", #[eD 1, eD 2], none⟩, ⟨some 125, .move (.tmp 17), 22, "bits.go:567", #[{ on := 14, ground := Ground.gcOnly Departure.lateStores }], none⟩, ⟨some 126, .binOp .mul 22 (.tmp 125) (.const (.int .u64 4294967296)) 22, 22, "bits.go:567", #[eD 4, { on := 14, ground := Ground.gcOnly Departure.lateStores }], none⟩, ⟨some 127, .move (.tmp 14), 22, "bits.go:567", #[{ on := 14, ground := Ground.gcOnly Departure.lateStores }], none⟩, ⟨some 128, .binOp .add 22 (.tmp 126) (.tmp 127) 22, 22, "bits.go:567", #[eD 5, eD 6, { on := 14, ground := Ground.gcOnly Departure.lateStores }], none⟩, ⟨some 129, .move (.tmp 18), 22, "bits.go:567", #[{ on := 14, ground := Ground.gcOnly Departure.lateStores }], none⟩, ⟨some 130, .move (.tmp 2), 22, "bits.go:567", #[{ on := 14, ground := Ground.gcOnly Departure.lateStores }], none⟩, ⟨some 131, .binOp .mul 22 (.tmp 129) (.tmp 130) 22, 22, "bits.go:567", #[eD 8, eD 9, { on := 14, ground := Ground.gcOnly Departure.lateStores }], none⟩, ⟨some 132, .binOp .sub 22 (.tmp 128) (.tmp 131) 22, 22, "bits.go:567", #[eD 7, eD 10, { on := 14, ground := Ground.gcOnly Departure.lateStores }], none⟩, ⟨some 133, .move (.tmp 8), 42, "bits.go:567", #[{ on := 14, ground := Ground.gcOnly Departure.lateStores }], none⟩, ⟨some 134, .binOp .shr 22 (.tmp 132) (.tmp 133) 42, 22, "bits.go:567", #[eD 11, eD 12, { on := 14, ground := Ground.gcOnly Departure.lateStores }], none⟩, ⟨some 6, .assign (.tmp 124), 22, "bits.go:567", #[eD 3, eP 0, eP 1, eP 2, eP 3, { on := 4, ground := Ground.textOnly Departure.lateStores }, { on := 5, ground := Ground.textOnly Departure.lateStores }, { on := 6, ground := Ground.textOnly Departure.lateStores }, { on := 7, ground := Ground.textOnly Departure.lateStores }, { on := 8, ground := Ground.textOnly Departure.lateStores }, { on := 9, ground := Ground.textOnly Departure.lateStores }, { on := 10, ground := Ground.textOnly Departure.lateStores }, { on := 11, ground := Ground.textOnly Departure.lateStores }, { on := 12, ground := Ground.textOnly Departure.lateStores }, { on := 13, ground := Ground.textOnly Departure.lateStores }], none⟩, ⟨some 7, .assign (.tmp 134), 22, "bits.go:567", #[eD 13, eC 14, eP 0, eP 1, eP 2, eP 3, eP 4, eP 5, eP 6, eP 7, eP 8, eP 9, eP 10, eP 11, eP 12, eP 13, eP 14], none⟩] := rfl
theorem dvz_28 {K : Int} {R : Array Oper} (h15 : F 15 = U q1) (h18 : F 18 = U q0) (h17 : F 17 = U v) (h14 : F 14 = U d0) (h2 : F 2 = U Y) (h8 : F 8 = U s) (c1 : abin .mul .u64 ((q1 : Nat) : Int) .u64 K = some (U A1)) (c2 : abin .add .u64 ((A1 : Nat) : Int) .u64 ((q0 : Nat) : Int) = some (U A2)) (c3 : abin .mul .u64 ((v : Nat) : Int) .u64 K = some (U A3)) (c4 : abin .add .u64 ((A3 : Nat) : Int) .u64 ((d0 : Nat) : Int) = some (U A4)) (c5 : abin .mul .u64 ((q0 : Nat) : Int) .u64 ((Y : Nat) : Int) = some (U A5)) (c6 : wrapF .u64 (((A4 : Nat) : Int) - ((A5 : Nat) : Int)) = ((A6 : Nat) : Int)) (c7 : abin .shr .u64 ((A6 : Nat) : Int) .u64 ((s : Nat) : Int) = some (U r)) :
    ∃ F', aopsN E self R [⟨some 121, .move (.tmp 15), 22, "bits.go:567", #[], none⟩, ⟨some 122, .binOp .mul 22 (.tmp 121) (.const (.int .u64 K)) 22, 22, "bits.go:567", #[eD 0], none⟩, ⟨some 123, .move (.tmp 18), 22, "bits.go:567", #[], none⟩, ⟨some 124, .binOp .add 22 (.tmp 122) (.tmp 123) 22, 22, "bits.go:567", #[eD 1, eD 2], none⟩, ⟨some 125, .move (.tmp 17), 22, "bits.go:567", #[{ on := 14, ground := Ground.gcOnly Departure.lateStores }], none⟩, ⟨some 126, .binOp .mul 22 (.tmp 125) (.const (.int .u64 K)) 22, 22, "bits.go:567", #[eD 4, { on := 14, ground := Ground.gcOnly Departure.lateStores }], none⟩, ⟨some 127, .move (.tmp 14), 22, "bits.go:567", #[{ on := 14, ground := Ground.gcOnly Departure.lateStores }], none⟩, ⟨some 128, .binOp .add 22 (.tmp 126) (.tmp 127) 22, 22, "bits.go:567", #[eD 5, eD 6, { on := 14, ground := Ground.gcOnly Departure.lateStores }], none⟩, ⟨some 129, .move (.tmp 18), 22, "bits.go:567", #[{ on := 14, ground := Ground.gcOnly Departure.lateStores }], none⟩, ⟨some 130, .move (.tmp 2), 22, "bits.go:567", #[{ on := 14, ground := Ground.gcOnly Departure.lateStores }], none⟩, ⟨some 131, .binOp .mul 22 (.tmp 129) (.tmp 130) 22, 22, "bits.go:567", #[eD 8, eD 9, { on := 14, ground := Ground.gcOnly Departure.lateStores }], none⟩, ⟨some 132, .binOp .sub 22 (.tmp 128) (.tmp 131) 22, 22, "bits.go:567", #[eD 7, eD 10, { on := 14, ground := Ground.gcOnly Departure.lateStores }], none⟩, ⟨some 133, .move (.tmp 8), 42, "bits.go:567", #[{ on := 14, ground := Ground.gcOnly Departure.lateStores }], none⟩, ⟨some 134, .binOp .shr 22 (.tmp 132) (.tmp 133) 42, 22, "bits.go:567", #[eD 11, eD 12, { on := 14, ground := Ground.gcOnly Departure.lateStores }], none⟩, ⟨some 6, .assign (.tmp 124), 22, "bits.go:567", #[eD 3, eP 0, eP 1, eP 2, eP 3, { on := 4, ground := Ground.textOnly Departure.lateStores }, { on := 5, ground := Ground.textOnly Departure.lateStores }, { on := 6, ground := Ground.textOnly Departure.lateStores }, { on := 7, ground := Ground.textOnly Departure.lateStores }, { on := 8, ground := Ground.textOnly Departure.lateStores }, { on := 9, ground := Ground.textOnly Departure.lateStores }, { on := 10, ground := Ground.textOnly Departure.lateStores }, { on := 11, ground := Ground.textOnly Departure.lateStores }, { on := 12, ground := Ground.textOnly Departure.lateStores }, { on := 13, ground := Ground.textOnly Departure.lateStores }], none⟩, ⟨some 7, .assign (.tmp 134), 22, "bits.go:567", #[eD 13, eC 14, eP 0, eP 1, eP 2, eP 3, eP 4, eP 5, eP 6, eP 7, eP 8, eP 9, eP 10, eP 11, eP 12, eP 13, eP 14], none⟩] (lst F 135) m = some (lst F' 135, m) ∧ F' 6 = U A2 ∧ F' 7 = U r := by
  simp only [agd_none, List.append_eq, List.cons_append, List.nil_append, apure_call1, apure_call2, apure_call3, bft, btf, acodeN, List.getElem?_toArray, List.getElem?_cons_zero, List.getElem?_cons_succ, aopsN, adrawT, cls, astep, aop, afloat, ev, nth_lst, get_lst, aput, setAt_lst, upd_at, init_zero, init_succ, init_nil, Nat.reduceLT, Nat.reduceEqDiff, reduceIte, abuiltin, alen, Option.map_some, Option.map_none, orElse_some, apure_add, apure_eqlV, eqlVal_str, eqlVal_bool, eqlVal_ptr, eqlVal_slice, eqlVal_wide, eqlVal_int, allT, ↓aop_eqlV, apure_neq, List.map_cons, List.map_nil, List.all_cons, List.all_nil, lit2, lit1, lit0, List.isEmpty_nil, bls, Bool.false_eq_true, if_true, if_false, List.length_map, beq_self_eq_true, uns, h15, h18, h17, h14, h2, h8, c1, c2, c3, c4, c5, subU, c6, c7]
  exact ⟨_, rfl, by simp only [upd_at, Nat.reduceEqDiff, reduceIte], by simp only [upd_at, Nat.reduceEqDiff, reduceIte]⟩
theorem dv_c (h15 : F 15 = U q1) (h18 : F 18 = U q0) (h17 : F 17 = U v) (h14 : F 14 = U d0) (h2 : F 2 = U Y) (h8 : F 8 = U s) (c1 : abin .mul .u64 ((q1 : Nat) : Int) .u64 4294967296 = some (U A1)) (c2 : abin .add .u64 ((A1 : Nat) : Int) .u64 ((q0 : Nat) : Int) = some (U A2)) (c3 : abin .mul .u64 ((v : Nat) : Int) .u64 4294967296 = some (U A3)) (c4 : abin .add .u64 ((A3 : Nat) : Int) .u64 ((d0 : Nat) : Int) = some (U A4)) (c5 : abin .mul .u64 ((q0 : Nat) : Int) .u64 ((Y : Nat) : Int) = some (U A5)) (c6 : wrapF .u64 (((A4 : Nat) : Int) - ((A5 : Nat) : Int)) = ((A6 : Nat) : Int)) (c7 : abin .shr .u64 ((A6 : Nat) : Int) .u64 ((s : Nat) : Int) = some (U r)) :
    ∃ F', acodeN E self nf (.region 28 rdv64_28 false) (lst F 135) m = some (.normal, lst F' 135, m) ∧ F' 6 = U A2 ∧ F' 7 = U r := by
  obtain ⟨F', h, p⟩ := dvz_28 (self := self) (m := m) (K := 4294967296) (R := rdv64_28) h15 h18 h17 h14 h2 h8 c1 c2 c3 c4 c5 c6 c7
  rw [← dvo_28] at h
  exact ⟨F', acodeR h, p⟩
theorem dv_0 : ∃ F', acodeN E self nf (.region 0 rdv64_0 false) (lst F 135) m = some (.normal, lst F' 135, m) ∧ F' 0 = F 0 ∧ F' 1 = F 1 ∧ F' 2 = F 2 := by
  simp only [edv64_0, ldv64_0, agd_none, gdAt, gdV_bool, gdV_undef, Tryd.f28, List.append_eq, List.cons_append, List.nil_append, apure_call1, apure_call2, apure_call3, bft, btf, acodeN, List.getElem?_toArray, List.getElem?_cons_zero, List.getElem?_cons_succ, aopsN, adrawT, cls, astep, aop, afloat, ev, nth_lst, get_lst, aput, setAt_lst, upd_at, init_zero, init_succ, init_nil, Nat.reduceLT, Nat.reduceEqDiff, reduceIte, abuiltin, alen, Option.map_some, Option.map_none, orElse_some, apure_add, apure_eqlV, eqlVal_str, eqlVal_bool, eqlVal_ptr, eqlVal_slice, eqlVal_wide, eqlVal_int, allT, ↓aop_eqlV, apure_neq, List.map_cons, List.map_nil, List.all_cons, List.all_nil, lit2, lit1, lit0, List.isEmpty_nil, bls, Bool.false_eq_true, if_true, if_false, List.length_map, beq_self_eq_true, uns]
  exact ⟨_, rfl, by simp only [upd_at, Nat.reduceEqDiff, reduceIte], by simp only [upd_at, Nat.reduceEqDiff, reduceIte], by simp only [upd_at, Nat.reduceEqDiff, reduceIte]⟩
theorem dv_1 (h2 : F 2 = U y) (hy : 0 < y) : ∃ F', acodeN E self nf (.seq (.region 1 rdv64_1 false) (.cond (.tmp 20) (.region 2 rdv64_2 false) .skip)) (lst F 135) m = some (.normal, lst F' 135, m) ∧ F' 0 = F 0 ∧ F' 1 = F 1 ∧ F' 2 = F 2 := by
  have q : (((y : Nat) : Int) == 0) = false := by rw [beq_eq_false_iff_ne]; omega
  simp only [edv64_1, edv64_2, ldv64_1, ldv64_2, agd_none, gdAt, gdV_bool, gdV_undef, Tryd.f28, List.append_eq, List.cons_append, List.nil_append, apure_call1, apure_call2, apure_call3, bft, btf, acodeN, List.getElem?_toArray, List.getElem?_cons_zero, List.getElem?_cons_succ, aopsN, adrawT, cls, astep, aop, afloat, ev, nth_lst, get_lst, aput, setAt_lst, upd_at, init_zero, init_succ, init_nil, Nat.reduceLT, Nat.reduceEqDiff, reduceIte, abuiltin, alen, Option.map_some, Option.map_none, orElse_some, apure_add, apure_eqlV, eqlVal_str, eqlVal_bool, eqlVal_ptr, eqlVal_slice, eqlVal_wide, eqlVal_int, allT, ↓aop_eqlV, apure_neq, List.map_cons, List.map_nil, List.all_cons, List.all_nil, lit2, lit1, lit0, List.isEmpty_nil, bls, Bool.false_eq_true, if_true, if_false, List.length_map, beq_self_eq_true, uns, h2, eqlU', q]
  exact ⟨_, rfl, by simp only [upd_at, Nat.reduceEqDiff, reduceIte], by simp only [upd_at, Nat.reduceEqDiff, reduceIte], by simp only [upd_at, Nat.reduceEqDiff, reduceIte, h2]⟩
theorem dv_3 (h2 : F 2 = U y) (h0 : F 0 = U hi) (hy : hi < y) : ∃ F', acodeN E self nf (.seq (.region 3 rdv64_3 false) (.cond (.tmp 24) (.region 4 rdv64_4 false) .skip)) (lst F 135) m = some (.normal, lst F' 135, m) ∧ F' 0 = F 0 ∧ F' 1 = F 1 ∧ F' 2 = F 2 := by
  have q : decide (((y : Nat) : Int) ≤ ((hi : Nat) : Int)) = false := decide_eq_false (by omega)
  simp only [edv64_3, edv64_4, ldv64_3, ldv64_4, agd_none, gdAt, gdV_bool, gdV_undef, Tryd.f28, List.append_eq, List.cons_append, List.nil_append, apure_call1, apure_call2, apure_call3, bft, btf, acodeN, List.getElem?_toArray, List.getElem?_cons_zero, List.getElem?_cons_succ, aopsN, adrawT, cls, astep, aop, afloat, ev, nth_lst, get_lst, aput, setAt_lst, upd_at, init_zero, init_succ, init_nil, Nat.reduceLT, Nat.reduceEqDiff, reduceIte, abuiltin, alen, Option.map_some, Option.map_none, orElse_some, apure_add, apure_eqlV, eqlVal_str, eqlVal_bool, eqlVal_ptr, eqlVal_slice, eqlVal_wide, eqlVal_int, allT, ↓aop_eqlV, apure_neq, List.map_cons, List.map_nil, List.all_cons, List.all_nil, lit2, lit1, lit0, List.isEmpty_nil, bls, Bool.false_eq_true, if_true, if_false, List.length_map, beq_self_eq_true, uns, h2, h0, leqU', q]
  exact ⟨_, rfl, by simp only [upd_at, Nat.reduceEqDiff, reduceIte, h0], by simp only [upd_at, Nat.reduceEqDiff, reduceIte], by simp only [upd_at, Nat.reduceEqDiff, reduceIte, h2]⟩
theorem dv_5 (h0 : F 0 = U hi) (hy : 0 < hi) : ∃ F', acodeN E self nf (.seq (.region 5 rdv64_5 false) (.cond (.tmp 27) (.seq (.region 6 rdv64_6 true) .ret) .skip)) (lst F 135) m = some (.normal, lst F' 135, m) ∧ F' 0 = F 0 ∧ F' 1 = F 1 ∧ F' 2 = F 2 := by
  have q : (((hi : Nat) : Int) == 0) = false := by rw [beq_eq_false_iff_ne]; omega
  simp only [↓ddv64_6, ↓sdv64_6, edv64_5, edv64_6, ldv64_5, ldv64_6, agd_none, gdAt, gdV_bool, gdV_undef, Tryd.f28, List.append_eq, List.cons_append, List.nil_append, apure_call1, apure_call2, apure_call3, bft, btf, acodeN, List.getElem?_toArray, List.getElem?_cons_zero, List.getElem?_cons_succ, aopsN, adrawT, cls, astep, aop, afloat, ev, nth_lst, get_lst, aput, setAt_lst, upd_at, init_zero, init_succ, init_nil, Nat.reduceLT, Nat.reduceEqDiff, reduceIte, abuiltin, alen, Option.map_some, Option.map_none, orElse_some, apure_add, apure_eqlV, eqlVal_str, eqlVal_bool, eqlVal_ptr, eqlVal_slice, eqlVal_wide, eqlVal_int, allT, ↓aop_eqlV, apure_neq, List.map_cons, List.map_nil, List.all_cons, List.all_nil, lit2, lit1, lit0, List.isEmpty_nil, bls, Bool.false_eq_true, if_true, if_false, List.length_map, beq_self_eq_true, uns, h0, eqlU', q]
  exact ⟨_, rfl, by simp only [upd_at, Nat.reduceEqDiff, reduceIte, h0], by simp only [upd_at, Nat.reduceEqDiff, reduceIte], by simp only [upd_at, Nat.reduceEqDiff, reduceIte]⟩
theorem dv_6 (h0 : F 0 = U 0) (h1 : F 1 = U lo) (h2 : F 2 = U y) (hy : 0 < y) (hlo : lo < 18446744073709551616) : ∃ F', acodeN E self nf (.seq (.region 5 rdv64_5 false) (.cond (.tmp 27) (.seq (.region 6 rdv64_6 true) .ret) .skip)) (lst F 135) m = some (.ret, lst F' 135, m) ∧ F' 6 = U (lo / y) ∧ F' 7 = U (lo % y) := by
  have q : (((0 : Nat) : Int) == 0) = true := rfl
  obtain ⟨c, rfl⟩ : ∃ c, y = c + 1 := ⟨y - 1, by omega⟩
  have e1 := quoN lo c hlo
  have e2 := remN lo c
  simp only [↓ddv64_6, ↓sdv64_6, edv64_5, edv64_6, ldv64_5, ldv64_6, agd_none, gdAt, gdV_bool, gdV_undef, Tryd.f28, List.append_eq, List.cons_append, List.nil_append, apure_call1, apure_call2, apure_call3, bft, btf, acodeN, List.getElem?_toArray, List.getElem?_cons_zero, List.getElem?_cons_succ, aopsN, adrawT, cls, astep, aop, afloat, ev, nth_lst, get_lst, aput, setAt_lst, upd_at, init_zero, init_succ, init_nil, Nat.reduceLT, Nat.reduceEqDiff, reduceIte, abuiltin, alen, Option.map_some, Option.map_none, orElse_some, apure_add, apure_eqlV, eqlVal_str, eqlVal_bool, eqlVal_ptr, eqlVal_slice, eqlVal_wide, eqlVal_int, allT, ↓aop_eqlV, apure_neq, List.map_cons, List.map_nil, List.all_cons, List.all_nil, lit2, lit1, lit0, List.isEmpty_nil, bls, Bool.false_eq_true, if_true, if_false, List.length_map, beq_self_eq_true, uns, h0, h1, h2, eqlU', q, e1, e2]
  exact ⟨_, rfl, by simp only [upd_at, Nat.reduceEqDiff, reduceIte], by simp only [upd_at, Nat.reduceEqDiff, reduceIte]⟩
theorem wrap_diff {T S v : Nat} (h : T = S + v) (hv : v < 18446744073709551616) : wrapF .u64 (((T % 18446744073709551616 : Nat) : Int) - ((S % 18446744073709551616 : Nat) : Int)) = ((v : Nat) : Int) := by
  subst h; simp only [wrapF]; omega
theorem mulK (x : Nat) : abin .mul .u64 ((x : Nat) : Int) .u64 4294967296 = some (U (x * 4294967296 % 18446744073709551616)) := mulN x 4294967296
theorem norm_y (hy : 0 < y) (hy9 : y < 18446744073709551616) : 9223372036854775808 ≤ y * 2 ^ (64 - lenW y) ∧ y * 2 ^ (64 - lenW y) < 18446744073709551616 ∧ lenW y ≤ 64 ∧ 0 < lenW y := by
  obtain ⟨h1, h2⟩ := lenW_ok hy9 hy
  have h3 := lenW_le y
  have hp : 2 ^ lenW y * 2 ^ (64 - lenW y) = 18446744073709551616 := by rw [← Nat.pow_add, show lenW y + (64 - lenW y) = 64 by omega]
  have h4 : y * 2 ^ (64 - lenW y) < 2 ^ lenW y * 2 ^ (64 - lenW y) := Nat.mul_lt_mul_of_pos_right h1 (Nat.two_pow_pos _)
  have h5 : 2 ^ lenW y * 2 ^ (64 - lenW y) ≤ 2 * y * 2 ^ (64 - lenW y) := Nat.mul_le_mul_right _ h2
  rw [hp] at h4 h5
  rw [Nat.mul_assoc] at h5
  refine ⟨by omega, h4, h3, ?_⟩
  rcases Nat.eq_zero_or_pos (lenW y) with h | h
  · rw [h] at h1; simp at h1; omega
  · exact h
theorem add_low {a b : Nat} (ha : a < 4294967296) (hb : b < 4294967296) : abin .add .u64 ((a * 4294967296 % 18446744073709551616 : Nat) : Int) .u64 ((b : Nat) : Int) = some (U (a * 4294967296 + b)) := by
  have h : a * 4294967296 + b < 18446744073709551616 := by omega
  rw [addN, Nat.mod_add_mod, Nat.mod_eq_of_lt h]
theorem two_quotV {b t d0 Y q v : Nat} (hY : 0 < Y) (h : Y * q + v = t) : q * b + (v * b + d0) / Y = (t * b + d0) / Y ∧ (v * b + d0) % Y = (t * b + d0) % Y := by
  have h2 : t * b + d0 = Y * (q * b) + (v * b + d0) := by
    rw [← h, Nat.add_mul, Nat.mul_assoc]
    omega
  rw [h2, Nat.mul_add_div hY, Nat.mul_add_mod]
  exact ⟨rfl, rfl⟩
theorem dv64_body (hy : hi < y) (hy9 : y < 18446744073709551616) (hlo : lo < 18446744073709551616) (hln : Ans self 38 [U y] (.int .i64 ((64 - lenW y : Nat) : Int))) (hnf : 10 < nf) :
    abody E self nf 28 [U hi, U lo, U y] m = some (pair64 ((hi * 18446744073709551616 + lo) / y) ((hi * 18446744073709551616 + lo) % y), m) := by
  rw [abody_eqF (by kernel_rfl) Tryd.func28 bodydv64 (by kernel_rfl) (Nat.le_of_ble_eq_true rfl)]
  rw [show Tryd.f28.ntmps = 135 from rfl]
  have hpos : 0 < y := by omega
  obtain ⟨A, ra, a0, a1, a2⟩ := dv_0 (self := self) (nf := nf) (m := m) (F := init [U hi, U lo, U y])
  have a0 : A 0 = U hi := a0
  have a1 : A 1 = U lo := a1
  have a2 : A 2 = U y := a2
  obtain ⟨B, rb, b0, b1, b2⟩ := dv_1 (self := self) (nf := nf) (m := m) a2 hpos
  obtain ⟨C, rc, c0, c1, c2⟩ := dv_3 (self := self) (nf := nf) (m := m) (b2.trans a2) (b0.trans a0) hy
  have c0 := c0.trans (b0.trans a0)
  have c1 := c1.trans (b1.trans a1)
  have c2 := c2.trans (b2.trans a2)
  rcases Nat.eq_zero_or_pos hi with rfl | hhi
  · obtain ⟨D, rd, d6, d7⟩ := dv_6 (self := self) (nf := nf) (m := m) c0 c1 c2 hpos hlo
    rw [Nat.zero_mul, Nat.zero_add]
    generalize Code.region 0 rdv64_0 false = C0 at *
    generalize Code.seq (Code.region 1 rdv64_1 false) (Code.cond (Operand.tmp 20) (Code.region 2 rdv64_2 false) Code.skip) = C1 at *
    generalize Code.seq (Code.region 3 rdv64_3 false) (Code.cond (Operand.tmp 24) (Code.region 4 rdv64_4 false) Code.skip) = C3 at *
    generalize Code.seq (Code.region 5 rdv64_5 false) (Code.cond (Operand.tmp 27) (Code.seq (Code.region 6 rdv64_6 true) Code.ret) Code.skip) = C5 at *
    simp only [acodeN, ra, rb, rc, rd, finish, ares, aresL, ares1, Tryd.f28, ev, nth_lst, Nat.reduceLT, if_true, d6, d7, Option.map_some]
    rfl
  · obtain ⟨D, rd, x0, x1, x2⟩ := dv_5 (self := self) (nf := nf) (m := m) c0 hhi
    obtain ⟨n1, n2, n3, n4⟩ := norm_y hpos hy9
    obtain ⟨s, hs⟩ : ∃ s, s = 64 - lenW y := ⟨_, rfl⟩
    rw [← hs] at hln n1 n2
    have hs63 : s ≤ 63 := by omega
    have P1 := Nat.two_pow_pos s
    have P2 := Nat.two_pow_pos (64 - s)
    have PP : 2 ^ s * 2 ^ (64 - s) = 18446744073709551616 := by rw [← Nat.pow_add, show s + (64 - s) = 64 by omega]
    obtain ⟨Y, hY⟩ : ∃ Y, Y = y * 2 ^ s := ⟨_, rfl⟩
    rw [← hY] at n1 n2
    have e8 : abin .shl .u64 ((y : Nat) : Int) .u64 ((s : Nat) : Int) = some (U Y) := by rw [shlU (by omega), ← hY, Nat.mod_eq_of_lt n2]
    -- the dividend, shifted
    have hT : (hi * 18446744073709551616 + lo) * 2 ^ s = (hi * 2 ^ s + lo / 2 ^ (64 - s)) * 18446744073709551616 + lo * 2 ^ s % 18446744073709551616 := by
      have h1 : lo * 2 ^ s / (2 ^ (64 - s) * 2 ^ s) = lo / 2 ^ (64 - s) := Nat.mul_div_mul_right _ _ P1
      rw [Nat.mul_comm (2 ^ (64 - s)), PP] at h1
      have h2 := Nat.div_add_mod (lo * 2 ^ s) 18446744073709551616
      rw [h1] at h2
      rw [Nat.add_mul, Nat.mul_right_comm]
      generalize lo * 2 ^ s = x1 at *
      generalize hi * 2 ^ s = x2 at *
      generalize lo / 2 ^ (64 - s) = x3 at *
      omega
    have hlt : hi * 18446744073709551616 + lo < y * 18446744073709551616 := by omega
    have hltS : (hi * 18446744073709551616 + lo) * 2 ^ s < Y * 18446744073709551616 := by
      rw [hY, Nat.mul_right_comm]
      exact Nat.mul_lt_mul_of_pos_right hlt P1
    obtain ⟨hdiv, hmod⟩ := scaled (V := hi * 18446744073709551616 + lo) P1 hpos
    rw [← hY] at hdiv hmod
    obtain ⟨u, hu⟩ : ∃ u, u = hi * 2 ^ s + lo / 2 ^ (64 - s) := ⟨_, rfl⟩
    obtain ⟨t, ht⟩ : ∃ t, t = lo * 2 ^ s % 18446744073709551616 := ⟨_, rfl⟩
    have ht9 : t < 18446744073709551616 := by rw [ht]; exact Nat.mod_lt _ (by omega)
    rw [← hu, ← ht] at hT
    have huY : u < Y := by rw [hT] at hltS; omega
    have hh : hi * 2 ^ s < 18446744073709551616 := by
      have : hi * 2 ^ s ≤ y * 2 ^ s := Nat.mul_le_mul_right _ (Nat.le_of_lt hy)
      rw [← hY] at this; omega
    have hl2 : lo / 2 ^ (64 - s) < 2 ^ s := by
      rw [Nat.div_lt_iff_lt_mul P2, PP]; exact hlo
    have e11 : abin .shl .u64 ((hi : Nat) : Int) .u64 ((s : Nat) : Int) = some (U (hi * 2 ^ s)) := by rw [shlU (by omega), Nat.mod_eq_of_lt hh]
    have e11c : abin .shr .u64 ((lo : Nat) : Int) .u64 ((64 - s : Nat) : Int) = some (U (lo / 2 ^ (64 - s))) := shrU (by omega)
    have e11d : abin .or .u64 ((hi * 2 ^ s : Nat) : Int) .u64 ((lo / 2 ^ (64 - s) : Nat) : Int) = some (U u) := by
      rw [orN hh (Nat.lt_of_le_of_lt (Nat.div_le_self _ _) hlo), hu, Nat.mul_comm, Nat.two_pow_add_eq_or_of_lt hl2]
    have e12 : abin .shl .u64 ((lo : Nat) : Int) .u64 ((s : Nat) : Int) = some (U t) := by rw [shlU (by omega), ← ht]
    have eb : wrapF .u64 (64 - ((s : Nat) : Int)) = ((64 - s : Nat) : Int) := by simp only [wrapF]; omega
    have ec : aconv E.P 3 42 (.int .i64 ((s : Nat) : Int)) = some (U s) := by rw [conv3_54']; congr 2; omega
    clear hu ht hh hl2
    -- halves
    obtain ⟨y1, hy1⟩ : ∃ y1, y1 = Y / 4294967296 := ⟨_, rfl⟩
    obtain ⟨y0, hy0⟩ : ∃ y0, y0 = Y % 4294967296 := ⟨_, rfl⟩
    obtain ⟨d1, hd1⟩ : ∃ d1, d1 = t / 4294967296 := ⟨_, rfl⟩
    obtain ⟨d0, hd0⟩ : ∃ d0, d0 = t % 4294967296 := ⟨_, rfl⟩
    have hYs : y1 * 4294967296 + y0 = Y := by omega
    have hts : d1 * 4294967296 + d0 = t := by rw [hd1, hd0, Nat.mul_comm]; exact Nat.div_add_mod t 4294967296
    have e9 : abin .shr .u64 ((Y : Nat) : Int) .u64 32 = some (U y1) := by rw [hy1]; exact shr32 Y
    have e10 : abin .and .u64 ((Y : Nat) : Int) .u64 4294967295 = some (U y0) := by rw [hy0]; exact and32 n2
    have e13 : abin .shr .u64 ((t : Nat) : Int) .u64 32 = some (U d1) := by rw [hd1]; exact shr32 t
    have e14 : abin .and .u64 ((t : Nat) : Int) .u64 4294967295 = some (U d0) := by rw [hd0]; exact and32 ht9
    have y1b : 2147483648 ≤ y1 := by omega
    have y1l : y1 < 4294967296 := by omega
    have y0l : y0 < 4294967296 := by omega
    have d1l : d1 < 4294967296 := by omega
    have d0l : d0 < 4294967296 := by omega
    clear hy1 hy0 hd1 hd0
    have qd : ∀ x : Nat, x < Y → abin .quo .u64 ((x : Nat) : Int) .u64 ((y1 : Nat) : Int) = some (U (x / y1)) := fun x hx => by
      obtain ⟨c, rfl⟩ : ∃ c, y1 = c + 1 := ⟨y1 - 1, by omega⟩
      exact quoN x c (by omega)
    have qm : ∀ x : Nat, x < Y → abin .mul .u64 ((x / y1 : Nat) : Int) .u64 ((y1 : Nat) : Int) = some (U (x / y1 * y1)) := fun x hx => by
      have := Nat.div_mul_le_self x y1
      rw [mulN, Nat.mod_eq_of_lt (by omega)]
    have qs : ∀ x : Nat, x < Y → wrapF .u64 (((x : Nat) : Int) - ((x / y1 * y1 : Nat) : Int)) = ((x % y1 : Nat) : Int) := fun x hx => by
      have h1 := Nat.div_mul_le_self x y1
      have h2 := Nat.div_add_mod x y1
      rw [Nat.mul_comm] at h2
      rw [subC h1 (by omega)]
      generalize x / y1 * y1 = w at *
      congr 1
      omega
    have x0 := x0.trans c0
    have x1 := x1.trans c1
    have x2 := x2.trans c2
    obtain ⟨G7, r7, v7, w7⟩ := dvr_7 (self := self) (nf := nf) (m := m) x2 hln ec
    obtain ⟨G8, r8, v8, w8⟩ := dvr_8 (self := self) (nf := nf) (m := m) ((w7 2 (by omega) (by omega)).trans x2) v7 e8
    obtain ⟨G9, r9, v9, w9⟩ := dvr_9 (self := self) (nf := nf) (m := m) v8 e9
    obtain ⟨G10, r10, v10, w10⟩ := dvr_10 (self := self) (nf := nf) (m := m) ((w9 2 (by omega) (by omega)).trans v8) e10
    have z8 : ∀ j, j ≠ 8 → j ≠ 2 → j ≠ 9 → j ≠ 10 → j < 19 → G10 j = D j := fun j h1 h2 h3 h4 h5 => (w10 j h4 h5).trans ((w9 j h3 h5).trans ((w8 j h2 h5).trans (w7 j h1 h5)))
    have s8 : G10 8 = U s := (w10 8 (by omega) (by omega)).trans ((w9 8 (by omega) (by omega)).trans ((w8 8 (by omega) (by omega)).trans v7))
    obtain ⟨G11, r11, v11, w11⟩ := dvr_11 (self := self) (nf := nf) (m := m) ((z8 0 (by omega) (by omega) (by omega) (by omega) (by omega)).trans x0) ((z8 1 (by omega) (by omega) (by omega) (by omega) (by omega)).trans x1) s8 e11 eb e11c e11d
    obtain ⟨G12, r12, v12, w12⟩ := dvr_12 (self := self) (nf := nf) (m := m) ((w11 1 (by omega) (by omega)).trans ((z8 1 (by omega) (by omega) (by omega) (by omega) (by omega)).trans x1)) ((w11 8 (by omega) (by omega)).trans s8) e12
    obtain ⟨G13, r13, v13, w13⟩ := dvr_13 (self := self) (nf := nf) (m := m) v12 e13
    obtain ⟨G14, r14, v14, w14⟩ := dvr_14 (self := self) (nf := nf) (m := m) ((w13 12 (by omega) (by omega)).trans v12) e14
    have z14 : ∀ j, j ≠ 11 → j ≠ 12 → j ≠ 13 → j ≠ 14 → j < 19 → G14 j = G10 j := fun j h1 h2 h3 h4 h5 => (w14 j h4 h5).trans ((w13 j h3 h5).trans ((w12 j h2 h5).trans (w11 j h1 h5)))
    have k9 : G14 9 = U y1 := (z14 9 (by omega) (by omega) (by omega) (by omega) (by omega)).trans ((w10 9 (by omega) (by omega)).trans v9)
    have k11 : G14 11 = U u := (w14 11 (by omega) (by omega)).trans ((w13 11 (by omega) (by omega)).trans ((w12 11 (by omega) (by omega)).trans v11))
    obtain ⟨G15, r15, v15, w15⟩ := dvr_15 (self := self) (nf := nf) (m := m) k11 k9 (qd u huY)
    obtain ⟨G, r16, g16, w16⟩ := dvr_16 (self := self) (nf := nf) (m := m) ((w15 11 (by omega) (by omega)).trans k11) v15 ((w15 9 (by omega) (by omega)).trans k9) (qm u huY) (qs u huY)
    have z16 : ∀ j, j ≠ 15 → j ≠ 16 → j < 19 → G j = G14 j := fun j h1 h2 h3 => (w16 j h2 h3).trans (w15 j h1 h3)
    have g15 : G 15 = U (u / y1) := (w16 15 (by omega) (by omega)).trans v15
    have g2 : G 2 = U Y := (z16 2 (by omega) (by omega) (by omega)).trans ((z14 2 (by omega) (by omega) (by omega) (by omega) (by omega)).trans ((w10 2 (by omega) (by omega)).trans ((w9 2 (by omega) (by omega)).trans v8)))
    have g8 : G 8 = U s := (z16 8 (by omega) (by omega) (by omega)).trans ((z14 8 (by omega) (by omega) (by omega) (by omega) (by omega)).trans s8)
    have g9 : G 9 = U y1 := (z16 9 (by omega) (by omega) (by omega)).trans k9
    have g10 : G 10 = U y0 := (z16 10 (by omega) (by omega) (by omega)).trans ((z14 10 (by omega) (by omega) (by omega) (by omega) (by omega)).trans v10)
    have g11 : G 11 = U u := (z16 11 (by omega) (by omega) (by omega)).trans k11
    have g13 : G 13 = U d1 := (z16 13 (by omega) (by omega) (by omega)).trans ((w14 13 (by omega) (by omega)).trans v13)
    have g14 : G 14 = U d0 := (z16 14 (by omega) (by omega) (by omega)).trans v14
    obtain ⟨H, rf, h15, hk⟩ := dv0_loop (self := self) (nf := nf) (m := m) (u := u) g9 g10 g13 g15 g16 y1l y1b y0l d1l (by omega) hnf
    rw [hYs] at h15
    obtain ⟨q1, hq1e⟩ : ∃ q1, q1 = (u * 4294967296 + d1) / Y := ⟨_, rfl⟩
    obtain ⟨v, hve⟩ : ∃ v, v = (u * 4294967296 + d1) % Y := ⟨_, rfl⟩
    have hq1 : q1 < 4294967296 := by rw [hq1e]; exact two_digits (b := 4294967296) huY d1l
    have hv1 : v < Y := by rw [hve]; exact Nat.mod_lt _ (by omega)
    have hqv : Y * q1 + v = u * 4294967296 + d1 := by rw [hq1e, hve]; exact Nat.div_add_mod _ _
    rw [← hq1e] at h15
    clear hq1e hve
    obtain ⟨tq, tr⟩ := two_quotV (b := 4294967296) (d0 := d0) (show 0 < Y by omega) hqv
    have hall : (u * 4294967296 + d1) * 4294967296 + d0 = u * 18446744073709551616 + t := by rw [← hts, Nat.add_mul, Nat.mul_assoc]; simp only [Nat.reduceMul, Nat.add_assoc]
    rw [hall, ← hT, hdiv] at tq
    rw [hall, ← hT] at tr
    have cw := wrap_diff (T := u * 4294967296 + d1) (S := q1 * Y) (v := v) (by rw [Nat.mul_comm q1 Y]; exact hqv.symm) (by omega)
    have ca : abin .add .u64 ((u * 4294967296 % 18446744073709551616 : Nat) : Int) .u64 ((d1 : Nat) : Int) = some (U ((u * 4294967296 + d1) % 18446744073709551616)) := by rw [addN, Nat.mod_add_mod]
    have H2 : H 2 = U Y := (hk 2 (by omega) (by omega) (by omega)).trans g2
    have H8 : H 8 = U s := (hk 8 (by omega) (by omega) (by omega)).trans g8
    have H9 : H 9 = U y1 := (hk 9 (by omega) (by omega) (by omega)).trans g9
    have H10 : H 10 = U y0 := (hk 10 (by omega) (by omega) (by omega)).trans g10
    have H14 : H 14 = U d0 := (hk 14 (by omega) (by omega) (by omega)).trans g14
    obtain ⟨I1, r21, v21, w21⟩ := dvr_21 (self := self) (nf := nf) (m := m) ((hk 11 (by omega) (by omega) (by omega)).trans g11) ((hk 13 (by omega) (by omega) (by omega)).trans g13) h15 H2 (mulK u) ca (mulN q1 Y) cw
    obtain ⟨I2, r22, v22, w22⟩ := dvr_22 (self := self) (nf := nf) (m := m) v21 ((w21 9 (by omega) (by omega)).trans H9) (qd v hv1)
    obtain ⟨I, r23, i16, w23⟩ := dvr_23 (self := self) (nf := nf) (m := m) ((w22 17 (by omega) (by omega)).trans v21) v22 ((w22 9 (by omega) (by omega)).trans ((w21 9 (by omega) (by omega)).trans H9)) (qm v hv1) (qs v hv1)
    have z23 : ∀ j, j ≠ 16 → j ≠ 17 → j ≠ 18 → j < 19 → I j = H j := fun j h1 h2 h3 h4 => (w23 j h1 h4).trans ((w22 j h3 h4).trans (w21 j h2 h4))
    have i18 : I 18 = U (v / y1) := (w23 18 (by omega) (by omega)).trans v22
    have i17 : I 17 = U v := (w23 17 (by omega) (by omega)).trans ((w22 17 (by omega) (by omega)).trans v21)
    obtain ⟨J, rh, j18, jk⟩ := dv1_loop (self := self) (nf := nf) (m := m) (u := v) ((z23 9 (by omega) (by omega) (by omega) (by omega)).trans H9) ((z23 10 (by omega) (by omega) (by omega) (by omega)).trans H10) ((z23 14 (by omega) (by omega) (by omega) (by omega)).trans H14) i18 i16 y1l y1b y0l d0l (by omega) hnf
    rw [hYs] at j18
    obtain ⟨q0, hq0e⟩ : ∃ q0, q0 = (v * 4294967296 + d0) / Y := ⟨_, rfl⟩
    obtain ⟨w, hwe⟩ : ∃ w, w = (v * 4294967296 + d0) % Y := ⟨_, rfl⟩
    have hq0 : q0 < 4294967296 := by rw [hq0e]; exact two_digits (b := 4294967296) hv1 d0l
    have hv0 : w < Y := by rw [hwe]; exact Nat.mod_lt _ (by omega)
    have hqw : Y * q0 + w = v * 4294967296 + d0 := by rw [hq0e, hwe]; exact Nat.div_add_mod _ _
    rw [← hq0e] at j18 tq
    rw [← hwe] at tr
    clear hq0e hwe
    have cw2 := wrap_diff (T := v * 4294967296 + d0) (S := q0 * Y) (v := w) (by rw [Nat.mul_comm q0 Y]; exact hqw.symm) (by omega)
    have ca2 : abin .add .u64 ((v * 4294967296 % 18446744073709551616 : Nat) : Int) .u64 ((d0 : Nat) : Int) = some (U ((v * 4294967296 + d0) % 18446744073709551616)) := by rw [addN, Nat.mod_add_mod]
    have ca3 : abin .add .u64 ((q1 * 4294967296 % 18446744073709551616 : Nat) : Int) .u64 ((q0 : Nat) : Int) = some (U (q1 * 4294967296 + q0)) := add_low hq1 hq0
    obtain ⟨K, ri, k6, k7⟩ := dv_c (self := self) (nf := nf) (m := m) ((jk 15 (by omega) (by omega) (by omega)).trans ((z23 15 (by omega) (by omega) (by omega) (by omega)).trans h15)) j18 ((jk 17 (by omega) (by omega) (by omega)).trans i17) ((jk 14 (by omega) (by omega) (by omega)).trans ((z23 14 (by omega) (by omega) (by omega) (by omega)).trans H14)) ((jk 2 (by omega) (by omega) (by omega)).trans ((z23 2 (by omega) (by omega) (by omega) (by omega)).trans H2)) ((jk 8 (by omega) (by omega) (by omega)).trans ((z23 8 (by omega) (by omega) (by omega) (by omega)).trans H8)) (mulK q1) ca3 (mulK v) ca2 (mulN q0 Y) cw2 (shrU (by omega))
    rw [tq] at k6
    rw [tr, hmod] at k7
    clear hT hltS hdiv hmod tq tr hall hqv hqw cw cw2
    obtain ⟨QQ, hQQ⟩ : ∃ QQ, QQ = (hi * 18446744073709551616 + lo) / y := ⟨_, rfl⟩
    obtain ⟨RR, hRR⟩ : ∃ RR, RR = (hi * 18446744073709551616 + lo) % y := ⟨_, rfl⟩
    rw [← hQQ] at k6 ⊢
    rw [← hRR] at k7 ⊢
    generalize Code.region 0 rdv64_0 false = C0 at *
    generalize Code.seq (Code.region 1 rdv64_1 false) (Code.cond (Operand.tmp 20) (Code.region 2 rdv64_2 false) Code.skip) = C1 at *
    generalize Code.seq (Code.region 3 rdv64_3 false) (Code.cond (Operand.tmp 24) (Code.region 4 rdv64_4 false) Code.skip) = C3 at *
    generalize Code.seq (Code.region 5 rdv64_5 false) (Code.cond (Operand.tmp 27) (Code.seq (Code.region 6 rdv64_6 true) Code.ret) Code.skip) = C5 at *
    generalize Code.region 7 rdv64_7 false = D7 at *
    generalize Code.region 8 rdv64_8 false = D8 at *
    generalize Code.region 9 rdv64_9 false = D9 at *
    generalize Code.region 10 rdv64_10 false = D10 at *
    generalize Code.region 11 rdv64_11 false = D11 at *
    generalize Code.region 12 rdv64_12 false = D12 at *
    generalize Code.region 13 rdv64_13 false = D13 at *
    generalize Code.region 14 rdv64_14 false = D14 at *
    generalize Code.region 15 rdv64_15 false = D15 at *
    generalize Code.region 16 rdv64_16 false = D16 at *
    generalize Code.region 21 rdv64_21 false = D21 at *
    generalize Code.region 22 rdv64_22 false = D22 at *
    generalize Code.region 23 rdv64_23 false = D23 at *
    generalize Code.region 28 rdv64_28 false = D28 at *
    simp only [acodeN, ra, rb, rc, rd, r7, r8, r9, r10, r11, r12, r13, r14, r15, r16, rf, r21, r22, r23, rh, ri, if_true, finish, ares, aresL, ares1, Tryd.f28, ev, nth_lst, Nat.reduceLT, k6, k7, Option.map_some]
    rfl
end
end Go.Am.Seat
namespace Go.Am.Seat
open Go.Proofs Go.Am Go.Am.Num Go.Am.Kn
noncomputable def rms_0 : Array Oper := match Tryd.f27.body with
  | some (.seq (.region _ o _) _) => o
  | _ => #[]
noncomputable def lms_0 : List Oper := match Tryd.f27.body with
  | some (.seq (.region _ o _) _) => o.toList
  | _ => []
theorem ems_0 : rms_0.toList = lms_0 := rfl
noncomputable def rms_1 : Array Oper := match Tryd.f27.body with
  | some (.seq _ (.seq (.region _ o _) _)) => o
  | _ => #[]
noncomputable def lms_1 : List Oper := match Tryd.f27.body with
  | some (.seq _ (.seq (.region _ o _) _)) => o.toList
  | _ => []
theorem ems_1 : rms_1.toList = lms_1 := rfl
noncomputable def rms_2 : Array Oper := match Tryd.f27.body with
  | some (.seq _ (.seq _ (.seq (.region _ o _) _))) => o
  | _ => #[]
noncomputable def lms_2 : List Oper := match Tryd.f27.body with
  | some (.seq _ (.seq _ (.seq (.region _ o _) _))) => o.toList
  | _ => []
theorem ems_2 : rms_2.toList = lms_2 := rfl
noncomputable def rms_3 : Array Oper := match Tryd.f27.body with
  | some (.seq _ (.seq _ (.seq _ (.seq (.region _ o _) _)))) => o
  | _ => #[]
noncomputable def lms_3 : List Oper := match Tryd.f27.body with
  | some (.seq _ (.seq _ (.seq _ (.seq (.region _ o _) _)))) => o.toList
  | _ => []
theorem ems_3 : rms_3.toList = lms_3 := rfl
noncomputable def rms_4 : Array Oper := match Tryd.f27.body with
  | some (.seq _ (.seq _ (.seq _ (.seq _ (.seq (.region _ o _) _))))) => o
  | _ => #[]
noncomputable def lms_4 : List Oper := match Tryd.f27.body with
  | some (.seq _ (.seq _ (.seq _ (.seq _ (.seq (.region _ o _) _))))) => o.toList
  | _ => []
theorem ems_4 : rms_4.toList = lms_4 := rfl
noncomputable def rms_5 : Array Oper := match Tryd.f27.body with
  | some (.seq _ (.seq _ (.seq _ (.seq _ (.seq _ (.seq (.region _ o _) _)))))) => o
  | _ => #[]
noncomputable def lms_5 : List Oper := match Tryd.f27.body with
  | some (.seq _ (.seq _ (.seq _ (.seq _ (.seq _ (.seq (.region _ o _) _)))))) => o.toList
  | _ => []
theorem ems_5 : rms_5.toList = lms_5 := rfl
theorem bodyms : Tryd.f27.body = some (.seq (.region 0 rms_0 false) (.seq (.region 1 rms_1 false) (.seq (.region 2 rms_2 false) (.seq (.region 3 rms_3 false) (.seq (.region 4 rms_4 false) (.seq (.region 5 rms_5 false) .ret)))))) := rfl
-- ntmps 38
-- ntmps 57
theorem callMs : callableB E.P 27 = true := by kernel_rfl
theorem callDv64 : callableB E.P 28 = true := by kernel_rfl
abbrev Ml64 (self : Self) : Prop := ∀ x y, x < 18446744073709551616 → y < 18446744073709551616 → Ans self 36 [U x, U y] (pair64 (x * y / 18446744073709551616) (x * y % 18446744073709551616))
theorem prod_le {x y : Nat} (hx : x < 18446744073709551616) (hy : y < 18446744073709551616) : x * y ≤ 340282366920938463426481119284349108225 := by
  have : x * y ≤ 18446744073709551615 * 18446744073709551615 := Nat.mul_le_mul (by omega) (by omega)
  omega
section
variable {self : Self} {nf : Nat} {m : Mem} {F : Nat → Value} {x y a c : Nat}
theorem ms_body (hml : Ml64 self) (hx : x < 18446744073709551616) (hy : y < 18446744073709551616) (ha : a < 18446744073709551616) (hc : c < 18446744073709551616) :
    abody E self nf 27 [U x, U y, U a, U c] m = some (pair64 ((x * y + a + c) % 18446744073709551616) ((x * y + a + c) / 18446744073709551616), m) := by
  rw [abody_eqF (by kernel_rfl) Tryd.func27 bodyms (by kernel_rfl) (Nat.le_of_ble_eq_true rfl)]
  rw [show Tryd.f27.ntmps = 38 from rfl]
  have hp := prod_le hx hy
  have m0 := hml x y hx hy
  unfold Ans at m0
  generalize x * y = p at *
  have e1 : ((p % 18446744073709551616 + a) % 18446744073709551616 + c) % 18446744073709551616 = (p + a + c) % 18446744073709551616 := by omega
  have e2 : ((p / 18446744073709551616 + (p % 18446744073709551616 + a) / 18446744073709551616) % 18446744073709551616 + ((p % 18446744073709551616 + a) % 18446744073709551616 + c) / 18446744073709551616) % 18446744073709551616 = (p + a + c) / 18446744073709551616 := by omega
  simp only [ems_0, ems_1, ems_2, ems_3, ems_4, ems_5, lms_0, lms_1, lms_2, lms_3, lms_4, lms_5, agd_none, gdAt, gdV_bool, gdV_undef, Tryd.f27, List.append_eq, List.cons_append, List.nil_append, apure_call1, apure_call2, apure_call3, bft, btf, acodeN, List.getElem?_toArray, List.getElem?_cons_zero, List.getElem?_cons_succ, aopsN, adrawT, cls, astep, aop, afloat, ev, nth_lst, get_lst, aput, setAt_lst, upd_at, init_zero, init_succ, init_nil, Nat.reduceLT, Nat.reduceEqDiff, reduceIte, abuiltin, alen, Option.map_some, Option.map_none, orElse_some, apure_add, apure_eqlV, eqlVal_str, eqlVal_bool, eqlVal_ptr, eqlVal_slice, eqlVal_wide, eqlVal_int, allT, ↓aop_eqlV, apure_neq, List.map_cons, List.map_nil, List.all_cons, List.all_nil, lit2, lit1, lit0, List.isEmpty_nil, bls, Bool.false_eq_true, if_true, if_false, List.length_map, beq_self_eq_true, uns, callMl, m0, ex0, ex1, callAdd, extAdd, add64O, addN, e1, e2, finish, ares, aresL, ares1]
  rfl
end
section
variable {self : Self} {nf : Nat} {m : Mem} {F : Nat → Value} {q l t v1 v2 : Nat}
end
end Go.Am.Seat
