/-
  Texts of my own, put together: FP1, FP2, E9, E10, E11, E12, E13, E14.
-/
import Derived.Test.YtfgincdpgdlfnaaDoorGrLimbTexts20
import Derived.Test.YtfgincdpgdlfnaaDoorGrLimbTexts14
set_option linter.unusedSimpArgs false
set_option linter.unusedVariables false
set_option maxRecDepth 100000
namespace Go.Am.Seat
open Go.Proofs Go.Am Go.Am.Num Go.Am.Kn
theorem omwo_0 : rmwo_0.toList = [⟨some 3, .box 24 (.tmp 0), 0, "reckon.go:72", #[], none⟩, ⟨some 6, .alloc 24, 0, "reckon.go:72", #[], none⟩, ⟨some 7, .assign (.const (.int .u64 0)), 22, "reckon.go:72", #[], none⟩] := rfl
theorem omwo_1 : rmwo_1.toList = [⟨some 8, .alloc 24, 0, "reckon.go:73", #[], none⟩] := rfl
theorem omwo_2 : rmwo_2.toList = [⟨some 10, .move (.const (.int .i64 0)), 3, "reckon.go:74", #[], none⟩] := rfl
theorem omwo_3 : rmwo_3.toList = [⟨some 11, .binOp .lss 3 (.tmp 10) (.const (.int .i64 8)) 3, 4, "reckon.go:74", #[], none⟩] := rfl
theorem omwo_4 : rmwo_4.toList = [⟨some 12, .move (.tmp 10), 3, "reckon.go:74", #[], none⟩, ⟨some 9, .assign (.tmp 12), 3, "reckon.go:74", #[eD 0, eP 0], none⟩] := rfl
theorem omwo_5 : rmwo_5.toList = [⟨some 14, .move (.tmp 9), 3, "reckon.go:75", #[], none⟩, ⟨some 15, .move (.tmp 9), 3, "reckon.go:75", #[], none⟩, ⟨some 16, .indexAddr 24 (.tmp 3) (.tmp 15), 0, "reckon.go:75", #[eD 1], none⟩, ⟨some 17, .load 22 (.tmp 16), 22, "reckon.go:75", #[eD 2], none⟩, ⟨some 18, .move (.tmp 1), 22, "reckon.go:75", #[], none⟩, ⟨some 19, .move (.tmp 2), 22, "reckon.go:75", #[], none⟩, ⟨some 20, .call { callee := .value (.func 27), args := #[.tmp 17, .tmp 18, .const (.int .u64 0), .tmp 19], argTypes := #[22, 22, 22, 22] }, 54, "reckon.go:75", #[eD 3, eD 4, eD 5], none⟩, ⟨some 13, .move (.tmp 20), 54, "reckon.go:75", #[eD 6], none⟩, ⟨some 21, .extract (.tmp 13) 0, 22, "reckon.go:75", #[eD 7], none⟩, ⟨some 22, .extract (.tmp 13) 1, 22, "reckon.go:75", #[eD 7, { on := 11, ground := Ground.gcOnly Departure.lateStores }], none⟩, ⟨some 23, .indexAddr 24 (.tmp 8) (.tmp 14), 0, "reckon.go:75", #[eD 0, eP 0, eP 1, eP 2, eP 3, eP 4, eP 5, eP 6, eP 7, eP 8, { on := 9, ground := Ground.textOnly Departure.lateStores }], none⟩, ⟨none, .store 22 (.tmp 23) (.tmp 21), 0, "reckon.go:75", #[eD 10, eD 8, eC 6, eP 0, eP 1, eP 2, eP 3, eP 4, eP 5, eP 6, eP 7, eP 8, { on := 9, ground := Ground.textOnly Departure.lateStores }], none⟩, ⟨some 2, .assign (.tmp 22), 22, "reckon.go:75", #[eD 9, eC 11, eP 0, eP 1, eP 2, eP 3, eP 4, eP 5, eP 6, eP 7, eP 8, eP 9, eP 10, eP 11], none⟩] := rfl
theorem omwo_6 : rmwo_6.toList = [⟨some 24, .binOp .add 3 (.tmp 10) (.const (.int .i64 1)) 3, 3, "reckon.go:74", #[], none⟩, ⟨some 10, .move (.tmp 24), 3, "reckon.go:74", #[eD 0], none⟩] := rfl
theorem omwo_7 : rmwo_7.toList = [⟨some 25, .load 24 (.tmp 8), 24, "reckon.go:77", #[], none⟩, ⟨some 26, .move (.tmp 2), 22, "reckon.go:77", #[{ on := 2, ground := Ground.gcOnly Departure.lateStores }], none⟩, ⟨none, .store 24 (.tmp 6) (.tmp 25), 0, "reckon.go:77", #[eD 0, eP 0, { on := 1, ground := Ground.textOnly Departure.lateStores }], none⟩, ⟨some 7, .assign (.tmp 26), 22, "reckon.go:77", #[eD 1, eC 2, eP 0, eP 1, eP 2], none⟩] := rfl
section
variable {self : Self} {nf : Nat} {m m' : Mem} {F : Nat → Value} {p r s k n c a b x : Nat} {w o : Nat → Nat} {be : TypeId}
theorem mwo_0 {m1 m2 : Mem} (hb : abox E.P 24 (wide w) m = some (.pointer (some ⟨p, 0, none⟩), m1)) (hc : aalloc E.P 24 m1 = some (.pointer (some ⟨r, 0, none⟩), m2)) (h0 : F 0 = wide w) : ∃ F', acodeN E self nf (.region 0 rmwo_0 false) (lst F 27) m = some (.normal, lst F' 27, m2) ∧ F' 3 = .pointer (some ⟨p, 0, none⟩) ∧ F' 6 = .pointer (some ⟨r, 0, none⟩) ∧ F' 1 = F 1 ∧ F' 2 = F 2 := by
  simp only [omwo_0, agd_none, gdAt, gdV_bool, gdV_undef, List.append_eq, List.cons_append, List.nil_append, apure_call1, apure_call2, apure_call3, bft, btf, acodeN, List.getElem?_toArray, List.getElem?_cons_zero, List.getElem?_cons_succ, aopsN, adrawT, cls, astep, aop, afloat, ev, nth_lst, get_lst, aput, setAt_lst, upd_at, init_zero, init_succ, init_nil, Nat.reduceLT, Nat.reduceEqDiff, reduceIte, abuiltin, alen, Option.map_some, Option.map_none, orElse_some, apure_add, apure_eqlV, eqlVal_str, eqlVal_bool, eqlVal_ptr, eqlVal_slice, eqlVal_wide, eqlVal_int, allT, ↓aop_eqlV, apure_neq, List.map_cons, List.map_nil, List.all_cons, List.all_nil, lit2, lit1, lit0, List.isEmpty_nil, bls, Bool.false_eq_true, if_true, if_false, List.length_map, beq_self_eq_true, uns, h0, hb, hc]
  exact ⟨_, rfl, by simp only [upd_at, Nat.reduceEqDiff, reduceIte], by simp only [upd_at, Nat.reduceEqDiff, reduceIte], by simp only [upd_at, Nat.reduceEqDiff, reduceIte], by simp only [upd_at, Nat.reduceEqDiff, reduceIte]⟩
theorem mwo_1 {m1 : Mem} (hc : aalloc E.P 24 m = some (.pointer (some ⟨s, 0, none⟩), m1)) : ∃ F', acodeN E self nf (.region 1 rmwo_1 false) (lst F 27) m = some (.normal, lst F' 27, m1) ∧ F' 8 = .pointer (some ⟨s, 0, none⟩) ∧ ∀ j, j < 8 → F' j = F j := by
  simp only [omwo_1, agd_none, gdAt, gdV_bool, gdV_undef, List.append_eq, List.cons_append, List.nil_append, apure_call1, apure_call2, apure_call3, bft, btf, acodeN, List.getElem?_toArray, List.getElem?_cons_zero, List.getElem?_cons_succ, aopsN, adrawT, cls, astep, aop, afloat, ev, nth_lst, get_lst, aput, setAt_lst, upd_at, init_zero, init_succ, init_nil, Nat.reduceLT, Nat.reduceEqDiff, reduceIte, abuiltin, alen, Option.map_some, Option.map_none, orElse_some, apure_add, apure_eqlV, eqlVal_str, eqlVal_bool, eqlVal_ptr, eqlVal_slice, eqlVal_wide, eqlVal_int, allT, ↓aop_eqlV, apure_neq, List.map_cons, List.map_nil, List.all_cons, List.all_nil, lit2, lit1, lit0, List.isEmpty_nil, bls, Bool.false_eq_true, if_true, if_false, List.length_map, beq_self_eq_true, uns, hc]
  exact ⟨_, rfl, by simp only [upd_at, Nat.reduceEqDiff, reduceIte], fun j h1 => by repeat rw [upd_ne (by omega)]⟩
theorem mwo_2 : ∃ F', acodeN E self nf (.region 2 rmwo_2 false) (lst F 27) m = some (.normal, lst F' 27, m) ∧ F' 10 = .int .i64 ((0 : Nat) : Int) ∧ ∀ j, j < 10 → F' j = F j := by
  simp only [omwo_2, agd_none, gdAt, gdV_bool, gdV_undef, List.append_eq, List.cons_append, List.nil_append, apure_call1, apure_call2, apure_call3, bft, btf, acodeN, List.getElem?_toArray, List.getElem?_cons_zero, List.getElem?_cons_succ, aopsN, adrawT, cls, astep, aop, afloat, ev, nth_lst, get_lst, aput, setAt_lst, upd_at, init_zero, init_succ, init_nil, Nat.reduceLT, Nat.reduceEqDiff, reduceIte, abuiltin, alen, Option.map_some, Option.map_none, orElse_some, apure_add, apure_eqlV, eqlVal_str, eqlVal_bool, eqlVal_ptr, eqlVal_slice, eqlVal_wide, eqlVal_int, allT, ↓aop_eqlV, apure_neq, List.map_cons, List.map_nil, List.all_cons, List.all_nil, lit2, lit1, lit0, List.isEmpty_nil, bls, Bool.false_eq_true, if_true, if_false, List.length_map, beq_self_eq_true, uns]
  exact ⟨_, rfl, by simp only [upd_at, Nat.reduceEqDiff, reduceIte]; rfl, fun j h1 => by repeat rw [upd_ne (by omega)]⟩
theorem mwo_3 {b : Bool} (h10 : F 10 = .int .i64 ((k : Nat) : Int)) (hb : decide (((k : Nat) : Int) < 8) = b) : ∃ F', acodeN E self nf (.region 3 rmwo_3 false) (lst F 27) m = some (.normal, lst F' 27, m) ∧ F' 11 = .bool b ∧ ∀ j, j < 11 → F' j = F j := by
  simp only [omwo_3, agd_none, gdAt, gdV_bool, gdV_undef, List.append_eq, List.cons_append, List.nil_append, apure_call1, apure_call2, apure_call3, bft, btf, acodeN, List.getElem?_toArray, List.getElem?_cons_zero, List.getElem?_cons_succ, aopsN, adrawT, cls, astep, aop, afloat, ev, nth_lst, get_lst, aput, setAt_lst, upd_at, init_zero, init_succ, init_nil, Nat.reduceLT, Nat.reduceEqDiff, reduceIte, abuiltin, alen, Option.map_some, Option.map_none, orElse_some, apure_add, apure_eqlV, eqlVal_str, eqlVal_bool, eqlVal_ptr, eqlVal_slice, eqlVal_wide, eqlVal_int, allT, ↓aop_eqlV, apure_neq, List.map_cons, List.map_nil, List.all_cons, List.all_nil, lit2, lit1, lit0, List.isEmpty_nil, bls, Bool.false_eq_true, if_true, if_false, List.length_map, beq_self_eq_true, uns, h10, lss64, hb]
  exact ⟨_, rfl, by simp only [upd_at, Nat.reduceEqDiff, reduceIte], fun j h1 => by repeat rw [upd_ne (by omega)]⟩
theorem mwo_4 (h10 : F 10 = .int .i64 ((k : Nat) : Int)) : ∃ F', acodeN E self nf (.region 4 rmwo_4 false) (lst F 27) m = some (.normal, lst F' 27, m) ∧ F' 9 = .int .i64 ((k : Nat) : Int) ∧ ∀ j, j ≠ 9 → j < 11 → F' j = F j := by
  simp only [omwo_4, agd_none, gdAt, gdV_bool, gdV_undef, List.append_eq, List.cons_append, List.nil_append, apure_call1, apure_call2, apure_call3, bft, btf, acodeN, List.getElem?_toArray, List.getElem?_cons_zero, List.getElem?_cons_succ, aopsN, adrawT, cls, astep, aop, afloat, ev, nth_lst, get_lst, aput, setAt_lst, upd_at, init_zero, init_succ, init_nil, Nat.reduceLT, Nat.reduceEqDiff, reduceIte, abuiltin, alen, Option.map_some, Option.map_none, orElse_some, apure_add, apure_eqlV, eqlVal_str, eqlVal_bool, eqlVal_ptr, eqlVal_slice, eqlVal_wide, eqlVal_int, allT, ↓aop_eqlV, apure_neq, List.map_cons, List.map_nil, List.all_cons, List.all_nil, lit2, lit1, lit0, List.isEmpty_nil, bls, Bool.false_eq_true, if_true, if_false, List.length_map, beq_self_eq_true, uns, h10]
  exact ⟨_, rfl, by simp only [upd_at, Nat.reduceEqDiff, reduceIte], fun j h1 h2 => by repeat rw [upd_ne (by omega)]⟩
theorem mwo_5 {m1 : Mem} (h3 : F 3 = .pointer (some ⟨p, 0, none⟩)) (h8 : F 8 = .pointer (some ⟨s, 0, none⟩)) (h9 : F 9 = .int .i64 ((k : Nat) : Int)) (h1 : F 1 = U n) (h2 : F 2 = U c) (hk : k < 8) (cp : cellAt m p k = some (U x)) (hc : ∀ M, ainv E self 27 [U x, U n, .int .u64 0, U c] M = some (pair64 a b, M)) (st : astore E.P 22 (.pointer (some ⟨s, k, none⟩)) (U a) m = some m1) :
    ∃ F', acodeN E self nf (.region 5 rmwo_5 false) (lst F 27) m = some (.normal, lst F' 27, m1) ∧ F' 2 = U b ∧ ∀ j, j ≠ 2 → j < 11 → F' j = F j := by
  have i1 := ix24 (p := p) (k := k) hk
  have i2 := ix24 (p := s) (k := k) hk
  simp only [omwo_5, agd_none, gdAt, gdV_bool, gdV_undef, List.append_eq, List.cons_append, List.nil_append, apure_call1, apure_call2, apure_call3, bft, btf, acodeN, List.getElem?_toArray, List.getElem?_cons_zero, List.getElem?_cons_succ, aopsN, adrawT, cls, astep, aop, afloat, ev, nth_lst, get_lst, aput, setAt_lst, upd_at, init_zero, init_succ, init_nil, Nat.reduceLT, Nat.reduceEqDiff, reduceIte, abuiltin, alen, Option.map_some, Option.map_none, orElse_some, apure_add, apure_eqlV, eqlVal_str, eqlVal_bool, eqlVal_ptr, eqlVal_slice, eqlVal_wide, eqlVal_int, allT, ↓aop_eqlV, apure_neq, List.map_cons, List.map_nil, List.all_cons, List.all_nil, lit2, lit1, lit0, List.isEmpty_nil, bls, Bool.false_eq_true, if_true, if_false, List.length_map, beq_self_eq_true, uns, h1, h2, h3, h8, h9, i1, i2, load22, cp, callMs, hc, ex0, ex1, st]
  exact ⟨_, rfl, by simp only [upd_at, Nat.reduceEqDiff, reduceIte], fun j h1 h2 => by repeat rw [upd_ne (by omega)]⟩
theorem mwo_6 (h10 : F 10 = .int .i64 ((k : Nat) : Int)) (hk : k < 8) : ∃ F', acodeN E self nf (.region 6 rmwo_6 false) (lst F 27) m = some (.normal, lst F' 27, m) ∧ F' 10 = .int .i64 ((k + 1 : Nat) : Int) ∧ ∀ j, j < 10 → F' j = F j := by
  have e : wrapF .i64 (((k : Nat) : Int) + 1) = ((k + 1 : Nat) : Int) := by rw [wrap_i64 (by omega) (by omega)]; omega
  simp only [omwo_6, agd_none, gdAt, gdV_bool, gdV_undef, List.append_eq, List.cons_append, List.nil_append, apure_call1, apure_call2, apure_call3, bft, btf, acodeN, List.getElem?_toArray, List.getElem?_cons_zero, List.getElem?_cons_succ, aopsN, adrawT, cls, astep, aop, afloat, ev, nth_lst, get_lst, aput, setAt_lst, upd_at, init_zero, init_succ, init_nil, Nat.reduceLT, Nat.reduceEqDiff, reduceIte, abuiltin, alen, Option.map_some, Option.map_none, orElse_some, apure_add, apure_eqlV, eqlVal_str, eqlVal_bool, eqlVal_ptr, eqlVal_slice, eqlVal_wide, eqlVal_int, allT, ↓aop_eqlV, apure_neq, List.map_cons, List.map_nil, List.all_cons, List.all_nil, lit2, lit1, lit0, List.isEmpty_nil, bls, Bool.false_eq_true, if_true, if_false, List.length_map, beq_self_eq_true, uns, h10, add64', e]
  exact ⟨_, rfl, by simp only [upd_at, Nat.reduceEqDiff, reduceIte], fun j h1 => by repeat rw [upd_ne (by omega)]⟩
theorem mwo_7 {m1 : Mem} {v : Value} (h2 : F 2 = v) (h6 : F 6 = .pointer (some ⟨r, 0, none⟩)) (h8 : F 8 = .pointer (some ⟨s, 0, none⟩)) (ld : aload E.P 24 (.pointer (some ⟨s, 0, none⟩)) m = some (wide o)) (st : astore E.P 24 (.pointer (some ⟨r, 0, none⟩)) (wide o) m = some m1) : ∃ F', acodeN E self nf (.region 7 rmwo_7 false) (lst F 27) m = some (.normal, lst F' 27, m1) ∧ F' 6 = .pointer (some ⟨r, 0, none⟩) ∧ F' 7 = v := by
  simp only [omwo_7, agd_none, gdAt, gdV_bool, gdV_undef, List.append_eq, List.cons_append, List.nil_append, apure_call1, apure_call2, apure_call3, bft, btf, acodeN, List.getElem?_toArray, List.getElem?_cons_zero, List.getElem?_cons_succ, aopsN, adrawT, cls, astep, aop, afloat, ev, nth_lst, get_lst, aput, setAt_lst, upd_at, init_zero, init_succ, init_nil, Nat.reduceLT, Nat.reduceEqDiff, reduceIte, abuiltin, alen, Option.map_some, Option.map_none, orElse_some, apure_add, apure_eqlV, eqlVal_str, eqlVal_bool, eqlVal_ptr, eqlVal_slice, eqlVal_wide, eqlVal_int, allT, ↓aop_eqlV, apure_neq, List.map_cons, List.map_nil, List.all_cons, List.all_nil, lit2, lit1, lit0, List.isEmpty_nil, bls, Bool.false_eq_true, if_true, if_false, List.length_map, beq_self_eq_true, uns, h2, h6, h8, ld, st]
  exact ⟨_, rfl, by simp only [upd_at, Nat.reduceEqDiff, reduceIte, h6], by simp only [upd_at, Nat.reduceEqDiff, reduceIte]⟩
theorem mwo_it (hms : CMs self) (h1 : F 1 = U n) (h2 : F 2 = U c) (h3 : F 3 = .pointer (some ⟨p, 0, none⟩)) (h8 : F 8 = .pointer (some ⟨s, 0, none⟩)) (h10 : F 10 = .int .i64 ((k : Nat) : Int)) (hk : k < 8) (gp : m[p]? = some (.row false be (rowOf w))) (gs : m[s]? = some (.row false 24 (rowOf o))) (hw : w k < 18446744073709551616) (hn : n < 18446744073709551616) (hc : c < 18446744073709551616) :
    ∃ F', acodeN E self nf lpmwo_0 (lst F 27) m = some (.normal, lst F' 27, m.set s (.row false 24 (rowOf (putW o k ((w k * n + 0 + c) % 18446744073709551616))))) ∧ F' 2 = U ((w k * n + 0 + c) / 18446744073709551616) ∧ F' 10 = .int .i64 ((k + 1 : Nat) : Int) ∧ ∀ j, j ≠ 2 → j < 9 → F' j = F j := by
  have cp : cellAt m p k = some (U (w k)) := by rw [cellAt_row gp, rowOf_get hk]
  have hs : ∀ M, ainv E self 27 [U (w k), U n, .int .u64 0, U c] M = some (pair64 ((w k * n + 0 + c) % 18446744073709551616) ((w k * n + 0 + c) / 18446744073709551616), M) := hms (w k) n 0 c hw hn (by decide) hc
  have st := store22 (x := (w k * n + 0 + c) % 18446744073709551616) gs hk
  obtain ⟨a, ha⟩ : ∃ a, a = (w k * n + 0 + c) % 18446744073709551616 := ⟨_, rfl⟩
  obtain ⟨b, hb⟩ : ∃ b, b = (w k * n + 0 + c) / 18446744073709551616 := ⟨_, rfl⟩
  rw [← ha] at st
  simp only [← ha, ← hb] at hs ⊢
  change astore E.P _ _ _ m = some (m.set s (.row false 24 (rowOf (putW o k a)))) at st
  clear ha hb
  obtain ⟨A, ra, a11, ak⟩ := mwo_3 (self := self) (nf := nf) (m := m) h10 (b := true) (decide_eq_true (by omega))
  obtain ⟨B, rb, b9, bk⟩ := mwo_4 (self := self) (nf := nf) (m := m) ((ak 10 (by omega)).trans h10)
  have kb : ∀ j, j < 9 → B j = F j := fun j hj => (bk j (by omega) (by omega)).trans (ak j (by omega))
  obtain ⟨C, rc, c2, ck⟩ := mwo_5 (self := self) (nf := nf) (m := m) ((kb 3 (by omega)).trans h3) ((kb 8 (by omega)).trans h8) b9 ((kb 1 (by omega)).trans h1) ((kb 2 (by omega)).trans h2) hk cp hs st
  obtain ⟨D, rd, d10, dk⟩ := mwo_6 (self := self) (nf := nf) (m := m.set s (.row false 24 (rowOf (putW o k a)))) ((ck 10 (by omega) (by omega)).trans ((bk 10 (by omega) (by omega)).trans ((ak 10 (by omega)).trans h10))) hk
  refine ⟨D, ?_, (dk 2 (by omega)).trans c2, d10, fun j h1 hj => (dk j (by omega)).trans ((ck j h1 (by omega)).trans (kb j hj))⟩
  rw [lpmwo_0_eq]
  generalize m.set s (.row false 24 (rowOf (putW o k a))) = M1 at *
  generalize Code.region 3 rmwo_3 false = C3 at *
  generalize Code.region 4 rmwo_4 false = C4 at *
  generalize Code.region 5 rmwo_5 false = C5 at *
  generalize Code.region 6 rmwo_6 false = C6 at *
  simp only [acodeN, ra, rb, rc, rd, ev, nth_lst, Nat.reduceLT, if_true, a11]
theorem mwo_end (h10 : F 10 = .int .i64 ((8 : Nat) : Int)) : ∃ F', acodeN E self nf lpmwo_0 (lst F 27) m = some (.exit 0, lst F' 27, m) ∧ ∀ j, j < 11 → F' j = F j := by
  obtain ⟨A, ra, a11, ak⟩ := mwo_3 (self := self) (nf := nf) (m := m) h10 (b := false) (by decide)
  rw [lpmwo_0_eq]
  refine ⟨A, ?_, ak⟩
  generalize Code.region 3 rmwo_3 false = C3 at *
  simp only [acodeN, ra, ev, nth_lst, Nat.reduceLT, if_true, a11]
theorem mwo_num {P a c c' c0 n w v o B : Nat} (h : o + P * c = v * n + c0) (h2 : a + B * c' = w * n + 0 + c) : o + P * a + P * B * c' = (v + P * w) * n + c0 := by
  have e1 : P * (a + B * c') = P * (w * n + 0 + c) := by rw [h2]
  rw [Nat.mul_add, Nat.mul_add, Nat.add_zero] at e1
  rw [Nat.add_mul, Nat.mul_assoc P B c', Nat.mul_assoc P w n]
  omega
theorem mwo_body {c0 : Nat} (hms : CMs self) (hw : ∀ j, w j < 18446744073709551616) (hn : n < 18446744073709551616) (hc0 : c0 < 18446744073709551616) (hnf : 10 < nf) :
    ∃ o c m', vN o 8 + W8 * c = vN w 8 * n + c0 ∧ (∀ j, o j < 18446744073709551616) ∧ abody E self nf 18 [wide w, U n, U c0] m = some (.tuple ⟨[wide o, U c]⟩, m') := by
  rw [abody_eqF (by kernel_rfl) Tryd.func18 bodymwo (by kernel_rfl) (Nat.le_of_ble_eq_true rfl)]
  rw [show Tryd.f18.ntmps = 27 from rfl]
  have l1 : (m ++ [Blk.row false 24 (rowOf w)]).length = m.length + 1 := by simp
  have l2 : (m ++ [Blk.row false 24 (rowOf w)] ++ [Blk.row false 24 (rowOf fun _ => 0)]).length = m.length + 2 := by simp
  have b2 := alloc24 (m ++ [.row false 24 (rowOf w)])
  have b3 := alloc24 (m ++ [Blk.row false 24 (rowOf w)] ++ [.row false 24 (rowOf fun _ => 0)])
  rw [l1] at b2
  rw [l2] at b3
  obtain ⟨A, ra, a3, a6, a1, a2⟩ := mwo_0 (self := self) (nf := nf) (m := m) (F := init [wide w, U n, U c0]) (box24 w m) b2 rfl
  obtain ⟨B, rb, b8, bk⟩ := mwo_1 (self := self) (nf := nf) (F := A) b3
  obtain ⟨M, hM⟩ : ∃ M, M = m ++ [Blk.row false 24 (rowOf w)] ++ [.row false 24 (rowOf fun _ => 0)] ++ [.row false 24 (rowOf fun _ => 0)] := ⟨_, rfl⟩
  rw [← hM] at rb
  have hp : M[m.length]? = some (.row false 24 (rowOf w)) := by
    rw [hM, List.getElem?_append_left (by simp), List.getElem?_append_left (by simp)]; simp
  have hr : M[m.length + 1]? = some (.row false 24 (rowOf fun _ => 0)) := by
    rw [hM, List.getElem?_append_left (by simp), List.getElem?_append_right (by simp)]; simp
  have hq : M[m.length + 2]? = some (.row false 24 (rowOf fun _ => 0)) := by
    rw [hM, List.getElem?_append_right (by simp)]; simp
  clear hM b2 b3 l1 l2
  obtain ⟨C, rc, c10, ck⟩ := mwo_2 (self := self) (nf := nf) (m := M) (F := B)
  have kc : ∀ j, j < 8 → C j = A j := fun j hj => (ck j (by omega)).trans (bk j hj)
  have hloop := aloop_inv (body := acodeN E self nf lpmwo_0) (N := 8)
    (I := fun k T m' => ∃ G o c, T = lst G 27 ∧ G 1 = U n ∧ G 2 = U c ∧ G 3 = .pointer (some ⟨m.length, 0, none⟩) ∧ G 6 = .pointer (some ⟨m.length + 1, 0, none⟩) ∧ G 8 = .pointer (some ⟨m.length + 2, 0, none⟩) ∧ G 10 = .int .i64 ((k : Nat) : Int) ∧
      m'[m.length]? = some (.row false 24 (rowOf w)) ∧ m'[m.length + 1]? = some (.row false 24 (rowOf fun _ => 0)) ∧ m'[m.length + 2]? = some (.row false 24 (rowOf o)) ∧ c < 18446744073709551616 ∧ (∀ j, o j < 18446744073709551616) ∧ vN o k + 18446744073709551616 ^ k * c = vN w k * n + c0)
    (Q := fun x T m' => x = .exit 0 ∧ ∃ G o c, T = lst G 27 ∧ G 2 = U c ∧ G 6 = .pointer (some ⟨m.length + 1, 0, none⟩) ∧ G 8 = .pointer (some ⟨m.length + 2, 0, none⟩) ∧ m'[m.length + 1]? = some (.row false 24 (rowOf fun _ => 0)) ∧ m'[m.length + 2]? = some (.row false 24 (rowOf o)) ∧ (∀ j, o j < 18446744073709551616) ∧ vN o 8 + W8 * c = vN w 8 * n + c0) (fun k T m' hk hI => by
      obtain ⟨G, o, c, rfl, g1, g2, g3, g6, g8, g10, gp, gr, gs, hc, ho, hs⟩ := hI
      by_cases h0 : k = 8
      · right
        subst h0
        obtain ⟨H, rh, hk⟩ := mwo_end (self := self) (nf := nf) (m := m') g10
        exact ⟨_, _, _, rh, by simp, rfl, H, o, c, rfl, (hk 2 (by omega)).trans g2, (hk 6 (by omega)).trans g6, (hk 8 (by omega)).trans g8, gr, gs, ho, hs⟩
      · left
        have hk8 : k < 8 := by omega
        obtain ⟨H, rh, h2, h10, hk2⟩ := mwo_it (self := self) (nf := nf) (m := m') hms g1 g2 g3 g8 g10 hk8 gp gs (hw k) hn hc
        have hpl := prod_le (hw k) hn
        have hq9 : (w k * n + 0 + c) / 18446744073709551616 < 18446744073709551616 := Nat.div_lt_of_lt_mul (by omega)
        have hdm := Nat.mod_add_div (w k * n + 0 + c) 18446744073709551616
        have hlt : (w k * n + 0 + c) % 18446744073709551616 < 18446744073709551616 := Nat.mod_lt _ (by decide)
        obtain ⟨a, ha⟩ : ∃ a, a = (w k * n + 0 + c) % 18446744073709551616 := ⟨_, rfl⟩
        obtain ⟨b, hb⟩ : ∃ b, b = (w k * n + 0 + c) / 18446744073709551616 := ⟨_, rfl⟩
        rw [← ha] at rh hdm hlt
        rw [← hb] at h2 hq9 hdm
        refine ⟨_, _, rh, by omega, H, putW o k a, b, rfl, (hk2 1 (by omega) (by omega)).trans g1, h2, (hk2 3 (by omega) (by omega)).trans g3, (hk2 6 (by omega) (by omega)).trans g6, (hk2 8 (by omega) (by omega)).trans g8, h10, ?_, ?_, ?_, hq9, putW_lt ho hlt, ?_⟩
        · rw [List.getElem?_set_ne (by omega)]; exact gp
        · rw [List.getElem?_set_ne (by omega)]; exact gr
        · rw [List.getElem?_set_self (lt_of_at gs)]
        · have e1 : vN (putW o k a) k = vN o k := vN_put (Nat.le_refl k)
          have e2 : putW o k a k = a := by unfold putW; rw [if_pos rfl]
          rw [vN, vN, e1, e2, Nat.pow_succ]
          exact mwo_num hs hdm)
  obtain ⟨x, T', m', hlp, rfl, G, o, c, rfl, g2, g6, g8, gr, gs, ho, hs⟩ := hloop 8 0 nf (lst C 27) M (by omega) (by omega) ⟨C, fun _ => 0, c0, rfl, (kc 1 (by omega)).trans a1, (kc 2 (by omega)).trans a2, (kc 3 (by omega)).trans a3, (kc 6 (by omega)).trans a6, (ck 8 (by omega)).trans b8, c10, hp, hr, hq, hc0, fun _ => (by show 0 < 18446744073709551616; decide), by simp [vN]⟩
  have st := store24 (w := o) gr (rowOf_length _)
  obtain ⟨H, rh, h6, h7⟩ := mwo_7 (self := self) (nf := nf) (m := m') g2 g6 g8 (load24 gs) st
  have ld2 : aload E.P 24 (.pointer (some ⟨m.length + 1, 0, none⟩)) (m'.set (m.length + 1) (.row false 24 (rowOf o))) = some (wide o) := load24 (by rw [List.getElem?_set_self (lt_of_at gr)])
  refine ⟨o, c, m'.set (m.length + 1) (.row false 24 (rowOf o)), hs, ho, ?_⟩
  clear hs ho
  generalize m'.set (m.length + 1) (.row false 24 (rowOf o)) = M2 at *
  generalize Code.region 0 rmwo_0 false = C0 at *
  generalize Code.region 1 rmwo_1 false = C1 at *
  generalize Code.region 2 rmwo_2 false = C2 at *
  generalize Code.region 7 rmwo_7 false = C7 at *
  simp only [acodeN, ra, rb, rc, hlp, rh, finish, ares, aresL, ares1, Tryd.f18, ev, nth_lst, Nat.reduceLT, if_true, h6, h7, ld2, Option.map_some]
end
def CMw (self : Self) : Prop := ∀ x n c, x < W8 → n < 18446744073709551616 → c < 18446744073709551616 → Ans self 18 [wd x, U n, U c] (.tuple ⟨[wd ((x * n + c) % W8), U ((x * n + c) / W8)]⟩)
theorem kMw {R : Nat → Self} {K : List Fact} (hR : Runs R K) (hK : NoL K) {n : Nat} (hK2 : hasF K 18 = false) (hn : 1003 ≤ n) : CMw (R n) := by
  obtain ⟨j, rfl⟩ : ∃ j, n = j + 1 := ⟨n - 1, by omega⟩
  intro x y c hx hy hc
  refine ans_of rfl (by kernel_rfl) rfl fun m => ?_
  obtain ⟨o, c', m', hs, ho, h⟩ := mwo_body (self := R j) (nf := j + 1) (m := m) (kMs hR hK (by omega)) (wN_lt x) hy hc (by omega)
  rw [vN_wN8 hx] at hs
  have hl := vN_lt ho 8
  change _ < W8 at hl
  have e1 : (x * y + c) % W8 = vN o 8 := by rw [← hs, Nat.add_mul_mod_self_left, Nat.mod_eq_of_lt hl]
  have e2 : (x * y + c) / W8 = c' := by rw [← hs, Nat.add_mul_div_left _ _ W8_pos, Nat.div_eq_of_lt hl, Nat.zero_add]
  rw [e1, e2, ← wide_num ho]
  exact ⟨m', hR.b hK2 h⟩
end Go.Am.Seat
namespace Go.Am.Seat
open Go.Proofs Go.Am Go.Am.Num Go.Am.Kn
theorem oisn_0 : risn_0.toList = [⟨some 2, .assign (.const (.bool false)), 4, "limb.go:70", #[], none⟩] := rfl
theorem oisn_1 : risn_1.toList = [⟨some 4, .move (.tmp 0), 9, "limb.go:71", #[], none⟩, ⟨some 5, .binOp .eql 9 (.tmp 4) (.const (.string { data := #[] })) 9, 4, "limb.go:71", #[eD 0], none⟩, ⟨some 6, .move (.tmp 5), 4, "limb.go:71", #[eD 1], none⟩, ⟨some 7, .move (.tmp 0), 9, "limb.go:71", #[eGuard 2], some (2, false)⟩, ⟨some 8, .call { callee := .builtin .len, args := #[.tmp 7], argTypes := #[9] }, 3, "limb.go:71", #[eD 3, eGuard 2], some (2, false)⟩, ⟨some 9, .binOp .gtr 3 (.tmp 8) (.const (.int .i64 1)) 3, 4, "limb.go:71", #[eD 4, eGuard 2], some (2, false)⟩, ⟨some 10, .move (.tmp 9), 4, "limb.go:71", #[eD 5, eC 2, eGuard 2], some (2, false)⟩, ⟨some 11, .move (.tmp 0), 9, "limb.go:71", #[eGuard 6], some (6, true)⟩, ⟨some 12, .index 9 (.tmp 11) (.const (.int .i64 0)), 5, "limb.go:71", #[eD 7, eGuard 6], some (6, true)⟩, ⟨some 13, .binOp .eql 5 (.tmp 12) (.const (.int .u8 48)) 5, 4, "limb.go:71", #[eD 8, eGuard 6], some (6, true)⟩, ⟨some 14, .pick (.tmp 10) (.tmp 13) (.const (.bool false)), 4, "limb.go:71", #[eD 6, eD 9, eGuard 2], some (2, false)⟩, ⟨some 15, .pick (.tmp 6) (.const (.bool true)) (.tmp 14), 4, "limb.go:71", #[eD 2, eD 10], none⟩] := rfl
theorem oisn_2 : risn_2.toList = [⟨some 2, .assign (.const (.bool false)), 4, "limb.go:72", #[], none⟩] := rfl
theorem oisn_3 : risn_3.toList = [⟨some 16, .move (.tmp 0), 9, "limb.go:74", #[], none⟩, ⟨some 17, .call { callee := .builtin .len, args := #[.tmp 16], argTypes := #[9] }, 3, "limb.go:74", #[eD 0], none⟩, ⟨some 18, .move (.const (.int .i64 0)), 3, "limb.go:74", #[], none⟩] := rfl
theorem oisn_4 : risn_4.toList = [⟨some 19, .binOp .lss 3 (.tmp 18) (.tmp 17) 3, 4, "limb.go:74", #[], none⟩] := rfl
theorem oisn_5 : risn_5.toList = [⟨some 20, .move (.tmp 18), 3, "limb.go:74", #[], none⟩, ⟨some 3, .assign (.tmp 20), 3, "limb.go:74", #[eD 0, eP 0], none⟩] := rfl
theorem oisn_6 : risn_6.toList = [⟨some 21, .move (.tmp 0), 9, "limb.go:75", #[], none⟩, ⟨some 22, .move (.tmp 3), 3, "limb.go:75", #[], none⟩, ⟨some 23, .index 9 (.tmp 21) (.tmp 22), 5, "limb.go:75", #[eD 0, eD 1], none⟩, ⟨some 24, .binOp .lss 5 (.tmp 23) (.const (.int .u8 48)) 5, 4, "limb.go:75", #[eD 2], none⟩, ⟨some 25, .move (.tmp 24), 4, "limb.go:75", #[eD 3], none⟩, ⟨some 26, .move (.tmp 0), 9, "limb.go:75", #[eGuard 4], some (4, false)⟩, ⟨some 27, .move (.tmp 3), 3, "limb.go:75", #[eGuard 4], some (4, false)⟩, ⟨some 28, .index 9 (.tmp 26) (.tmp 27), 5, "limb.go:75", #[eD 5, eD 6, eGuard 4], some (4, false)⟩, ⟨some 29, .binOp .gtr 5 (.tmp 28) (.const (.int .u8 57)) 5, 4, "limb.go:75", #[eD 7, eGuard 4], some (4, false)⟩, ⟨some 30, .pick (.tmp 25) (.const (.bool true)) (.tmp 29), 4, "limb.go:75", #[eD 4, eD 8], none⟩] := rfl
theorem oisn_7 : risn_7.toList = [⟨some 2, .assign (.const (.bool false)), 4, "limb.go:76", #[], none⟩] := rfl
theorem oisn_8 : risn_8.toList = [⟨some 31, .binOp .add 3 (.tmp 18) (.const (.int .i64 1)) 3, 3, "limb.go:74", #[], none⟩, ⟨some 18, .move (.tmp 31), 3, "limb.go:74", #[eD 0], none⟩] := rfl
theorem oisn_9 : risn_9.toList = [⟨some 2, .assign (.const (.bool true)), 4, "limb.go:79", #[], none⟩] := rfl
theorem lssU8' (a b : Int) : abin .lss .u8 a .u8 b = some (.bool (decide (a < b))) := by kernel_rfl
theorem gtrU8' (a b : Int) : abin .gtr .u8 a .u8 b = some (.bool (decide (a > b))) := by kernel_rfl
theorem str_empty (s : ByteArray) : (s.toList == (⟨#[]⟩ : ByteArray).toList) = decide (s.data.toList.length = 0) := by
  rw [ByteArray.toList_eq, ByteArray.toList_eq, Bool.eq_iff_iff, beq_iff_eq, decide_eq_true_eq, List.length_eq_zero_iff]
section
variable {self : Self} {nf : Nat} {m : Mem} {F : Nat → Value} {s : ByteArray} {k : Nat}
theorem isn_1 {b : Bool} (h0 : F 0 = .string s) (hb : (decide (s.data.toList.length = 0) || (decide (1 < s.data.toList.length) && decide ((natsOf s).head? = some 48))) = b) :
    ∃ F', acodeN E self nf (.region 1 risn_1 false) (lst F 32) m = some (.normal, lst F' 32, m) ∧ F' 15 = .bool b ∧ F' 0 = .string s := by
  have e0 := str_empty s
  by_cases l0 : s.data.toList.length = 0
  · rw [decide_eq_true l0] at e0
    rw [decide_eq_true l0, Bool.true_or] at hb
    subst hb
    simp only [oisn_1, gisn_1_2, gisn_1_6, agd_none, gdAt, gdV_bool, gdV_undef, List.append_eq, List.cons_append, List.nil_append, apure_call1, apure_call2, apure_call3, bft, btf, acodeN, List.getElem?_toArray, List.getElem?_cons_zero, List.getElem?_cons_succ, aopsN, adrawT, cls, astep, aop, afloat, ev, nth_lst, get_lst, aput, setAt_lst, upd_at, init_zero, init_succ, init_nil, Nat.reduceLT, Nat.reduceEqDiff, reduceIte, len_N, abuiltin_app, Option.map_some, Option.map_none, orElse_some, apure_add, apure_eqlV, eqlVal_str, eqlVal_bool, eqlVal_ptr, eqlVal_slice, eqlVal_wide, eqlVal_int, allT, ↓aop_eqlV, apure_neq, List.map_cons, List.map_nil, List.all_cons, List.all_nil, lit2, lit1, lit0, List.isEmpty_nil, bls, Bool.false_eq_true, if_true, if_false, List.length_map, beq_self_eq_true, uns, h0, e0]
    exact ⟨_, rfl, by simp only [upd_at, Nat.reduceEqDiff, reduceIte], by simp only [upd_at, Nat.reduceEqDiff, reduceIte, h0]⟩
  · rw [decide_eq_false l0] at e0
    by_cases l1 : 1 < s.data.toList.length
    · have q1 : decide (((s.data.toList.length : Nat) : Int) > 1) = true := decide_eq_true (by omega)
      have hx : s.data.toList[0]? = some (s.data.toList[0]'(by omega)) := by simp [show 0 < s.data.toList.length by omega]
      have hn : (natsOf s)[0]? = some (s.data.toList[0]'(by omega)).toNat := by unfold natsOf; rw [List.getElem?_map, hx]; rfl
      generalize s.data.toList[0]'(by omega) = ch at hx hn
      have hi9 := index9 hx
      rw [show (((0 : Nat) : Int)) = 0 from rfl] at hi9
      rw [decide_eq_false l0, decide_eq_true l1, head_at, hn] at hb
      by_cases hc : ch.toNat = 48
      · have q2 : (((ch.toNat : Nat) : Int) == 48) = true := by rw [hc]; rfl
        rw [hc] at hb
        have hb : b = true := by rw [← hb]; simp
        subst hb
        simp only [oisn_1, gisn_1_2, gisn_1_6, agd_none, gdAt, gdV_bool, gdV_undef, List.append_eq, List.cons_append, List.nil_append, apure_call1, apure_call2, apure_call3, bft, btf, acodeN, List.getElem?_toArray, List.getElem?_cons_zero, List.getElem?_cons_succ, aopsN, adrawT, cls, astep, aop, afloat, ev, nth_lst, get_lst, aput, setAt_lst, upd_at, init_zero, init_succ, init_nil, Nat.reduceLT, Nat.reduceEqDiff, reduceIte, len_N, abuiltin_app, Option.map_some, Option.map_none, orElse_some, apure_add, apure_eqlV, eqlVal_str, eqlVal_bool, eqlVal_ptr, eqlVal_slice, eqlVal_wide, eqlVal_int, allT, ↓aop_eqlV, apure_neq, List.map_cons, List.map_nil, List.all_cons, List.all_nil, lit2, lit1, lit0, List.isEmpty_nil, bls, Bool.false_eq_true, if_true, if_false, List.length_map, beq_self_eq_true, uns, h0, e0, len_S, alen, gtr64', q1, hi9, eqlU8, q2]
        exact ⟨_, rfl, by simp only [upd_at, Nat.reduceEqDiff, reduceIte], by simp only [upd_at, Nat.reduceEqDiff, reduceIte, h0]⟩
      · have q2 : (((ch.toNat : Nat) : Int) == 48) = false := by
          have : ((ch.toNat : Nat) : Int) ≠ 48 := by omega
          simpa using this
        have hb : b = false := by rw [← hb]; simpa using hc
        subst hb
        simp only [oisn_1, gisn_1_2, gisn_1_6, agd_none, gdAt, gdV_bool, gdV_undef, List.append_eq, List.cons_append, List.nil_append, apure_call1, apure_call2, apure_call3, bft, btf, acodeN, List.getElem?_toArray, List.getElem?_cons_zero, List.getElem?_cons_succ, aopsN, adrawT, cls, astep, aop, afloat, ev, nth_lst, get_lst, aput, setAt_lst, upd_at, init_zero, init_succ, init_nil, Nat.reduceLT, Nat.reduceEqDiff, reduceIte, len_N, abuiltin_app, Option.map_some, Option.map_none, orElse_some, apure_add, apure_eqlV, eqlVal_str, eqlVal_bool, eqlVal_ptr, eqlVal_slice, eqlVal_wide, eqlVal_int, allT, ↓aop_eqlV, apure_neq, List.map_cons, List.map_nil, List.all_cons, List.all_nil, lit2, lit1, lit0, List.isEmpty_nil, bls, Bool.false_eq_true, if_true, if_false, List.length_map, beq_self_eq_true, uns, h0, e0, len_S, alen, gtr64', q1, hi9, eqlU8, q2]
        exact ⟨_, rfl, by simp only [upd_at, Nat.reduceEqDiff, reduceIte], by simp only [upd_at, Nat.reduceEqDiff, reduceIte, h0]⟩
    · have q1 : decide (((s.data.toList.length : Nat) : Int) > 1) = false := decide_eq_false (by omega)
      have hb : b = false := by rw [← hb, decide_eq_false l0, decide_eq_false l1]; rfl
      subst hb
      simp only [oisn_1, gisn_1_2, gisn_1_6, agd_none, gdAt, gdV_bool, gdV_undef, List.append_eq, List.cons_append, List.nil_append, apure_call1, apure_call2, apure_call3, bft, btf, acodeN, List.getElem?_toArray, List.getElem?_cons_zero, List.getElem?_cons_succ, aopsN, adrawT, cls, astep, aop, afloat, ev, nth_lst, get_lst, aput, setAt_lst, upd_at, init_zero, init_succ, init_nil, Nat.reduceLT, Nat.reduceEqDiff, reduceIte, len_N, abuiltin_app, Option.map_some, Option.map_none, orElse_some, apure_add, apure_eqlV, eqlVal_str, eqlVal_bool, eqlVal_ptr, eqlVal_slice, eqlVal_wide, eqlVal_int, allT, ↓aop_eqlV, apure_neq, List.map_cons, List.map_nil, List.all_cons, List.all_nil, lit2, lit1, lit0, List.isEmpty_nil, bls, Bool.false_eq_true, if_true, if_false, List.length_map, beq_self_eq_true, uns, h0, e0, len_S, alen, gtr64', q1]
      exact ⟨_, rfl, by simp only [upd_at, Nat.reduceEqDiff, reduceIte], by simp only [upd_at, Nat.reduceEqDiff, reduceIte, h0]⟩
theorem isn_0 : ∃ F', acodeN E self nf (.region 0 risn_0 false) (lst F 32) m = some (.normal, lst F' 32, m) ∧ F' 0 = F 0 := by
  simp only [oisn_0, agd_none, gdAt, gdV_bool, gdV_undef, List.append_eq, List.cons_append, List.nil_append, apure_call1, apure_call2, apure_call3, bft, btf, acodeN, List.getElem?_toArray, List.getElem?_cons_zero, List.getElem?_cons_succ, aopsN, adrawT, cls, astep, aop, afloat, ev, nth_lst, get_lst, aput, setAt_lst, upd_at, init_zero, init_succ, init_nil, Nat.reduceLT, Nat.reduceEqDiff, reduceIte, abuiltin, alen, Option.map_some, Option.map_none, orElse_some, apure_add, apure_eqlV, eqlVal_str, eqlVal_bool, eqlVal_ptr, eqlVal_slice, eqlVal_wide, eqlVal_int, allT, ↓aop_eqlV, apure_neq, List.map_cons, List.map_nil, List.all_cons, List.all_nil, lit2, lit1, lit0, List.isEmpty_nil, bls, Bool.false_eq_true, if_true, if_false, List.length_map, beq_self_eq_true, uns]
  exact ⟨_, rfl, by simp only [upd_at, Nat.reduceEqDiff, reduceIte]⟩
theorem isn_2 : ∃ F', acodeN E self nf (.region 2 risn_2 false) (lst F 32) m = some (.normal, lst F' 32, m) ∧ F' 2 = .bool false := by
  simp only [oisn_2, agd_none, gdAt, gdV_bool, gdV_undef, List.append_eq, List.cons_append, List.nil_append, apure_call1, apure_call2, apure_call3, bft, btf, acodeN, List.getElem?_toArray, List.getElem?_cons_zero, List.getElem?_cons_succ, aopsN, adrawT, cls, astep, aop, afloat, ev, nth_lst, get_lst, aput, setAt_lst, upd_at, init_zero, init_succ, init_nil, Nat.reduceLT, Nat.reduceEqDiff, reduceIte, abuiltin, alen, Option.map_some, Option.map_none, orElse_some, apure_add, apure_eqlV, eqlVal_str, eqlVal_bool, eqlVal_ptr, eqlVal_slice, eqlVal_wide, eqlVal_int, allT, ↓aop_eqlV, apure_neq, List.map_cons, List.map_nil, List.all_cons, List.all_nil, lit2, lit1, lit0, List.isEmpty_nil, bls, Bool.false_eq_true, if_true, if_false, List.length_map, beq_self_eq_true, uns]
  exact ⟨_, rfl, by simp only [upd_at, Nat.reduceEqDiff, reduceIte]⟩
theorem isn_3 (h0 : F 0 = .string s) : ∃ F', acodeN E self nf (.region 3 risn_3 false) (lst F 32) m = some (.normal, lst F' 32, m) ∧ F' 17 = .int .i64 ((s.data.toList.length : Nat) : Int) ∧ F' 18 = .int .i64 ((0 : Nat) : Int) ∧ F' 0 = .string s := by
  simp only [oisn_3, agd_none, gdAt, gdV_bool, gdV_undef, List.append_eq, List.cons_append, List.nil_append, apure_call1, apure_call2, apure_call3, bft, btf, acodeN, List.getElem?_toArray, List.getElem?_cons_zero, List.getElem?_cons_succ, aopsN, adrawT, cls, astep, aop, afloat, ev, nth_lst, get_lst, aput, setAt_lst, upd_at, init_zero, init_succ, init_nil, Nat.reduceLT, Nat.reduceEqDiff, reduceIte, len_N, abuiltin_app, Option.map_some, Option.map_none, orElse_some, apure_add, apure_eqlV, eqlVal_str, eqlVal_bool, eqlVal_ptr, eqlVal_slice, eqlVal_wide, eqlVal_int, allT, ↓aop_eqlV, apure_neq, List.map_cons, List.map_nil, List.all_cons, List.all_nil, lit2, lit1, lit0, List.isEmpty_nil, bls, Bool.false_eq_true, if_true, if_false, List.length_map, beq_self_eq_true, uns, h0, len_S, alen]
  exact ⟨_, rfl, by simp only [upd_at, Nat.reduceEqDiff, reduceIte], by simp only [upd_at, Nat.reduceEqDiff, reduceIte]; rfl, by simp only [upd_at, Nat.reduceEqDiff, reduceIte, h0]⟩
theorem isn_4 {n : Nat} {b : Bool} (h17 : F 17 = .int .i64 ((n : Nat) : Int)) (h18 : F 18 = .int .i64 ((k : Nat) : Int)) (hb : decide (((k : Nat) : Int) < ((n : Nat) : Int)) = b) : ∃ F', acodeN E self nf (.region 4 risn_4 false) (lst F 32) m = some (.normal, lst F' 32, m) ∧ F' 19 = .bool b ∧ ∀ j, j < 19 → F' j = F j := by
  simp only [oisn_4, agd_none, gdAt, gdV_bool, gdV_undef, List.append_eq, List.cons_append, List.nil_append, apure_call1, apure_call2, apure_call3, bft, btf, acodeN, List.getElem?_toArray, List.getElem?_cons_zero, List.getElem?_cons_succ, aopsN, adrawT, cls, astep, aop, afloat, ev, nth_lst, get_lst, aput, setAt_lst, upd_at, init_zero, init_succ, init_nil, Nat.reduceLT, Nat.reduceEqDiff, reduceIte, abuiltin, alen, Option.map_some, Option.map_none, orElse_some, apure_add, apure_eqlV, eqlVal_str, eqlVal_bool, eqlVal_ptr, eqlVal_slice, eqlVal_wide, eqlVal_int, allT, ↓aop_eqlV, apure_neq, List.map_cons, List.map_nil, List.all_cons, List.all_nil, lit2, lit1, lit0, List.isEmpty_nil, bls, Bool.false_eq_true, if_true, if_false, List.length_map, beq_self_eq_true, uns, h17, h18, lss64, hb]
  exact ⟨_, rfl, by simp only [upd_at, Nat.reduceEqDiff, reduceIte], fun j h1 => by repeat rw [upd_ne (by omega)]⟩
theorem isn_5 (h18 : F 18 = .int .i64 ((k : Nat) : Int)) : ∃ F', acodeN E self nf (.region 5 risn_5 false) (lst F 32) m = some (.normal, lst F' 32, m) ∧ F' 3 = .int .i64 ((k : Nat) : Int) ∧ ∀ j, j ≠ 3 → j < 19 → F' j = F j := by
  simp only [oisn_5, agd_none, gdAt, gdV_bool, gdV_undef, List.append_eq, List.cons_append, List.nil_append, apure_call1, apure_call2, apure_call3, bft, btf, acodeN, List.getElem?_toArray, List.getElem?_cons_zero, List.getElem?_cons_succ, aopsN, adrawT, cls, astep, aop, afloat, ev, nth_lst, get_lst, aput, setAt_lst, upd_at, init_zero, init_succ, init_nil, Nat.reduceLT, Nat.reduceEqDiff, reduceIte, abuiltin, alen, Option.map_some, Option.map_none, orElse_some, apure_add, apure_eqlV, eqlVal_str, eqlVal_bool, eqlVal_ptr, eqlVal_slice, eqlVal_wide, eqlVal_int, allT, ↓aop_eqlV, apure_neq, List.map_cons, List.map_nil, List.all_cons, List.all_nil, lit2, lit1, lit0, List.isEmpty_nil, bls, Bool.false_eq_true, if_true, if_false, List.length_map, beq_self_eq_true, uns, h18]
  exact ⟨_, rfl, by simp only [upd_at, Nat.reduceEqDiff, reduceIte], fun j h1 h2 => by repeat rw [upd_ne (by omega)]⟩
theorem isn_6 {c : Nat} {b : Bool} {ch : UInt8} (h0 : F 0 = .string s) (h3 : F 3 = .int .i64 ((k : Nat) : Int)) (hx : s.data.toList[k]? = some ch) (hb : (!decide (48 ≤ ch.toNat ∧ ch.toNat ≤ 57)) = b) : ∃ F', acodeN E self nf (.region 6 risn_6 false) (lst F 32) m = some (.normal, lst F' 32, m) ∧ F' 30 = .bool b ∧ ∀ j, j < 19 → F' j = F j := by
  have hi9 := index9 hx
  by_cases h1 : ch.toNat < 48
  · have q1 : decide (((ch.toNat : Nat) : Int) < 48) = true := decide_eq_true (by omega)
    have hb : b = true := by rw [← hb, decide_eq_false (by omega)]; rfl
    subst hb
    simp only [oisn_6, gisn_6_4, agd_none, gdAt, gdV_bool, gdV_undef, List.append_eq, List.cons_append, List.nil_append, apure_call1, apure_call2, apure_call3, bft, btf, acodeN, List.getElem?_toArray, List.getElem?_cons_zero, List.getElem?_cons_succ, aopsN, adrawT, cls, astep, aop, afloat, ev, nth_lst, get_lst, aput, setAt_lst, upd_at, init_zero, init_succ, init_nil, Nat.reduceLT, Nat.reduceEqDiff, reduceIte, abuiltin, alen, Option.map_some, Option.map_none, orElse_some, apure_add, apure_eqlV, eqlVal_str, eqlVal_bool, eqlVal_ptr, eqlVal_slice, eqlVal_wide, eqlVal_int, allT, ↓aop_eqlV, apure_neq, List.map_cons, List.map_nil, List.all_cons, List.all_nil, lit2, lit1, lit0, List.isEmpty_nil, bls, Bool.false_eq_true, if_true, if_false, List.length_map, beq_self_eq_true, uns, h0, h3, hi9, lssU8', q1]
    exact ⟨_, rfl, by simp only [upd_at, Nat.reduceEqDiff, reduceIte], fun j h1 => by repeat rw [upd_ne (by omega)]⟩
  · have q1 : decide (((ch.toNat : Nat) : Int) < 48) = false := decide_eq_false (by omega)
    have q2 : decide (((ch.toNat : Nat) : Int) > 57) = b := by
      rw [← hb]
      by_cases h2 : ch.toNat ≤ 57
      · rw [decide_eq_false (by omega), decide_eq_true (show 48 ≤ ch.toNat ∧ ch.toNat ≤ 57 by omega)]; rfl
      · rw [decide_eq_true (by omega), decide_eq_false (show ¬(48 ≤ ch.toNat ∧ ch.toNat ≤ 57) by omega)]; rfl
    simp only [oisn_6, gisn_6_4, agd_none, gdAt, gdV_bool, gdV_undef, List.append_eq, List.cons_append, List.nil_append, apure_call1, apure_call2, apure_call3, bft, btf, acodeN, List.getElem?_toArray, List.getElem?_cons_zero, List.getElem?_cons_succ, aopsN, adrawT, cls, astep, aop, afloat, ev, nth_lst, get_lst, aput, setAt_lst, upd_at, init_zero, init_succ, init_nil, Nat.reduceLT, Nat.reduceEqDiff, reduceIte, abuiltin, alen, Option.map_some, Option.map_none, orElse_some, apure_add, apure_eqlV, eqlVal_str, eqlVal_bool, eqlVal_ptr, eqlVal_slice, eqlVal_wide, eqlVal_int, allT, ↓aop_eqlV, apure_neq, List.map_cons, List.map_nil, List.all_cons, List.all_nil, lit2, lit1, lit0, List.isEmpty_nil, bls, Bool.false_eq_true, if_true, if_false, List.length_map, beq_self_eq_true, uns, h0, h3, hi9, lssU8', q1, gtrU8', q2]
    exact ⟨_, rfl, by simp only [upd_at, Nat.reduceEqDiff, reduceIte], fun j h1 => by repeat rw [upd_ne (by omega)]⟩
theorem isn_7 : ∃ F', acodeN E self nf (.region 7 risn_7 false) (lst F 32) m = some (.normal, lst F' 32, m) ∧ F' 2 = .bool false := by
  simp only [oisn_7, agd_none, gdAt, gdV_bool, gdV_undef, List.append_eq, List.cons_append, List.nil_append, apure_call1, apure_call2, apure_call3, bft, btf, acodeN, List.getElem?_toArray, List.getElem?_cons_zero, List.getElem?_cons_succ, aopsN, adrawT, cls, astep, aop, afloat, ev, nth_lst, get_lst, aput, setAt_lst, upd_at, init_zero, init_succ, init_nil, Nat.reduceLT, Nat.reduceEqDiff, reduceIte, abuiltin, alen, Option.map_some, Option.map_none, orElse_some, apure_add, apure_eqlV, eqlVal_str, eqlVal_bool, eqlVal_ptr, eqlVal_slice, eqlVal_wide, eqlVal_int, allT, ↓aop_eqlV, apure_neq, List.map_cons, List.map_nil, List.all_cons, List.all_nil, lit2, lit1, lit0, List.isEmpty_nil, bls, Bool.false_eq_true, if_true, if_false, List.length_map, beq_self_eq_true, uns]
  exact ⟨_, rfl, by simp only [upd_at, Nat.reduceEqDiff, reduceIte]⟩
theorem isn_8 (h18 : F 18 = .int .i64 ((k : Nat) : Int)) (hk : k < 100000) : ∃ F', acodeN E self nf (.region 8 risn_8 false) (lst F 32) m = some (.normal, lst F' 32, m) ∧ F' 18 = .int .i64 ((k + 1 : Nat) : Int) ∧ ∀ j, j < 18 → F' j = F j := by
  have e : wrapF .i64 (((k : Nat) : Int) + 1) = ((k + 1 : Nat) : Int) := by rw [wrap_i64 (by omega) (by omega)]; omega
  simp only [oisn_8, agd_none, gdAt, gdV_bool, gdV_undef, List.append_eq, List.cons_append, List.nil_append, apure_call1, apure_call2, apure_call3, bft, btf, acodeN, List.getElem?_toArray, List.getElem?_cons_zero, List.getElem?_cons_succ, aopsN, adrawT, cls, astep, aop, afloat, ev, nth_lst, get_lst, aput, setAt_lst, upd_at, init_zero, init_succ, init_nil, Nat.reduceLT, Nat.reduceEqDiff, reduceIte, abuiltin, alen, Option.map_some, Option.map_none, orElse_some, apure_add, apure_eqlV, eqlVal_str, eqlVal_bool, eqlVal_ptr, eqlVal_slice, eqlVal_wide, eqlVal_int, allT, ↓aop_eqlV, apure_neq, List.map_cons, List.map_nil, List.all_cons, List.all_nil, lit2, lit1, lit0, List.isEmpty_nil, bls, Bool.false_eq_true, if_true, if_false, List.length_map, beq_self_eq_true, uns, h18, add64', e]
  exact ⟨_, rfl, by simp only [upd_at, Nat.reduceEqDiff, reduceIte], fun j h1 => by repeat rw [upd_ne (by omega)]⟩
theorem isn_9 : ∃ F', acodeN E self nf (.region 9 risn_9 false) (lst F 32) m = some (.normal, lst F' 32, m) ∧ F' 2 = .bool true := by
  simp only [oisn_9, agd_none, gdAt, gdV_bool, gdV_undef, List.append_eq, List.cons_append, List.nil_append, apure_call1, apure_call2, apure_call3, bft, btf, acodeN, List.getElem?_toArray, List.getElem?_cons_zero, List.getElem?_cons_succ, aopsN, adrawT, cls, astep, aop, afloat, ev, nth_lst, get_lst, aput, setAt_lst, upd_at, init_zero, init_succ, init_nil, Nat.reduceLT, Nat.reduceEqDiff, reduceIte, abuiltin, alen, Option.map_some, Option.map_none, orElse_some, apure_add, apure_eqlV, eqlVal_str, eqlVal_bool, eqlVal_ptr, eqlVal_slice, eqlVal_wide, eqlVal_int, allT, ↓aop_eqlV, apure_neq, List.map_cons, List.map_nil, List.all_cons, List.all_nil, lit2, lit1, lit0, List.isEmpty_nil, bls, Bool.false_eq_true, if_true, if_false, List.length_map, beq_self_eq_true, uns]
  exact ⟨_, rfl, by simp only [upd_at, Nat.reduceEqDiff, reduceIte]⟩
def isDig (c : Nat) : Bool := decide (48 ≤ c ∧ c ≤ 57)
theorem isn_loop (hs : s.data.toList.length ≤ 390) (hnf : 1000 < nf) (h0 : F 0 = .string s) (h17 : F 17 = .int .i64 ((s.data.toList.length : Nat) : Int)) (h18 : F 18 = .int .i64 ((0 : Nat) : Int)) :
    ∃ e F', aloop (acodeN E self nf lpisn_0) nf (lst F 32) m = some (e, lst F' 32, m) ∧ ((e = .exit 0 ∧ digitsOk (natsOf s) = true) ∨ (e = .ret ∧ digitsOk (natsOf s) = false ∧ F' 2 = .bool false)) := by
  have hnl := natsOf_len s
  have hloop := aloop_inv (body := acodeN E self nf lpisn_0) (N := s.data.toList.length)
    (I := fun k T m' => m' = m ∧ (∀ j c, j < k → (natsOf s)[j]? = some c → isDig c = true) ∧ ∃ G, T = lst G 32 ∧ G 0 = .string s ∧ G 17 = .int .i64 ((s.data.toList.length : Nat) : Int) ∧ G 18 = .int .i64 ((k : Nat) : Int))
    (Q := fun e T m' => m' = m ∧ ∃ G, T = lst G 32 ∧ ((e = .exit 0 ∧ digitsOk (natsOf s) = true) ∨ (e = .ret ∧ digitsOk (natsOf s) = false ∧ G 2 = .bool false))) (fun k T m' hk hI => by
      obtain ⟨rfl, hd, G, rfl, g0, g17, g18⟩ := hI
      by_cases h1 : k = s.data.toList.length
      · right
        obtain ⟨A, ra, a19, ak⟩ := isn_4 (self := self) (nf := nf) (m := m') g17 g18 (b := false) (decide_eq_false (by omega))
        refine ⟨.exit 0, _, _, ?_, by simp, rfl, A, rfl, .inl ⟨rfl, ?_⟩⟩
        · rw [lpisn_0_eq]
          generalize Code.region 4 risn_4 false = C4 at *
          simp only [acodeN, ra, ev, nth_lst, Nat.reduceLT, if_true, a19]
        · unfold digitsOk
          rw [List.all_eq_true]
          intro c hc
          obtain ⟨j, hj⟩ := List.getElem?_of_mem hc
          exact hd j c (by have := (List.getElem?_eq_some_iff.1 hj).1; omega) hj
      · have hk2 : k < s.data.toList.length := by omega
        have hx : s.data.toList[k]? = some (s.data.toList[k]'hk2) := by simp [hk2]
        have hn : (natsOf s)[k]? = some (s.data.toList[k]'hk2).toNat := by unfold natsOf; rw [List.getElem?_map, hx]; rfl
        generalize s.data.toList[k]'hk2 = ch at hx hn
        obtain ⟨A, ra, a19, ak⟩ := isn_4 (self := self) (nf := nf) (m := m') g17 g18 (b := true) (decide_eq_true (by omega))
        obtain ⟨B, rb, b3, bk⟩ := isn_5 (self := self) (nf := nf) (m := m') ((ak 18 (by omega)).trans g18)
        obtain ⟨C, rc, c30, ck⟩ := isn_6 (self := self) (nf := nf) (m := m') (c := 0) (b := !isDig ch.toNat) ((bk 0 (by omega) (by omega)).trans ((ak 0 (by omega)).trans g0)) b3 hx rfl
        by_cases hg : isDig ch.toNat = true
        · left
          rw [hg] at c30
          obtain ⟨D, rd, d18, dk⟩ := isn_8 (self := self) (nf := nf) (m := m') ((ck 18 (by omega)).trans ((bk 18 (by omega) (by omega)).trans ((ak 18 (by omega)).trans g18))) (by omega)
          have kd : ∀ j, j ≠ 3 → j < 18 → D j = G j := fun j h1 h2 => (dk j h2).trans ((ck j (by omega)).trans ((bk j h1 (by omega)).trans (ak j (by omega))))
          refine ⟨_, _, ?_, hk2, rfl, ?_, D, rfl, (kd 0 (by omega) (by omega)).trans g0, (kd 17 (by omega) (by omega)).trans g17, d18⟩
          · rw [lpisn_0_eq]
            generalize Code.region 4 risn_4 false = C4 at *
            generalize Code.region 5 risn_5 false = C5 at *
            generalize Code.region 6 risn_6 false = C6 at *
            generalize Code.region 8 risn_8 false = C8 at *
            simp only [acodeN, ra, rb, rc, rd, ev, nth_lst, Nat.reduceLT, if_true, a19, c30, Bool.not_true]
          · intro j c hj hc
            by_cases hjk : j = k
            · subst hjk
              rw [hn] at hc
              cases hc
              exact hg
            · exact hd j c (by omega) hc
        · right
          have hg2 : isDig ch.toNat = false := by simpa using hg
          rw [hg2] at c30
          obtain ⟨D, rd, d2⟩ := isn_7 (self := self) (nf := nf) (m := m') (F := C)
          refine ⟨.ret, _, _, ?_, by simp, rfl, D, rfl, .inr ⟨rfl, ?_, d2⟩⟩
          · rw [lpisn_0_eq]
            generalize Code.region 4 risn_4 false = C4 at *
            generalize Code.region 5 risn_5 false = C5 at *
            generalize Code.region 6 risn_6 false = C6 at *
            generalize Code.region 7 risn_7 false = C7 at *
            simp only [acodeN, ra, rb, rc, rd, ev, nth_lst, Nat.reduceLT, if_true, a19, c30, Bool.not_false]
          · cases hv : digitsOk (natsOf s) with
            | false => rfl
            | true =>
              unfold digitsOk at hv
              rw [List.all_eq_true] at hv
              have := hv ch.toNat (List.mem_of_getElem? hn)
              unfold isDig at hg2
              rw [this] at hg2
              cases hg2)
  obtain ⟨e, T', m', hr, rfl, G, rfl, hq⟩ := hloop s.data.toList.length 0 nf (lst F 32) m (by omega) (by omega) ⟨rfl, fun j c h => by omega, F, rfl, h0, h17, h18⟩
  exact ⟨e, G, hr, hq⟩
theorem isn_body (hs : s.data.toList.length ≤ 390) (hnf : 1000 < nf) : abody E self nf 17 [.string s] m = some (.bool (decOk (natsOf s)), m) := by
  rw [abody_eqF (by kernel_rfl) Tryd.func17 bodyisn (by kernel_rfl) (Nat.le_of_ble_eq_true rfl)]
  rw [show Tryd.f17.ntmps = 32 from rfl]
  have hnl := natsOf_len s
  obtain ⟨A, ra, a0⟩ := isn_0 (self := self) (nf := nf) (m := m) (F := init [.string s])
  obtain ⟨b, hb⟩ : ∃ b, (decide (s.data.toList.length = 0) || (decide (1 < s.data.toList.length) && decide ((natsOf s).head? = some 48))) = b := ⟨_, rfl⟩
  obtain ⟨B, rb, b15, b0⟩ := isn_1 (self := self) (nf := nf) (m := m) (F := A) (s := s) a0 hb
  have hd : decOk (natsOf s) = (!b && digitsOk (natsOf s)) := by
    rw [← hb]
    unfold decOk
    rw [hnl]
    by_cases h : s.data.toList.length = 0
    · rw [decide_eq_true h, decide_eq_false (by simpa using h)]; simp
    · rw [decide_eq_false h, decide_eq_true h]; simp
  rw [hd]
  clear hd hb
  cases b with
  | true =>
    obtain ⟨C, rc, c2⟩ := isn_2 (self := self) (nf := nf) (m := m) (F := B)
    generalize Code.region 0 risn_0 false = C0 at *
    generalize Code.region 1 risn_1 false = C1 at *
    generalize Code.region 2 risn_2 false = C2 at *
    simp only [acodeN, ra, rb, rc, finish, ares, aresL, ares1, Tryd.f17, ev, nth_lst, Nat.reduceLT, if_true, b15, c2, Option.map_some, Bool.not_true, Bool.false_and]
  | false =>
    obtain ⟨C, rc, c17, c18, c0⟩ := isn_3 (self := self) (nf := nf) (m := m) (F := B) b0
    obtain ⟨e, D, rl, hq⟩ := isn_loop (self := self) (nf := nf) (m := m) hs hnf c0 c17 c18
    rcases hq with ⟨rfl, h1⟩ | ⟨rfl, h1, d2⟩
    · obtain ⟨G, rg, g2⟩ := isn_9 (self := self) (nf := nf) (m := m) (F := D)
      rw [h1]
      generalize Code.region 0 risn_0 false = C0 at *
      generalize Code.region 1 risn_1 false = C1 at *
      generalize Code.region 3 risn_3 false = C3 at *
      generalize Code.region 9 risn_9 false = C9 at *
      simp only [acodeN, ra, rb, rc, rl, rg, finish, ares, aresL, ares1, Tryd.f17, ev, nth_lst, Nat.reduceLT, if_true, b15, g2, Option.map_some, Bool.not_false, Bool.true_and]
    · rw [h1]
      generalize Code.region 0 risn_0 false = C0 at *
      generalize Code.region 1 risn_1 false = C1 at *
      generalize Code.region 3 risn_3 false = C3 at *
      simp only [acodeN, ra, rb, rc, rl, finish, ares, aresL, ares1, Tryd.f17, ev, nth_lst, Nat.reduceLT, if_true, b15, d2, Option.map_some, Bool.not_false, Bool.true_and]
end
def CIsn (self : Self) : Prop := ∀ s : ByteArray, s.data.toList.length ≤ 390 → Ans self 17 [.string s] (.bool (decOk (natsOf s)))
theorem kIsn {R : Nat → Self} {K : List Fact} (hR : Runs R K) {n : Nat} (hK : hasF K 17 = false) (hn : 1001 ≤ n) : CIsn (R n) := by
  obtain ⟨j, rfl⟩ : ∃ j, n = j + 1 := ⟨n - 1, by omega⟩
  exact fun s hs => ans_of rfl (by kernel_rfl) rfl fun m => ⟨_, hR.b hK (isn_body hs (by omega))⟩
end Go.Am.Seat
namespace Go.Am.Seat
open Go.Proofs Go.Am Go.Am.Num
set_option maxHeartbeats 4000000
-- ntmps 22
-- ntmps 13
-- ntmps 31
-- ntmps 13
-- ntmps 5
section
variable {self : Self} {nf : Nat} {M : Mem} {F : Nat → Value} {b : Nat → Nat} {k n p : Nat}
end
end Go.Am.Seat
namespace Go.Am.Seat
open Go.Proofs Go.Am Go.Am.Num
set_option maxHeartbeats 4000000
section
variable {self : Self} {nf : Nat} {m : Mem} {b : Nat → Nat} {X : Nat}
variable {M : Mem} {F : Nat → Value} {i p q : Nat} {w v : Nat → Nat}
end
end Go.Am.Seat
namespace Go.Am.Seat
open Go.Proofs Go.Am Go.Am.Num
set_option maxHeartbeats 4000000
section
variable {self : Self} {nf : Nat} {m : Mem} {X n : Nat}
end
end Go.Am.Seat
namespace Go.Am.Seat
open Go.Proofs Go.Am Go.Am.Num
set_option maxHeartbeats 4000000
-- ntmps 12
-- ntmps 31
theorem capsLit0 (f : Fn) : capsLit (.func f #[] #[]) = true := rfl
-- ntmps 16
section
variable {self : Self} {nf : Nat} {M : Mem} {F : Nat → Value} {A i n p : Nat}
end
end Go.Am.Seat
namespace Go.Am.Seat
open Go.Proofs Go.Am Go.Am.Num
set_option maxHeartbeats 4000000
def hv : Nat → Nat
  | 0 => 1
  | r + 1 => if 2 * hv r < 250 / 2 ^ (6 - r) then 2 * hv r + 1 else 2 * hv r
section
variable {self : Self} {nf : Nat} {M : Mem} {F : Nat → Value} {X h r p q : Nat}
end
end Go.Am.Seat
namespace Go.Am.Seat
open Go.Proofs Go.Am Go.Am.Num
set_option maxHeartbeats 4000000
-- ntmps 8
def AnsG (self : Self) (f : FuncId) (args : List Value) (v : Value) : Prop := ∀ M : Mem, E.G ≤ M.length → ainv E self f args M = some (v, M)
theorem Ans.g {self : Self} {f : FuncId} {args : List Value} {v : Value} (h : Ans self f args v) : AnsG self f args v := fun M _ => h M
theorem ans_ofG {self : Self} {f : FuncId} {args : List Value} {v : Value} (ha : args.all lit2 = true) (hf : E.fast f = none) (hv : lit2 v = true) (h : ∀ m, E.G ≤ m.length → ∃ m', self f args m = some (v, m')) : AnsG self f args v := by
  intro M hM
  obtain ⟨m', h'⟩ := h ((M.take E.G).map onlyTab) (by rw [List.length_map, List.length_take]; omega)
  exact ainv_lit ha hf h' hv
def fieldFs : List FuncId := [36, 26]
def NoF (K : List Fact) : Prop := ∀ f ∈ fieldFs, hasF K f = false
section
variable {MM : Mem} {K : List Fact} (hK : NoF K) {n : Nat}
include hK
theorem rk {f : FuncId} (hf : f ∈ fieldFs) {args : List Value} {m : Mem} : runK E MM K (n + 1) f args m = abody E (runK E MM K n) (n + 1) f args m := by
  rw [runK]
  simp only [hK f hf]
end
end Go.Am.Seat
