/-
  Texts of my own, put together: CT15, X4.
-/
import Derived.Test.YtalilffocbkfnaaDoorGrChainTexts18
import Derived.ChangeSame
import Derived.OpenShut
import Derived.ProofKit
/-
  ChainTexts: the law, whole (own work).
-/
set_option linter.unusedSimpArgs false
set_option linter.unusedVariables false
namespace Go.Am.Seat
open Go.Proofs Go.Am
set_option maxRecDepth 100000

theorem aopsN_app9 {E : Env} {self : Self} {ops : Array Oper} : ∀ (l1 l2 : List Oper) (T : List Value) (m : Mem) (T1 : List Value) (m1 : Mem), aopsN E self ops l1 T m = some (T1, m1) → aopsN E self ops (l1 ++ l2) T m = aopsN E self ops l2 T1 m1
  | [], l2, T, m, T1, m1, h => by
    simp only [aopsN, Option.some.injEq, Prod.mk.injEq] at h
    obtain ⟨rfl, rfl⟩ := h
    rfl
  | o :: l1, l2, T, m, T1, m1, h => by
    rw [List.cons_append]
    rw [aopsN] at h ⊢
    cases hg : agd ops T o with
    | none => rw [hg] at h; cases h
    | some g =>
      cases g with
      | false => rw [hg] at h; exact aopsN_app9 l1 l2 _ _ _ _ h
      | true =>
        rw [hg] at h
        cases hs : astep E self T m o with
        | none => simp only [hs] at h; cases h
        | some r =>
          obtain ⟨v, m2⟩ := r
          simp only [hs] at h ⊢
          exact aopsN_app9 l1 l2 _ _ _ _ h
theorem maxI {ts : Array TypeId} {ty : TypeId} {a b c : Int} : apC3 E.P .max ts ty (.int .i64 a) (.int .i64 b) (.int .i64 c) = some (.int .i64 (max (max a b) c)) := by
  unfold apC3
  exact apure_max3 rfl rfl rfl

section
variable {self : Self} {nf : Nat} {m : Mem} {a b : Nat} {c : Int} {s t l : List UInt8}
theorem cht_long (hA : ∀ L, ainv E self 5 [] (ap m L) = some (.bool true, ap m L)) (h : max (max ((s.length : Nat) : Int) ((t.length : Nat) : Int)) ((l.length : Nat) : Int) > 400) :
    ∃ m', abody E self nf 3 [entV (a : Nat) (b : Nat) c s t, tx l] (ap m []) = some (.bool true, m') := by
  rw [abody_eqF (by kernel_rfl) Tryd.func3 bodycht (by kernel_rfl) (Nat.le_of_ble_eq_true rfl)]
  rw [show Tryd.f3.ntmps = 88 from rfl]
  have d1 := decide_eq_true h
  simp only [echt_0, echt_1, echt_10, echt_2, echt_3, echt_4, echt_5, echt_6, echt_7, echt_8, echt_9, lcht_0, lcht_1, lcht_2, lcht_3, lcht_4, lcht_5, lcht_6, lcht_7, lcht_8, lcht_9, lcht_10, gcht_10_13, gcht_10_19, gcht_10_21, gcht_10_26, gcht_10_3, gcht_10_31, gcht_10_36, gcht_10_8, agd_none, gdAt, gdV_bool, gdV_undef, Tryd.f3, List.append_eq, List.cons_append, List.nil_append, apure_call1, apure_call2, apure_call3, bft, btf, acodeN, List.getElem?_toArray, List.getElem?_cons_zero, List.getElem?_cons_succ, aopsN, adrawT, cls, astep, aop, afloat, ev, nth_lst, get_lst, aput, setAt_lst, upd_at, init_zero, init_succ, init_nil, Nat.reduceLT, Nat.reduceEqDiff, reduceIte, abuiltin, Option.map_some, Option.map_none, orElse_some, apure_add, List.map_cons, List.map_nil, List.all_cons, List.all_nil, lit2, lit1, lit0, List.isEmpty_nil, Bool.and_self, Bool.and_true, Bool.true_and, Bool.false_and, Bool.and_false, Bool.not_true, Bool.not_false, Bool.or_true, Bool.true_or, Bool.false_or, Bool.or_false, Bool.false_eq_true, if_true, if_false, List.length_map, beq_self_eq_true, und3, und4, und5, und9, eqlV9_int, neqV9_int, eqlV9_bool, neqV9_bool, eqlV9_str, neqV9_str, ↓aop_eqlV9, ↓aop_neqV9, ↓afloat_eqlV9, ↓afloat_neqV9, apure_eqlV9, apure_neqV9, eqlW, neqW, eqlI64, neqI64, aload_sealed, adU, adE, ldI', ldU', ldL', ldS_pol, ldS_bud, ldF_p0, ldF_p1, ldF_p2, ldF_b0, ldF_b1, ldF_b2, stI', stU', stT', stL, polLen, budLen, layP, layB, layB0, layB1, layB2, List.length_nil, List.length_cons, List.length_append, Nat.reduceAdd, Nat.reduceLeDiff, List.set_cons_zero, List.set_cons_succ, and_self, true_and, Nat.le_refl, apure_max, apure_min, maxV, minV, finish, ares, aresL, ares1_tmp, ares1_cell, aresC_adr, aextract, bxEn, alEn, ldEn, stEn, faEn0, faEn1, faEn2, faEn3, faEn4, bxRn, alRn, ldRn, stRn, faRn0, faRn1, faRn2, faRn3, faRn4, ldS_en, ldF_n0, ldF_n1, ldF_n2, ldF_n3, ldF_n4, enLen, layN, layN0, layN1, layN2, layN3, layN4, stTx, ldT', cbAw19, hA, alenT, maxI, gtrI, d1]
  exact ⟨_, rfl⟩
noncomputable def sufC : Code := (Code.seq (Code.region 9 rcht_9 false) (Code.seq (Code.region 10 rcht_10 false) Code.ret))
theorem cht_10a0 {F : Nat → Value} {A : List UInt8} {ce a b c : Int} {s t : List UInt8} {B B3 : Blk} {t1 t2 : TypeId} (h5 : F 5 = tx A) (h6 : F 6 = .int .i64 ce) (h7 : F 7 = tx A) (h8 : F 8 = .int .i64 ce) (h9 : F 9 = adr m 1 0) (h10 : F 10 = .int .i64 0) (h11 : F 11 = adr m 2 0) (h12 : F 12 = .bool true) :
    ∃ F', aopsN E self rcht_10 (lcht_10.take 26) (lst F 88) (ap m [B, .row false t1 (entC a b c s t), .row false t2 (entC a b c s t), B3]) = some (lst F' 88, ap m [B, .row false t1 (entC a b c s t), .row false t2 (entC a b c s t), B3]) ∧ F' 72 = .bool true ∧ F' 13 = F 13 := by
  have e1 : (ce == ce) = true := beq_self_eq_true ce
  have e2 : ((0 : Int) == 0) = true := rfl
  simp only [echt_0, echt_1, echt_10, echt_2, echt_3, echt_4, echt_5, echt_6, echt_7, echt_8, echt_9, lcht_0, lcht_1, lcht_2, lcht_3, lcht_4, lcht_5, lcht_6, lcht_7, lcht_8, lcht_9, lcht_10, gcht_10_13, gcht_10_19, gcht_10_21, gcht_10_26, gcht_10_3, gcht_10_31, gcht_10_36, gcht_10_8, agd_none, gdAt, gdV_bool, gdV_undef, Tryd.f3, List.append_eq, List.cons_append, List.nil_append, apure_call1, apure_call2, apure_call3, bft, btf, acodeN, List.getElem?_toArray, List.getElem?_cons_zero, List.getElem?_cons_succ, aopsN, adrawT, cls, astep, aop, afloat, ev, nth_lst, get_lst, aput, setAt_lst, upd_at, init_zero, init_succ, init_nil, Nat.reduceLT, Nat.reduceEqDiff, reduceIte, abuiltin, Option.map_some, Option.map_none, orElse_some, apure_add, List.map_cons, List.map_nil, List.all_cons, List.all_nil, lit2, lit1, lit0, List.isEmpty_nil, Bool.and_self, Bool.and_true, Bool.true_and, Bool.false_and, Bool.and_false, Bool.not_true, Bool.not_false, Bool.or_true, Bool.true_or, Bool.false_or, Bool.or_false, Bool.false_eq_true, if_true, if_false, List.length_map, beq_self_eq_true, und3, und4, und5, und9, eqlV9_int, neqV9_int, eqlV9_bool, neqV9_bool, eqlV9_str, neqV9_str, ↓aop_eqlV9, ↓aop_neqV9, ↓afloat_eqlV9, ↓afloat_neqV9, apure_eqlV9, apure_neqV9, eqlW, neqW, eqlI64, neqI64, aload_sealed, adU, adE, ldI', ldU', ldL', ldS_pol, ldS_bud, ldF_p0, ldF_p1, ldF_p2, ldF_b0, ldF_b1, ldF_b2, stI', stU', stT', stL, polLen, budLen, layP, layB, layB0, layB1, layB2, List.length_nil, List.length_cons, List.length_append, Nat.reduceAdd, Nat.reduceLeDiff, List.set_cons_zero, List.set_cons_succ, and_self, true_and, Nat.le_refl, apure_max, apure_min, maxV, minV, finish, ares, aresL, ares1_tmp, ares1_cell, aresC_adr, aextract, bxEn, alEn, ldEn, stEn, faEn0, faEn1, faEn2, faEn3, faEn4, bxRn, alRn, ldRn, stRn, faRn0, faRn1, faRn2, faRn3, faRn4, ldS_en, ldF_n0, ldF_n1, ldF_n2, ldF_n3, ldF_n4, enLen, layN, layN0, layN1, layN2, layN3, layN4, stTx, ldT', List.take_succ_cons, List.take_zero, List.drop_succ_cons, List.drop_zero, h5, h6, h7, h8, h9, h10, h11, h12, eqlTx, eqlRn, e1, e2]
  exact ⟨_, rfl, by simp only [upd_at, Nat.reduceEqDiff, reduceIte], by simp only [upd_at, Nat.reduceEqDiff, reduceIte]⟩
theorem cht_10a4 {F : Nat → Value} {A : List UInt8} {ce a b c : Int} {s t : List UInt8} {B B3 : Blk} {t1 t2 : TypeId} (h5 : F 5 = tx A) (h6 : F 6 = .int .i64 ce) (h7 : F 7 = tx A) (h8 : F 8 = .int .i64 ce) (h9 : F 9 = adr m 1 0) (h10 : F 10 = .int .i64 4) (h11 : F 11 = adr m 2 0) (h12 : F 12 = .bool false) :
    ∃ F', aopsN E self rcht_10 (lcht_10.take 26) (lst F 88) (ap m [B, .row false t1 (entC a b c s t), .row false t2 (entC a b c s t), B3]) = some (lst F' 88, ap m [B, .row false t1 (entC a b c s t), .row false t2 (entC a b c s t), B3]) ∧ F' 72 = .bool true ∧ F' 13 = F 13 := by
  have e1 : (ce == ce) = true := beq_self_eq_true ce
  have e3 : ((4 : Int) == 0) = false := rfl
  have e4 : ((4 : Int) == 4) = true := rfl
  simp only [echt_0, echt_1, echt_10, echt_2, echt_3, echt_4, echt_5, echt_6, echt_7, echt_8, echt_9, lcht_0, lcht_1, lcht_2, lcht_3, lcht_4, lcht_5, lcht_6, lcht_7, lcht_8, lcht_9, lcht_10, gcht_10_13, gcht_10_19, gcht_10_21, gcht_10_26, gcht_10_3, gcht_10_31, gcht_10_36, gcht_10_8, agd_none, gdAt, gdV_bool, gdV_undef, Tryd.f3, List.append_eq, List.cons_append, List.nil_append, apure_call1, apure_call2, apure_call3, bft, btf, acodeN, List.getElem?_toArray, List.getElem?_cons_zero, List.getElem?_cons_succ, aopsN, adrawT, cls, astep, aop, afloat, ev, nth_lst, get_lst, aput, setAt_lst, upd_at, init_zero, init_succ, init_nil, Nat.reduceLT, Nat.reduceEqDiff, reduceIte, abuiltin, Option.map_some, Option.map_none, orElse_some, apure_add, List.map_cons, List.map_nil, List.all_cons, List.all_nil, lit2, lit1, lit0, List.isEmpty_nil, Bool.and_self, Bool.and_true, Bool.true_and, Bool.false_and, Bool.and_false, Bool.not_true, Bool.not_false, Bool.or_true, Bool.true_or, Bool.false_or, Bool.or_false, Bool.false_eq_true, if_true, if_false, List.length_map, beq_self_eq_true, und3, und4, und5, und9, eqlV9_int, neqV9_int, eqlV9_bool, neqV9_bool, eqlV9_str, neqV9_str, ↓aop_eqlV9, ↓aop_neqV9, ↓afloat_eqlV9, ↓afloat_neqV9, apure_eqlV9, apure_neqV9, eqlW, neqW, eqlI64, neqI64, aload_sealed, adU, adE, ldI', ldU', ldL', ldS_pol, ldS_bud, ldF_p0, ldF_p1, ldF_p2, ldF_b0, ldF_b1, ldF_b2, stI', stU', stT', stL, polLen, budLen, layP, layB, layB0, layB1, layB2, List.length_nil, List.length_cons, List.length_append, Nat.reduceAdd, Nat.reduceLeDiff, List.set_cons_zero, List.set_cons_succ, and_self, true_and, Nat.le_refl, apure_max, apure_min, maxV, minV, finish, ares, aresL, ares1_tmp, ares1_cell, aresC_adr, aextract, bxEn, alEn, ldEn, stEn, faEn0, faEn1, faEn2, faEn3, faEn4, bxRn, alRn, ldRn, stRn, faRn0, faRn1, faRn2, faRn3, faRn4, ldS_en, ldF_n0, ldF_n1, ldF_n2, ldF_n3, ldF_n4, enLen, layN, layN0, layN1, layN2, layN3, layN4, stTx, ldT', List.take_succ_cons, List.take_zero, List.drop_succ_cons, List.drop_zero, h5, h6, h7, h8, h9, h10, h11, h12, eqlTx, eqlRn, e1, e3, e4]
  exact ⟨_, rfl, by simp only [upd_at, Nat.reduceEqDiff, reduceIte], by simp only [upd_at, Nat.reduceEqDiff, reduceIte]⟩
theorem cht_10b {F : Nat → Value} {B B1 B2 : Blk} {t3 : TypeId} (h72 : F 72 = .bool true) (h13 : F 13 = adr m 3 0) :
    ∃ F', aopsN E self rcht_10 (lcht_10.drop 26) (lst F 88) (ap m [B, B1, B2, .row false t3 wordsC]) = some (lst F' 88, ap m [B, B1, B2, .row false t3 wordsC]) ∧ F' 4 = .bool true := by
  simp only [echt_0, echt_1, echt_10, echt_2, echt_3, echt_4, echt_5, echt_6, echt_7, echt_8, echt_9, lcht_0, lcht_1, lcht_2, lcht_3, lcht_4, lcht_5, lcht_6, lcht_7, lcht_8, lcht_9, lcht_10, gcht_10_13, gcht_10_19, gcht_10_21, gcht_10_26, gcht_10_3, gcht_10_31, gcht_10_36, gcht_10_8, agd_none, gdAt, gdV_bool, gdV_undef, Tryd.f3, List.append_eq, List.cons_append, List.nil_append, apure_call1, apure_call2, apure_call3, bft, btf, acodeN, List.getElem?_toArray, List.getElem?_cons_zero, List.getElem?_cons_succ, aopsN, adrawT, cls, astep, aop, afloat, ev, nth_lst, get_lst, aput, setAt_lst, upd_at, init_zero, init_succ, init_nil, Nat.reduceLT, Nat.reduceEqDiff, reduceIte, abuiltin, Option.map_some, Option.map_none, orElse_some, apure_add, List.map_cons, List.map_nil, List.all_cons, List.all_nil, lit2, lit1, lit0, List.isEmpty_nil, Bool.and_self, Bool.and_true, Bool.true_and, Bool.false_and, Bool.and_false, Bool.not_true, Bool.not_false, Bool.or_true, Bool.true_or, Bool.false_or, Bool.or_false, Bool.false_eq_true, if_true, if_false, List.length_map, beq_self_eq_true, und3, und4, und5, und9, eqlV9_int, neqV9_int, eqlV9_bool, neqV9_bool, eqlV9_str, neqV9_str, ↓aop_eqlV9, ↓aop_neqV9, ↓afloat_eqlV9, ↓afloat_neqV9, apure_eqlV9, apure_neqV9, eqlW, neqW, eqlI64, neqI64, aload_sealed, adU, adE, ldI', ldU', ldL', ldS_pol, ldS_bud, ldF_p0, ldF_p1, ldF_p2, ldF_b0, ldF_b1, ldF_b2, stI', stU', stT', stL, polLen, budLen, layP, layB, layB0, layB1, layB2, List.length_nil, List.length_cons, List.length_append, Nat.reduceAdd, Nat.reduceLeDiff, List.set_cons_zero, List.set_cons_succ, and_self, true_and, Nat.le_refl, apure_max, apure_min, maxV, minV, finish, ares, aresL, ares1_tmp, ares1_cell, aresC_adr, aextract, bxEn, alEn, ldEn, stEn, faEn0, faEn1, faEn2, faEn3, faEn4, bxRn, alRn, ldRn, stRn, faRn0, faRn1, faRn2, faRn3, faRn4, ldS_en, ldF_n0, ldF_n1, ldF_n2, ldF_n3, ldF_n4, enLen, layN, layN0, layN1, layN2, layN3, layN4, stTx, ldT', List.take_succ_cons, List.take_zero, List.drop_succ_cons, List.drop_zero, h72, h13, alWd, stWd, ixWd0, ixWd1, ixWd11, ldF_w0, ldF_w1, ldF_w11, layWd, wdLen, repLen, eqlTx, eqW0, eqW1, eqW11, eqlRn]
  exact ⟨_, rfl, by simp only [upd_at, Nat.reduceEqDiff, reduceIte]⟩
theorem cht_t10 {F : Nat → Value} {A : List UInt8} {ce e : Int} {en : Ent} {r : Bool} {B : Blk} {t1 t2 t3 : TypeId} (he : e = 0 ∧ r = true ∨ e = 4 ∧ r = false) (h5 : F 5 = tx A) (h6 : F 6 = .int .i64 ce) (h7 : F 7 = tx A) (h8 : F 8 = .int .i64 ce) (h9 : F 9 = adr m 1 0) (h10 : F 10 = .int .i64 e) (h11 : F 11 = adr m 2 0) (h12 : F 12 = .bool r) (h13 : F 13 = adr m 3 0) :
    ∃ m', finish E.P Tryd.f3 (acodeN E self nf (Code.seq (Code.region 10 rcht_10 false) Code.ret) (lst F 88) (ap m [B, .row false t1 en.cs, .row false t2 en.cs, .row false t3 wordsC])) = some (.bool true, m') := by
  have key : ∃ F', aopsN E self rcht_10 (lcht_10.take 26) (lst F 88) (ap m [B, .row false t1 en.cs, .row false t2 en.cs, .row false t3 wordsC]) = some (lst F' 88, ap m [B, .row false t1 en.cs, .row false t2 en.cs, .row false t3 wordsC]) ∧ F' 72 = .bool true ∧ F' 13 = F 13 := by
    rcases he with ⟨rfl, rfl⟩ | ⟨rfl, rfl⟩
    · exact cht_10a0 h5 h6 h7 h8 h9 h10 h11 h12
    · exact cht_10a4 h5 h6 h7 h8 h9 h10 h11 h12
  obtain ⟨F1, k1, g72, g13⟩ := key
  obtain ⟨F2, k2, g4⟩ := cht_10b (self := self) (m := m) (B := B) (B1 := .row false t1 en.cs) (B2 := .row false t2 en.cs) (t3 := t3) g72 (g13.trans h13)
  have h := aopsN_app9 (lcht_10.take 26) (lcht_10.drop 26) _ _ _ _ k1
  rw [List.take_append_drop, k2] at h
  simp only [acodeN, echt_10, h, finish, ares, aresL, ares1_tmp, ares1_cell, nth_lst, Nat.reduceLT, reduceIte, g4, List.append_eq, List.cons_append, List.nil_append, apure_call1, apure_call2, apure_call3, bft, btf, acodeN, List.getElem?_toArray, List.getElem?_cons_zero, List.getElem?_cons_succ, aopsN, adrawT, cls, astep, aop, afloat, ev, nth_lst, get_lst, aput, setAt_lst, upd_at, init_zero, init_succ, init_nil, Nat.reduceLT, Nat.reduceEqDiff, reduceIte, abuiltin, Option.map_some, Option.map_none, orElse_some, apure_add, List.map_cons, List.map_nil, List.all_cons, List.all_nil, lit2, lit1, lit0, List.isEmpty_nil, Bool.and_self, Bool.and_true, Bool.true_and, Bool.false_and, Bool.and_false, Bool.not_true, Bool.not_false, Bool.or_true, Bool.true_or, Bool.false_or, Bool.or_false, Bool.false_eq_true, if_true, if_false, List.length_map, beq_self_eq_true, und3, und4, und5, und9, eqlV9_int, neqV9_int, eqlV9_bool, neqV9_bool, eqlV9_str, neqV9_str, ↓aop_eqlV9, ↓aop_neqV9, ↓afloat_eqlV9, ↓afloat_neqV9, apure_eqlV9, apure_neqV9, eqlW, neqW, eqlI64, neqI64, aload_sealed, adU, adE, ldI', ldU', ldL', ldS_pol, ldS_bud, ldF_p0, ldF_p1, ldF_p2, ldF_b0, ldF_b1, ldF_b2, stI', stU', stT', stL, polLen, budLen, layP, layB, layB0, layB1, layB2, List.length_nil, List.length_cons, List.length_append, Nat.reduceAdd, Nat.reduceLeDiff, List.set_cons_zero, List.set_cons_succ, and_self, true_and, Nat.le_refl, apure_max, apure_min, maxV, minV, finish, ares, aresL, ares1_tmp, ares1_cell, aresC_adr, aextract, Tryd.f3]
  exact ⟨_, rfl⟩
theorem cht_tail {F : Nat → Value} {A : List UInt8} {ce e : Int} {en : Ent} {r : Bool} {B : Blk} {t1 t2 : TypeId} (he : e = 0 ∧ r = true ∨ e = 4 ∧ r = false) (h5 : F 5 = tx A) (h6 : F 6 = .int .i64 ce) (h7 : F 7 = tx A) (h8 : F 8 = .int .i64 ce) (h9 : F 9 = adr m 1 0) (h10 : F 10 = .int .i64 e) (h11 : F 11 = adr m 2 0) (h12 : F 12 = .bool r)
    (q5 : ∀ M, ainv E self 10 [] M = some (wordsV, M)) :
    ∃ m', finish E.P Tryd.f3 (acodeN E self nf sufC (lst F 88) (ap m [B, .row false t1 en.cs, .row false t2 en.cs])) = some (.bool true, m') := by
  unfold sufC
  have key := fun F t3 h5 h6 h7 h8 h9 h10 h11 h12 h13 => cht_t10 (self := self) (nf := nf) (m := m) (F := F) (A := A) (ce := ce) (e := e) (en := en) (r := r) (B := B) (t1 := t1) (t2 := t2) (t3 := t3) he h5 h6 h7 h8 h9 h10 h11 h12 h13
  generalize (Code.seq (Code.region 10 rcht_10 false) Code.ret) = suf at *
  simp only [echt_0, echt_1, echt_10, echt_2, echt_3, echt_4, echt_5, echt_6, echt_7, echt_8, echt_9, lcht_0, lcht_1, lcht_2, lcht_3, lcht_4, lcht_5, lcht_6, lcht_7, lcht_8, lcht_9, lcht_10, gcht_10_13, gcht_10_19, gcht_10_21, gcht_10_26, gcht_10_3, gcht_10_31, gcht_10_36, gcht_10_8, agd_none, gdAt, gdV_bool, gdV_undef, Tryd.f3, List.append_eq, List.cons_append, List.nil_append, apure_call1, apure_call2, apure_call3, bft, btf, acodeN, List.getElem?_toArray, List.getElem?_cons_zero, List.getElem?_cons_succ, aopsN, adrawT, cls, astep, aop, afloat, ev, nth_lst, get_lst, aput, setAt_lst, upd_at, init_zero, init_succ, init_nil, Nat.reduceLT, Nat.reduceEqDiff, reduceIte, abuiltin, Option.map_some, Option.map_none, orElse_some, apure_add, List.map_cons, List.map_nil, List.all_cons, List.all_nil, lit2, lit1, lit0, List.isEmpty_nil, Bool.and_self, Bool.and_true, Bool.true_and, Bool.false_and, Bool.and_false, Bool.not_true, Bool.not_false, Bool.or_true, Bool.true_or, Bool.false_or, Bool.or_false, Bool.false_eq_true, if_true, if_false, List.length_map, beq_self_eq_true, und3, und4, und5, und9, eqlV9_int, neqV9_int, eqlV9_bool, neqV9_bool, eqlV9_str, neqV9_str, ↓aop_eqlV9, ↓aop_neqV9, ↓afloat_eqlV9, ↓afloat_neqV9, apure_eqlV9, apure_neqV9, eqlW, neqW, eqlI64, neqI64, aload_sealed, adU, adE, ldI', ldU', ldL', ldS_pol, ldS_bud, ldF_p0, ldF_p1, ldF_p2, ldF_b0, ldF_b1, ldF_b2, stI', stU', stT', stL, polLen, budLen, layP, layB, layB0, layB1, layB2, List.length_nil, List.length_cons, List.length_append, Nat.reduceAdd, Nat.reduceLeDiff, List.set_cons_zero, List.set_cons_succ, and_self, true_and, Nat.le_refl, apure_max, apure_min, maxV, minV, ares, aresL, ares1_tmp, ares1_cell, aresC_adr, aextract, bxEn, alEn, ldEn, stEn, faEn0, faEn1, faEn2, faEn3, faEn4, bxRn, alRn, ldRn, stRn, faRn0, faRn1, faRn2, faRn3, faRn4, ldS_en, ldF_n0, ldF_n1, ldF_n2, ldF_n3, ldF_n4, enLen, layN, layN0, layN1, layN2, layN3, layN4, stTx, ldT', h5, h6, h7, h8, h9, h10, h11, h12, cbWds, q5, alWd, stWd, layWd, wdLen, repLen]
  refine key _ _ ?_ ?_ ?_ ?_ ?_ ?_ ?_ ?_ ?_ <;> simp only [upd_at, Nat.reduceEqDiff, reduceIte, h5, h6, h7, h8, h9, h10, h11, h12]
theorem cht_ok (hA : ∀ L, ainv E self 5 [] (ap m L) = some (.bool true, ap m L)) (h : ¬ max (max ((s.length : Nat) : Int) ((t.length : Nat) : Int)) ((l.length : Nat) : Int) > 400)
    {A : List UInt8} {ce e : Int} {en : Ent} {r : Bool} (he : e = 0 ∧ r = true ∨ e = 4 ∧ r = false)
    (q1 : ∀ M, ainv E self 6 [entV (a : Nat) (b : Nat) c s t] M = some (.tuple ⟨[tx A, .int .i64 ce]⟩, M))
    (q2 : ∀ L, ainv E self 7 [entV (a : Nat) (b : Nat) c s t] (ap m L) = some (.tuple ⟨[tx A, .int .i64 ce]⟩, ap m L))
    (q3 : ∀ M, ainv E self 8 [tx l] M = some (.tuple ⟨[en.v, .int .i64 e]⟩, M))
    (q4 : ∀ L, ainv E self 9 [tx l] (ap m L) = some (.tuple ⟨[en.v, .bool r]⟩, ap m L))
    (q5 : ∀ M, ainv E self 10 [] M = some (wordsV, M)) :
    ∃ m', abody E self nf 3 [entV (a : Nat) (b : Nat) c s t, tx l] (ap m []) = some (.bool true, m') := by
  rw [abody_eqF (by kernel_rfl) Tryd.func3 bodycht (by kernel_rfl) (Nat.le_of_ble_eq_true rfl)]
  rw [show Tryd.f3.ntmps = 88 from rfl]
  have d1 := decide_eq_false h
  have key := fun F B t1 t2 h5 h6 h7 h8 h9 h10 h11 h12 => cht_tail (self := self) (nf := nf) (m := m) (F := F) (A := A) (ce := ce) (e := e) (en := en) (r := r) (B := B) (t1 := t1) (t2 := t2) he h5 h6 h7 h8 h9 h10 h11 h12 q5
  unfold sufC Ent.cs at key
  generalize (Code.seq (Code.region 9 rcht_9 false) (Code.seq (Code.region 10 rcht_10 false) Code.ret)) = suf at *
  unfold Ent.v at q3 q4
  simp only [echt_0, echt_1, echt_10, echt_2, echt_3, echt_4, echt_5, echt_6, echt_7, echt_8, echt_9, lcht_0, lcht_1, lcht_2, lcht_3, lcht_4, lcht_5, lcht_6, lcht_7, lcht_8, lcht_9, lcht_10, gcht_10_13, gcht_10_19, gcht_10_21, gcht_10_26, gcht_10_3, gcht_10_31, gcht_10_36, gcht_10_8, agd_none, gdAt, gdV_bool, gdV_undef, Tryd.f3, List.append_eq, List.cons_append, List.nil_append, apure_call1, apure_call2, apure_call3, bft, btf, acodeN, List.getElem?_toArray, List.getElem?_cons_zero, List.getElem?_cons_succ, aopsN, adrawT, cls, astep, aop, afloat, ev, nth_lst, get_lst, aput, setAt_lst, upd_at, init_zero, init_succ, init_nil, Nat.reduceLT, Nat.reduceEqDiff, reduceIte, abuiltin, Option.map_some, Option.map_none, orElse_some, apure_add, List.map_cons, List.map_nil, List.all_cons, List.all_nil, lit2, lit1, lit0, List.isEmpty_nil, Bool.and_self, Bool.and_true, Bool.true_and, Bool.false_and, Bool.and_false, Bool.not_true, Bool.not_false, Bool.or_true, Bool.true_or, Bool.false_or, Bool.or_false, Bool.false_eq_true, if_true, if_false, List.length_map, beq_self_eq_true, und3, und4, und5, und9, eqlV9_int, neqV9_int, eqlV9_bool, neqV9_bool, eqlV9_str, neqV9_str, ↓aop_eqlV9, ↓aop_neqV9, ↓afloat_eqlV9, ↓afloat_neqV9, apure_eqlV9, apure_neqV9, eqlW, neqW, eqlI64, neqI64, aload_sealed, adU, adE, ldI', ldU', ldL', ldS_pol, ldS_bud, ldF_p0, ldF_p1, ldF_p2, ldF_b0, ldF_b1, ldF_b2, stI', stU', stT', stL, polLen, budLen, layP, layB, layB0, layB1, layB2, List.length_nil, List.length_cons, List.length_append, Nat.reduceAdd, Nat.reduceLeDiff, List.set_cons_zero, List.set_cons_succ, and_self, true_and, Nat.le_refl, apure_max, apure_min, maxV, minV, ares, aresL, ares1_tmp, ares1_cell, aresC_adr, aextract, bxEn, alEn, ldEn, stEn, faEn0, faEn1, faEn2, faEn3, faEn4, bxRn, alRn, ldRn, stRn, faRn0, faRn1, faRn2, faRn3, faRn4, ldS_en, ldF_n0, ldF_n1, ldF_n2, ldF_n3, ldF_n4, enLen, layN, layN0, layN1, layN2, layN3, layN4, stTx, ldT', cbAw19, cbTxE, cbTxR, cbPaE, cbPaR, hA, alenT, maxI, gtrI, d1, q1, q2, q3, q4]
  refine key _ _ _ _ ?_ ?_ ?_ ?_ ?_ ?_ ?_ ?_ <;> rfl
end
theorem strTx (s : ByteArray) : Value.string s = tx s.data.toList := rfl
theorem u64E {N : Nat} {v : Value} (h : CK.is N (.int .u64) v) : ∃ n : Nat, v = .int .u64 (n : Nat) ∧ n < 18446744073709551616 := by
  obtain ⟨n, rfl, h⟩ := h
  unfold Lit.wf at h
  have h1 : (IntKind.u64.min : Int) = 0 := by decide
  have h2 : (IntKind.u64.max : Int) = 18446744073709551615 := by decide
  simp only [h1, h2, Bool.and_eq_true, decide_eq_true_eq] at h
  obtain ⟨k, rfl⟩ := Int.eq_ofNat_of_zero_le h.1
  exact ⟨k, rfl, by omega⟩
theorem is_ent {N : Nat} {cs : List Value} (h : AllIs N [.int .u64, .int .u64, .int .i64, .str, .str] cs) : ∃ (a b : Nat) (c : Int) (s t : List UInt8), .agg ⟨cs⟩ = entV (a : Nat) (b : Nat) c s t ∧ a < 18446744073709551616 ∧ b < 18446744073709551616 := by
  obtain ⟨v0, l0, rfl, k0, h⟩ := h.cons
  obtain ⟨v1, l1, rfl, k1, h⟩ := h.cons
  obtain ⟨v2, l2, rfl, k2, h⟩ := h.cons
  obtain ⟨v3, l3, rfl, k3, h⟩ := h.cons
  obtain ⟨v4, l4, rfl, k4, h⟩ := h.cons
  obtain rfl := h.nil
  obtain ⟨a, rfl, ha⟩ := u64E k0
  obtain ⟨b, rfl, hb⟩ := u64E k1
  obtain ⟨c, rfl, -⟩ := k2
  obtain ⟨s, rfl, -⟩ := k3
  obtain ⟨t, rfl, -⟩ := k4
  exact ⟨a, b, c, s.data.toList, t.data.toList, rfl, ha, hb⟩
theorem lawCT {cs0 : List Value} {v1 : Value} (k0 : AllIs maxLen [.int .u64, .int .u64, .int .i64, .str, .str] cs0) (k1 : CK.is maxLen .str v1) :
    ∃ m1, RQ 2001 3 [.agg ⟨cs0⟩, v1] mem2 = some (.bool true, m1) := by
  obtain ⟨a, b, c, s, t, e0, ha, hb⟩ := is_ent k0
  obtain ⟨x, rfl, -⟩ := k1
  rw [e0, strTx]
  generalize x.data.toList = l
  have hA := fun L => awk19 (N := 1999) L
  have hg : ∀ L, E.G ≤ (ap mem2 L).length := fun L => by unfold ap; rw [List.length_append]; exact Nat.le_trans G19 (Nat.le_add_right _ _)
  by_cases h : max (max ((s.length : Nat) : Int) ((t.length : Nat) : Int)) ((l.length : Nat) : Int) > 400
  · obtain ⟨m', h⟩ := cht_long (self := RQ 2000) (nf := 2001) (a := a) (b := b) (c := c) hA h
    exact ⟨m', runQ_body9 (n := 2000) h⟩
  · have hl : l.length ≤ 400 := by omega
    have he : (parsedE l).2 = 0 ∧ ((parsedE l).2 == 0) = true ∨ (parsedE l).2 = 4 ∧ ((parsedE l).2 == 0) = false := by
      by_cases hg : goodE l
      · rw [parsed_good hg]; exact .inl ⟨rfl, rfl⟩
      · rw [parsed_bad hg]; exact .inr ⟨rfl, rfl⟩
    obtain ⟨m', h⟩ := cht_ok (self := RQ 2000) (nf := 2001) (a := a) (b := b) (c := c) hA h he (fun M => etext_call (N := 1998) (by omega) M) (fun L => rtext_call (N := 1998) (by omega) ha hb (ap mem2 L) (hg L)) (fun M => pa_callE (N := 1990) (by omega) M) (fun L => rparse_call (N := 1997) (by omega) hl (ap mem2 L) (hg L)) (fun M => wds_call (N := 1999) M)
    exact ⟨m', runQ_body9 (n := 2000) h⟩
end Go.Am.Seat

/-
  From a run of the machine to what a row asks: whatever the arguments lead to, they read behind the call as they did (own work; nothing of a dump).
-/
set_option linter.unusedSimpArgs false
set_option linter.unusedVariables false
namespace Go.Am
open Go.ChangeShapes Go.WideShapes Go.ChangeAt Go.RowKit
variable {H : Type} {enc : TypeId × Value → H} {P : Program}

/-- A slice as an argument: the memory ahead, the machine's value, the memory with it. -/
inductive SliceArg (N : Nat) (ks : List CK) (m : Mem) : Value → Mem → Prop
  | nil : SliceArg N ks m (.slice none 0 0) m
  | row {off len cap : Nat} {row : TypeId} {vs : List Value} : len ≤ cap → vs.length = len * ks.length → (∀ (j : Nat), j < len → AllIs N ks ((vs.drop (j * ks.length)).take ks.length)) →
      SliceArg N ks m (.slice (some ⟨m.length, off, none⟩) len cap) (m ++ [.row true row (ahead off vs)])

/-- Memory of which nothing may be written. -/
def NoRow (m : Mem) : Prop := ∀ (k : Nat) (e : TypeId) (cs : List Value), m[k]? ≠ some (Blk.row false e cs)

theorem mr_arg {bulk : DataW H → Nat} {N : Nat} {W : World} {base : Nat} {spare : Nat → Bool} {held : Bool} {r : Reach} {b0 : Nat} {t e : TypeId} {ks : List CK} {v : Value} {d : DataW H} {ps : List MemPlace} (hB : BulkOK bulk) (hN : Small bulk N d) (ht : P.underlying t = some (.slice e)) (hk : cksOf P e = some ks) (hc : P.cellsOf e = ks.length) (hks : 0 < ks.length)
    (hval : Value.okWide P W r b0 t v) (hd : DataW.Trod enc P W base spare held t v d ps) {ρ : Ren} {m : Mem} (h : MR P ρ m W) (hro : NoRow m) :
    ∃ a m' ρ', SliceArg N ks m a m' ∧ ρ.le ρ' ∧ VR ρ' a v ∧ MR P ρ' m' W ∧ NoRow m' := by
  rcases mr_slice hB hN ht hk hc hks hval hd h hro with rfl | ⟨off, len, cap, row, vs, ρ', h1, h2, h3, h4, h5, h6, h7⟩
  · exact ⟨_, m, ρ, .nil, Ren.le_refl _, .lit rfl, h, hro⟩
  · exact ⟨_, _, ρ', .row h1 h2 h3, h4, h5, h6, h7⟩

theorem trodAll_stays (hl : laidOutB P = true) {W W' : World} {sp' : Nat → Bool} (hb : Below W.heap.size W W') : ∀ {ts : List TypeId} {vs : List Value} {ds : List (DataW H)} {ps : List MemPlace}, (∀ t ∈ ts, P.readableRec t = true ∧ t < P.types.size) →
    DataW.TrodAll enc P W 0 (fun _ => true) true ts vs ds ps → (∀ p ∈ ps, p.block < W.heap.size) → (∀ p ∈ ps, sp' p.block = true) → DataW.TrodAll enc P W' 0 sp' true ts vs ds ps
  | [], [], [], ps, _, h, _, _ => h
  | t :: ts, v :: vs, d :: ds, ps, ht, h, hlt, hs => by
    obtain ⟨p, q, h1, h2, rfl⟩ := h
    obtain ⟨hr, hrow⟩ := ht t (by simp)
    exact ⟨p, q, WideElems.Trod_stays hl hr hrow h1 (fun x hx => hb.same (hlt x (by simp [hx]))) (fun x hx => hs x (by simp [hx])),
      trodAll_stays hl hb (fun t' h' => ht t' (by simp [h'])) h2 (fun x hx => hlt x (by simp [hx])) (fun x hx => hs x (by simp [hx])), rfl⟩
  | [], [], _ :: _, _, _, h, _, _ => h.elim
  | [], _ :: _, _, _, _, h, _, _ => h.elim
  | _ :: _, [], _, _, _, h, _, _ => h.elim
  | _ :: _, _ :: _, [], _, _, h, _, _ => h.elim

/-- What a law's row asks of a call that answers true and leaves what was there alone. -/
theorem post_true (hl : laidOutB P = true) {f : Func} {s : ChangeSpec} {fresh handsOn again : Bool} {W W' : World} {args : Array Value} {ds gs : List (DataW H)} {before : List MemPlace} {tb : TypeId}
    (hW : DataW.Whole enc P f.params.toList s.vars false W args.toList ds gs before) (hvs : s.vars = []) (hts : ∀ t ∈ f.params.toList, P.readableRec t = true ∧ t < P.types.size) (hrt : f.resultTypes = #[tb]) (htb : P.underlying tb = some .bool)
    (hfn : (s.fn H ds).results = [.lit (.bool true)] ∧ (s.fn H ds).args = ds ∧ (s.fn H ds).vars = []) (hb : Below W.heap.size W W') : s.post enc P f false fresh handsOn again W args (.bool true) W' := by
  have hlt := fun p hp => hW.lt p hp
  have hW' := hW
  obtain ⟨pa, pv, hA, hV, rfl, hz, hn⟩ := hW'
  rw [hvs] at hV
  obtain ⟨rfl, rfl⟩ := trodVars_none hV
  simp only [List.append_nil] at hW hlt hz
  have hargs : ∀ sp : Nat → Bool, (∀ p ∈ pa, sp p.block = true) → DataW.TrodAll enc P W' 0 sp true f.params.toList args.toList (s.fn H (ds ++ [])).args pa := fun sp hsp => by
    rw [List.append_nil, hfn.2.1]
    exact trodAll_stays hl hb hts hA hlt hsp
  have hres : ∀ (b : Nat) (sp : Nat → Bool) (hd : Bool), DataW.TrodAll enc P W' b sp hd f.resultTypes.toList ((Value.bool true).resultList f.resultTypes.size) (s.fn H (ds ++ [])).results [] := fun b sp hd => by
    rw [List.append_nil, hfn.1, hrt]
    exact trodAll_cons_mk (shut_bool htb true) trodAll_mk0
  have hvars : ∀ sp : Nat → Bool, DataW.TrodVars enc P W' sp s.vars (s.fn H (ds ++ [])).vars [] := fun sp => by
    rw [List.append_nil, hfn.2.2, hvs]
    rfl
  have hold : ∀ p ∈ pa, (fun b => decide (b < W.heap.size)) p.block = true := fun p hp => by simpa using hlt p hp
  refine ⟨ds, [], pa, [], pa, [], by simpa using hW, hres _ _ _, hargs _ hold, hvars _, World.keptBut_mono (fun p hp => ⟨hp, .inr (.inl hp)⟩) (hb.frame _), fun _ => ?_⟩
  refine ⟨fun j t r h1 h2 => ?_, _, _, ([] ++ pa) ++ [], ⟨[] ++ pa, [], trodAll_append (hargs _ (fun _ _ => rfl)) (hres _ _ _), hvars _, rfl, ?_, ?_⟩, ?_⟩
  · rw [hrt] at h1 h2
    cases j with
    | zero =>
      simp [Value.resultList] at h1 h2
      subst h1 h2
      exact okWide_bool_mk htb true
    | succ j => simp at h1
  · intro b off hp
    have hp' : MemPlace.cell b off ∈ pa := by simpa using hp
    rw [hb.frozen (p := ⟨b, off, none⟩) (hlt _ hp')]
    exact hz b off hp'
  · intro ha; cases ha
  · intro p hp _
    simpa using hp
end Go.Am
