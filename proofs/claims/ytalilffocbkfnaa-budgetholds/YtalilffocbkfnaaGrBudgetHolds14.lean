/-
  BudgetHolds: all rounds, and the law (own work).
-/
import Derived.Test.YtalilffocbkfnaaGrBudgetHolds13
set_option linter.unusedSimpArgs false
set_option linter.unusedVariables false
namespace Go.Am.Seat
open Go.Proofs Go.Am
set_option maxRecDepth 100000

/-- So many acts that a value leads to, in any memory that has what lies at some place. -/
def Acts (S : Mem → Prop) (vs : Value) (len : Nat) : Prop :=
  ∀ i, i < len → ∃ pa x y, 0 ≤ x ∧ x < 256 ∧ aindexAddr E.P 52 vs (.int .i64 (i : Nat)) = some pa ∧ ∀ m, S m → aload E.P 54 pa m = some (actV x y)

section
variable {self : Self} {nf : Nat} {m : Mem} {F : Nat → Value} {p q i len : Nat} {vs : Value} {a b c t l n s r x : Int} {y : Bool}
theorem bho_end (h33 : F 33 = .int .i64 (len : Nat)) (h34 : F 34 = .int .i64 (len : Nat)) : ∃ F', acodeN E self nf lpbho_0 (lst F 108) m = some (.exit 0, lst F' 108, m) := by
  have d0 : decide (((len : Nat) : Int) < ((len : Nat) : Int)) = false := decide_eq_false (by omega)
  simp only [lpbho_0_eq, ebho_0, ebho_1, ebho_10, ebho_11, ebho_12, ebho_13, ebho_14, ebho_15, ebho_16, ebho_17, ebho_18, ebho_19, ebho_2, ebho_20, ebho_21, ebho_22, ebho_23, ebho_24, ebho_25, ebho_26, ebho_27, ebho_3, ebho_4, ebho_5, ebho_6, ebho_7, ebho_8, ebho_9, lbho_0, lbho_1, lbho_2, lbho_3, lbho_4, lbho_5, lbho_6, lbho_7, lbho_8, lbho_9, lbho_10, lbho_11, lbho_12, lbho_13, lbho_14, lbho_15, lbho_16, lbho_17, lbho_18, lbho_19, lbho_20, lbho_21, lbho_22, lbho_23, lbho_24, lbho_25, lbho_26, lbho_27, gbho_24_11, gbho_24_6, gbho_3_3, agd_none, gdAt, gdV_bool, gdV_undef, Try.f5, List.append_eq, List.cons_append, List.nil_append, apure_call1, apure_call2, apure_call3, bft, btf, acodeN, List.getElem?_toArray, List.getElem?_cons_zero, List.getElem?_cons_succ, aopsN, adrawT, cls, astep, aop, afloat, ev, nth_lst, get_lst, aput, setAt_lst, upd_at, init_zero, init_succ, init_nil, Nat.reduceLT, Nat.reduceEqDiff, reduceIte, abuiltin, alen, Option.map_some, Option.map_none, orElse_some, apure_add, List.map_cons, List.map_nil, List.all_cons, List.all_nil, lit2, lit1, lit0, List.isEmpty_nil, Bool.and_self, Bool.and_true, Bool.true_and, Bool.false_and, Bool.and_false, Bool.not_true, Bool.not_false, Bool.or_true, Bool.true_or, Bool.false_or, Bool.or_false, Bool.false_eq_true, if_true, if_false, List.length_map, beq_self_eq_true, und3, und4, und5, und9, eqlV9_int, neqV9_int, eqlV9_bool, neqV9_bool, eqlV9_str, neqV9_str, eqlB, neqB, eqlBr, neqBr, ↓aop_eqlV9, ↓aop_neqV9, ↓afloat_eqlV9, ↓afloat_neqV9, apure_eqlV9, apure_neqV9, eqlW, neqW, eqlI64, neqI64, aload_sealed, adB, adBr, adU, adE, wrWi, wrLt, wrFr, wrBk, wrCk, wrRl, wrRb, cbWi, cbAt, cbSp, cbLt, cbFr, cbBk, cbCk, cbRa, cbRs, cbRl, cbRb, cbMay, cbLk, cbLo, cbRe, cbSg, cbAw, bxP, bxB, bxPr, bxBr, alP, alB, alPr, alBr, ldP', ldB', ldPr', ldBr', ldI', ldU', ldL', ldS_pol, ldS_bud, ldF_p0, ldF_p1, ldF_p2, ldF_b0, ldF_b1, ldF_b2, stP', stB', stPr', stBr', stI', stU', stT', stL, polLen, budLen, layP, layB, layB0, layB1, layB2, faP0, faP1, faP2, faB0, faB1, faB2, faPr0, faPr1, faPr2, faBr0, faBr1, faBr2, List.length_nil, List.length_cons, List.length_append, Nat.reduceAdd, Nat.reduceLeDiff, List.set_cons_zero, List.set_cons_succ, and_self, true_and, Nat.le_refl, apure_max, apure_min, maxV, minV, finish, ares, aresL, ares1_tmp, ares1_cell, aresC_adr, aextract, h33, h34, lssI, d0]
  exact ⟨_, rfl⟩

theorem bho_loop (hC : BudCalls self) (ha : 1 ≤ a ∧ a ≤ 1000) (hb : 1 ≤ b) (hc : 0 ≤ c ∧ c ≤ a) (hlen : len ≤ 100) (hnf : 100 < nf) {S : Mem → Prop} (hS : Acts S vs len) (hSk : ∀ m l n k l' n' k' L, S m → Cfg m p q a b c l n k → S (ap (wb m q l' n' k') L))
    (hm : S m) (hK : Cfg m p q a b c l n false) (hI : HoldsB F p q vs len a b 0 t l n s r) : ∃ F' m', aloop (acodeN E self nf lpbho_0) nf (lst F 108) m = some (.exit 0, lst F' 108, m') := by
  have h := aloop_inv (body := acodeN E self nf lpbho_0) (N := len) (I := fun i T m' => ∃ F t l n s r, T = lst F 108 ∧ S m' ∧ Cfg m' p q a b c l n false ∧ HoldsB F p q vs len a b i t l n s r)
    (Q := fun e T m' => e = .exit 0 ∧ ∃ F', T = lst F' 108) (fun i T m' hi hI => by
      obtain ⟨F, t, l, n, s, r, rfl, hm, hK, hI⟩ := hI
      by_cases hlt : i < len
      · left
        obtain ⟨pa, x, y, hx0, hx1, hix, hld⟩ := hS i hlt
        have hld' : ∀ L, aload E.P 54 pa (ap (wb m' q l n false) L) = some (actV x y) := fun L => hld _ (hSk m' l n false l n false L hm hK)
        obtain ⟨F', t', l', n', s', r', L, hr, hI'⟩ := bho_it (nf := nf) hC ha hb hc hK.rd hI hlt hlen ⟨hx0, hx1⟩ hix hld'
        rw [← ap_nil, ← wb_self hK] at hr
        exact ⟨_, _, hr, hlt, F', t', l', n', s', r', rfl, hSk m' l n false l' n' false L hm hK, wb_cfg hK L, hI'⟩
      · right
        have hie : i = len := by omega
        subst hie
        obtain ⟨F', hr⟩ := bho_end (self := self) (nf := nf) (m := m') hI.f33 hI.f34
        exact ⟨_, _, _, hr, by simp, rfl, F', rfl⟩)
  obtain ⟨e, T', m', hr, rfl, F', rfl⟩ := h len 0 nf (lst F 108) m (by omega) (by omega) ⟨F, t, l, n, s, r, rfl, hm, hK, hI⟩
  exact ⟨F', m', hr⟩

theorem bho_front (hC : BudCalls self) {M0 : Mem} (hAw : ∀ L, ainv E self 7 [] (ap M0 L) = some (.bool true, ap M0 L)) (ht : 0 ≤ t ∧ t < 18446744073709551616) (hal : alen E.P 52 vs = some (.int .i64 (len : Nat)) ∨ (alen E.P 52 vs = none ∧ apC1 E.P .len #[52] 3 vs = some (.int .i64 (len : Nat)))) (hnf : 100 < nf) {S : Mem → Prop} (hS : Acts S vs len) (hSk : ∀ m l n k l' n' k' L, S m → Cfg m (M0.length + 0) (M0.length + 1) a b c l n k → S (ap (wb m (M0.length + 1) l' n' k') L)) (hm9 : S (ap M0 [.row false 24 (polC a b c), .row false 26 (budC a (t / b) false)])) :
    ∃ m', abody E self nf 5 [pol a b c, vs, .int .u64 t] (ap M0 []) = some (.bool true, m') := by
  rw [abody_eqF (by kernel_rfl) Try.func5 bodybho (by kernel_rfl) (Nat.le_of_ble_eq_true rfl)]
  rw [show Try.f5.ntmps = 108 from rfl]
  have hck := fun M => hC.ck a b c M
  cases hm : may a b c with
  | false =>
    rw [hm] at hck
    have e1 : ((2 : Int) != 0) = true := rfl
    simp only [ebho_0, ebho_1, ebho_10, ebho_11, ebho_12, ebho_13, ebho_14, ebho_15, ebho_16, ebho_17, ebho_18, ebho_19, ebho_2, ebho_20, ebho_21, ebho_22, ebho_23, ebho_24, ebho_25, ebho_26, ebho_27, ebho_3, ebho_4, ebho_5, ebho_6, ebho_7, ebho_8, ebho_9, lbho_0, lbho_1, lbho_2, lbho_3, lbho_4, lbho_5, lbho_6, lbho_7, lbho_8, lbho_9, lbho_10, lbho_11, lbho_12, lbho_13, lbho_14, lbho_15, lbho_16, lbho_17, lbho_18, lbho_19, lbho_20, lbho_21, lbho_22, lbho_23, lbho_24, lbho_25, lbho_26, lbho_27, gbho_24_11, gbho_24_6, gbho_3_3, agd_none, gdAt, gdV_bool, gdV_undef, Try.f5, List.append_eq, List.cons_append, List.nil_append, apure_call1, apure_call2, apure_call3, bft, btf, acodeN, List.getElem?_toArray, List.getElem?_cons_zero, List.getElem?_cons_succ, aopsN, adrawT, cls, astep, aop, afloat, ev, nth_lst, get_lst, aput, setAt_lst, upd_at, init_zero, init_succ, init_nil, Nat.reduceLT, Nat.reduceEqDiff, reduceIte, abuiltin, alen, Option.map_some, Option.map_none, orElse_some, apure_add, List.map_cons, List.map_nil, List.all_cons, List.all_nil, lit2, lit1, lit0, List.isEmpty_nil, Bool.and_self, Bool.and_true, Bool.true_and, Bool.false_and, Bool.and_false, Bool.not_true, Bool.not_false, Bool.or_true, Bool.true_or, Bool.false_or, Bool.or_false, Bool.false_eq_true, if_true, if_false, List.length_map, beq_self_eq_true, und3, und4, und5, und9, eqlV9_int, neqV9_int, eqlV9_bool, neqV9_bool, eqlV9_str, neqV9_str, eqlB, neqB, eqlBr, neqBr, ↓aop_eqlV9, ↓aop_neqV9, ↓afloat_eqlV9, ↓afloat_neqV9, apure_eqlV9, apure_neqV9, eqlW, neqW, eqlI64, neqI64, aload_sealed, adB, adBr, adU, adE, wrWi, wrLt, wrFr, wrBk, wrCk, wrRl, wrRb, cbWi, cbAt, cbSp, cbLt, cbFr, cbBk, cbCk, cbRa, cbRs, cbRl, cbRb, cbMay, cbLk, cbLo, cbRe, cbSg, cbAw, bxP, bxB, bxPr, bxBr, alP, alB, alPr, alBr, ldP', ldB', ldPr', ldBr', ldI', ldU', ldL', ldS_pol, ldS_bud, ldF_p0, ldF_p1, ldF_p2, ldF_b0, ldF_b1, ldF_b2, stP', stB', stPr', stBr', stI', stU', stT', stL, polLen, budLen, layP, layB, layB0, layB1, layB2, faP0, faP1, faP2, faB0, faB1, faB2, faPr0, faPr1, faPr2, faBr0, faBr1, faBr2, List.length_nil, List.length_cons, List.length_append, Nat.reduceAdd, Nat.reduceLeDiff, List.set_cons_zero, List.set_cons_succ, and_self, true_and, Nat.le_refl, apure_max, apure_min, maxV, minV, finish, ares, aresL, ares1_tmp, ares1_cell, aresC_adr, aextract, hAw, hck, e1]
    exact ⟨_, rfl⟩
  | true =>
    rw [hm] at hck
    obtain ⟨ha1, ha2, hb, hc1, hc2⟩ := may_b hm
    have e1 : ((0 : Int) != 0) = false := rfl
    by_cases h100 : 100 < len
    · have d1 : decide (((len : Nat) : Int) > 100) = true := decide_eq_true (by omega)
      rcases hal with h1 | ⟨h1, h2⟩
      · simp only [ebho_0, ebho_1, ebho_10, ebho_11, ebho_12, ebho_13, ebho_14, ebho_15, ebho_16, ebho_17, ebho_18, ebho_19, ebho_2, ebho_20, ebho_21, ebho_22, ebho_23, ebho_24, ebho_25, ebho_26, ebho_27, ebho_3, ebho_4, ebho_5, ebho_6, ebho_7, ebho_8, ebho_9, lbho_0, lbho_1, lbho_2, lbho_3, lbho_4, lbho_5, lbho_6, lbho_7, lbho_8, lbho_9, lbho_10, lbho_11, lbho_12, lbho_13, lbho_14, lbho_15, lbho_16, lbho_17, lbho_18, lbho_19, lbho_20, lbho_21, lbho_22, lbho_23, lbho_24, lbho_25, lbho_26, lbho_27, gbho_24_11, gbho_24_6, gbho_3_3, agd_none, gdAt, gdV_bool, gdV_undef, Try.f5, List.append_eq, List.cons_append, List.nil_append, apure_call1, apure_call2, apure_call3, bft, btf, acodeN, List.getElem?_toArray, List.getElem?_cons_zero, List.getElem?_cons_succ, aopsN, adrawT, cls, astep, aop, afloat, ev, nth_lst, get_lst, aput, setAt_lst, upd_at, init_zero, init_succ, init_nil, Nat.reduceLT, Nat.reduceEqDiff, reduceIte, abuiltin, Option.map_some, Option.map_none, orElse_some, apure_add, List.map_cons, List.map_nil, List.all_cons, List.all_nil, lit2, lit1, lit0, List.isEmpty_nil, Bool.and_self, Bool.and_true, Bool.true_and, Bool.false_and, Bool.and_false, Bool.not_true, Bool.not_false, Bool.or_true, Bool.true_or, Bool.false_or, Bool.or_false, Bool.false_eq_true, if_true, if_false, List.length_map, beq_self_eq_true, und3, und4, und5, und9, eqlV9_int, neqV9_int, eqlV9_bool, neqV9_bool, eqlV9_str, neqV9_str, eqlB, neqB, eqlBr, neqBr, ↓aop_eqlV9, ↓aop_neqV9, ↓afloat_eqlV9, ↓afloat_neqV9, apure_eqlV9, apure_neqV9, eqlW, neqW, eqlI64, neqI64, aload_sealed, adB, adBr, adU, adE, wrWi, wrLt, wrFr, wrBk, wrCk, wrRl, wrRb, cbWi, cbAt, cbSp, cbLt, cbFr, cbBk, cbCk, cbRa, cbRs, cbRl, cbRb, cbMay, cbLk, cbLo, cbRe, cbSg, cbAw, bxP, bxB, bxPr, bxBr, alP, alB, alPr, alBr, ldP', ldB', ldPr', ldBr', ldI', ldU', ldL', ldS_pol, ldS_bud, ldF_p0, ldF_p1, ldF_p2, ldF_b0, ldF_b1, ldF_b2, stP', stB', stPr', stBr', stI', stU', stT', stL, polLen, budLen, layP, layB, layB0, layB1, layB2, faP0, faP1, faP2, faB0, faB1, faB2, faPr0, faPr1, faPr2, faBr0, faBr1, faBr2, List.length_nil, List.length_cons, List.length_append, Nat.reduceAdd, Nat.reduceLeDiff, List.set_cons_zero, List.set_cons_succ, and_self, true_and, Nat.le_refl, apure_max, apure_min, maxV, minV, finish, ares, aresL, ares1_tmp, ares1_cell, aresC_adr, aextract, hAw, hck, e1, h1, gtrI, d1]
        exact ⟨_, rfl⟩
      · simp only [ebho_0, ebho_1, ebho_10, ebho_11, ebho_12, ebho_13, ebho_14, ebho_15, ebho_16, ebho_17, ebho_18, ebho_19, ebho_2, ebho_20, ebho_21, ebho_22, ebho_23, ebho_24, ebho_25, ebho_26, ebho_27, ebho_3, ebho_4, ebho_5, ebho_6, ebho_7, ebho_8, ebho_9, lbho_0, lbho_1, lbho_2, lbho_3, lbho_4, lbho_5, lbho_6, lbho_7, lbho_8, lbho_9, lbho_10, lbho_11, lbho_12, lbho_13, lbho_14, lbho_15, lbho_16, lbho_17, lbho_18, lbho_19, lbho_20, lbho_21, lbho_22, lbho_23, lbho_24, lbho_25, lbho_26, lbho_27, gbho_24_11, gbho_24_6, gbho_3_3, agd_none, gdAt, gdV_bool, gdV_undef, Try.f5, List.append_eq, List.cons_append, List.nil_append, apure_call1, apure_call2, apure_call3, bft, btf, acodeN, List.getElem?_toArray, List.getElem?_cons_zero, List.getElem?_cons_succ, aopsN, adrawT, cls, astep, aop, afloat, ev, nth_lst, get_lst, aput, setAt_lst, upd_at, init_zero, init_succ, init_nil, Nat.reduceLT, Nat.reduceEqDiff, reduceIte, abuiltin, Option.map_some, Option.map_none, orElse_some, apure_add, List.map_cons, List.map_nil, List.all_cons, List.all_nil, lit2, lit1, lit0, List.isEmpty_nil, Bool.and_self, Bool.and_true, Bool.true_and, Bool.false_and, Bool.and_false, Bool.not_true, Bool.not_false, Bool.or_true, Bool.true_or, Bool.false_or, Bool.or_false, Bool.false_eq_true, if_true, if_false, List.length_map, beq_self_eq_true, und3, und4, und5, und9, eqlV9_int, neqV9_int, eqlV9_bool, neqV9_bool, eqlV9_str, neqV9_str, eqlB, neqB, eqlBr, neqBr, ↓aop_eqlV9, ↓aop_neqV9, ↓afloat_eqlV9, ↓afloat_neqV9, apure_eqlV9, apure_neqV9, eqlW, neqW, eqlI64, neqI64, aload_sealed, adB, adBr, adU, adE, wrWi, wrLt, wrFr, wrBk, wrCk, wrRl, wrRb, cbWi, cbAt, cbSp, cbLt, cbFr, cbBk, cbCk, cbRa, cbRs, cbRl, cbRb, cbMay, cbLk, cbLo, cbRe, cbSg, cbAw, bxP, bxB, bxPr, bxBr, alP, alB, alPr, alBr, ldP', ldB', ldPr', ldBr', ldI', ldU', ldL', ldS_pol, ldS_bud, ldF_p0, ldF_p1, ldF_p2, ldF_b0, ldF_b1, ldF_b2, stP', stB', stPr', stBr', stI', stU', stT', stL, polLen, budLen, layP, layB, layB0, layB1, layB2, faP0, faP1, faP2, faB0, faB1, faB2, faPr0, faPr1, faPr2, faBr0, faBr1, faBr2, List.length_nil, List.length_cons, List.length_append, Nat.reduceAdd, Nat.reduceLeDiff, List.set_cons_zero, List.set_cons_succ, and_self, true_and, Nat.le_refl, apure_max, apure_min, maxV, minV, finish, ares, aresL, ares1_tmp, ares1_cell, aresC_adr, aextract, hAw, hck, e1, h1, h2, gtrI, d1]
        exact ⟨_, rfl⟩
    · have d1 : decide (((len : Nat) : Int) > 100) = false := decide_eq_false (by omega)
      have q1 := fun M => hC.fr (a := a) (c := c) hb ht.1 ht.2 M
      have q2 := fun M => hC.wi (a := a) (c := c) hb ht.1 ht.2 M
      have hK : Cfg (ap M0 [.row false 24 (polC a b c), .row false 26 (budC a (t / b) false)]) (M0.length + 0) (M0.length + 1) a b c a (t / b) false := ⟨⟨false, ap_get M0 _ 0⟩, ap_get M0 _ 1, by omega⟩
      obtain ⟨F', m', hr⟩ := bho_loop (nf := nf) (F := upd (upd (upd (upd (upd (upd (upd (upd (upd (upd (upd (upd (upd (upd (upd (upd (upd (upd (upd (upd (upd (upd (upd (upd (upd (init [pol a b c, vs, .int .u64 t]) 3 (adr M0 0 0)) 6 (.bool false)) 16 (.bool true)) 17 (.bool false)) 18 (pol a b c)) 19 (.int .i64 0)) 20 (.bool false)) 21 (.bool false)) 22 (vs)) 23 (.int .i64 (len : Nat))) 24 (.bool false)) 25 (.bool false)) 26 (pol a b c)) 27 (.int .u64 t)) 28 (bud a (t / b) false)) 7 (adr M0 1 0)) 29 (pol a b c)) 30 (.int .u64 t)) 31 (.int .u64 (t / b))) 8 (.int .u64 (t / b))) 9 (.int .i64 0)) 10 (.int .i64 0)) 32 (vs)) 33 (.int .i64 (len : Nat))) 34 (.int .i64 0)) (s := 0) (r := 0) hC ⟨ha1, ha2⟩ hb ⟨hc1, hc2⟩ (by omega) hnf hS hSk hm9 hK
        ⟨rfl, rfl, rfl, rfl, rfl, rfl, rfl, rfl, rfl, ht, rfl, by omega, by omega, by omega⟩
      rcases hal with h1 | ⟨h1, h2⟩
      · simp only [ebho_0, ebho_1, ebho_10, ebho_11, ebho_12, ebho_13, ebho_14, ebho_15, ebho_16, ebho_17, ebho_18, ebho_19, ebho_2, ebho_20, ebho_21, ebho_22, ebho_23, ebho_24, ebho_25, ebho_26, ebho_27, ebho_3, ebho_4, ebho_5, ebho_6, ebho_7, ebho_8, ebho_9, lbho_0, lbho_1, lbho_2, lbho_3, lbho_4, lbho_5, lbho_6, lbho_7, lbho_8, lbho_9, lbho_10, lbho_11, lbho_12, lbho_13, lbho_14, lbho_15, lbho_16, lbho_17, lbho_18, lbho_19, lbho_20, lbho_21, lbho_22, lbho_23, lbho_24, lbho_25, lbho_26, lbho_27, gbho_24_11, gbho_24_6, gbho_3_3, agd_none, gdAt, gdV_bool, gdV_undef, Try.f5, List.append_eq, List.cons_append, List.nil_append, apure_call1, apure_call2, apure_call3, bft, btf, acodeN, List.getElem?_toArray, List.getElem?_cons_zero, List.getElem?_cons_succ, aopsN, adrawT, cls, astep, aop, afloat, ev, nth_lst, get_lst, aput, setAt_lst, upd_at, init_zero, init_succ, init_nil, Nat.reduceLT, Nat.reduceEqDiff, reduceIte, abuiltin, Option.map_some, Option.map_none, orElse_some, apure_add, List.map_cons, List.map_nil, List.all_cons, List.all_nil, lit2, lit1, lit0, List.isEmpty_nil, Bool.and_self, Bool.and_true, Bool.true_and, Bool.false_and, Bool.and_false, Bool.not_true, Bool.not_false, Bool.or_true, Bool.true_or, Bool.false_or, Bool.or_false, Bool.false_eq_true, if_true, if_false, List.length_map, beq_self_eq_true, und3, und4, und5, und9, eqlV9_int, neqV9_int, eqlV9_bool, neqV9_bool, eqlV9_str, neqV9_str, eqlB, neqB, eqlBr, neqBr, ↓aop_eqlV9, ↓aop_neqV9, ↓afloat_eqlV9, ↓afloat_neqV9, apure_eqlV9, apure_neqV9, eqlW, neqW, eqlI64, neqI64, aload_sealed, adB, adBr, adU, adE, wrWi, wrLt, wrFr, wrBk, wrCk, wrRl, wrRb, cbWi, cbAt, cbSp, cbLt, cbFr, cbBk, cbCk, cbRa, cbRs, cbRl, cbRb, cbMay, cbLk, cbLo, cbRe, cbSg, cbAw, bxP, bxB, bxPr, bxBr, alP, alB, alPr, alBr, ldP', ldB', ldPr', ldBr', ldI', ldU', ldL', ldS_pol, ldS_bud, ldF_p0, ldF_p1, ldF_p2, ldF_b0, ldF_b1, ldF_b2, stP', stB', stPr', stBr', stI', stU', stT', stL, polLen, budLen, layP, layB, layB0, layB1, layB2, faP0, faP1, faP2, faB0, faB1, faB2, faPr0, faPr1, faPr2, faBr0, faBr1, faBr2, List.length_nil, List.length_cons, List.length_append, Nat.reduceAdd, Nat.reduceLeDiff, List.set_cons_zero, List.set_cons_succ, and_self, true_and, Nat.le_refl, apure_max, apure_min, maxV, minV, finish, ares, aresL, ares1_tmp, ares1_cell, aresC_adr, aextract, hAw, hck, e1, q1, q2, h1, gtrI, d1, hr]
        exact ⟨_, rfl⟩
      · simp only [ebho_0, ebho_1, ebho_10, ebho_11, ebho_12, ebho_13, ebho_14, ebho_15, ebho_16, ebho_17, ebho_18, ebho_19, ebho_2, ebho_20, ebho_21, ebho_22, ebho_23, ebho_24, ebho_25, ebho_26, ebho_27, ebho_3, ebho_4, ebho_5, ebho_6, ebho_7, ebho_8, ebho_9, lbho_0, lbho_1, lbho_2, lbho_3, lbho_4, lbho_5, lbho_6, lbho_7, lbho_8, lbho_9, lbho_10, lbho_11, lbho_12, lbho_13, lbho_14, lbho_15, lbho_16, lbho_17, lbho_18, lbho_19, lbho_20, lbho_21, lbho_22, lbho_23, lbho_24, lbho_25, lbho_26, lbho_27, gbho_24_11, gbho_24_6, gbho_3_3, agd_none, gdAt, gdV_bool, gdV_undef, Try.f5, List.append_eq, List.cons_append, List.nil_append, apure_call1, apure_call2, apure_call3, bft, btf, acodeN, List.getElem?_toArray, List.getElem?_cons_zero, List.getElem?_cons_succ, aopsN, adrawT, cls, astep, aop, afloat, ev, nth_lst, get_lst, aput, setAt_lst, upd_at, init_zero, init_succ, init_nil, Nat.reduceLT, Nat.reduceEqDiff, reduceIte, abuiltin, Option.map_some, Option.map_none, orElse_some, apure_add, List.map_cons, List.map_nil, List.all_cons, List.all_nil, lit2, lit1, lit0, List.isEmpty_nil, Bool.and_self, Bool.and_true, Bool.true_and, Bool.false_and, Bool.and_false, Bool.not_true, Bool.not_false, Bool.or_true, Bool.true_or, Bool.false_or, Bool.or_false, Bool.false_eq_true, if_true, if_false, List.length_map, beq_self_eq_true, und3, und4, und5, und9, eqlV9_int, neqV9_int, eqlV9_bool, neqV9_bool, eqlV9_str, neqV9_str, eqlB, neqB, eqlBr, neqBr, ↓aop_eqlV9, ↓aop_neqV9, ↓afloat_eqlV9, ↓afloat_neqV9, apure_eqlV9, apure_neqV9, eqlW, neqW, eqlI64, neqI64, aload_sealed, adB, adBr, adU, adE, wrWi, wrLt, wrFr, wrBk, wrCk, wrRl, wrRb, cbWi, cbAt, cbSp, cbLt, cbFr, cbBk, cbCk, cbRa, cbRs, cbRl, cbRb, cbMay, cbLk, cbLo, cbRe, cbSg, cbAw, bxP, bxB, bxPr, bxBr, alP, alB, alPr, alBr, ldP', ldB', ldPr', ldBr', ldI', ldU', ldL', ldS_pol, ldS_bud, ldF_p0, ldF_p1, ldF_p2, ldF_b0, ldF_b1, ldF_b2, stP', stB', stPr', stBr', stI', stU', stT', stL, polLen, budLen, layP, layB, layB0, layB1, layB2, faP0, faP1, faP2, faB0, faB1, faB2, faPr0, faPr1, faPr2, faBr0, faBr1, faBr2, List.length_nil, List.length_cons, List.length_append, Nat.reduceAdd, Nat.reduceLeDiff, List.set_cons_zero, List.set_cons_succ, and_self, true_and, Nat.le_refl, apure_max, apure_min, maxV, minV, finish, ares, aresL, ares1_tmp, ares1_cell, aresC_adr, aextract, hAw, hck, e1, q1, q2, h1, h2, gtrI, d1, hr]
        exact ⟨_, rfl⟩

/-- The document's ticks and guesses: the law, whatever the acts lead to. -/
theorem is_act {N : Nat} {cs : List Value} (h : AllIs N [.int .u8, .bool] cs) : ∃ (x : Int) (y : Bool), cs = actC x y ∧ 0 ≤ x ∧ x < 256 := by
  obtain ⟨v0, l0, rfl, k0, h⟩ := h.cons
  obtain ⟨v1, l1, rfl, k1, h⟩ := h.cons
  obtain rfl := h.nil
  obtain ⟨x, rfl, hx⟩ := k0
  obtain ⟨y, rfl⟩ := k1
  unfold Lit.wf at hx
  have h1 : (IntKind.u8.min : Int) = 0 := by decide
  have h2 : (IntKind.u8.max : Int) = 255 := by decide
  simp only [h1, h2, Bool.and_eq_true, decide_eq_true_eq] at hx
  exact ⟨x, y, rfl, by omega, by omega⟩
theorem undActs : E.P.underlying 52 = some (.slice 54) := Try.underlying52
theorem awk2 (b : Blk) (L : List Blk) : ainv E (RQ 2000) 7 [] (ap (mem0 ++ [b]) L) = some (.bool true, ap (mem0 ++ [b]) L) := by
  have h := awk (b :: L)
  have e : ap (mem0 ++ [b]) L = ap mem0 (b :: L) := by unfold ap; rw [List.append_assoc]; rfl
  rw [e]
  exact h

theorem lawBH {cs0 : List Value} {a1 : Value} {m1 : Mem} {v2 : Value} (k0 : AllIs maxLen [.int .i64, .int .u64, .int .i64] cs0) (k1 : SliceArg maxLen [.int .u8, .bool] mem0 a1 m1) (k2 : CK.is maxLen (.int .u64) v2) :
    ∃ m', (runQ E mem0 [] 2001).1 5 [.agg ⟨cs0⟩, a1, v2] m1 = some (.bool true, m') := by
  obtain ⟨a, b, c, e0, -, -, -⟩ := is_pol k0
  obtain ⟨t, rfl, ht⟩ := is_u64 k2
  rw [e0]
  cases k1 with
  | nil =>
    obtain ⟨m', h⟩ := bho_front (nf := 2001) (vs := .slice none 0 0) (len := 0) (a := a) (b := b) (c := c) (S := fun _ => True) budCalls awk ht (.inr ⟨rfl, by kernel_rfl⟩) (Nat.le_of_ble_eq_true rfl) (fun i hi => absurd hi (Nat.not_lt_zero i)) (fun _ _ _ _ _ _ _ _ _ _ => trivial) trivial
    exact ⟨m', runQ_body9 (n := 2000) h⟩
  | row hlc hl hel =>
    rename_i off len cap row vs
    have hget : (mem0 ++ [Blk.row true row (ahead off vs)])[mem0.length]? = some (.row true row (ahead off vs)) := by simp
    obtain ⟨m', h⟩ := bho_front (nf := 2001) (M0 := mem0 ++ [.row true row (ahead off vs)]) (vs := .slice (some ⟨mem0.length, off, none⟩) len cap) (len := len) (a := a) (b := b) (c := c) (S := fun m => m[mem0.length]? = some (.row true row (ahead off vs))) budCalls (awk2 _) ht
      (.inl (by unfold alen; rw [undActs])) (Nat.le_of_ble_eq_true rfl)
      (fun i hi => by
        obtain ⟨x, y, hxy, hx0, hx1⟩ := is_act (hel i hi)
        refine ⟨plc mem0.length (off + i * 2), x, y, hx0, hx1, ?_, fun m hm => ?_⟩
        · obtain ⟨z, hz, hz2⟩ : ∃ z, E.P.info? 54 = some z ∧ z.size = 2 := Option.map_eq_some_iff.1 (by kernel_rfl : (E.P.info? 54).map (·.size) = some 2)
          unfold aindexAddr plc
          simp only [undActs, hz, hz2]
          rw [if_pos ⟨by omega, by omega⟩, Int.toNat_natCast]
        · have hal : (ahead off vs).length = off + len * 2 := by unfold ahead; rw [List.length_append, List.length_replicate, hl]; rfl
          rw [aload_at (n := 2) (d := .struct _) Try.underlying54 rfl (by kernel_rfl) hm (by omega)]
          have hd : (ahead off vs).drop (off + i * 2) = vs.drop (i * 2) := by
            unfold ahead
            rw [List.drop_append, List.length_replicate, List.drop_eq_nil_of_le (by rw [List.length_replicate]; omega), List.nil_append, Nat.add_sub_cancel_left]
          rw [hd]
          have : (vs.drop (i * 2)).take 2 = actC x y := hxy
          rw [this]
          rfl)
      (fun m l n k l' n' k' L hm hK => ap_old (by unfold wb; rw [List.getElem?_set_ne (by simp only [List.length_append, List.length_cons, List.length_nil, ne_eq]; omega)]; exact hm)) (ap_old hget)
    exact ⟨m', runQ_body9 (n := 2000) h⟩
end
end Go.Am.Seat
