/-
  Texts of my own, put together: BT12, BU7, T, X3, X4, BU8, BT13.
-/
import Derived.Test.YtalilffocbkfnaaGrBudgetTexts15
import Derived.Test.YtalilffocbkfnaaGrBudgetTexts13
import Derived.Test.YtalilffocbkfnaaGrBudgetTexts8
import Derived.Lib.LaidTab
import Derived.ChangeShapes
import Derived.OpenShut
import Derived.Deep.Slices
import Derived.Deep.Fields
import Derived.Carry
import Derived.ChangeSame
import Derived.ProofKit
/-
  BudgetTexts: the law (own work).
-/
set_option linter.unusedSimpArgs false
set_option linter.unusedVariables false
namespace Go.Am.Seat
open Go.Proofs Go.Am
set_option maxRecDepth 100000

section
variable {N : Nat} {m : Mem} {l : List UInt8}
theorem pa_body (hN : 8 ≤ N) : ∃ m', abody E (RQ (N + 8)) (N + 9) 21 [tx l] (ap m []) = some (.tuple ⟨[bud (parsed l).1 (parsed l).2.1 (parsed l).2.2.1, .int .i64 (parsed l).2.2.2]⟩, m') := by
  rw [abody_eqF (by kernel_rfl) Try.func21 bodybpa (by kernel_rfl) (Nat.le_of_ble_eq_true rfl)]
  rw [show Try.f21.ntmps = 8 from rfl]
  have hw : ∀ M, ainv E (RQ (N + 8)) 26 [tx l, .func (.func 27) #[] #[]] M = some (.tuple ⟨[bud (parsed l).1 (parsed l).2.1 (parsed l).2.2.1, .int .i64 (parsed l).2.2.2]⟩, M) :=
    fun M => ans9 (n := N + 7) (args := [tx l, fnRd]) rfl rfl rfl (fun m => who_body hN) M
  generalize parsed l = y at *
  obtain ⟨a, b, c, e⟩ := y
  generalize RQ (N + 8) = slf at *
  simp only [ebpa_0, ebpa_1, lbpa_0, lbpa_1, agd_none, gdAt, gdV_bool, gdV_undef, Try.f21, List.append_eq, List.cons_append, List.nil_append, apure_call1, apure_call2, apure_call3, bft, btf, acodeN, List.getElem?_toArray, List.getElem?_cons_zero, List.getElem?_cons_succ, aopsN, adrawT, cls, astep, aop, afloat, ev, nth_lst, get_lst, aput, setAt_lst, upd_at, init_zero, init_succ, init_nil, Nat.reduceLT, Nat.reduceEqDiff, reduceIte, abuiltin, Option.map_some, Option.map_none, orElse_some, apure_add, List.map_cons, List.map_nil, List.all_cons, List.all_nil, lit2, lit1, lit0, List.isEmpty_nil, Bool.and_self, Bool.and_true, Bool.true_and, Bool.false_and, Bool.and_false, Bool.not_true, Bool.not_false, Bool.or_true, Bool.true_or, Bool.false_or, Bool.or_false, Bool.false_eq_true, if_true, if_false, List.length_map, beq_self_eq_true, und3, und4, und5, und9, eqlV9_int, neqV9_int, eqlV9_bool, neqV9_bool, eqlV9_str, neqV9_str, eqlB, neqB, eqlBr, neqBr, ↓aop_eqlV9, ↓aop_neqV9, ↓afloat_eqlV9, ↓afloat_neqV9, apure_eqlV9, apure_neqV9, eqlW, neqW, eqlI64, neqI64, aload_sealed, adB, adBr, adU, adE, wrWi, wrLt, wrFr, wrBk, wrCk, wrRl, wrRb, cbWi, cbAt, cbSp, cbLt, cbFr, cbBk, cbCk, cbRa, cbRs, cbRl, cbRb, cbMay, cbLk, cbLo, cbRe, cbSg, cbAw, bxP, bxB, bxPr, bxBr, alP, alB, alPr, alBr, ldP', ldB', ldPr', ldBr', ldI', ldU', ldL', ldS_pol, ldS_bud, ldF_p0, ldF_p1, ldF_p2, ldF_b0, ldF_b1, ldF_b2, stP', stB', stPr', stBr', stI', stU', stT', stL, polLen, budLen, layP, layB, layB0, layB1, layB2, faP0, faP1, faP2, faB0, faB1, faB2, faPr0, faPr1, faPr2, faBr0, faBr1, faBr2, List.length_nil, List.length_cons, List.length_append, Nat.reduceAdd, Nat.reduceLeDiff, List.set_cons_zero, List.set_cons_succ, and_self, true_and, Nat.le_refl, apure_max, apure_min, maxV, minV, finish, ares, aresL, ares1_tmp, ares1_cell, aresC_adr, aextract, cbWho, hw]
  exact ⟨_, rfl⟩
theorem pa_call (hN : 8 ≤ N) : AnsB (RQ (N + 9)) 21 [tx l] (.tuple ⟨[bud (parsed l).1 (parsed l).2.1 (parsed l).2.2.1, .int .i64 (parsed l).2.2.2]⟩) := ans9 rfl rfl rfl fun m => pa_body hN
end

noncomputable def apB0 (P : Program) (t ty : TypeId) : Option Value := apure P [] { dst := none, op := .build t #[], type := ty, pos := "", after := #[], guard := none }
theorem apure_build0 {P : Program} {T : List Value} {t ty : TypeId} {pos : String} {af : Array Edge} {gu : Option (Nat × Bool)} {dd : Option Tmp} :
    apure P T { dst := dd, op := .build t #[], type := ty, pos := pos, after := af, guard := gu } = apB0 P t ty := by
  unfold apB0 apure
  simp [Op.operands, execOp]
theorem buildB0 : apB0 E.P 26 26 = some (bud 0 0 false) := by kernel_rfl
theorem lssB (a b : Int) : abin .lss .u8 a .u8 b = some (.bool (decide (a < b))) := by kernel_rfl

/-- What the law asks of its calls. -/
structure TextCalls (slf : Self) : Prop where
  aw : ∀ L, ainv E slf 7 [] (ap mem0 L) = some (.bool true, ap mem0 L)
  pa : ∀ (l : List UInt8) M, ainv E slf 21 [tx l] M = some (.tuple ⟨[bud (parsed l).1 (parsed l).2.1 (parsed l).2.2.1, .int .i64 (parsed l).2.2.2]⟩, M)
  te : ∀ (n w : Nat) (c : Bool) M, n < 2147483648 → ainv E slf 22 [bud (n : Nat) (w : Nat) c] M = some (tx (budB n w c), M)
theorem textCalls : TextCalls (RQ 2000) where
  aw := awk
  pa := fun l M => pa_call (N := 1991) (by omega) M
  te := fun n w c M h => text_call (N := 1997) (by omega) h M

section
variable {self : Self} {nf : Nat} {l : List UInt8} {x w e : Int} {y : Bool} {r : Bool} {F : Nat → Value}
noncomputable def sufT : Code := (Code.seq (Code.seq (Code.region 9 rbte_9 false) (Code.cond (Operand.tmp 62) (Code.seq (Code.region 10 rbte_10 false) Code.ret) Code.skip)) (Code.seq (Code.region 11 rbte_11 false) (Code.seq (Code.region 12 rbte_12 false) (Code.seq (Code.region 13 rbte_13 false) Code.ret))))
theorem bte_tail (hC : TextCalls self) {B : Blk} (hw : 0 ≤ w ∧ w < 18446744073709551616) (h2 : F 2 = adr mem0 0 0) (h6 : F 6 = .int .i64 e) (h7 : F 7 = .bool r) (hr : (e == 0) = r) :
    ∃ m', finish E.P Try.f4 (acodeN E self nf sufT (lst F 92) (ap mem0 [.row false 26 (budC x w y), B])) = some (.bool true, m') := by
  unfold sufT
  by_cases h1 : x < 0
  · have d1 : decide (x < 0) = true := decide_eq_true h1
    simp only [ebte_0, ebte_1, ebte_10, ebte_11, ebte_12, ebte_13, ebte_2, ebte_3, ebte_4, ebte_5, ebte_6, ebte_7, ebte_8, ebte_9, lbte_0, lbte_1, lbte_2, lbte_3, lbte_4, lbte_5, lbte_6, lbte_7, lbte_8, lbte_9, lbte_10, lbte_11, lbte_12, lbte_13, gbte_13_13, gbte_13_4, gbte_13_8, gbte_6_11, gbte_6_14, gbte_6_2, gbte_6_8, gbte_8_3, gbte_8_8, gbte_9_3, agd_none, gdAt, gdV_bool, gdV_undef, Try.f4, List.append_eq, List.cons_append, List.nil_append, apure_call1, apure_call2, apure_call3, bft, btf, acodeN, List.getElem?_toArray, List.getElem?_cons_zero, List.getElem?_cons_succ, aopsN, adrawT, cls, astep, aop, afloat, ev, nth_lst, get_lst, aput, setAt_lst, upd_at, init_zero, init_succ, init_nil, Nat.reduceLT, Nat.reduceEqDiff, reduceIte, abuiltin, Option.map_some, Option.map_none, orElse_some, apure_add, List.map_cons, List.map_nil, List.all_cons, List.all_nil, lit2, lit1, lit0, List.isEmpty_nil, Bool.and_self, Bool.and_true, Bool.true_and, Bool.false_and, Bool.and_false, Bool.not_true, Bool.not_false, Bool.or_true, Bool.true_or, Bool.false_or, Bool.or_false, Bool.false_eq_true, if_true, if_false, List.length_map, beq_self_eq_true, und3, und4, und5, und9, eqlV9_int, neqV9_int, eqlV9_bool, neqV9_bool, eqlV9_str, neqV9_str, eqlB, neqB, eqlBr, neqBr, ↓aop_eqlV9, ↓aop_neqV9, ↓afloat_eqlV9, ↓afloat_neqV9, apure_eqlV9, apure_neqV9, eqlW, neqW, eqlI64, neqI64, aload_sealed, adB, adBr, adU, adE, wrWi, wrLt, wrFr, wrBk, wrCk, wrRl, wrRb, cbWi, cbAt, cbSp, cbLt, cbFr, cbBk, cbCk, cbRa, cbRs, cbRl, cbRb, cbMay, cbLk, cbLo, cbRe, cbSg, cbAw, bxP, bxB, bxPr, bxBr, alP, alB, alPr, alBr, ldP', ldB', ldPr', ldBr', ldI', ldU', ldL', ldS_pol, ldS_bud, ldF_p0, ldF_p1, ldF_p2, ldF_b0, ldF_b1, ldF_b2, stP', stB', stPr', stBr', stI', stU', stT', stL, polLen, budLen, layP, layB, layB0, layB1, layB2, faP0, faP1, faP2, faB0, faB1, faB2, faPr0, faPr1, faPr2, faBr0, faBr1, faBr2, List.length_nil, List.length_cons, List.length_append, Nat.reduceAdd, Nat.reduceLeDiff, List.set_cons_zero, List.set_cons_succ, and_self, true_and, Nat.le_refl, apure_max, apure_min, maxV, minV, finish, ares, aresL, ares1_tmp, ares1_cell, aresC_adr, aextract, h2, h6, h7, lssI, d1, hr]
    exact ⟨_, rfl⟩
  · have d1 : decide (x < 0) = false := decide_eq_false h1
    by_cases h3 : x ≥ 2147483648
    · have d2 : decide (x ≥ 2147483648) = true := decide_eq_true h3
      simp only [ebte_0, ebte_1, ebte_10, ebte_11, ebte_12, ebte_13, ebte_2, ebte_3, ebte_4, ebte_5, ebte_6, ebte_7, ebte_8, ebte_9, lbte_0, lbte_1, lbte_2, lbte_3, lbte_4, lbte_5, lbte_6, lbte_7, lbte_8, lbte_9, lbte_10, lbte_11, lbte_12, lbte_13, gbte_13_13, gbte_13_4, gbte_13_8, gbte_6_11, gbte_6_14, gbte_6_2, gbte_6_8, gbte_8_3, gbte_8_8, gbte_9_3, agd_none, gdAt, gdV_bool, gdV_undef, Try.f4, List.append_eq, List.cons_append, List.nil_append, apure_call1, apure_call2, apure_call3, bft, btf, acodeN, List.getElem?_toArray, List.getElem?_cons_zero, List.getElem?_cons_succ, aopsN, adrawT, cls, astep, aop, afloat, ev, nth_lst, get_lst, aput, setAt_lst, upd_at, init_zero, init_succ, init_nil, Nat.reduceLT, Nat.reduceEqDiff, reduceIte, abuiltin, Option.map_some, Option.map_none, orElse_some, apure_add, List.map_cons, List.map_nil, List.all_cons, List.all_nil, lit2, lit1, lit0, List.isEmpty_nil, Bool.and_self, Bool.and_true, Bool.true_and, Bool.false_and, Bool.and_false, Bool.not_true, Bool.not_false, Bool.or_true, Bool.true_or, Bool.false_or, Bool.or_false, Bool.false_eq_true, if_true, if_false, List.length_map, beq_self_eq_true, und3, und4, und5, und9, eqlV9_int, neqV9_int, eqlV9_bool, neqV9_bool, eqlV9_str, neqV9_str, eqlB, neqB, eqlBr, neqBr, ↓aop_eqlV9, ↓aop_neqV9, ↓afloat_eqlV9, ↓afloat_neqV9, apure_eqlV9, apure_neqV9, eqlW, neqW, eqlI64, neqI64, aload_sealed, adB, adBr, adU, adE, wrWi, wrLt, wrFr, wrBk, wrCk, wrRl, wrRb, cbWi, cbAt, cbSp, cbLt, cbFr, cbBk, cbCk, cbRa, cbRs, cbRl, cbRb, cbMay, cbLk, cbLo, cbRe, cbSg, cbAw, bxP, bxB, bxPr, bxBr, alP, alB, alPr, alBr, ldP', ldB', ldPr', ldBr', ldI', ldU', ldL', ldS_pol, ldS_bud, ldF_p0, ldF_p1, ldF_p2, ldF_b0, ldF_b1, ldF_b2, stP', stB', stPr', stBr', stI', stU', stT', stL, polLen, budLen, layP, layB, layB0, layB1, layB2, faP0, faP1, faP2, faB0, faB1, faB2, faPr0, faPr1, faPr2, faBr0, faBr1, faBr2, List.length_nil, List.length_cons, List.length_append, Nat.reduceAdd, Nat.reduceLeDiff, List.set_cons_zero, List.set_cons_succ, and_self, true_and, Nat.le_refl, apure_max, apure_min, maxV, minV, finish, ares, aresL, ares1_tmp, ares1_cell, aresC_adr, aextract, h2, h6, h7, lssI, geqI, d1, d2, hr]
      exact ⟨_, rfl⟩
    · have d2 : decide (x ≥ 2147483648) = false := decide_eq_false h3
      obtain ⟨n, rfl⟩ := Int.eq_ofNat_of_zero_le (show 0 ≤ x by omega)
      obtain ⟨v, rfl⟩ := Int.eq_ofNat_of_zero_le hw.1
      have q1 := fun M => hC.te n v y M (by omega)
      have q2 := fun M => hC.pa (budB n v y) M
      rw [parsed_bud (by omega) (by omega)] at q2
      have e1 : (((13 : Nat) : Int) == 13) = true := rfl
      have e2 : ((0 : Int) == 0) = true := rfl
      simp only [ebte_0, ebte_1, ebte_10, ebte_11, ebte_12, ebte_13, ebte_2, ebte_3, ebte_4, ebte_5, ebte_6, ebte_7, ebte_8, ebte_9, lbte_0, lbte_1, lbte_2, lbte_3, lbte_4, lbte_5, lbte_6, lbte_7, lbte_8, lbte_9, lbte_10, lbte_11, lbte_12, lbte_13, gbte_13_13, gbte_13_4, gbte_13_8, gbte_6_11, gbte_6_14, gbte_6_2, gbte_6_8, gbte_8_3, gbte_8_8, gbte_9_3, agd_none, gdAt, gdV_bool, gdV_undef, Try.f4, List.append_eq, List.cons_append, List.nil_append, apure_call1, apure_call2, apure_call3, bft, btf, acodeN, List.getElem?_toArray, List.getElem?_cons_zero, List.getElem?_cons_succ, aopsN, adrawT, cls, astep, aop, afloat, ev, nth_lst, get_lst, aput, setAt_lst, upd_at, init_zero, init_succ, init_nil, Nat.reduceLT, Nat.reduceEqDiff, reduceIte, abuiltin, Option.map_some, Option.map_none, orElse_some, apure_add, List.map_cons, List.map_nil, List.all_cons, List.all_nil, lit2, lit1, lit0, List.isEmpty_nil, Bool.and_self, Bool.and_true, Bool.true_and, Bool.false_and, Bool.and_false, Bool.not_true, Bool.not_false, Bool.or_true, Bool.true_or, Bool.false_or, Bool.or_false, Bool.false_eq_true, if_true, if_false, List.length_map, beq_self_eq_true, und3, und4, und5, und9, eqlV9_int, neqV9_int, eqlV9_bool, neqV9_bool, eqlV9_str, neqV9_str, eqlB, neqB, eqlBr, neqBr, ↓aop_eqlV9, ↓aop_neqV9, ↓afloat_eqlV9, ↓afloat_neqV9, apure_eqlV9, apure_neqV9, eqlW, neqW, eqlI64, neqI64, aload_sealed, adB, adBr, adU, adE, wrWi, wrLt, wrFr, wrBk, wrCk, wrRl, wrRb, cbWi, cbAt, cbSp, cbLt, cbFr, cbBk, cbCk, cbRa, cbRs, cbRl, cbRb, cbMay, cbLk, cbLo, cbRe, cbSg, cbAw, bxP, bxB, bxPr, bxBr, alP, alB, alPr, alBr, ldP', ldB', ldPr', ldBr', ldI', ldU', ldL', ldS_pol, ldS_bud, ldF_p0, ldF_p1, ldF_p2, ldF_b0, ldF_b1, ldF_b2, stP', stB', stPr', stBr', stI', stU', stT', stL, polLen, budLen, layP, layB, layB0, layB1, layB2, faP0, faP1, faP2, faB0, faB1, faB2, faPr0, faPr1, faPr2, faBr0, faBr1, faBr2, List.length_nil, List.length_cons, List.length_append, Nat.reduceAdd, Nat.reduceLeDiff, List.set_cons_zero, List.set_cons_succ, and_self, true_and, Nat.le_refl, apure_max, apure_min, maxV, minV, finish, ares, aresL, ares1_tmp, ares1_cell, aresC_adr, aextract, h2, h6, h7, lssI, geqI, d1, d2, hr, cbTx, cbPa, q1, q2, alenT, budB_len, e1, e2]
      exact ⟨_, rfl⟩
theorem neqTx {x y : Operand} {l : List UInt8} : neqV9 E.P 9 x y (tx l) (tx l) = some (.bool false) := by
  unfold tx
  rw [neqV9_str, beq_self_eq_true]
  rfl
theorem bte_long (hC : TextCalls self) (h : 100 < l.length) :
    ∃ m', abody E self nf 4 [bud x w y, tx l] (ap mem0 []) = some (.bool true, m') := by
  rw [abody_eqF (by kernel_rfl) Try.func4 bodybte (by kernel_rfl) (Nat.le_of_ble_eq_true rfl)]
  rw [show Try.f4.ntmps = 92 from rfl]
  have hAw := hC.aw
  have d1 : decide (((l.length : Nat) : Int) > 100) = true := decide_eq_true (by omega)
  simp only [ebte_0, ebte_1, ebte_10, ebte_11, ebte_12, ebte_13, ebte_2, ebte_3, ebte_4, ebte_5, ebte_6, ebte_7, ebte_8, ebte_9, lbte_0, lbte_1, lbte_2, lbte_3, lbte_4, lbte_5, lbte_6, lbte_7, lbte_8, lbte_9, lbte_10, lbte_11, lbte_12, lbte_13, gbte_13_13, gbte_13_4, gbte_13_8, gbte_6_11, gbte_6_14, gbte_6_2, gbte_6_8, gbte_8_3, gbte_8_8, gbte_9_3, agd_none, gdAt, gdV_bool, gdV_undef, Try.f4, List.append_eq, List.cons_append, List.nil_append, apure_call1, apure_call2, apure_call3, bft, btf, acodeN, List.getElem?_toArray, List.getElem?_cons_zero, List.getElem?_cons_succ, aopsN, adrawT, cls, astep, aop, afloat, ev, nth_lst, get_lst, aput, setAt_lst, upd_at, init_zero, init_succ, init_nil, Nat.reduceLT, Nat.reduceEqDiff, reduceIte, abuiltin, Option.map_some, Option.map_none, orElse_some, apure_add, List.map_cons, List.map_nil, List.all_cons, List.all_nil, lit2, lit1, lit0, List.isEmpty_nil, Bool.and_self, Bool.and_true, Bool.true_and, Bool.false_and, Bool.and_false, Bool.not_true, Bool.not_false, Bool.or_true, Bool.true_or, Bool.false_or, Bool.or_false, Bool.false_eq_true, if_true, if_false, List.length_map, beq_self_eq_true, und3, und4, und5, und9, eqlV9_int, neqV9_int, eqlV9_bool, neqV9_bool, eqlV9_str, neqV9_str, eqlB, neqB, eqlBr, neqBr, ↓aop_eqlV9, ↓aop_neqV9, ↓afloat_eqlV9, ↓afloat_neqV9, apure_eqlV9, apure_neqV9, eqlW, neqW, eqlI64, neqI64, aload_sealed, adB, adBr, adU, adE, wrWi, wrLt, wrFr, wrBk, wrCk, wrRl, wrRb, cbWi, cbAt, cbSp, cbLt, cbFr, cbBk, cbCk, cbRa, cbRs, cbRl, cbRb, cbMay, cbLk, cbLo, cbRe, cbSg, cbAw, bxP, bxB, bxPr, bxBr, alP, alB, alPr, alBr, ldP', ldB', ldPr', ldBr', ldI', ldU', ldL', ldS_pol, ldS_bud, ldF_p0, ldF_p1, ldF_p2, ldF_b0, ldF_b1, ldF_b2, stP', stB', stPr', stBr', stI', stU', stT', stL, polLen, budLen, layP, layB, layB0, layB1, layB2, faP0, faP1, faP2, faB0, faB1, faB2, faPr0, faPr1, faPr2, faBr0, faBr1, faBr2, List.length_nil, List.length_cons, List.length_append, Nat.reduceAdd, Nat.reduceLeDiff, List.set_cons_zero, List.set_cons_succ, and_self, true_and, Nat.le_refl, apure_max, apure_min, maxV, minV, finish, ares, aresL, ares1_tmp, ares1_cell, aresC_adr, aextract, hAw, alenT, gtrI, d1]
  exact ⟨_, rfl⟩
theorem bte_ok (hC : TextCalls self) (hw : 0 ≤ w ∧ w < 18446744073709551616) {a b : Nat} {c : Bool} (hp : parsed l = (a, b, c, 0)) (hl : l = budB a b c) (ha : a < 2147483648) {u0 u12 : Nat} (h0 : aindex E.P 9 (tx l) (.int .i64 0) = some (.int .u8 (u0 : Nat))) (h12 : aindex E.P 9 (tx l) (.int .i64 12) = some (.int .u8 (u12 : Nat))) (hu0 : u0 < 128) (hu12 : u12 < 2) :
    ∃ m', abody E self nf 4 [bud x w y, tx l] (ap mem0 []) = some (.bool true, m') := by
  rw [abody_eqF (by kernel_rfl) Try.func4 bodybte (by kernel_rfl) (Nat.le_of_ble_eq_true rfl)]
  rw [show Try.f4.ntmps = 92 from rfl]
  have hlen : l.length = 13 := by rw [hl, budB_len]
  have hAw := hC.aw
  have q1 := fun M => hC.pa l M
  rw [hp] at q1
  have q2 := fun M => hC.te a b c M ha
  rw [← hl] at q2
  have d1 : decide (((13 : Nat) : Int) > 100) = false := by decide
  have d2 : decide (((u0 : Nat) : Int) < 128) = true := decide_eq_true (by omega)
  have d3 : decide (((u12 : Nat) : Int) < 2) = true := decide_eq_true (by omega)
  have e1 : (((13 : Nat) : Int) == 13) = true := rfl
  have e2 : ((0 : Int) == 0) = true := rfl
  have e3 : ((0 : Int) != 0) = false := rfl
  have key := fun F B h2 h6 h7 => bte_tail (self := self) (nf := nf) (F := F) (e := 0) (r := true) (x := x) (y := y) hC (B := B) hw h2 h6 h7 rfl
  unfold sufT at key
  generalize (Code.seq (Code.seq (Code.region 9 rbte_9 false) (Code.cond (Operand.tmp 62) (Code.seq (Code.region 10 rbte_10 false) Code.ret) Code.skip)) (Code.seq (Code.region 11 rbte_11 false) (Code.seq (Code.region 12 rbte_12 false) (Code.seq (Code.region 13 rbte_13 false) Code.ret)))) = suf at *
  simp only [ebte_0, ebte_1, ebte_10, ebte_11, ebte_12, ebte_13, ebte_2, ebte_3, ebte_4, ebte_5, ebte_6, ebte_7, ebte_8, ebte_9, lbte_0, lbte_1, lbte_2, lbte_3, lbte_4, lbte_5, lbte_6, lbte_7, lbte_8, lbte_9, lbte_10, lbte_11, lbte_12, lbte_13, gbte_13_13, gbte_13_4, gbte_13_8, gbte_6_11, gbte_6_14, gbte_6_2, gbte_6_8, gbte_8_3, gbte_8_8, gbte_9_3, agd_none, gdAt, gdV_bool, gdV_undef, Try.f4, List.append_eq, List.cons_append, List.nil_append, apure_call1, apure_call2, apure_call3, bft, btf, acodeN, List.getElem?_toArray, List.getElem?_cons_zero, List.getElem?_cons_succ, aopsN, adrawT, cls, astep, aop, afloat, ev, nth_lst, get_lst, aput, setAt_lst, upd_at, init_zero, init_succ, init_nil, Nat.reduceLT, Nat.reduceEqDiff, reduceIte, abuiltin, Option.map_some, Option.map_none, orElse_some, apure_add, List.map_cons, List.map_nil, List.all_cons, List.all_nil, lit2, lit1, lit0, List.isEmpty_nil, Bool.and_self, Bool.and_true, Bool.true_and, Bool.false_and, Bool.and_false, Bool.not_true, Bool.not_false, Bool.or_true, Bool.true_or, Bool.false_or, Bool.or_false, Bool.false_eq_true, if_true, if_false, List.length_map, beq_self_eq_true, und3, und4, und5, und9, eqlV9_int, neqV9_int, eqlV9_bool, neqV9_bool, eqlV9_str, neqV9_str, eqlB, neqB, eqlBr, neqBr, ↓aop_eqlV9, ↓aop_neqV9, ↓afloat_eqlV9, ↓afloat_neqV9, apure_eqlV9, apure_neqV9, eqlW, neqW, eqlI64, neqI64, aload_sealed, adB, adBr, adU, adE, wrWi, wrLt, wrFr, wrBk, wrCk, wrRl, wrRb, cbWi, cbAt, cbSp, cbLt, cbFr, cbBk, cbCk, cbRa, cbRs, cbRl, cbRb, cbMay, cbLk, cbLo, cbRe, cbSg, cbAw, bxP, bxB, bxPr, bxBr, alP, alB, alPr, alBr, ldP', ldB', ldPr', ldBr', ldI', ldU', ldL', ldS_pol, ldS_bud, ldF_p0, ldF_p1, ldF_p2, ldF_b0, ldF_b1, ldF_b2, stP', stB', stPr', stBr', stI', stU', stT', stL, polLen, budLen, layP, layB, layB0, layB1, layB2, faP0, faP1, faP2, faB0, faB1, faB2, faPr0, faPr1, faPr2, faBr0, faBr1, faBr2, List.length_nil, List.length_cons, List.length_append, Nat.reduceAdd, Nat.reduceLeDiff, List.set_cons_zero, List.set_cons_succ, and_self, true_and, Nat.le_refl, apure_max, apure_min, maxV, minV, ares, aresL, ares1_tmp, ares1_cell, aresC_adr, aextract, hAw, alenT, gtrI, hlen, d1, cbPa, cbTx, q1, q2, e1, e2, e3, neqTx, apure_build0, buildB0, h0, h12, lssB, d2, d3]
  refine key _ _ ?_ ?_ ?_ <;> rfl
theorem bte_no (hC : TextCalls self) (hw : 0 ≤ w ∧ w < 18446744073709551616) (hlen : l.length ≤ 100) (hp : parsed l = (0, 0, false, 4)) {u0 u12 : Nat} (h13 : l.length = 13 → aindex E.P 9 (tx l) (.int .i64 0) = some (.int .u8 (u0 : Nat)) ∧ aindex E.P 9 (tx l) (.int .i64 12) = some (.int .u8 (u12 : Nat)) ∧ ¬ (u0 < 128 ∧ u12 < 2)) :
    ∃ m', abody E self nf 4 [bud x w y, tx l] (ap mem0 []) = some (.bool true, m') := by
  rw [abody_eqF (by kernel_rfl) Try.func4 bodybte (by kernel_rfl) (Nat.le_of_ble_eq_true rfl)]
  rw [show Try.f4.ntmps = 92 from rfl]
  have hAw := hC.aw
  have q1 := fun M => hC.pa l M
  rw [hp] at q1
  have d1 : decide (((l.length : Nat) : Int) > 100) = false := decide_eq_false (by omega)
  have e1 : ((4 : Int) == 0) = false := rfl
  have e2 : ((4 : Int) != 0) = true := rfl
  have e3 : ((4 : Int) != 4) = false := rfl
  have e5 : (((0 : Nat) : Int) == 0) = true := rfl
  have key := fun F B h2 h6 h7 => bte_tail (self := self) (nf := nf) (F := F) (e := 4) (r := false) (x := x) (y := y) hC (B := B) hw h2 h6 h7 rfl
  unfold sufT at key
  generalize (Code.seq (Code.seq (Code.region 9 rbte_9 false) (Code.cond (Operand.tmp 62) (Code.seq (Code.region 10 rbte_10 false) Code.ret) Code.skip)) (Code.seq (Code.region 11 rbte_11 false) (Code.seq (Code.region 12 rbte_12 false) (Code.seq (Code.region 13 rbte_13 false) Code.ret)))) = suf at *
  by_cases h : l.length = 13
  · obtain ⟨h0, h12, hu⟩ := h13 h
    have e4 : (((l.length : Nat) : Int) == 13) = true := by rw [h]; rfl
    by_cases hu0 : u0 < 128
    · have d2 : decide (((u0 : Nat) : Int) < 128) = true := decide_eq_true (by omega)
      have d3 : decide (((u12 : Nat) : Int) < 2) = false := decide_eq_false (by omega)
      simp only [ebte_0, ebte_1, ebte_10, ebte_11, ebte_12, ebte_13, ebte_2, ebte_3, ebte_4, ebte_5, ebte_6, ebte_7, ebte_8, ebte_9, lbte_0, lbte_1, lbte_2, lbte_3, lbte_4, lbte_5, lbte_6, lbte_7, lbte_8, lbte_9, lbte_10, lbte_11, lbte_12, lbte_13, gbte_13_13, gbte_13_4, gbte_13_8, gbte_6_11, gbte_6_14, gbte_6_2, gbte_6_8, gbte_8_3, gbte_8_8, gbte_9_3, agd_none, gdAt, gdV_bool, gdV_undef, Try.f4, List.append_eq, List.cons_append, List.nil_append, apure_call1, apure_call2, apure_call3, bft, btf, acodeN, List.getElem?_toArray, List.getElem?_cons_zero, List.getElem?_cons_succ, aopsN, adrawT, cls, astep, aop, afloat, ev, nth_lst, get_lst, aput, setAt_lst, upd_at, init_zero, init_succ, init_nil, Nat.reduceLT, Nat.reduceEqDiff, reduceIte, abuiltin, Option.map_some, Option.map_none, orElse_some, apure_add, List.map_cons, List.map_nil, List.all_cons, List.all_nil, lit2, lit1, lit0, List.isEmpty_nil, Bool.and_self, Bool.and_true, Bool.true_and, Bool.false_and, Bool.and_false, Bool.not_true, Bool.not_false, Bool.or_true, Bool.true_or, Bool.false_or, Bool.or_false, Bool.false_eq_true, if_true, if_false, List.length_map, beq_self_eq_true, und3, und4, und5, und9, eqlV9_int, neqV9_int, eqlV9_bool, neqV9_bool, eqlV9_str, neqV9_str, eqlB, neqB, eqlBr, neqBr, ↓aop_eqlV9, ↓aop_neqV9, ↓afloat_eqlV9, ↓afloat_neqV9, apure_eqlV9, apure_neqV9, eqlW, neqW, eqlI64, neqI64, aload_sealed, adB, adBr, adU, adE, wrWi, wrLt, wrFr, wrBk, wrCk, wrRl, wrRb, cbWi, cbAt, cbSp, cbLt, cbFr, cbBk, cbCk, cbRa, cbRs, cbRl, cbRb, cbMay, cbLk, cbLo, cbRe, cbSg, cbAw, bxP, bxB, bxPr, bxBr, alP, alB, alPr, alBr, ldP', ldB', ldPr', ldBr', ldI', ldU', ldL', ldS_pol, ldS_bud, ldF_p0, ldF_p1, ldF_p2, ldF_b0, ldF_b1, ldF_b2, stP', stB', stPr', stBr', stI', stU', stT', stL, polLen, budLen, layP, layB, layB0, layB1, layB2, faP0, faP1, faP2, faB0, faB1, faB2, faPr0, faPr1, faPr2, faBr0, faBr1, faBr2, List.length_nil, List.length_cons, List.length_append, Nat.reduceAdd, Nat.reduceLeDiff, List.set_cons_zero, List.set_cons_succ, and_self, true_and, Nat.le_refl, apure_max, apure_min, maxV, minV, ares, aresL, ares1_tmp, ares1_cell, aresC_adr, aextract, hAw, alenT, gtrI, d1, cbPa, cbTx, q1, e1, e2, e3, e4, e5, apure_build0, buildB0, h0, h12, lssB, d2, d3]
      refine key _ _ ?_ ?_ ?_ <;> rfl
    · have d2 : decide (((u0 : Nat) : Int) < 128) = false := decide_eq_false (by omega)
      simp only [ebte_0, ebte_1, ebte_10, ebte_11, ebte_12, ebte_13, ebte_2, ebte_3, ebte_4, ebte_5, ebte_6, ebte_7, ebte_8, ebte_9, lbte_0, lbte_1, lbte_2, lbte_3, lbte_4, lbte_5, lbte_6, lbte_7, lbte_8, lbte_9, lbte_10, lbte_11, lbte_12, lbte_13, gbte_13_13, gbte_13_4, gbte_13_8, gbte_6_11, gbte_6_14, gbte_6_2, gbte_6_8, gbte_8_3, gbte_8_8, gbte_9_3, agd_none, gdAt, gdV_bool, gdV_undef, Try.f4, List.append_eq, List.cons_append, List.nil_append, apure_call1, apure_call2, apure_call3, bft, btf, acodeN, List.getElem?_toArray, List.getElem?_cons_zero, List.getElem?_cons_succ, aopsN, adrawT, cls, astep, aop, afloat, ev, nth_lst, get_lst, aput, setAt_lst, upd_at, init_zero, init_succ, init_nil, Nat.reduceLT, Nat.reduceEqDiff, reduceIte, abuiltin, Option.map_some, Option.map_none, orElse_some, apure_add, List.map_cons, List.map_nil, List.all_cons, List.all_nil, lit2, lit1, lit0, List.isEmpty_nil, Bool.and_self, Bool.and_true, Bool.true_and, Bool.false_and, Bool.and_false, Bool.not_true, Bool.not_false, Bool.or_true, Bool.true_or, Bool.false_or, Bool.or_false, Bool.false_eq_true, if_true, if_false, List.length_map, beq_self_eq_true, und3, und4, und5, und9, eqlV9_int, neqV9_int, eqlV9_bool, neqV9_bool, eqlV9_str, neqV9_str, eqlB, neqB, eqlBr, neqBr, ↓aop_eqlV9, ↓aop_neqV9, ↓afloat_eqlV9, ↓afloat_neqV9, apure_eqlV9, apure_neqV9, eqlW, neqW, eqlI64, neqI64, aload_sealed, adB, adBr, adU, adE, wrWi, wrLt, wrFr, wrBk, wrCk, wrRl, wrRb, cbWi, cbAt, cbSp, cbLt, cbFr, cbBk, cbCk, cbRa, cbRs, cbRl, cbRb, cbMay, cbLk, cbLo, cbRe, cbSg, cbAw, bxP, bxB, bxPr, bxBr, alP, alB, alPr, alBr, ldP', ldB', ldPr', ldBr', ldI', ldU', ldL', ldS_pol, ldS_bud, ldF_p0, ldF_p1, ldF_p2, ldF_b0, ldF_b1, ldF_b2, stP', stB', stPr', stBr', stI', stU', stT', stL, polLen, budLen, layP, layB, layB0, layB1, layB2, faP0, faP1, faP2, faB0, faB1, faB2, faPr0, faPr1, faPr2, faBr0, faBr1, faBr2, List.length_nil, List.length_cons, List.length_append, Nat.reduceAdd, Nat.reduceLeDiff, List.set_cons_zero, List.set_cons_succ, and_self, true_and, Nat.le_refl, apure_max, apure_min, maxV, minV, ares, aresL, ares1_tmp, ares1_cell, aresC_adr, aextract, hAw, alenT, gtrI, d1, cbPa, cbTx, q1, e1, e2, e3, e4, e5, apure_build0, buildB0, h0, lssB, d2]
      refine key _ _ ?_ ?_ ?_ <;> rfl
  · have e4 : (((l.length : Nat) : Int) == 13) = false := beq_eq_false_iff_ne.2 (by omega)
    simp only [ebte_0, ebte_1, ebte_10, ebte_11, ebte_12, ebte_13, ebte_2, ebte_3, ebte_4, ebte_5, ebte_6, ebte_7, ebte_8, ebte_9, lbte_0, lbte_1, lbte_2, lbte_3, lbte_4, lbte_5, lbte_6, lbte_7, lbte_8, lbte_9, lbte_10, lbte_11, lbte_12, lbte_13, gbte_13_13, gbte_13_4, gbte_13_8, gbte_6_11, gbte_6_14, gbte_6_2, gbte_6_8, gbte_8_3, gbte_8_8, gbte_9_3, agd_none, gdAt, gdV_bool, gdV_undef, Try.f4, List.append_eq, List.cons_append, List.nil_append, apure_call1, apure_call2, apure_call3, bft, btf, acodeN, List.getElem?_toArray, List.getElem?_cons_zero, List.getElem?_cons_succ, aopsN, adrawT, cls, astep, aop, afloat, ev, nth_lst, get_lst, aput, setAt_lst, upd_at, init_zero, init_succ, init_nil, Nat.reduceLT, Nat.reduceEqDiff, reduceIte, abuiltin, Option.map_some, Option.map_none, orElse_some, apure_add, List.map_cons, List.map_nil, List.all_cons, List.all_nil, lit2, lit1, lit0, List.isEmpty_nil, Bool.and_self, Bool.and_true, Bool.true_and, Bool.false_and, Bool.and_false, Bool.not_true, Bool.not_false, Bool.or_true, Bool.true_or, Bool.false_or, Bool.or_false, Bool.false_eq_true, if_true, if_false, List.length_map, beq_self_eq_true, und3, und4, und5, und9, eqlV9_int, neqV9_int, eqlV9_bool, neqV9_bool, eqlV9_str, neqV9_str, eqlB, neqB, eqlBr, neqBr, ↓aop_eqlV9, ↓aop_neqV9, ↓afloat_eqlV9, ↓afloat_neqV9, apure_eqlV9, apure_neqV9, eqlW, neqW, eqlI64, neqI64, aload_sealed, adB, adBr, adU, adE, wrWi, wrLt, wrFr, wrBk, wrCk, wrRl, wrRb, cbWi, cbAt, cbSp, cbLt, cbFr, cbBk, cbCk, cbRa, cbRs, cbRl, cbRb, cbMay, cbLk, cbLo, cbRe, cbSg, cbAw, bxP, bxB, bxPr, bxBr, alP, alB, alPr, alBr, ldP', ldB', ldPr', ldBr', ldI', ldU', ldL', ldS_pol, ldS_bud, ldF_p0, ldF_p1, ldF_p2, ldF_b0, ldF_b1, ldF_b2, stP', stB', stPr', stBr', stI', stU', stT', stL, polLen, budLen, layP, layB, layB0, layB1, layB2, faP0, faP1, faP2, faB0, faB1, faB2, faPr0, faPr1, faPr2, faBr0, faBr1, faBr2, List.length_nil, List.length_cons, List.length_append, Nat.reduceAdd, Nat.reduceLeDiff, List.set_cons_zero, List.set_cons_succ, and_self, true_and, Nat.le_refl, apure_max, apure_min, maxV, minV, ares, aresL, ares1_tmp, ares1_cell, aresC_adr, aextract, hAw, alenT, gtrI, d1, cbPa, cbTx, q1, e1, e2, e3, e4, e5, apure_build0, buildB0]
    refine key _ _ ?_ ?_ ?_ <;> rfl
end
end Go.Am.Seat

/-
  BudgetLater (own work).
-/
set_option linter.unusedSimpArgs false
set_option linter.unusedVariables false
namespace Go.Am.Seat
open Go.Proofs Go.Am
set_option maxRecDepth 100000

section
variable {self : Self} {nf : Nat} {a b c t u v l n : Int} {k : Bool}
theorem bla_body (hC : BudCalls self) (hl1 : -9223372036854775808 ≤ l) (hl2 : l < 9223372036854775808) (hn1 : 0 ≤ n) (hn2 : n < 18446744073709551616) (ht1 : 0 ≤ t) (ht2 : t < 18446744073709551616) (hu1 : 0 ≤ u) (hu2 : u < 18446744073709551616) (hv1 : 0 ≤ v) (hv2 : v < 18446744073709551616) :
    ∃ m', abody E self nf 6 [pol a b c, bud l n k, .int .u64 t, .int .u64 u, .int .u64 v] (ap mem0 []) = some (.bool true, m') := by
  rw [abody_eqF (by kernel_rfl) Try.func6 bodybla (by kernel_rfl) (Nat.le_of_ble_eq_true rfl)]
  rw [show Try.f6.ntmps = 93 from rfl]
  have hck := fun M => hC.ck a b c M
  have hAw := hC.aw
  cases hm : may a b c with
  | false =>
    rw [hm] at hck
    have e1 : ((2 : Int) != 0) = true := rfl
    simp only [↓dbla_9, ↓sbla_9, ebla_0, ebla_1, ebla_2, ebla_3, ebla_4, ebla_5, ebla_6, ebla_7, ebla_8, ebla_9, lbla_0, lbla_1, lbla_2, lbla_3, lbla_4, lbla_5, lbla_6, lbla_7, lbla_8, lbla_9, gbla_9_13, gbla_9_19, gbla_9_28, gbla_9_3, gbla_9_33, gbla_9_37, gbla_9_44, gbla_9_8, agd_none, gdAt, gdV_bool, gdV_undef, Try.f6, List.append_eq, List.cons_append, List.nil_append, apure_call1, apure_call2, apure_call3, bft, btf, acodeN, List.getElem?_toArray, List.getElem?_cons_zero, List.getElem?_cons_succ, aopsN, adrawT, cls, astep, aop, afloat, ev, nth_lst, get_lst, aput, setAt_lst, upd_at, init_zero, init_succ, init_nil, Nat.reduceLT, Nat.reduceEqDiff, reduceIte, abuiltin, alen, Option.map_some, Option.map_none, orElse_some, apure_add, List.map_cons, List.map_nil, List.all_cons, List.all_nil, lit2, lit1, lit0, List.isEmpty_nil, Bool.and_self, Bool.and_true, Bool.true_and, Bool.false_and, Bool.and_false, Bool.not_true, Bool.not_false, Bool.or_true, Bool.true_or, Bool.false_or, Bool.or_false, Bool.false_eq_true, if_true, if_false, List.length_map, beq_self_eq_true, und3, und4, und5, und9, eqlV9_int, neqV9_int, eqlV9_bool, neqV9_bool, eqlV9_str, neqV9_str, eqlB, neqB, eqlBr, neqBr, ↓aop_eqlV9, ↓aop_neqV9, ↓afloat_eqlV9, ↓afloat_neqV9, apure_eqlV9, apure_neqV9, eqlW, neqW, eqlI64, neqI64, aload_sealed, adB, adBr, adU, adE, wrWi, wrLt, wrFr, wrBk, wrCk, wrRl, wrRb, cbWi, cbAt, cbSp, cbLt, cbFr, cbBk, cbCk, cbRa, cbRs, cbRl, cbRb, cbMay, cbLk, cbLo, cbRe, cbSg, cbAw, bxP, bxB, bxPr, bxBr, alP, alB, alPr, alBr, ldP', ldB', ldPr', ldBr', ldI', ldU', ldL', ldS_pol, ldS_bud, ldF_p0, ldF_p1, ldF_p2, ldF_b0, ldF_b1, ldF_b2, stP', stB', stPr', stBr', stI', stU', stT', stL, polLen, budLen, layP, layB, layB0, layB1, layB2, faP0, faP1, faP2, faB0, faB1, faB2, faPr0, faPr1, faPr2, faBr0, faBr1, faBr2, List.length_nil, List.length_cons, List.length_append, Nat.reduceAdd, Nat.reduceLeDiff, List.set_cons_zero, List.set_cons_succ, and_self, true_and, Nat.le_refl, apure_max, apure_min, maxV, minV, finish, ares, aresL, ares1_tmp, ares1_cell, aresC_adr, aextract, hAw, hck, e1]
    exact ⟨_, rfl⟩
  | true =>
    rw [hm] at hck
    obtain ⟨-, -, hb, -, -⟩ := may_b hm
    have e1 : ((0 : Int) != 0) = false := rfl
    generalize hx : min (t + u) 18446744073709551615 = x
    generalize hy : min (x + v) 18446744073709551615 = y
    have q1 := fun M => hC.lt ht1 ht2 hu1 hu2 M
    have q2 := fun M => hC.lt (t := x) (n := v) (by omega) (by omega) hv1 hv2 M
    have hx0 : 0 ≤ x := by omega
    have hx1 : x < 18446744073709551616 := by omega
    have hy0 : 0 ≤ y := by omega
    have hy1 : y < 18446744073709551616 := by omega
    have hxy : x ≤ y := by omega
    have q3 := fun M => hC.at' (a := a) (c := c) (l := l) (n := n) (k := k) (t := x) hb hx0 hx1 M
    have q4 := fun M => hC.at' (a := a) (c := c) (l := atL a l n (x / b)) (n := max n (x / b)) (k := k) (t := x) hb hx0 hx1 M
    have q5 := fun M => hC.lt (t := 18446744073709551615) (n := u) (by omega) (by omega) hu1 hu2 M
    have q6 := fun M => hC.lt (t := t) (n := 0) ht1 ht2 (by omega) (by omega) M
    have q7 := fun M => hC.wi (a := a) (c := c) hb hy0 hy1 M
    have q8 := fun M => hC.wi (a := a) (c := c) hb hx0 hx1 M
    have hdiv : x / b ≤ y / b := Int.ediv_le_ediv (by omega) hxy
    generalize x / b = w at *
    generalize y / b = z at *
    have r1 : atL a (atL a l n w) (max n w) w = atL a l n w := if_pos (by omega)
    have r2 : max (max n w) w = max n w := by omega
    have r3 : decide (max n w < w) = false := decide_eq_false (by omega)
    have r4 : l ≤ atL a l n w := by unfold atL; split <;> omega
    have r5 : n ≤ max n w := by omega
    rw [r1, r2, r3] at q4
    rw [show min (18446744073709551615 + u) 18446744073709551615 = (18446744073709551615 : Int) by omega] at q5
    rw [show min (t + 0) 18446744073709551615 = t by omega] at q6
    generalize atL a l n w = l1 at *
    generalize max n w = n1 at *
    rw [hx] at q1
    rw [hy] at q2
    have d1 : decide (x ≥ t) = true := decide_eq_true (by omega)
    have d2 : decide (y ≥ x) = true := decide_eq_true (by omega)
    have d3 : decide (z ≥ w) = true := decide_eq_true hdiv
    have d4 : decide (n1 ≥ n) = true := decide_eq_true r5
    have d5 : decide (l1 ≥ l) = true := decide_eq_true r4
    clear hx hy r1 r2 r3 hdiv
    simp only [↓dbla_9, ↓sbla_9, ebla_0, ebla_1, ebla_2, ebla_3, ebla_4, ebla_5, ebla_6, ebla_7, ebla_8, ebla_9, lbla_0, lbla_1, lbla_2, lbla_3, lbla_4, lbla_5, lbla_6, lbla_7, lbla_8, lbla_9, gbla_9_13, gbla_9_19, gbla_9_28, gbla_9_3, gbla_9_33, gbla_9_37, gbla_9_44, gbla_9_8, agd_none, gdAt, gdV_bool, gdV_undef, Try.f6, List.append_eq, List.cons_append, List.nil_append, apure_call1, apure_call2, apure_call3, bft, btf, acodeN, List.getElem?_toArray, List.getElem?_cons_zero, List.getElem?_cons_succ, aopsN, adrawT, cls, astep, aop, afloat, ev, nth_lst, get_lst, aput, setAt_lst, upd_at, init_zero, init_succ, init_nil, Nat.reduceLT, Nat.reduceEqDiff, reduceIte, abuiltin, alen, Option.map_some, Option.map_none, orElse_some, apure_add, List.map_cons, List.map_nil, List.all_cons, List.all_nil, lit2, lit1, lit0, List.isEmpty_nil, Bool.and_self, Bool.and_true, Bool.true_and, Bool.false_and, Bool.and_false, Bool.not_true, Bool.not_false, Bool.or_true, Bool.true_or, Bool.false_or, Bool.or_false, Bool.false_eq_true, if_true, if_false, List.length_map, beq_self_eq_true, und3, und4, und5, und9, eqlV9_int, neqV9_int, eqlV9_bool, neqV9_bool, eqlV9_str, neqV9_str, eqlB, neqB, eqlBr, neqBr, ↓aop_eqlV9, ↓aop_neqV9, ↓afloat_eqlV9, ↓afloat_neqV9, apure_eqlV9, apure_neqV9, eqlW, neqW, eqlI64, neqI64, aload_sealed, adB, adBr, adU, adE, wrWi, wrLt, wrFr, wrBk, wrCk, wrRl, wrRb, cbWi, cbAt, cbSp, cbLt, cbFr, cbBk, cbCk, cbRa, cbRs, cbRl, cbRb, cbMay, cbLk, cbLo, cbRe, cbSg, cbAw, bxP, bxB, bxPr, bxBr, alP, alB, alPr, alBr, ldP', ldB', ldPr', ldBr', ldI', ldU', ldL', ldS_pol, ldS_bud, ldF_p0, ldF_p1, ldF_p2, ldF_b0, ldF_b1, ldF_b2, stP', stB', stPr', stBr', stI', stU', stT', stL, polLen, budLen, layP, layB, layB0, layB1, layB2, faP0, faP1, faP2, faB0, faB1, faB2, faPr0, faPr1, faPr2, faBr0, faBr1, faBr2, List.length_nil, List.length_cons, List.length_append, Nat.reduceAdd, Nat.reduceLeDiff, List.set_cons_zero, List.set_cons_succ, and_self, true_and, Nat.le_refl, apure_max, apure_min, maxV, minV, finish, ares, aresL, ares1_tmp, ares1_cell, aresC_adr, aextract, hAw, hck, e1, q1, q2, q3, q4, q5, q6, q7, q8, geqW, geqI, d1, d2, d3, d4, d5]
    exact ⟨_, rfl⟩
end
end Go.Am.Seat

/-
  The abstract memory at a law's start: tables that are laid, and package variables of which nothing is said (own work; nothing of a dump).
-/
set_option linter.unusedSimpArgs false
set_option linter.unusedVariables false
namespace Go.Am
noncomputable section

def ren0 (P : Program) (m : Mem) : Ren := fun k => match m[k]? with
  | some (.tab e cs) => some ⟨k, cs.length, ((P.info? e).map (·.size)).getD 0⟩
  | some _ => some ⟨k, 0, 0⟩
  | none => none

/-- What is asked of a block. -/
def BlkAt (P : Program) (W : World) (k : Nat) : Blk → Prop
  | .dead => True
  | .tab e cs => W.heap[k]? = some (.cells ⟨cs⟩ e (0, 0)) ∧ (P.info? e).isSome = true ∧ cs.all lit0 = true
  | .row .. => False

theorem mr_tabs {P : Program} {m : Mem} {W : World} (hG : P.globals.size ≤ m.length) (hsize : m.length ≤ W.heap.size) (hb : ∀ k b, m[k]? = some b → BlkAt P W k b) : MR P (ren0 P m) m W := by
  have hr : ∀ k x, ren0 P m k = some x → k < m.length ∧ x.r = k := by
    intro k x h
    unfold ren0 at h
    cases hm : m[k]? with
    | none => rw [hm] at h; cases h
    | some b =>
      have hk : k < m.length := (List.getElem?_eq_some_iff.1 hm).1
      rw [hm] at h
      cases b <;> (cases h; exact ⟨hk, rfl⟩)
  have hs : ∀ k, k < m.length → ∃ x, ren0 P m k = some x ∧ x.r = k := by
    intro k hk
    have hm : m[k]? = some m[k] := by simp [hk]
    cases hq : m[k] with
    | dead => exact ⟨_, by unfold ren0; rw [hm, hq], rfl⟩
    | row ro e cs => exact ⟨_, by unfold ren0; rw [hm, hq], rfl⟩
    | tab e cs => exact ⟨_, by unfold ren0; rw [hm, hq], rfl⟩
  have hl : ∀ k ro e cs, look m k = some (ro, e, cs) → m[k]? = some (.tab e cs) := by
    intro k ro e cs h
    unfold look at h
    split at h
    · rename_i b hm
      have := hb k b hm
      cases b with
      | dead => simp [Blk.cells?] at h
      | row => exact absurd this id
      | tab e' cs' =>
        simp [Blk.cells?] at h
        obtain ⟨_, rfl, rfl⟩ := h
        exact hm
    · cases h
  refine ⟨fun k hk => ?_, fun k x h => ?_, fun g hg => hs g (by omega), fun k ro e cs h => ?_, fun k e cs k' ro' e' cs' x x' h => ?_, fun k e cs h => ?_⟩
  · unfold ren0
    rw [List.getElem?_eq_none hk]
  · obtain ⟨h1, h2⟩ := hr k x h
    omega
  · have hm := hl k ro e cs h
    obtain ⟨h1, h2, h3⟩ := hb k _ hm
    refine ⟨⟨k, cs.length, ((P.info? e).map (·.size)).getD 0⟩, ⟨cs⟩, (0, 0), by unfold ren0; rw [hm], h1, rfl, Nat.le_refl _, fun i u hu => ⟨u, by simpa using hu, .lit ?_⟩, fun _ => loose_zero _, ?_⟩
    · exact lit2_of_lit1 (lit1_of_lit0 (List.all_eq_true.1 h3 u (List.mem_of_getElem? hu)))
    · cases hi : P.info? e with
      | none => rw [hi] at h2; cases h2
      | some i => rfl
  · exact absurd (hb k _ h) id
  · obtain ⟨_, _, h3⟩ := hb k _ h
    intro v hv
    exact List.all_eq_true.1 h3 v hv

/-- A package variable's block. -/
theorem shaped_at {P : Program} {W : World} (h : W.ShapedOpen P) {g : Nat} {t : TypeId} (hg : g < P.globals.size) (h0 : (((begin P (fun _ _ => 0) default).world.heap[g]?).bind Obj.row?).map (·.2) = some t) :
    ∃ cs, W.heap[g]? = some (.cells cs t (0, 0)) := by
  obtain ⟨⟨z, t'⟩, h1, h2⟩ := Option.map_eq_some_iff.1 h0
  simp only at h2
  subst h2
  obtain ⟨cs, hc, _⟩ := h.1 g z t' hg h1
  exact ⟨cs, hc⟩

theorem tab_at {P : Program} {W : World} {name : String} {k : IntKind} {zs : List Int} {g : Nat} {t : TypeId} {cs : Array Value} (hg : P.globalNamed name = some g) (hc : W.heap[g]? = some (.cells cs t (0, 0))) (h : Lib.TabIs P W name k zs) :
    W.heap[g]? = some (.cells ⟨zs.map (.int k)⟩ t (0, 0)) := by
  unfold Lib.TabIs World.var? at h
  rw [hg] at h
  simp only [Option.bind_some, hc] at h
  cases h
  exact hc

theorem laid_tail {P : Program} {x : String × DataW Unit} {r : List (String × DataW Unit)} {w : World} (h : laidMet P (x :: r) w) : laidMet P r w := by
  obtain ⟨ps, hv, hnd, hrows⟩ := h
  obtain ⟨n, d⟩ := x
  obtain ⟨g, t, cs, fuel, p, q, _, _, _, _, hq, rfl⟩ := hv
  exact ⟨q, hq, List.Nodup.sublist (List.sublist_append_right _ _) hnd, fun b off hm => hrows b off (List.mem_append_right _ hm)⟩

/-- How a law's call ends, seen from outside: what was there stands as it stood. -/
theorem below_of_ends {P : Program} {ρ : Ren} {m m1 : Mem} {w w1 : World} {v : Value} {e : Ending} (hm : ∀ (k : Nat) (e : TypeId) (cs : List Value), m[k]? ≠ some (Blk.row false e cs)) (hv : lit2 v = true) (h : Ends P ρ m w v m1 e w1) : e = .returned v ∧ Go.RowKit.Below w.heap.size w w1 := by
  obtain ⟨v', ρ1, rfl, hvr, _, hx⟩ := h
  refine ⟨?_, ⟨hx.os, hx.tape, hx.output, hx.size, fun r hr => hx.kept r hr fun k e cs _ hk _ => absurd hk (hm k e cs)⟩⟩
  rw [hvr.eq_of_lit2 hv]
end
end Go.Am

/-
  A law's arguments, opened: structs and arrays of plain cells, slices of such; the memory that slices lead to (own work; nothing of a dump).
-/
set_option linter.unusedSimpArgs false
set_option linter.unusedVariables false
namespace Go.Am
open Go.Deep
variable {H : Type} {enc : TypeId × Value → H} {P : Program} {W : World} {base : Nat} {spare : Nat → Bool} {held : Bool}

/-- The kinds of plain cells. -/
inductive CK where
  | bool
  | int (k : IntKind)
  | str

/-- A cell of a kind; texts have at most N bytes. -/
def CK.is (N : Nat) : CK → Value → Prop
  | .bool, v => ∃ b, v = .bool b
  | .int k, v => ∃ n, v = .int k n ∧ (Lit.int k n).wf = true
  | .str, v => ∃ s : ByteArray, v = .string s ∧ s.size ≤ N

/-- What measures data: a text at least by its bytes, a whole at least by its parts. -/
structure BulkOK (bulk : DataW H → Nat) : Prop where
  str : ∀ bytes, bytes.length ≤ bulk (.lit (.string bytes))
  agg : ∀ l d, d ∈ l → bulk d ≤ bulk (.agg l)
  slice : ∀ l r d, d ∈ l → bulk d ≤ bulk (.slice l r)

/-- A measure that says little: the bytes of the greatest text. -/
def bulk0 {H : Type} : DataW H → Nat
  | .lit (.string b) => b.length
  | .agg l => bulkL l
  | .slice l _ => bulkL l
  | _ => 0
where bulkL {H : Type} : List (DataW H) → Nat
  | [] => 0
  | d :: l => bulk0 d + bulkL l

theorem bulkL_le {d : DataW H} : ∀ {l : List (DataW H)}, d ∈ l → bulk0 d ≤ bulk0.bulkL l
  | x :: l, h => by
    simp only [bulk0.bulkL]
    cases List.mem_cons.1 h with
    | inl e => subst e; omega
    | inr e => have := bulkL_le e; omega

theorem bulk0_ok : BulkOK (H := H) bulk0 where
  str := fun b => by simp [bulk0]
  agg := fun l d h => by have := bulkL_le h; simpa [bulk0] using this
  slice := fun l r d h => by have := bulkL_le h; simpa [bulk0] using this

/-- No text in it has more than N bytes: by the language's own bound, or by the measure. -/
def Small (bulk : DataW H → Nat) (N : Nat) (d : DataW H) : Prop := maxLen ≤ N ∨ bulk d ≤ N

theorem Small.part {bulk : DataW H → Nat} (hB : BulkOK bulk) {N : Nat} {l : List (DataW H)} {d : DataW H} (h : Small bulk N (.agg l)) (hd : d ∈ l) : Small bulk N d := by
  rcases h with h | h
  · exact .inl h
  · exact .inr (Nat.le_trans (hB.agg l d hd) h)
theorem Small.elem {bulk : DataW H → Nat} (hB : BulkOK bulk) {N : Nat} {l r : List (DataW H)} {d : DataW H} (h : Small bulk N (.slice l r)) (hd : d ∈ l) : Small bulk N d := by
  rcases h with h | h
  · exact .inl h
  · exact .inr (Nat.le_trans (hB.slice l r d hd) h)

variable {bulk : DataW H → Nat} {N : Nat}

theorem CK.is_lit {N : Nat} {k : CK} {v : Value} (h : k.is N v) : lit0 v = true := by
  cases k with
  | bool => obtain ⟨b, rfl⟩ := h; rfl
  | int k => obtain ⟨n, rfl, _⟩ := h; rfl
  | str => obtain ⟨s, rfl, _⟩ := h; rfl

def ckOf (P : Program) (t : TypeId) : Option CK := match P.underlying t with
  | some .bool => some .bool
  | some (.int k) => some (.int k)
  | some .string => some .str
  | _ => none

theorem ck_trod {t : TypeId} {k : CK} {fuel : Nat} {cs : List Value} {x : DataW H × List MemPlace} (hB : BulkOK bulk) (hN : Small bulk N x.1) (hk : ckOf P t = some k) (h : DataW.trod enc P W base spare held fuel t cs = some x) : ∃ v, cs = [v] ∧ k.is N v ∧ x.2 = [] := by
  unfold ckOf at hk
  split at hk
  · rename_i ht
    cases hk
    obtain ⟨b, rfl, rfl⟩ := DataW.trod_bool ht h
    exact ⟨_, rfl, ⟨b, rfl⟩, rfl⟩
  · rename_i k ht
    cases hk
    obtain ⟨n, rfl, rfl, hw⟩ := DataW.trod_int ht h
    exact ⟨_, rfl, ⟨n, rfl, hw⟩, rfl⟩
  · rename_i ht
    cases hk
    obtain ⟨s, rfl, rfl, hs⟩ := DataW.trod_string ht h
    refine ⟨_, rfl, ⟨s, rfl, ?_⟩, rfl⟩
    rcases hN with hN | hN
    · omega
    · have hN : bulk (.lit (.string s.data.toList)) ≤ N := hN
      have := hB.str s.data.toList
      have e : s.data.toList.length = s.size := rfl
      omega
  · cases hk

/-- The kinds of a type's cells: a plain one, a struct of such, an array of such. -/
def cksOf (P : Program) (t : TypeId) : Option (List CK) := match P.underlying t with
  | some (.struct fs) => if oneCellFields P fs && decide (P.cellsOf t = fs.size) then fs.toList.mapM (fun f => ckOf P f.type) else none
  | some (.array n e) => match ckOf P e with
    | some k => if P.cellsOf t = n ∧ P.cellsOf e = 1 then some (List.replicate n k) else none
    | none => none
  | _ => match ckOf P t with
    | some k => if P.cellsOf t = 1 then some [k] else none
    | none => none

theorem mapM_at {α β : Type} {F : α → Option β} : ∀ {l : List α} {l2 : List β}, l.mapM F = some l2 → l2.length = l.length ∧ ∀ (i : Nat) (x : α), l[i]? = some x → ∃ y, l2[i]? = some y ∧ F x = some y
  | [], l2, h => by simp at h; subst h; exact ⟨rfl, fun i u hu => by simp at hu⟩
  | v :: l, l2, h => by
    rw [List.mapM_cons] at h
    cases h1 : F v with
    | none => rw [h1] at h; cases h
    | some u1 =>
      cases h2 : l.mapM F with
      | none => rw [h1, h2] at h; cases h
      | some l3 =>
        rw [h1, h2] at h
        cases h
        obtain ⟨e, ih⟩ := mapM_at h2
        refine ⟨by simp [e], fun i x hx => ?_⟩
        cases i with
        | zero => simp at hx; subst hx; exact ⟨u1, rfl, h1⟩
        | succ i => simp at hx; obtain ⟨y, hy, hf⟩ := ih i x hx; exact ⟨y, by simpa using hy, hf⟩

theorem flat_nil {α β : Type} {l : List (α × List β)} (h : ∀ (i : Nat) (x : α × List β), l[i]? = some x → x.2 = []) : l.flatMap (·.2) = [] := by
  rw [List.flatMap_eq_nil_iff]
  intro x hx
  obtain ⟨i, hi⟩ := List.getElem?_of_mem hx
  exact h i x hi

/-- What a row of cells that reads at such a type is. -/
theorem cks_trod {t : TypeId} {ks : List CK} {fuel : Nat} {cs : List Value} {x : DataW H × List MemPlace} (hB : BulkOK bulk) (hN : Small bulk N x.1) (hk : cksOf P t = some ks) (h : DataW.trod enc P W base spare held fuel t cs = some x) :
    cs.length = ks.length ∧ x.2 = [] ∧ ∀ (i : Nat) (k : CK) (v : Value), ks[i]? = some k → cs[i]? = some v → k.is N v := by
  unfold cksOf at hk
  split at hk
  · rename_i fs ht
    split at hk
    · rename_i hc
      simp only [Bool.and_eq_true, decide_eq_true_eq] at hc
      obtain ⟨hone, hC⟩ := hc
      obtain ⟨xs, n, _, rfl, hl, hxl, hf⟩ := DataW.trod_struct ht h
      obtain ⟨hkl, hka⟩ := mapM_at hk
      have each : ∀ (i : Nat), i < fs.size → ∃ k v y, ks[i]? = some k ∧ cs[i]? = some v ∧ xs[i]? = some y ∧ k.is N v ∧ y.2 = [] := by
        intro i hi
        have hfi : fs[i]? = some fs[i] := by simp [hi]
        obtain ⟨ho, hc1⟩ := hone_of hone i fs[i] hfi
        have h1 := hf i fs[i] hfi
        obtain ⟨k, hk1, hk2⟩ := hka i fs[i] (by simp [hi])
        have hxi : xs[i]? = some xs[i] := by simp [hxl, hi]
        rw [hxi] at h1
        obtain ⟨v, hv, his, h2⟩ := ck_trod hB (hN.part hB (List.mem_map.2 ⟨_, List.mem_of_getElem? hxi, rfl⟩)) hk2 h1
        refine ⟨k, v, xs[i], hk1, ?_, hxi, his, h2⟩
        rw [hc1, ho] at hv
        have h9 := congrArg (·[0]?) hv
        simp [List.getElem?_take, List.getElem?_drop] at h9
        exact h9
      refine ⟨by rw [hl, hC, hkl]; simp, flat_nil fun i y hy => ?_, fun i k v hk hv => ?_⟩
      · have hi : i < fs.size := by rw [← hxl]; exact (List.getElem?_eq_some_iff.1 hy).1
        obtain ⟨_, _, y', _, _, e, _, h2⟩ := each i hi
        rw [hy] at e; cases e; exact h2
      · have hi : i < fs.size := by
          have := (List.getElem?_eq_some_iff.1 hk).1
          rw [hkl] at this
          simpa using this
        obtain ⟨k', v', _, e1, e2, _, h2, _⟩ := each i hi
        rw [hk] at e1; cases e1
        rw [hv] at e2; cases e2
        exact h2
    · cases hk
  · rename_i n e ht
    split at hk
    · rename_i k hke
      split at hk
      · rename_i hc
        obtain ⟨hC, hC1⟩ := hc
        cases hk
        obtain ⟨xs, m, _, rfl, hl, hxl, hf⟩ := DataW.trod_array ht h
        have each : ∀ (i : Nat), i < n → ∃ v y, cs[i]? = some v ∧ xs[i]? = some y ∧ k.is N v ∧ y.2 = [] := by
          intro i hi
          have h1 := hf i hi
          have hxi : xs[i]? = some xs[i] := by simp [hxl, hi]
          rw [hxi] at h1
          obtain ⟨v, hv, his, h2⟩ := ck_trod hB (hN.part hB (List.mem_map.2 ⟨_, List.mem_of_getElem? hxi, rfl⟩)) hke h1
          refine ⟨v, xs[i], ?_, hxi, his, h2⟩
          rw [hC1, Nat.mul_one] at hv
          have h9 := congrArg (·[0]?) hv
          simp [List.getElem?_take, List.getElem?_drop] at h9
          exact h9
        refine ⟨by rw [hl, hC]; simp, flat_nil fun i y hy => ?_, fun i k' v hk hv => ?_⟩
        · have hi : i < n := by rw [← hxl]; exact (List.getElem?_eq_some_iff.1 hy).1
          obtain ⟨_, y', _, e, _, h2⟩ := each i hi
          rw [hy] at e; cases e; exact h2
        · rw [List.getElem?_replicate] at hk
          split at hk
          · rename_i hi
            cases hk
            obtain ⟨v', _, e2, _, h2, _⟩ := each i hi
            rw [hv] at e2; cases e2
            exact h2
          · cases hk
      · cases hk
    · cases hk
  · split at hk
    · rename_i k hke
      split at hk
      · cases hk
        obtain ⟨v, rfl, his, h2⟩ := ck_trod hB hN hke h
        refine ⟨rfl, h2, fun i k' v' hk hv => ?_⟩
        cases i with
        | zero => simp at hk hv; subst hk hv; exact his
        | succ i => simp at hk
      · cases hk
    · cases hk

/-- Rows of cells of given kinds. -/
def AllIs (N : Nat) (ks : List CK) (cs : List Value) : Prop := cs.length = ks.length ∧ ∀ (i : Nat) (k : CK) (v : Value), ks[i]? = some k → cs[i]? = some v → k.is N v

theorem AllIs.nil {N : Nat} {cs : List Value} (h : AllIs N [] cs) : cs = [] := List.eq_nil_of_length_eq_zero h.1
theorem AllIs.cons {N : Nat} {k : CK} {ks : List CK} {cs : List Value} (h : AllIs N (k :: ks) cs) : ∃ v l, cs = v :: l ∧ k.is N v ∧ AllIs N ks l := by
  obtain ⟨hl, hi⟩ := h
  match cs, hl with
  | v :: l, hl => exact ⟨v, l, rfl, hi 0 k v rfl rfl, by simpa using hl, fun i k' v' h1 h2 => hi (i + 1) k' v' (by simpa using h1) (by simpa using h2)⟩
theorem AllIs.lit {N : Nat} {ks : List CK} {cs : List Value} (h : AllIs N ks cs) : cs.all lit0 = true := by
  rw [List.all_eq_true]
  intro v hv
  obtain ⟨i, hi⟩ := List.getElem?_of_mem hv
  have hlt : i < ks.length := by rw [← h.1]; exact (List.getElem?_eq_some_iff.1 hi).1
  exact CK.is_lit (h.2 i ks[i] v (by simp [hlt]) hi)

/-- A struct or an array of plain cells, by value. -/
theorem open_agg {r : Reach} {b0 : Nat} {t : TypeId} {ks : List CK} {v : Value} {d : DataW H} {ps : List MemPlace} (hB : BulkOK bulk) (hN : Small bulk N d) (hk : cksOf P t = some ks) (ha : ckOf P t = none) (hval : Value.okWide P W r b0 t v) (hd : DataW.Trod enc P W base spare held t v d ps) :
    ∃ cs : List Value, v = .agg ⟨cs⟩ ∧ AllIs N ks cs ∧ ps = [] := by
  obtain ⟨fuel, hf⟩ := hd
  obtain ⟨h1, h2, h3⟩ := cks_trod hB hN hk hf
  have : ∃ cs : Array Value, v = .agg cs := by
    unfold cksOf at hk
    unfold Value.okWide at hval
    split at hk
    · rename_i fs ht
      simp only [ht] at hval
      obtain ⟨cs, h, _⟩ := hval
      exact ⟨cs, h⟩
    · rename_i n e ht
      simp only [ht] at hval
      obtain ⟨cs, h, _⟩ := hval
      exact ⟨cs, h⟩
    · rw [ha] at hk; cases hk
  obtain ⟨⟨cs⟩, rfl⟩ := this
  exact ⟨cs, rfl, ⟨h1, h3⟩, h2⟩

/-- A plain cell, by value. -/
theorem open_cell {r : Reach} {b0 : Nat} {t : TypeId} {k : CK} {v : Value} {d : DataW H} {ps : List MemPlace} (hB : BulkOK bulk) (hN : Small bulk N d) (hk : ckOf P t = some k) (hval : Value.okWide P W r b0 t v) (hd : DataW.Trod enc P W base spare held t v d ps) : k.is N v ∧ ps = [] := by
  obtain ⟨fuel, hf⟩ := hd
  obtain ⟨v', h1, h2, h3⟩ := ck_trod hB hN hk hf
  refine ⟨?_, h3⟩
  have : v.cells = #[v] := by
    unfold ckOf at hk
    unfold Value.okWide Cell.okWide Cell.ok at hval
    split at hk
    · rename_i ht
      simp only [ht] at hval
      cases v <;> first | rfl | cases hval
    · rename_i k ht
      simp only [ht] at hval
      cases v <;> first | rfl | cases hval
    · rename_i ht
      simp only [ht] at hval
      cases v <;> first | rfl | cases hval
    · cases hk
  rw [this] at h1
  simp at h1
  rw [h1]
  exact h2

theorem liesAt_info {p : Program} : ∀ {d : Nat} {e : TypeId} {count off n : Nat} {u : TypeId}, liesAt p d e count off u n = true → ∃ i, p.info? e = some i
  | 0, _, _, _, _, _, h => by simp [liesAt] at h
  | d + 1, e, count, off, n, u, h => by
    unfold liesAt at h
    simp only [Bool.or_eq_true] at h
    rcases h with h | h
    · cases hi : p.info? e with
      | some i => exact ⟨i, rfl⟩
      | none =>
        have h0 : p.cellsOf e = 0 := by unfold Program.cellsOf; rw [hi]; rfl
        cases hd : p.depth with
        | zero => rw [hd] at h; simp [rowAt] at h
        | succ k => rw [hd] at h; simp [rowAt, h0] at h
    · split at h
      · exact liesAt_info h
      · cases h

theorem liesAt_off {p : Program} : ∀ {d : Nat} {e : TypeId} {count off n : Nat} {u : TypeId}, liesAt p d e count off u n = true → off ≤ count * p.cellsOf e
  | 0, _, _, _, _, _, h => by simp [liesAt] at h
  | d + 1, e, count, off, n, u, h => by
    unfold liesAt at h
    simp only [Bool.or_eq_true] at h
    rcases h with h | h
    · cases hd : p.depth with
      | zero => rw [hd] at h; simp [rowAt] at h
      | succ k =>
        rw [hd] at h
        unfold rowAt at h
        simp only at h
        split at h
        · cases h
        · rename_i hs
          simp only [Bool.or_eq_true, Bool.and_eq_true, decide_eq_true_eq, beq_iff_eq] at h
          have hdm := Nat.div_add_mod off (p.cellsOf e)
          rcases h with ⟨⟨h1, h2⟩, _⟩ | ⟨h1, _⟩
          · have : off / p.cellsOf e * p.cellsOf e ≤ count * p.cellsOf e := Nat.mul_le_mul_right _ (by omega)
            rw [Nat.mul_comm] at hdm
            omega
          · have h3 : (off / p.cellsOf e + 1) * p.cellsOf e ≤ count * p.cellsOf e := Nat.mul_le_mul_right _ (by omega)
            have h4 := Nat.mod_lt off (Nat.pos_of_ne_zero hs)
            rw [Nat.succ_mul] at h3
            rw [Nat.mul_comm] at hdm
            omega
    · split at h
      · exact liesAt_off h
      · cases h

/-- A slice of elements of plain cells: nil, or where it lies and what its elements are. -/
theorem open_row {r : Reach} {b0 : Nat} {t e : TypeId} {ks : List CK} {v : Value} {d : DataW H} {ps : List MemPlace} (hB : BulkOK bulk) (hN : Small bulk N d) (ht : P.underlying t = some (.slice e)) (hk : cksOf P e = some ks) (hc : P.cellsOf e = ks.length)
    (hval : Value.okWide P W r b0 t v) (hd : DataW.Trod enc P W base spare held t v d ps) :
    v = .slice none 0 0 ∨ ∃ (q off len cap : Nat) (row : TypeId) (c : Array Value) (fr : Nat × Nat) (i : TypeInfo) (vs : List Value), v = .slice (some ⟨q, off, none⟩) len cap ∧ len ≤ cap ∧ W.heap[q]? = some (.cells c row fr) ∧ P.info? row = some i ∧
      vs.length = len * ks.length ∧ off + vs.length ≤ c.size ∧ (∀ (j : Nat) (u : Value), vs[j]? = some u → c[off + j]? = some u) ∧ (∀ (j : Nat), j < len → AllIs N ks ((vs.drop (j * ks.length)).take ks.length)) := by
  have hform : ∃ a l c, v = .slice a l c := by
    unfold Value.okWide Cell.okWide Cell.ok at hval
    simp only [ht] at hval
    cases v <;> first | exact ⟨_, _, _, rfl⟩ | cases hval
  obtain ⟨a0, len0, cap0, rfl⟩ := hform
  obtain ⟨fuel, hf⟩ := hd
  simp only [Value.cells] at hf
  rcases open_slice ht hf with ⟨h1, _⟩ | ⟨a, len, cap, m, n, D, Pl, h1, _, hlc, _, hm, hxx, hx⟩
  · left
    simpa using h1
  · right
    simp only [List.cons.injEq, Value.slice.injEq, and_true] at h1
    obtain ⟨rfl, rfl, rfl⟩ := h1
    simp only [Prod.mk.injEq] at hxx
    rw [hxx.1] at hN
    unfold Value.okWide Cell.okWide Cell.ok at hval
    simp only [ht] at hval
    obtain ⟨_, _, _, hspot, row, cells, hshape, hlies⟩ := hval
    obtain ⟨i, hi⟩ := liesAt_info hlies
    obtain ⟨q, off, spot⟩ := a
    simp only at hspot
    subst hspot
    unfold World.shape? at hshape
    split at hshape
    · rename_i c elem fr hheap
      cases hshape
      have hlm : len0 ≤ m := by rw [hm]; split <;> omega
      -- the elements' cells
      have each : ∀ j, j < len0 → ∃ cs', AllIs N ks cs' ∧ ∀ (l : Nat) (u : Value), cs'[l]? = some u → c[off + (j * ks.length + l)]? = some u := by
        intro j hj
        obtain ⟨cs', h2, h3⟩ := hx j (by omega)
        obtain ⟨k1, _, k3⟩ := cks_trod hB (hN.elem hB (List.mem_map.2 ⟨j, List.mem_range.2 hj, rfl⟩)) hk h3
        refine ⟨cs', ⟨k1, k3⟩, fun l u hu => ?_⟩
        obtain ⟨_, hlen, hcell⟩ := World.cells?_some h2
        have hl : l < P.cellsOf e := by rw [← hlen]; exact (List.getElem?_eq_some_iff.1 hu).1
        have h4 := hcell l hl
        rw [hu, hc] at h4
        have e4 : ((⟨q, off, none⟩ : Addr).add (j * ks.length)).add l = ⟨q, off + (j * ks.length + l), none⟩ := by
          unfold Addr.add
          split <;> split <;> simp <;> omega
        rw [e4] at h4
        simp only [World.cell?, hheap] at h4
        simpa using h4
      obtain ⟨G, hG⟩ := Classical.axiomOfChoice (r := fun (j : Nat) (cs' : List Value) => j < len0 → AllIs N ks cs' ∧ ∀ (l : Nat) (u : Value), cs'[l]? = some u → c[off + (j * ks.length + l)]? = some u)
        (fun j => by
          by_cases hj : j < len0
          · obtain ⟨cs', h⟩ := each j hj
            exact ⟨cs', fun _ => h⟩
          · exact ⟨[], fun h => absurd h hj⟩)
      -- all of them, one behind the other
      have build : ∀ n, n ≤ len0 → ∃ vs : List Value, vs.length = n * ks.length ∧ (∀ (j : Nat) (u : Value), vs[j]? = some u → c[off + j]? = some u) ∧ (∀ j, j < n → AllIs N ks ((vs.drop (j * ks.length)).take ks.length)) := by
        intro n
        induction n with
        | zero => intro _; exact ⟨[], by simp, fun j u hu => by simp at hu, fun j hj => by omega⟩
        | succ n ih =>
          intro hn
          obtain ⟨vs, v1, v2, v3⟩ := ih (by omega)
          obtain ⟨g1, g2⟩ := hG n (by omega)
          refine ⟨vs ++ G n, by rw [List.length_append, v1, g1.1, Nat.succ_mul], fun j u hu => ?_, fun j hj => ?_⟩
          · by_cases hj : j < vs.length
            · rw [List.getElem?_append_left hj] at hu; exact v2 j u hu
            · rw [List.getElem?_append_right (by omega)] at hu
              have := g2 _ u hu
              rw [v1] at this
              rw [show off + (n * ks.length + (j - n * ks.length)) = off + j by omega] at this
              exact this
          · by_cases hjn : j < n
            · rw [List.drop_append_of_le_length (by rw [v1]; exact Nat.mul_le_mul_right _ (by omega))]
              have hle : ks.length ≤ (vs.drop (j * ks.length)).length := by
                rw [List.length_drop, v1]
                have : (j + 1) * ks.length ≤ n * ks.length := Nat.mul_le_mul_right _ (by omega)
                rw [Nat.succ_mul] at this
                omega
              rw [List.take_append_of_le_length hle]
              exact v3 j hjn
            · have : j = n := by omega
              subst this
              rw [← v1, List.drop_left, List.take_of_length_le (by rw [g1.1]; exact Nat.le_refl _)]
              exact g1
      obtain ⟨vs, v1, v2, v3⟩ := build len0 (Nat.le_refl _)
      refine ⟨q, off, len0, cap0, row, c, fr, i, vs, rfl, hlc, hheap, hi, v1, ?_, v2, v3⟩
      have hoff : off ≤ c.size := by
        have h8 : off ≤ c.size / P.cellsOf row * P.cellsOf row := liesAt_off hlies
        have h9 := Nat.div_mul_le_self c.size (P.cellsOf row)
        omega
      by_cases hne : vs.length = 0
      · omega
      · have hl : vs.length - 1 < vs.length := by omega
        have := v2 (vs.length - 1) vs[vs.length - 1] (by simp [hl])
        have := (Array.getElem?_eq_some_iff.1 this).1
        omega
    · cases hshape

/-- The memory with what an argument leads to, which may only be read. -/
theorem mr_more {ρ : Ren} {m : Mem} (h : MR P ρ m W) (hro : ∀ (k : Nat) (e : TypeId) (cs : List Value), m[k]? ≠ some (Blk.row false e cs)) {q : Nat} {c : Array Value} {row : TypeId} {fr : Nat × Nat} {i : TypeInfo} (hq : W.heap[q]? = some (.cells c row fr)) (hi : P.info? row = some i)
    {cs : List Value} (hl : cs.length ≤ c.size) (hcs : ∀ (j : Nat) (u : Value), cs[j]? = some u → ∃ v, c[j]? = some v ∧ VR ρ u v) :
    MR P (ρ.put m.length ⟨q, c.size, i.size⟩) (m ++ [.row true row cs]) W ∧ ρ.le (ρ.put m.length ⟨q, c.size, i.size⟩) ∧ (ρ.put m.length ⟨q, c.size, i.size⟩) m.length = some ⟨q, c.size, i.size⟩ ∧
      ∀ (k : Nat) (e : TypeId) (l : List Value), (m ++ [Blk.row true row cs])[k]? ≠ some (Blk.row false e l) := by
  have hle : ρ.le (ρ.put m.length ⟨q, c.size, i.size⟩) := Ren.le_put (h.dom _ (Nat.le_refl _))
  have hcase : ∀ k b, (m ++ [Blk.row true row cs])[k]? = some b → (k < m.length ∧ m[k]? = some b) ∨ (k = m.length ∧ b = .row true row cs) := by
    intro k b hb
    rcases Nat.lt_trichotomy k m.length with hk | hk | hk
    · left; rw [List.getElem?_append_left hk] at hb; exact ⟨hk, hb⟩
    · right; subst hk; simp at hb; exact ⟨rfl, hb.symm⟩
    · rw [List.getElem?_append_right (by omega), List.getElem?_eq_none (by simp; omega)] at hb; cases hb
  have hput : ∀ k, k < m.length → (ρ.put m.length ⟨q, c.size, i.size⟩) k = ρ k := by
    intro k hk; unfold Ren.put; rw [if_neg (by omega)]
  have hputn : (ρ.put m.length ⟨q, c.size, i.size⟩) m.length = some ⟨q, c.size, i.size⟩ := by simp [Ren.put]
  have hro' : ∀ (k : Nat) (e : TypeId) (l : List Value), (m ++ [Blk.row true row cs])[k]? ≠ some (Blk.row false e l) := by
    intro k e l hk
    rcases hcase k _ hk with ⟨_, hk⟩ | ⟨_, hk⟩
    · exact hro k e l hk
    · cases hk
  refine ⟨⟨?_, ?_, fun g hg => (h.glob g hg).imp fun x hx => ⟨hle _ _ hx.1, hx.2⟩, ?_, fun k e1 cs1 k' ro' e' cs' x x' hb => absurd hb (hro' k e1 cs1), ?_⟩, hle, hputn, hro'⟩
  · intro k hk
    simp at hk
    unfold Ren.put
    rw [if_neg (by omega)]
    exact h.dom k (by omega)
  · intro k x hx
    unfold Ren.put at hx
    split at hx
    · cases hx; exact (Array.getElem?_eq_some_iff.1 hq).1
    · exact h.bnd _ _ hx
  · intro k ro' e' cs' hb
    unfold look at hb
    split at hb
    · rename_i b hb'
      rcases hcase k b hb' with ⟨hk, hb'⟩ | ⟨rfl, rfl⟩
      · obtain ⟨x, c', fr', hx, hw, hn, hl', hi', hf, hz⟩ := h.row k ro' e' cs' (by simp [look, hb', hb])
        exact ⟨x, c', fr', hle _ _ hx, hw, hn, hl', fun j u hu => (by obtain ⟨v, hv, hr⟩ := hi' j u hu; exact ⟨v, hv, hr.mono hle⟩), hf, hz⟩
      · simp [Blk.cells?] at hb
        obtain ⟨rfl, rfl, rfl⟩ := hb
        exact ⟨_, c, fr, hputn, hq, rfl, hl, fun j u hu => (by obtain ⟨v, hv, hr⟩ := hcs j u hu; exact ⟨v, hv, hr.mono hle⟩), fun hh => (by cases hh), by rw [hi]; rfl⟩
    · cases hb
  · intro k e1 cs1 hb
    rcases hcase k _ hb with ⟨hk, hb⟩ | ⟨_, hb⟩
    · exact h.tab k e1 cs1 hb
    · cases hb

/-- A slice's block in the abstract memory: of what lies ahead nothing is known. -/
def ahead (off : Nat) (vs : List Value) : List Value := List.replicate off junk ++ vs

theorem ahead_get (off : Nat) (vs : List Value) (j : Nat) : (ahead off vs)[off + j]? = vs[j]? := by
  unfold ahead
  rw [List.getElem?_append_right (by simp)]
  simp

/-- A slice as an argument: the memory grows by one block that may only be read, or the slice is nil. -/
theorem mr_slice {r : Reach} {b0 : Nat} {t e : TypeId} {ks : List CK} {v : Value} {d : DataW H} {ps : List MemPlace} (hB : BulkOK bulk) (hN : Small bulk N d) (ht : P.underlying t = some (.slice e)) (hk : cksOf P e = some ks) (hc : P.cellsOf e = ks.length) (hks : 0 < ks.length)
    (hval : Value.okWide P W r b0 t v) (hd : DataW.Trod enc P W base spare held t v d ps)
    {ρ : Ren} {m : Mem} (h : MR P ρ m W) (hro : ∀ (k : Nat) (e : TypeId) (cs : List Value), m[k]? ≠ some (Blk.row false e cs)) :
    v = .slice none 0 0 ∨ ∃ (off len cap : Nat) (row : TypeId) (vs : List Value) (ρ' : Ren), len ≤ cap ∧ vs.length = len * ks.length ∧ (∀ (j : Nat), j < len → AllIs N ks ((vs.drop (j * ks.length)).take ks.length)) ∧ ρ.le ρ' ∧
      VR ρ' (.slice (some ⟨m.length, off, none⟩) len cap) v ∧ MR P ρ' (m ++ [.row true row (ahead off vs)]) W ∧ ∀ (k : Nat) (e : TypeId) (l : List Value), (m ++ [Blk.row true row (ahead off vs)])[k]? ≠ some (Blk.row false e l) := by
  rcases open_row hB hN ht hk hc hval hd with h0 | ⟨q, off, len, cap, row, c, fr, i, vs, rfl, hlc, hq, hi, v1, vfit, v2, v3⟩
  · exact .inl h0
  · right
    · obtain ⟨g1, g2, g3, g4⟩ := mr_more h hro hq hi (cs := ahead off vs) (by unfold ahead; simp; omega) (fun j u hu => by
        unfold ahead at hu
        by_cases hj : j < off
        · rw [List.getElem?_append_left (by simpa using hj), List.getElem?_replicate, if_pos hj] at hu
          cases hu
          exact ⟨c[j], by simp [show j < c.size by omega], .junk⟩
        · rw [List.getElem?_append_right (by simp; omega)] at hu
          simp only [List.length_replicate] at hu
          have h5 := v2 _ u hu
          rw [show off + (j - off) = j by omega] at h5
          have hlt : j - off < vs.length := (List.getElem?_eq_some_iff.1 hu).1
          refine ⟨u, h5, .lit (lit2_of_lit1 (lit1_of_lit0 ?_))⟩
          -- it is a cell of an element
          have hidx : (j - off) / ks.length < len := by
            rw [Nat.div_lt_iff_lt_mul hks, ← v1]; exact hlt
          have h6 := (v3 _ hidx).lit
          rw [List.all_eq_true] at h6
          refine h6 u (List.mem_of_getElem? (i := (j - off) % ks.length) ?_)
          rw [List.getElem?_take, if_pos (Nat.mod_lt _ hks), List.getElem?_drop, Nat.mul_comm, Nat.div_add_mod]
          exact hu)
      exact ⟨off, len, cap, row, vs, _, hlc, v1, v3, g2, .slice (x := ⟨q, c.size, i.size⟩) g3 (.inl rfl), g1, g4⟩

end Go.Am

/-
  From a run of the machine to what a row asks: whatever the arguments lead to, they read behind the call as they did (own work; nothing of a dump).
-/
set_option linter.unusedSimpArgs false
set_option linter.unusedVariables false
namespace Go.Am
open Go.ChangeShapes Go.WideShapes Go.ChangeAt Go.RowKit
variable {H : Type} {enc : TypeId × Value → H} {P : Program}

/-- A slice as an argument: the memory ahead, the machine's value, the memory with it. -/
inductive SliceArg (N : Nat) (ks : List CK) (m : Mem) : Value → Mem → Prop
  | nil : SliceArg N ks m (.slice none 0 0) m
  | row {off len cap : Nat} {row : TypeId} {vs : List Value} : len ≤ cap → vs.length = len * ks.length → (∀ (j : Nat), j < len → AllIs N ks ((vs.drop (j * ks.length)).take ks.length)) →
      SliceArg N ks m (.slice (some ⟨m.length, off, none⟩) len cap) (m ++ [.row true row (ahead off vs)])

/-- Memory of which nothing may be written. -/
def NoRow (m : Mem) : Prop := ∀ (k : Nat) (e : TypeId) (cs : List Value), m[k]? ≠ some (Blk.row false e cs)

theorem mr_arg {bulk : DataW H → Nat} {N : Nat} {W : World} {base : Nat} {spare : Nat → Bool} {held : Bool} {r : Reach} {b0 : Nat} {t e : TypeId} {ks : List CK} {v : Value} {d : DataW H} {ps : List MemPlace} (hB : BulkOK bulk) (hN : Small bulk N d) (ht : P.underlying t = some (.slice e)) (hk : cksOf P e = some ks) (hc : P.cellsOf e = ks.length) (hks : 0 < ks.length)
    (hval : Value.okWide P W r b0 t v) (hd : DataW.Trod enc P W base spare held t v d ps) {ρ : Ren} {m : Mem} (h : MR P ρ m W) (hro : NoRow m) :
    ∃ a m' ρ', SliceArg N ks m a m' ∧ ρ.le ρ' ∧ VR ρ' a v ∧ MR P ρ' m' W ∧ NoRow m' := by
  rcases mr_slice hB hN ht hk hc hks hval hd h hro with rfl | ⟨off, len, cap, row, vs, ρ', h1, h2, h3, h4, h5, h6, h7⟩
  · exact ⟨_, m, ρ, .nil, Ren.le_refl _, .lit rfl, h, hro⟩
  · exact ⟨_, _, ρ', .row h1 h2 h3, h4, h5, h6, h7⟩

theorem trodAll_stays (hl : laidOutB P = true) {W W' : World} {sp' : Nat → Bool} (hb : Below W.heap.size W W') : ∀ {ts : List TypeId} {vs : List Value} {ds : List (DataW H)} {ps : List MemPlace}, (∀ t ∈ ts, P.readableRec t = true ∧ t < P.types.size) →
    DataW.TrodAll enc P W 0 (fun _ => true) true ts vs ds ps → (∀ p ∈ ps, p.block < W.heap.size) → (∀ p ∈ ps, sp' p.block = true) → DataW.TrodAll enc P W' 0 sp' true ts vs ds ps
  | [], [], [], ps, _, h, _, _ => h
  | t :: ts, v :: vs, d :: ds, ps, ht, h, hlt, hs => by
    obtain ⟨p, q, h1, h2, rfl⟩ := h
    obtain ⟨hr, hrow⟩ := ht t (by simp)
    exact ⟨p, q, WideElems.Trod_stays hl hr hrow h1 (fun x hx => hb.same (hlt x (by simp [hx]))) (fun x hx => hs x (by simp [hx])),
      trodAll_stays hl hb (fun t' h' => ht t' (by simp [h'])) h2 (fun x hx => hlt x (by simp [hx])) (fun x hx => hs x (by simp [hx])), rfl⟩
  | [], [], _ :: _, _, _, h, _, _ => h.elim
  | [], _ :: _, _, _, _, h, _, _ => h.elim
  | _ :: _, [], _, _, _, h, _, _ => h.elim
  | _ :: _, _ :: _, [], _, _, h, _, _ => h.elim

/-- What a law's row asks of a call that answers true and leaves what was there alone. -/
theorem post_true (hl : laidOutB P = true) {f : Func} {s : ChangeSpec} {fresh handsOn again : Bool} {W W' : World} {args : Array Value} {ds gs : List (DataW H)} {before : List MemPlace} {tb : TypeId}
    (hW : DataW.Whole enc P f.params.toList s.vars false W args.toList ds gs before) (hvs : s.vars = []) (hts : ∀ t ∈ f.params.toList, P.readableRec t = true ∧ t < P.types.size) (hrt : f.resultTypes = #[tb]) (htb : P.underlying tb = some .bool)
    (hfn : (s.fn H ds).results = [.lit (.bool true)] ∧ (s.fn H ds).args = ds ∧ (s.fn H ds).vars = []) (hb : Below W.heap.size W W') : s.post enc P f false fresh handsOn again W args (.bool true) W' := by
  have hlt := fun p hp => hW.lt p hp
  have hW' := hW
  obtain ⟨pa, pv, hA, hV, rfl, hz, hn⟩ := hW'
  rw [hvs] at hV
  obtain ⟨rfl, rfl⟩ := trodVars_none hV
  simp only [List.append_nil] at hW hlt hz
  have hargs : ∀ sp : Nat → Bool, (∀ p ∈ pa, sp p.block = true) → DataW.TrodAll enc P W' 0 sp true f.params.toList args.toList (s.fn H (ds ++ [])).args pa := fun sp hsp => by
    rw [List.append_nil, hfn.2.1]
    exact trodAll_stays hl hb hts hA hlt hsp
  have hres : ∀ (b : Nat) (sp : Nat → Bool) (hd : Bool), DataW.TrodAll enc P W' b sp hd f.resultTypes.toList ((Value.bool true).resultList f.resultTypes.size) (s.fn H (ds ++ [])).results [] := fun b sp hd => by
    rw [List.append_nil, hfn.1, hrt]
    exact trodAll_cons_mk (shut_bool htb true) trodAll_mk0
  have hvars : ∀ sp : Nat → Bool, DataW.TrodVars enc P W' sp s.vars (s.fn H (ds ++ [])).vars [] := fun sp => by
    rw [List.append_nil, hfn.2.2, hvs]
    rfl
  have hold : ∀ p ∈ pa, (fun b => decide (b < W.heap.size)) p.block = true := fun p hp => by simpa using hlt p hp
  refine ⟨ds, [], pa, [], pa, [], by simpa using hW, hres _ _ _, hargs _ hold, hvars _, World.keptBut_mono (fun p hp => ⟨hp, .inr (.inl hp)⟩) (hb.frame _), fun _ => ?_⟩
  refine ⟨fun j t r h1 h2 => ?_, _, _, ([] ++ pa) ++ [], ⟨[] ++ pa, [], trodAll_append (hargs _ (fun _ _ => rfl)) (hres _ _ _), hvars _, rfl, ?_, ?_⟩, ?_⟩
  · rw [hrt] at h1 h2
    cases j with
    | zero =>
      simp [Value.resultList] at h1 h2
      subst h1 h2
      exact okWide_bool_mk htb true
    | succ j => simp at h1
  · intro b off hp
    have hp' : MemPlace.cell b off ∈ pa := by simpa using hp
    rw [hb.frozen (p := ⟨b, off, none⟩) (hlt _ hp')]
    exact hz b off hp'
  · intro ha; cases ha
  · intro p hp _
    simpa using hp
end Go.Am

/-
  The budget's arguments; BudgetLater in the form that its row asks for (own work).
-/
set_option linter.unusedSimpArgs false
set_option linter.unusedVariables false
namespace Go.Am.Seat
open Go.Proofs Go.Am
set_option maxRecDepth 100000

theorem is_u64 {N : Nat} {v : Value} (h : CK.is N (.int .u64) v) : ∃ n : Int, v = .int .u64 n ∧ 0 ≤ n ∧ n < 18446744073709551616 := by
  obtain ⟨n, rfl, h⟩ := h
  unfold Lit.wf at h
  have h1 : (IntKind.u64.min : Int) = 0 := by decide
  have h2 : (IntKind.u64.max : Int) = 18446744073709551615 := by decide
  simp only [h1, h2, Bool.and_eq_true, decide_eq_true_eq] at h
  exact ⟨n, rfl, by omega, by omega⟩
theorem is_i64 {N : Nat} {v : Value} (h : CK.is N (.int .i64) v) : ∃ n : Int, v = .int .i64 n ∧ -9223372036854775808 ≤ n ∧ n < 9223372036854775808 := by
  obtain ⟨n, rfl, h⟩ := h
  unfold Lit.wf at h
  have h1 : (IntKind.i64.min : Int) = -9223372036854775808 := by decide
  have h2 : (IntKind.i64.max : Int) = 9223372036854775807 := by decide
  simp only [h1, h2, Bool.and_eq_true, decide_eq_true_eq] at h
  exact ⟨n, rfl, by omega, by omega⟩
theorem is_pol {N : Nat} {cs : List Value} (h : AllIs N [.int .i64, .int .u64, .int .i64] cs) : ∃ a b c : Int, .agg ⟨cs⟩ = pol a b c ∧ (-9223372036854775808 ≤ a ∧ a < 9223372036854775808) ∧ (0 ≤ b ∧ b < 18446744073709551616) ∧ -9223372036854775808 ≤ c ∧ c < 9223372036854775808 := by
  obtain ⟨v0, l0, rfl, k0, h⟩ := h.cons
  obtain ⟨v1, l1, rfl, k1, h⟩ := h.cons
  obtain ⟨v2, l2, rfl, k2, h⟩ := h.cons
  obtain rfl := h.nil
  obtain ⟨a, rfl, ha⟩ := is_i64 k0
  obtain ⟨b, rfl, hb⟩ := is_u64 k1
  obtain ⟨c, rfl, hc⟩ := is_i64 k2
  exact ⟨a, b, c, rfl, ha, hb, hc⟩
theorem is_bud {N : Nat} {cs : List Value} (h : AllIs N [.int .i64, .int .u64, .bool] cs) : ∃ (a b : Int) (c : Bool), .agg ⟨cs⟩ = bud a b c ∧ (-9223372036854775808 ≤ a ∧ a < 9223372036854775808) ∧ 0 ≤ b ∧ b < 18446744073709551616 := by
  obtain ⟨v0, l0, rfl, k0, h⟩ := h.cons
  obtain ⟨v1, l1, rfl, k1, h⟩ := h.cons
  obtain ⟨v2, l2, rfl, k2, h⟩ := h.cons
  obtain rfl := h.nil
  obtain ⟨a, rfl, ha⟩ := is_i64 k0
  obtain ⟨b, rfl, hb⟩ := is_u64 k1
  obtain ⟨c, rfl⟩ := k2
  exact ⟨a, b, c, rfl, ha, hb⟩

theorem lawBL {cs0 cs1 : List Value} {v2 v3 v4 : Value} (k0 : AllIs maxLen [.int .i64, .int .u64, .int .i64] cs0) (k1 : AllIs maxLen [.int .i64, .int .u64, .bool] cs1) (k2 : CK.is maxLen (.int .u64) v2) (k3 : CK.is maxLen (.int .u64) v3) (k4 : CK.is maxLen (.int .u64) v4) :
    ∃ m1, (runQ E mem0 [] 2001).1 6 [.agg ⟨cs0⟩, .agg ⟨cs1⟩, v2, v3, v4] mem0 = some (.bool true, m1) := by
  obtain ⟨a, b, c, e0, ha, hb, hc⟩ := is_pol k0
  obtain ⟨l, n, k, e1, hl, hn⟩ := is_bud k1
  obtain ⟨t, rfl, ht⟩ := is_u64 k2
  obtain ⟨u, rfl, hu⟩ := is_u64 k3
  obtain ⟨v, rfl, hv⟩ := is_u64 k4
  obtain ⟨m', h⟩ := bla_body (nf := 2001) (a := a) (b := b) (c := c) (k := k) budCalls hl.1 hl.2 hn.1 hn.2 ht.1 ht.2 hu.1 hu.2 hv.1 hv.2
  rw [e0, e1]
  exact ⟨m', runQ_body9 (n := 2000) h⟩
end Go.Am.Seat

/-
  BudgetTexts in the form that its row asks for (own work).
-/
set_option linter.unusedSimpArgs false
set_option linter.unusedVariables false
namespace Go.Am.Seat
open Go.Proofs Go.Am
set_option maxRecDepth 100000

theorem getD_ix {l : List UInt8} {i : Nat} (h : i < l.length) : l.getD i 0 = l[i] := by
  rw [List.getD_eq_getElem?_getD, List.getElem?_eq_getElem h]
  rfl
theorem first_bytes {l : List UInt8} (h : l.length = 13) : nb (l.take 4) ≤ 2147483647 ↔ (l.getD 0 0).toNat < 128 := by
  match l, h with
  | x0 :: x1 :: x2 :: x3 :: r, h => exact top_byte (p := [x1, x2, x3]) rfl
theorem str_tx (s : ByteArray) : Value.string s = tx s.data.toList := rfl
theorem lawBT {cs0 : List Value} {v1 : Value} (k0 : AllIs maxLen [.int .i64, .int .u64, .bool] cs0) (k1 : CK.is maxLen .str v1) :
    ∃ m1, (runQ E mem0 [] 2001).1 4 [.agg ⟨cs0⟩, v1] mem0 = some (.bool true, m1) := by
  obtain ⟨x, w, y, e0, hx, hw⟩ := is_bud k0
  obtain ⟨s, rfl, -⟩ := k1
  rw [e0, str_tx]
  generalize s.data.toList = l
  have hC := textCalls
  by_cases hl : 100 < l.length
  · obtain ⟨m', h⟩ := bte_long (nf := 2001) (x := x) (w := w) (y := y) hC hl
    exact ⟨m', runQ_body9 (n := 2000) h⟩
  have hix : l.length = 13 → aindex E.P 9 (tx l) (.int .i64 0) = some (.int .u8 ((l.getD 0 0).toNat : Nat)) ∧ aindex E.P 9 (tx l) (.int .i64 12) = some (.int .u8 ((l.getD 12 0).toNat : Nat)) := fun h => by
    rw [getD_ix (by omega), getD_ix (by omega)]
    exact ⟨ixT (i := 0) (by omega), ixT (i := 12) (by omega)⟩
  by_cases h : ∃ a b c, rd9 l = some (a, b, c, [])
  · obtain ⟨a, b, c, h⟩ := h
    obtain ⟨h1, h2, h3, h13⟩ := parsed_some h
    have hp : parsed l = (a, b, c, 0) := by unfold parsed; rw [h]
    have hq : nb (l.take 4) ≤ 2147483647 ∧ (l.getD 12 0).toNat ≤ 1 := by
      unfold rd9 at h
      split at h
      · rename_i hc; exact hc.2
      · cases h
    obtain ⟨i0, i12⟩ := hix h13
    obtain ⟨m', h⟩ := bte_ok (nf := 2001) (x := x) (w := w) (y := y) hC hw hp h1 (by omega) i0 i12 ((first_bytes h13).1 hq.1) (by omega)
    exact ⟨m', runQ_body9 (n := 2000) h⟩
  · have h' : ∀ a b c, rd9 l ≠ some (a, b, c, []) := fun a b c hh => h ⟨a, b, c, hh⟩
    have hp : parsed l = (0, 0, false, 4) := by
      unfold parsed
      split
      · rename_i a b c hh
        exact absurd hh (h' a b c)
      · rfl
    obtain ⟨m', h⟩ := bte_no (nf := 2001) (x := x) (w := w) (y := y) (u0 := (l.getD 0 0).toNat) (u12 := (l.getD 12 0).toNat) hC hw (by omega) hp (fun h13 => by
      obtain ⟨i0, i12⟩ := hix h13
      refine ⟨i0, i12, fun hu => ?_⟩
      refine h' (nb (l.take 4)) (nb ((l.drop 4).take 8)) (decide ((l.getD 12 0).toNat = 1)) ?_
      unfold rd9
      rw [if_pos ⟨by omega, (first_bytes h13).2 hu.1, by omega⟩, List.drop_eq_nil_of_le (i := 13) (by omega)])
    exact ⟨m', runQ_body9 (n := 2000) h⟩
end Go.Am.Seat
