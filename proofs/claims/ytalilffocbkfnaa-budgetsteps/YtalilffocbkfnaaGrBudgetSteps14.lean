/-
  Texts of my own, put together: BU14, BU15, BU16.
-/
import Derived.Test.YtalilffocbkfnaaGrBudgetSteps13
/-
  BudgetSteps: the law (own work).
-/
set_option linter.unusedSimpArgs false
set_option linter.unusedVariables false
namespace Go.Am.Seat
open Go.Proofs Go.Am
set_option maxRecDepth 100000

theorem ixS (m : Mem) (k : Nat) : aindexAddr E.P 43 (adr m k 0) (.int .i64 0) = some (adr m k 0) ∧ aindexAddr E.P 43 (adr m k 0) (.int .i64 1) = some (adr m k 1) ∧ aindexAddr E.P 43 (adr m k 0) (.int .i64 2) = some (adr m k 2) ∧ aindexAddr E.P 43 (adr m k 0) (.int .i64 3) = some (adr m k 3) := by
  unfold adr
  exact ⟨by kernel_rfl, by kernel_rfl, by kernel_rfl, by kernel_rfl⟩
theorem ix0 (m : Mem) (k : Nat) : aindexAddr E.P 43 (adr m k 0) (.int .i64 0) = some (adr m k 0) := (ixS m k).1
theorem ix1 (m : Mem) (k : Nat) : aindexAddr E.P 43 (adr m k 0) (.int .i64 1) = some (adr m k 1) := (ixS m k).2.1
theorem ix2 (m : Mem) (k : Nat) : aindexAddr E.P 43 (adr m k 0) (.int .i64 2) = some (adr m k 2) := (ixS m k).2.2.1
theorem ix3 (m : Mem) (k : Nat) : aindexAddr E.P 43 (adr m k 0) (.int .i64 3) = some (adr m k 3) := (ixS m k).2.2.2
theorem ldFn (m : Mem) (L : List Blk) (k o : Nat) : aload E.P 42 (adr m k o) (ap m L) = ldF o L[k]? := aload_F Try.underlying42 rfl m L k o
section
variable {a b c : Int} {ro : Bool} {e : TypeId}
theorem ldF_s0 : ldF 0 (some (.row ro e (stepsL a b c))) = some (.func (.func 12) ⟨[pol a b c]⟩ ⟨[]⟩) := rfl
theorem ldF_s1 : ldF 1 (some (.row ro e (stepsL a b c))) = some (.func (.func 23) ⟨[pol a b c]⟩ ⟨[]⟩) := rfl
theorem ldF_s2 : ldF 2 (some (.row ro e (stepsL a b c))) = some (.func (.func 24) ⟨[pol a b c]⟩ ⟨[]⟩) := rfl
theorem ldF_s3 : ldF 3 (some (.row ro e (stepsL a b c))) = some (.func (.func 25) ⟨[pol a b c]⟩ ⟨[]⟩) := rfl
end

/-- What the law asks of its calls, beside the others. -/
structure StepCalls (slf : Self) : Prop extends BudCalls slf where
  my : ∀ {a b c : Int}, AnsB slf 8 [pol a b c] (.bool (may a b c))
  rl : ∀ {t n : Int}, 0 ≤ t → t < 18446744073709551616 → 0 ≤ n → n < 18446744073709551616 → AnsB slf 15 [.int .u64 t, .int .u64 n] (.int .u64 (min (t + n) 18446744073709551615))
  ra : ∀ {a b c t l n : Int} {k : Bool}, 1 ≤ b → 0 ≤ t → t < 18446744073709551616 → AnsB slf 11 [pol a b c, bud l n k, .int .u64 t] (bud (atL a l n (t / b)) (max n (t / b)) k)
  rs : ∀ {a b c t l n : Int} {k : Bool}, 1 ≤ b → 0 ≤ t → t < 18446744073709551616 → atL a l n (t / b) < 9223372036854775808 → AnsB slf 13 [pol a b c, bud l n k, .int .u64 t] (.tuple ⟨[bud (if k || decide (atL a l n (t / b) < 1) then atL a l n (t / b) else atL a l n (t / b) - 1) (max n (t / b)) k, .bool !(k || decide (atL a l n (t / b) < 1))]⟩)
  sg : ∀ {a b c : Int} M, ainv E slf 17 [pol a b c] M = some (.agg ⟨stepsL a b c⟩, M)
  lk : ∀ {a b c t l n : Int} {k : Bool}, 1 ≤ b → 0 ≤ t → t < 18446744073709551616 → AnsB slf 23 [pol a b c, bud l n k, .int .u64 t] (.tuple ⟨[bud (atL a l n (t / b)) (max n (t / b)) k, .int .i64 0]⟩)
  lo : ∀ {a b c t l n : Int} {k : Bool}, 1 ≤ b → 0 ≤ t → t < 18446744073709551616 → AnsB slf 24 [pol a b c, bud l n k, .int .u64 t] (.tuple ⟨[bud (atL a l n (t / b)) (max n (t / b)) true, .int .i64 0]⟩)
  re : ∀ {a b c t l n : Int} {k : Bool}, 1 ≤ b → 0 ≤ t → t < 18446744073709551616 → AnsB slf 25 [pol a b c, bud l n k, .int .u64 t] (.tuple ⟨[bud a (t / b) false, .int .i64 0]⟩)
  rb : ∀ {a b c l n : Int} {k : Bool}, 0 ≤ c ∧ c ≤ a → 1 ≤ a ∧ a ≤ 1000 → -1000 ≤ l → AnsB slf 20 [pol a b c, bud l n k] (bud (if l < a then min (l + c) a else l) n k)

theorem stepCalls : StepCalls (RQ 2000) where
  toBudCalls := budCalls
  my := qMay (N := 1999)
  rl := fun h0 h1 h2 h3 => qRl (N := 1999) h0 h1 h2 h3
  ra := fun hb h0 h1 => qRa (N := 1999) hb h0 h1
  rs := fun hb h0 h1 h2 => qRs (N := 1998) hb h0 h1 h2
  sg := fun M => qSg (N := 1999) M
  lk := fun hb h0 h1 => qLk (N := 1997) hb h0 h1
  lo := fun hb h0 h1 => qLo (N := 1997) hb h0 h1
  re := fun hb h0 h1 => qRe (N := 1997) hb h0 h1
  rb := fun hc ha hl => qRb (N := 1999) hc ha hl (by omega)

section
variable {self : Self} {nf : Nat} {a b c t u l n : Int} {k : Bool}
theorem bst_no (hC : StepCalls self) (hm : may a b c = false) :
    ∃ m', abody E self nf 3 [pol a b c, bud l n k, .int .u64 t, .int .u64 u] (ap mem0 []) = some (.bool true, m') := by
  rw [abody_eqF (by kernel_rfl) Try.func3 bodybst (by kernel_rfl) (Nat.le_of_ble_eq_true rfl)]
  rw [show Try.f3.ntmps = 218 from rfl]
  have hck := fun M => hC.ck a b c M
  have hmy := fun M => hC.my (a := a) (b := b) (c := c) M
  have hAw := hC.aw
  rw [hm] at hck hmy
  have e1 : ((2 : Int) == 2) = true := rfl
  simp only [↓dbst_10, ↓dbst_19, ↓dbst_23, ↓sbst_10, ↓sbst_19, ↓sbst_23, ebst_0, ebst_1, ebst_10, ebst_11, ebst_12, ebst_13, ebst_14, ebst_15, ebst_16, ebst_17, ebst_18, ebst_19, ebst_2, ebst_20, ebst_21, ebst_22, ebst_23, ebst_3, ebst_4, ebst_5, ebst_6, ebst_7, ebst_8, ebst_9, lbst_0, lbst_1, lbst_2, lbst_3, lbst_4, lbst_5, lbst_6, lbst_7, lbst_8, lbst_9, lbst_10, lbst_11, lbst_12, lbst_13, lbst_14, lbst_15, lbst_16, lbst_17, lbst_18, lbst_19, lbst_20, lbst_21, lbst_22, lbst_23, gbst_10_15, gbst_10_20, gbst_10_26, gbst_10_29, gbst_10_3, gbst_10_34, gbst_10_43, gbst_10_8, gbst_19_13, gbst_19_17, gbst_19_22, gbst_19_26, gbst_19_3, gbst_19_30, gbst_19_37, gbst_19_8, gbst_21_3, gbst_21_8, agd_none, gdAt, gdV_bool, gdV_undef, Try.f3, List.append_eq, List.cons_append, List.nil_append, apure_call1, apure_call2, apure_call3, bft, btf, acodeN, List.getElem?_toArray, List.getElem?_cons_zero, List.getElem?_cons_succ, aopsN, adrawT, cls, astep, aop, afloat, ev, nth_lst, get_lst, aput, setAt_lst, upd_at, init_zero, init_succ, init_nil, Nat.reduceLT, Nat.reduceEqDiff, reduceIte, abuiltin, alen, Option.map_some, Option.map_none, orElse_some, apure_add, List.map_cons, List.map_nil, List.all_cons, List.all_nil, lit2, lit1, lit0, List.isEmpty_nil, Bool.and_self, Bool.and_true, Bool.true_and, Bool.false_and, Bool.and_false, Bool.not_true, Bool.not_false, Bool.or_true, Bool.true_or, Bool.false_or, Bool.or_false, Bool.false_eq_true, if_true, if_false, List.length_map, beq_self_eq_true, und3, und4, und5, und9, eqlV9_int, neqV9_int, eqlV9_bool, neqV9_bool, eqlV9_str, neqV9_str, eqlB, neqB, eqlBr, neqBr, ↓aop_eqlV9, ↓aop_neqV9, ↓afloat_eqlV9, ↓afloat_neqV9, apure_eqlV9, apure_neqV9, eqlW, neqW, eqlI64, neqI64, aload_sealed, adB, adBr, adU, adE, wrWi, wrLt, wrFr, wrBk, wrCk, wrRl, wrRb, cbWi, cbAt, cbSp, cbLt, cbFr, cbBk, cbCk, cbRa, cbRs, cbRl, cbRb, cbMay, cbLk, cbLo, cbRe, cbSg, cbAw, bxP, bxB, bxPr, bxBr, alP, alB, alPr, alBr, ldP', ldB', ldPr', ldBr', ldI', ldU', ldL', ldS_pol, ldS_bud, ldF_p0, ldF_p1, ldF_p2, ldF_b0, ldF_b1, ldF_b2, stP', stB', stPr', stBr', stI', stU', stT', stL, polLen, budLen, layP, layB, layB0, layB1, layB2, faP0, faP1, faP2, faB0, faB1, faB2, faPr0, faPr1, faPr2, faBr0, faBr1, faBr2, List.length_nil, List.length_cons, List.length_append, Nat.reduceAdd, Nat.reduceLeDiff, List.set_cons_zero, List.set_cons_succ, and_self, true_and, Nat.le_refl, apure_max, apure_min, maxV, minV, finish, ares, aresL, ares1_tmp, ares1_cell, aresC_adr, aextract, hAw, hck, hmy, e1]
  exact ⟨_, rfl⟩
end
end Go.Am.Seat

/-
  BudgetSteps: the law, where the policy may be (own work).
-/
set_option linter.unusedSimpArgs false
set_option linter.unusedVariables false
namespace Go.Am.Seat
open Go.Proofs Go.Am
set_option maxRecDepth 100000

section
variable {self : Self} {nf : Nat} {a b c t u l n l1 n1 ls er w x l2 : Int} {k ok tb r1 r2 : Bool}
/-- The rows that the law has made behind its steps. -/
def rowsS (a b c l n l1 n1 ls w : Int) (k : Bool) : List Blk := [.row false 24 (polC a b c), .row false 26 (budC l n k), .row false 28 (polC a b c), .row false 26 (budC l1 n1 k), .row false 34 (budC l1 n1 k), .row false 26 (budC ls n1 k), .row false 34 (budC ls n1 k), .row false 43 (stepsL a b c), .row false 26 (budC ls n1 k), .row false 26 (budC l1 n1 k), .row false 26 (budC l1 n1 true), .row false 26 (budC a w false), .row false 26 (budC l1 n1 true)]
noncomputable def sufS : Code := (Code.seq (Code.seq (Code.region 21 rbst_21 false) (Code.cond (Operand.tmp 210) (Code.seq (Code.region 22 rbst_22 false) Code.ret) Code.skip)) (Code.seq (Code.region 23 rbst_23 true) Code.ret))
theorem bst_tail {F : Nat → Value} (h4 : F 4 = adr mem0 0 0) (h5 : F 5 = adr mem0 1 0) (h9 : F 9 = adr mem0 2 0) (g0 : decide (c > 1000) = false) (g1 : decide (l < -1000) = r1) (g2 : decide (l > 1099511627776) = r2)
    (q13 : r1 = false → r2 = false → (∀ M, ainv E self 19 [pol a b c, bud l n k] M = some (bud l2 n k, M)) ∧ ∀ M, ainv E self 20 [pol a b c, bud l n k] M = some (bud l2 n k, M)) :
    ∃ m', finish E.P Try.f3 (acodeN E self nf sufS (lst F 218) (ap mem0 (rowsS a b c l n l1 n1 ls w k))) = some (.bool true, m') := by
  unfold sufS rowsS
  cases r1 with
  | true =>
    simp only [↓dbst_10, ↓dbst_19, ↓dbst_23, ↓sbst_10, ↓sbst_19, ↓sbst_23, ebst_0, ebst_1, ebst_10, ebst_11, ebst_12, ebst_13, ebst_14, ebst_15, ebst_16, ebst_17, ebst_18, ebst_19, ebst_2, ebst_20, ebst_21, ebst_22, ebst_23, ebst_3, ebst_4, ebst_5, ebst_6, ebst_7, ebst_8, ebst_9, lbst_0, lbst_1, lbst_2, lbst_3, lbst_4, lbst_5, lbst_6, lbst_7, lbst_8, lbst_9, lbst_10, lbst_11, lbst_12, lbst_13, lbst_14, lbst_15, lbst_16, lbst_17, lbst_18, lbst_19, lbst_20, lbst_21, lbst_22, lbst_23, gbst_10_15, gbst_10_20, gbst_10_26, gbst_10_29, gbst_10_3, gbst_10_34, gbst_10_43, gbst_10_8, gbst_19_13, gbst_19_17, gbst_19_22, gbst_19_26, gbst_19_3, gbst_19_30, gbst_19_37, gbst_19_8, gbst_21_3, gbst_21_8, agd_none, gdAt, gdV_bool, gdV_undef, Try.f3, List.append_eq, List.cons_append, List.nil_append, apure_call1, apure_call2, apure_call3, bft, btf, acodeN, List.getElem?_toArray, List.getElem?_cons_zero, List.getElem?_cons_succ, aopsN, adrawT, cls, astep, aop, afloat, ev, nth_lst, get_lst, aput, setAt_lst, upd_at, init_zero, init_succ, init_nil, Nat.reduceLT, Nat.reduceEqDiff, reduceIte, abuiltin, alen, Option.map_some, Option.map_none, orElse_some, apure_add, List.map_cons, List.map_nil, List.all_cons, List.all_nil, lit2, lit1, lit0, List.isEmpty_nil, Bool.and_self, Bool.and_true, Bool.true_and, Bool.false_and, Bool.and_false, Bool.not_true, Bool.not_false, Bool.or_true, Bool.true_or, Bool.false_or, Bool.or_false, Bool.false_eq_true, if_true, if_false, List.length_map, beq_self_eq_true, und3, und4, und5, und9, eqlV9_int, neqV9_int, eqlV9_bool, neqV9_bool, eqlV9_str, neqV9_str, eqlB, neqB, eqlBr, neqBr, ↓aop_eqlV9, ↓aop_neqV9, ↓afloat_eqlV9, ↓afloat_neqV9, apure_eqlV9, apure_neqV9, eqlW, neqW, eqlI64, neqI64, aload_sealed, adB, adBr, adU, adE, wrWi, wrLt, wrFr, wrBk, wrCk, wrRl, wrRb, cbWi, cbAt, cbSp, cbLt, cbFr, cbBk, cbCk, cbRa, cbRs, cbRl, cbRb, cbMay, cbLk, cbLo, cbRe, cbSg, cbAw, bxP, bxB, bxPr, bxBr, alP, alB, alPr, alBr, ldP', ldB', ldPr', ldBr', ldI', ldU', ldL', ldS_pol, ldS_bud, ldF_p0, ldF_p1, ldF_p2, ldF_b0, ldF_b1, ldF_b2, stP', stB', stPr', stBr', stI', stU', stT', stL, polLen, budLen, layP, layB, layB0, layB1, layB2, faP0, faP1, faP2, faB0, faB1, faB2, faPr0, faPr1, faPr2, faBr0, faBr1, faBr2, List.length_nil, List.length_cons, List.length_append, Nat.reduceAdd, Nat.reduceLeDiff, List.set_cons_zero, List.set_cons_succ, and_self, true_and, Nat.le_refl, apure_max, apure_min, maxV, minV, finish, ares, aresL, ares1_tmp, ares1_cell, aresC_adr, aextract, h4, h5, h9, gtrI, lssI, g0, g1]
    exact ⟨_, rfl⟩
  | false =>
    cases r2 with
    | true =>
      simp only [↓dbst_10, ↓dbst_19, ↓dbst_23, ↓sbst_10, ↓sbst_19, ↓sbst_23, ebst_0, ebst_1, ebst_10, ebst_11, ebst_12, ebst_13, ebst_14, ebst_15, ebst_16, ebst_17, ebst_18, ebst_19, ebst_2, ebst_20, ebst_21, ebst_22, ebst_23, ebst_3, ebst_4, ebst_5, ebst_6, ebst_7, ebst_8, ebst_9, lbst_0, lbst_1, lbst_2, lbst_3, lbst_4, lbst_5, lbst_6, lbst_7, lbst_8, lbst_9, lbst_10, lbst_11, lbst_12, lbst_13, lbst_14, lbst_15, lbst_16, lbst_17, lbst_18, lbst_19, lbst_20, lbst_21, lbst_22, lbst_23, gbst_10_15, gbst_10_20, gbst_10_26, gbst_10_29, gbst_10_3, gbst_10_34, gbst_10_43, gbst_10_8, gbst_19_13, gbst_19_17, gbst_19_22, gbst_19_26, gbst_19_3, gbst_19_30, gbst_19_37, gbst_19_8, gbst_21_3, gbst_21_8, agd_none, gdAt, gdV_bool, gdV_undef, Try.f3, List.append_eq, List.cons_append, List.nil_append, apure_call1, apure_call2, apure_call3, bft, btf, acodeN, List.getElem?_toArray, List.getElem?_cons_zero, List.getElem?_cons_succ, aopsN, adrawT, cls, astep, aop, afloat, ev, nth_lst, get_lst, aput, setAt_lst, upd_at, init_zero, init_succ, init_nil, Nat.reduceLT, Nat.reduceEqDiff, reduceIte, abuiltin, alen, Option.map_some, Option.map_none, orElse_some, apure_add, List.map_cons, List.map_nil, List.all_cons, List.all_nil, lit2, lit1, lit0, List.isEmpty_nil, Bool.and_self, Bool.and_true, Bool.true_and, Bool.false_and, Bool.and_false, Bool.not_true, Bool.not_false, Bool.or_true, Bool.true_or, Bool.false_or, Bool.or_false, Bool.false_eq_true, if_true, if_false, List.length_map, beq_self_eq_true, und3, und4, und5, und9, eqlV9_int, neqV9_int, eqlV9_bool, neqV9_bool, eqlV9_str, neqV9_str, eqlB, neqB, eqlBr, neqBr, ↓aop_eqlV9, ↓aop_neqV9, ↓afloat_eqlV9, ↓afloat_neqV9, apure_eqlV9, apure_neqV9, eqlW, neqW, eqlI64, neqI64, aload_sealed, adB, adBr, adU, adE, wrWi, wrLt, wrFr, wrBk, wrCk, wrRl, wrRb, cbWi, cbAt, cbSp, cbLt, cbFr, cbBk, cbCk, cbRa, cbRs, cbRl, cbRb, cbMay, cbLk, cbLo, cbRe, cbSg, cbAw, bxP, bxB, bxPr, bxBr, alP, alB, alPr, alBr, ldP', ldB', ldPr', ldBr', ldI', ldU', ldL', ldS_pol, ldS_bud, ldF_p0, ldF_p1, ldF_p2, ldF_b0, ldF_b1, ldF_b2, stP', stB', stPr', stBr', stI', stU', stT', stL, polLen, budLen, layP, layB, layB0, layB1, layB2, faP0, faP1, faP2, faB0, faB1, faB2, faPr0, faPr1, faPr2, faBr0, faBr1, faBr2, List.length_nil, List.length_cons, List.length_append, Nat.reduceAdd, Nat.reduceLeDiff, List.set_cons_zero, List.set_cons_succ, and_self, true_and, Nat.le_refl, apure_max, apure_min, maxV, minV, finish, ares, aresL, ares1_tmp, ares1_cell, aresC_adr, aextract, h4, h5, h9, gtrI, lssI, g0, g1, g2]
      exact ⟨_, rfl⟩
    | false =>
      obtain ⟨q1, q2⟩ := q13 rfl rfl
      simp only [↓dbst_10, ↓dbst_19, ↓dbst_23, ↓sbst_10, ↓sbst_19, ↓sbst_23, ebst_0, ebst_1, ebst_10, ebst_11, ebst_12, ebst_13, ebst_14, ebst_15, ebst_16, ebst_17, ebst_18, ebst_19, ebst_2, ebst_20, ebst_21, ebst_22, ebst_23, ebst_3, ebst_4, ebst_5, ebst_6, ebst_7, ebst_8, ebst_9, lbst_0, lbst_1, lbst_2, lbst_3, lbst_4, lbst_5, lbst_6, lbst_7, lbst_8, lbst_9, lbst_10, lbst_11, lbst_12, lbst_13, lbst_14, lbst_15, lbst_16, lbst_17, lbst_18, lbst_19, lbst_20, lbst_21, lbst_22, lbst_23, gbst_10_15, gbst_10_20, gbst_10_26, gbst_10_29, gbst_10_3, gbst_10_34, gbst_10_43, gbst_10_8, gbst_19_13, gbst_19_17, gbst_19_22, gbst_19_26, gbst_19_3, gbst_19_30, gbst_19_37, gbst_19_8, gbst_21_3, gbst_21_8, agd_none, gdAt, gdV_bool, gdV_undef, Try.f3, List.append_eq, List.cons_append, List.nil_append, apure_call1, apure_call2, apure_call3, bft, btf, acodeN, List.getElem?_toArray, List.getElem?_cons_zero, List.getElem?_cons_succ, aopsN, adrawT, cls, astep, aop, afloat, ev, nth_lst, get_lst, aput, setAt_lst, upd_at, init_zero, init_succ, init_nil, Nat.reduceLT, Nat.reduceEqDiff, reduceIte, abuiltin, alen, Option.map_some, Option.map_none, orElse_some, apure_add, List.map_cons, List.map_nil, List.all_cons, List.all_nil, lit2, lit1, lit0, List.isEmpty_nil, Bool.and_self, Bool.and_true, Bool.true_and, Bool.false_and, Bool.and_false, Bool.not_true, Bool.not_false, Bool.or_true, Bool.true_or, Bool.false_or, Bool.or_false, Bool.false_eq_true, if_true, if_false, List.length_map, beq_self_eq_true, und3, und4, und5, und9, eqlV9_int, neqV9_int, eqlV9_bool, neqV9_bool, eqlV9_str, neqV9_str, eqlB, neqB, eqlBr, neqBr, ↓aop_eqlV9, ↓aop_neqV9, ↓afloat_eqlV9, ↓afloat_neqV9, apure_eqlV9, apure_neqV9, eqlW, neqW, eqlI64, neqI64, aload_sealed, adB, adBr, adU, adE, wrWi, wrLt, wrFr, wrBk, wrCk, wrRl, wrRb, cbWi, cbAt, cbSp, cbLt, cbFr, cbBk, cbCk, cbRa, cbRs, cbRl, cbRb, cbMay, cbLk, cbLo, cbRe, cbSg, cbAw, bxP, bxB, bxPr, bxBr, alP, alB, alPr, alBr, ldP', ldB', ldPr', ldBr', ldI', ldU', ldL', ldS_pol, ldS_bud, ldF_p0, ldF_p1, ldF_p2, ldF_b0, ldF_b1, ldF_b2, stP', stB', stPr', stBr', stI', stU', stT', stL, polLen, budLen, layP, layB, layB0, layB1, layB2, faP0, faP1, faP2, faB0, faB1, faB2, faPr0, faPr1, faPr2, faBr0, faBr1, faBr2, List.length_nil, List.length_cons, List.length_append, Nat.reduceAdd, Nat.reduceLeDiff, List.set_cons_zero, List.set_cons_succ, and_self, true_and, Nat.le_refl, apure_max, apure_min, maxV, minV, finish, ares, aresL, ares1_tmp, ares1_cell, aresC_adr, aextract, h4, h5, h9, gtrI, lssI, g0, g1, g2, q1, q2]
      exact ⟨_, rfl⟩
set_option maxHeartbeats 4000000 in
theorem bst_yes (hAw : ∀ L, ainv E self 7 [] (ap mem0 L) = some (.bool true, ap mem0 L))
    (hck : ∀ M, ainv E self 9 [pol a b c] M = some (.int .i64 0, M))
    (hmy : ∀ M, ainv E self 8 [pol a b c] M = some (.bool true, M))
    (q1 : ∀ M, ainv E self 10 [pol a b c, bud l n k, .int .u64 t] M = some (.tuple ⟨[bud l1 n1 k, .bool tb]⟩, M))
    (q2 : ∀ M, ainv E self 11 [pol a b c, bud l n k, .int .u64 t] M = some (bud l1 n1 k, M))
    (q3 : ∀ M, ainv E self 12 [pol a b c, bud l n k, .int .u64 t] M = some (.tuple ⟨[bud ls n1 k, .int .i64 er]⟩, M))
    (q4 : ∀ M, ainv E self 13 [pol a b c, bud l n k, .int .u64 t] M = some (.tuple ⟨[bud ls n1 k, .bool ok]⟩, M))
    (q5 : ∀ M, ainv E self 14 [.int .u64 t, .int .u64 u] M = some (.int .u64 x, M))
    (q6 : ∀ M, ainv E self 15 [.int .u64 t, .int .u64 u] M = some (.int .u64 x, M))
    (q7 : ∀ M, ainv E self 16 [pol a b c, .int .u64 t] M = some (.int .u64 w, M))
    (q8 : ∀ M, ainv E self 17 [pol a b c] M = some (.agg ⟨stepsL a b c⟩, M))
    (q9 : ∀ M, ainv E self 23 [pol a b c, bud l n k, .int .u64 t] M = some (.tuple ⟨[bud l1 n1 k, .int .i64 0]⟩, M))
    (q10 : ∀ M, ainv E self 24 [pol a b c, bud l n k, .int .u64 t] M = some (.tuple ⟨[bud l1 n1 true, .int .i64 0]⟩, M))
    (q11 : ∀ M, ainv E self 25 [pol a b c, bud l n k, .int .u64 t] M = some (.tuple ⟨[bud a w false, .int .i64 0]⟩, M))
    (q12 : ∀ M, ainv E self 18 [pol a b c, .int .u64 t] M = some (bud a w false, M))
    (qo : abin .quo .u64 t .u64 b = some (.int .u64 w)) (e5 : (l1 == l && n1 == n) = !tb) (e6 : (er == 0) = ok) (e7 : ok = false → (er != 20) = false)
    (g0 : decide (c > 1000) = false) (g1 : decide (l < -1000) = r1) (g2 : decide (l > 1099511627776) = r2)
    (q13 : r1 = false → r2 = false → (∀ M, ainv E self 19 [pol a b c, bud l n k] M = some (bud l2 n k, M)) ∧ ∀ M, ainv E self 20 [pol a b c, bud l n k] M = some (bud l2 n k, M)) :
    ∃ m', abody E self nf 3 [pol a b c, bud l n k, .int .u64 t, .int .u64 u] (ap mem0 []) = some (.bool true, m') := by
  rw [abody_eqF (by kernel_rfl) Try.func3 bodybst (by kernel_rfl) (Nat.le_of_ble_eq_true rfl)]
  rw [show Try.f3.ntmps = 218 from rfl]
  have e1 : ((0 : Int) != 0) = false := rfl
  have key := fun F h4 h5 h9 => bst_tail (self := self) (nf := nf) (F := F) (b := b) (n := n) (l1 := l1) (n1 := n1) (ls := ls) (w := w) (k := k) (l2 := l2) h4 h5 h9 g0 g1 g2 q13
  unfold sufS rowsS at key
  clear q13
  generalize (Code.seq (Code.seq (Code.region 21 rbst_21 false) (Code.cond (Operand.tmp 210) (Code.seq (Code.region 22 rbst_22 false) Code.ret) Code.skip)) (Code.seq (Code.region 23 rbst_23 true) Code.ret)) = suf at *
  cases ok with
  | true =>
    simp only [↓dbst_10, ↓dbst_19, ↓dbst_23, ↓sbst_10, ↓sbst_19, ↓sbst_23, ebst_0, ebst_1, ebst_10, ebst_11, ebst_12, ebst_13, ebst_14, ebst_15, ebst_16, ebst_17, ebst_18, ebst_19, ebst_2, ebst_20, ebst_21, ebst_22, ebst_23, ebst_3, ebst_4, ebst_5, ebst_6, ebst_7, ebst_8, ebst_9, lbst_0, lbst_1, lbst_2, lbst_3, lbst_4, lbst_5, lbst_6, lbst_7, lbst_8, lbst_9, lbst_10, lbst_11, lbst_12, lbst_13, lbst_14, lbst_15, lbst_16, lbst_17, lbst_18, lbst_19, lbst_20, lbst_21, lbst_22, lbst_23, gbst_10_15, gbst_10_20, gbst_10_26, gbst_10_29, gbst_10_3, gbst_10_34, gbst_10_43, gbst_10_8, gbst_19_13, gbst_19_17, gbst_19_22, gbst_19_26, gbst_19_3, gbst_19_30, gbst_19_37, gbst_19_8, gbst_21_3, gbst_21_8, agd_none, gdAt, gdV_bool, gdV_undef, Try.f3, List.append_eq, List.cons_append, List.nil_append, apure_call1, apure_call2, apure_call3, bft, btf, acodeN, List.getElem?_toArray, List.getElem?_cons_zero, List.getElem?_cons_succ, aopsN, adrawT, cls, astep, aop, afloat, ev, nth_lst, get_lst, aput, setAt_lst, upd_at, init_zero, init_succ, init_nil, Nat.reduceLT, Nat.reduceEqDiff, reduceIte, abuiltin, alen, Option.map_some, Option.map_none, orElse_some, apure_add, List.map_cons, List.map_nil, List.all_cons, List.all_nil, lit2, lit1, lit0, List.isEmpty_nil, Bool.and_self, Bool.and_true, Bool.true_and, Bool.false_and, Bool.and_false, Bool.not_true, Bool.not_false, Bool.or_true, Bool.true_or, Bool.false_or, Bool.or_false, Bool.false_eq_true, if_true, if_false, List.length_map, beq_self_eq_true, und3, und4, und5, und9, eqlV9_int, neqV9_int, eqlV9_bool, neqV9_bool, eqlV9_str, neqV9_str, eqlB, neqB, eqlBr, neqBr, ↓aop_eqlV9, ↓aop_neqV9, ↓afloat_eqlV9, ↓afloat_neqV9, apure_eqlV9, apure_neqV9, eqlW, neqW, eqlI64, neqI64, aload_sealed, adB, adBr, adU, adE, wrWi, wrLt, wrFr, wrBk, wrCk, wrRl, wrRb, cbWi, cbAt, cbSp, cbLt, cbFr, cbBk, cbCk, cbRa, cbRs, cbRl, cbRb, cbMay, cbLk, cbLo, cbRe, cbSg, cbAw, bxP, bxB, bxPr, bxBr, alP, alB, alPr, alBr, ldP', ldB', ldPr', ldBr', ldI', ldU', ldL', ldS_pol, ldS_bud, ldF_p0, ldF_p1, ldF_p2, ldF_b0, ldF_b1, ldF_b2, stP', stB', stPr', stBr', stI', stU', stT', stL, polLen, budLen, layP, layB, layB0, layB1, layB2, faP0, faP1, faP2, faB0, faB1, faB2, faPr0, faPr1, faPr2, faBr0, faBr1, faBr2, List.length_nil, List.length_cons, List.length_append, Nat.reduceAdd, Nat.reduceLeDiff, List.set_cons_zero, List.set_cons_succ, and_self, true_and, Nat.le_refl, apure_max, apure_min, maxV, minV, ares, aresL, ares1_tmp, ares1_cell, aresC_adr, aextract, hAw, hck, hmy, q1, q2, q3, q4, q5, q6, q7, q8, q9, q10, q11, q12, qo, e1, e5, e6, alS, stS, ldSt, ldS_st, stLen, layS, ix0, ix1, ix2, ix3, ldFn, ldF_s0, ldF_s1, ldF_s2, ldF_s3, apure_build2, buildB, Bool.not_not, bne_self_eq_false, List.append_nil, List.isEmpty_cons]
    exact key _ rfl rfl rfl
  | false =>
    have e8 := e7 rfl
    simp only [↓dbst_10, ↓dbst_19, ↓dbst_23, ↓sbst_10, ↓sbst_19, ↓sbst_23, ebst_0, ebst_1, ebst_10, ebst_11, ebst_12, ebst_13, ebst_14, ebst_15, ebst_16, ebst_17, ebst_18, ebst_19, ebst_2, ebst_20, ebst_21, ebst_22, ebst_23, ebst_3, ebst_4, ebst_5, ebst_6, ebst_7, ebst_8, ebst_9, lbst_0, lbst_1, lbst_2, lbst_3, lbst_4, lbst_5, lbst_6, lbst_7, lbst_8, lbst_9, lbst_10, lbst_11, lbst_12, lbst_13, lbst_14, lbst_15, lbst_16, lbst_17, lbst_18, lbst_19, lbst_20, lbst_21, lbst_22, lbst_23, gbst_10_15, gbst_10_20, gbst_10_26, gbst_10_29, gbst_10_3, gbst_10_34, gbst_10_43, gbst_10_8, gbst_19_13, gbst_19_17, gbst_19_22, gbst_19_26, gbst_19_3, gbst_19_30, gbst_19_37, gbst_19_8, gbst_21_3, gbst_21_8, agd_none, gdAt, gdV_bool, gdV_undef, Try.f3, List.append_eq, List.cons_append, List.nil_append, apure_call1, apure_call2, apure_call3, bft, btf, acodeN, List.getElem?_toArray, List.getElem?_cons_zero, List.getElem?_cons_succ, aopsN, adrawT, cls, astep, aop, afloat, ev, nth_lst, get_lst, aput, setAt_lst, upd_at, init_zero, init_succ, init_nil, Nat.reduceLT, Nat.reduceEqDiff, reduceIte, abuiltin, alen, Option.map_some, Option.map_none, orElse_some, apure_add, List.map_cons, List.map_nil, List.all_cons, List.all_nil, lit2, lit1, lit0, List.isEmpty_nil, Bool.and_self, Bool.and_true, Bool.true_and, Bool.false_and, Bool.and_false, Bool.not_true, Bool.not_false, Bool.or_true, Bool.true_or, Bool.false_or, Bool.or_false, Bool.false_eq_true, if_true, if_false, List.length_map, beq_self_eq_true, und3, und4, und5, und9, eqlV9_int, neqV9_int, eqlV9_bool, neqV9_bool, eqlV9_str, neqV9_str, eqlB, neqB, eqlBr, neqBr, ↓aop_eqlV9, ↓aop_neqV9, ↓afloat_eqlV9, ↓afloat_neqV9, apure_eqlV9, apure_neqV9, eqlW, neqW, eqlI64, neqI64, aload_sealed, adB, adBr, adU, adE, wrWi, wrLt, wrFr, wrBk, wrCk, wrRl, wrRb, cbWi, cbAt, cbSp, cbLt, cbFr, cbBk, cbCk, cbRa, cbRs, cbRl, cbRb, cbMay, cbLk, cbLo, cbRe, cbSg, cbAw, bxP, bxB, bxPr, bxBr, alP, alB, alPr, alBr, ldP', ldB', ldPr', ldBr', ldI', ldU', ldL', ldS_pol, ldS_bud, ldF_p0, ldF_p1, ldF_p2, ldF_b0, ldF_b1, ldF_b2, stP', stB', stPr', stBr', stI', stU', stT', stL, polLen, budLen, layP, layB, layB0, layB1, layB2, faP0, faP1, faP2, faB0, faB1, faB2, faPr0, faPr1, faPr2, faBr0, faBr1, faBr2, List.length_nil, List.length_cons, List.length_append, Nat.reduceAdd, Nat.reduceLeDiff, List.set_cons_zero, List.set_cons_succ, and_self, true_and, Nat.le_refl, apure_max, apure_min, maxV, minV, ares, aresL, ares1_tmp, ares1_cell, aresC_adr, aextract, hAw, hck, hmy, q1, q2, q3, q4, q5, q6, q7, q8, q9, q10, q11, q12, qo, e1, e5, e6, alS, stS, ldSt, ldS_st, stLen, layS, ix0, ix1, ix2, ix3, ldFn, ldF_s0, ldF_s1, ldF_s2, ldF_s3, apure_build2, buildB, Bool.not_not, bne_self_eq_false, List.append_nil, List.isEmpty_cons, e8]
    exact key _ rfl rfl rfl
end
end Go.Am.Seat

/-
  BudgetSteps in the form that its row asks for (own work).
-/
set_option linter.unusedSimpArgs false
set_option linter.unusedVariables false
namespace Go.Am.Seat
open Go.Proofs Go.Am
set_option maxRecDepth 100000

theorem lawBS {cs0 cs1 : List Value} {v2 v3 : Value} (k0 : AllIs maxLen [.int .i64, .int .u64, .int .i64] cs0) (k1 : AllIs maxLen [.int .i64, .int .u64, .bool] cs1) (k2 : CK.is maxLen (.int .u64) v2) (k3 : CK.is maxLen (.int .u64) v3) :
    ∃ m1, (runQ E mem0 [] 2001).1 3 [.agg ⟨cs0⟩, .agg ⟨cs1⟩, v2, v3] mem0 = some (.bool true, m1) := by
  obtain ⟨a, b, c, e0, ha, hb, hc⟩ := is_pol k0
  obtain ⟨l, n, k, e1, hl, hn⟩ := is_bud k1
  obtain ⟨t, rfl, ht⟩ := is_u64 k2
  obtain ⟨u, rfl, hu⟩ := is_u64 k3
  rw [e0, e1]
  have hC := stepCalls
  cases hm : may a b c with
  | false =>
    obtain ⟨m', h⟩ := bst_no (nf := 2001) (t := t) (u := u) (l := l) (n := n) (k := k) hC hm
    exact ⟨m', runQ_body9 (n := 2000) h⟩
  | true =>
    obtain ⟨ha1, ha2, hb1, hc1, hc2⟩ := may_b hm
    have hck := hC.ck a b c
    have hmy := hC.my (a := a) (b := b) (c := c)
    rw [hm] at hck hmy
    have hw0 : 0 ≤ t / b := Int.ediv_nonneg ht.1 (by omega)
    have hll : atL a l n (t / b) < 9223372036854775808 := by unfold atL; split <;> omega
    have q1 := hC.at' (a := a) (c := c) (l := l) (n := n) (k := k) hb1 ht.1 ht.2
    have q2 := hC.ra (a := a) (c := c) (l := l) (n := n) (k := k) hb1 ht.1 ht.2
    have q3 := hC.sp (a := a) (c := c) (l := l) (n := n) (k := k) hb1 ht.1 ht.2 hll
    have q4 := hC.rs (a := a) (c := c) (l := l) (n := n) (k := k) hb1 ht.1 ht.2 hll
    have q5 := hC.lt ht.1 ht.2 hu.1 hu.2
    have q6 := hC.rl ht.1 ht.2 hu.1 hu.2
    have q7 := hC.wi (a := a) (c := c) hb1 ht.1 ht.2
    have q9 := hC.lk (a := a) (c := c) (l := l) (n := n) (k := k) hb1 ht.1 ht.2
    have q10 := hC.lo (a := a) (c := c) (l := l) (n := n) (k := k) hb1 ht.1 ht.2
    have q11 := hC.re (a := a) (c := c) (l := l) (n := n) (k := k) hb1 ht.1 ht.2
    have q12 := hC.fr (a := a) (c := c) hb1 ht.1 ht.2
    have qo := quoW ht.1 ht.2 hb1
    have e5 : (atL a l n (t / b) == l && max n (t / b) == n) = !decide (n < t / b) := by
      by_cases h : n < t / b
      · rw [decide_eq_true h, beq_eq_false_iff_ne.2 (show max n (t / b) ≠ n by omega), Bool.and_false]
        rfl
      · rw [decide_eq_false h, show max n (t / b) = n by omega, show atL a l n (t / b) = l from if_pos (by omega), beq_self_eq_true, beq_self_eq_true]
        rfl
    generalize t / b = w at *
    generalize atL a l n w = l1 at *
    generalize max n w = n1 at *
    generalize (k || decide (l1 < 1)) = q at *
    have e6 : (((if q then 20 else 0 : Int)) == 0) = !q := by cases q <;> rfl
    have e7 : (!q) = false → (((if q then 20 else 0 : Int)) != 20) = false := by cases q <;> (intro h; first | rfl | cases h)
    obtain ⟨m', h⟩ := bst_yes (nf := 2001) hC.aw (fun M => hck M) (fun M => hmy M) (fun M => q1 M) (fun M => q2 M) (fun M => q3 M) (fun M => q4 M) (fun M => q5 M) (fun M => q6 M) (fun M => q7 M) (fun M => hC.sg M) (fun M => q9 M) (fun M => q10 M) (fun M => q11 M) (fun M => q12 M) qo e5 e6 e7 (decide_eq_false (by omega)) rfl rfl
      (fun h1 h2 => by
        have h1' := of_decide_eq_false h1
        have h2' := of_decide_eq_false h2
        exact ⟨fun M => hC.bk (a := a) (b := b) (c := c) (l := l) (n := n) (k := k) (by omega) (by omega) M, fun M => hC.rb (b := b) (n := n) (k := k) ⟨hc1, hc2⟩ ⟨ha1, ha2⟩ (by omega) M⟩)
    exact ⟨m', runQ_body9 (n := 2000) h⟩
end Go.Am.Seat
