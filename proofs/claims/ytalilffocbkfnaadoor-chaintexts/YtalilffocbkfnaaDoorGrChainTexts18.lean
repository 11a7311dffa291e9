/-
  Texts of my own, put together: CT11, CT12, CT13, CT14, T, X3.
-/
import Derived.Test.YtalilffocbkfnaaDoorGrChainTexts17
import Derived.Test.YtalilffocbkfnaaDoorGrChainTexts15
import Derived.Test.YtalilffocbkfnaaDoorGrChainTexts8
import Derived.Lib.LaidTab
import Derived.ChangeShapes
import Derived.OpenShut
import Derived.Deep.Slices
import Derived.Deep.Fields
import Derived.Carry
/-
  The document's reading of an entry (own work).
-/
set_option linter.unusedSimpArgs false
set_option linter.unusedVariables false
namespace Go.Am.Seat
open Go.Proofs Go.Am
set_option maxRecDepth 100000

theorem cbR19 : callableB E.P 24 = true := by kernel_rfl
theorem cbT19 : callableB E.P 7 = true := by kernel_rfl
section
variable (m : Mem) (L : List Blk) (k o : Nat) (a b c : Int) (s t u : List UInt8)
theorem stTxU : astore E.P 9 (adr m k o) (.string ⟨u.toArray⟩) (ap m L) = stL 1 m L k o [.string ⟨u.toArray⟩] := stTx m L k o u
theorem layN3U : lay (entC a b c s t) 3 [.string ⟨u.toArray⟩] = entC a b c u t := rfl
theorem layN4U : lay (entC a b c s t) 4 [.string ⟨u.toArray⟩] = entC a b c s u := rfl
end
theorem ixU {i : Nat} {l : List UInt8} (hi : i < l.length) : aindex E.P 9 (.string ⟨l.toArray⟩) (.int .i64 (i : Nat)) = some (.int .u8 ((l[i]).toNat : Nat)) := ixT hi
noncomputable def apB0E (P : Program) (t ty : TypeId) : Option Value := apure P [] { dst := none, op := .build t #[], type := ty, pos := "", after := #[], guard := none }
theorem apure_build0E {P : Program} {T : List Value} {t ty : TypeId} {pos : String} {af : Array Edge} {gu : Option (Nat × Bool)} {dd : Option Tmp} :
    apure P T { dst := dd, op := .build t #[], type := ty, pos := pos, after := af, guard := gu } = apB0E P t ty := by
  unfold apB0E apure
  simp [Op.operands, execOp]
theorem getD_ixE {l : List UInt8} {i : Nat} (h : i < l.length) : l.getD i 0 = l[i] := by
  rw [List.getD_eq_getElem?_getD, List.getElem?_eq_getElem h]
  rfl
theorem buildR0 : apB0E E.P 31 31 = some (entV 0 0 0 [] []) := by kernel_rfl

section
variable {self : Self} {nf : Nat} {m : Mem} {l : List UInt8}
theorem rpa_short (h : l.length < 21) : ∃ m', abody E self nf 9 [tx l] (ap m []) = some (.tuple ⟨[entV 0 0 0 [] [], .bool false]⟩, m') := by
  rw [abody_eqF (by kernel_rfl) Tryd.func9 bodyrpa (by kernel_rfl) (Nat.le_of_ble_eq_true rfl)]
  rw [show Tryd.f9.ntmps = 62 from rfl]
  have d1 : decide (((l.length : Nat) : Int) < 21) = true := decide_eq_true (by omega)
  simp only [↓drpa_7, ↓srpa_7, erpa_0, erpa_1, erpa_10, erpa_11, erpa_12, erpa_13, erpa_14, erpa_15, erpa_2, erpa_3, erpa_4, erpa_5, erpa_6, erpa_7, erpa_8, erpa_9, lrpa_0, lrpa_1, lrpa_2, lrpa_3, lrpa_4, lrpa_5, lrpa_6, lrpa_7, lrpa_8, lrpa_9, lrpa_10, lrpa_11, lrpa_12, lrpa_13, lrpa_14, lrpa_15, grpa_13_2, agd_none, gdAt, gdV_bool, gdV_undef, Tryd.f9, List.append_eq, List.cons_append, List.nil_append, apure_call1, apure_call2, apure_call3, bft, btf, acodeN, List.getElem?_toArray, List.getElem?_cons_zero, List.getElem?_cons_succ, aopsN, adrawT, cls, astep, aop, afloat, ev, nth_lst, get_lst, aput, setAt_lst, upd_at, init_zero, init_succ, init_nil, Nat.reduceLT, Nat.reduceEqDiff, reduceIte, abuiltin, Option.map_some, Option.map_none, orElse_some, apure_add, List.map_cons, List.map_nil, List.all_cons, List.all_nil, lit2, lit1, lit0, List.isEmpty_nil, Bool.and_self, Bool.and_true, Bool.true_and, Bool.false_and, Bool.and_false, Bool.not_true, Bool.not_false, Bool.or_true, Bool.true_or, Bool.false_or, Bool.or_false, Bool.false_eq_true, if_true, if_false, List.length_map, beq_self_eq_true, und3, und4, und5, und9, eqlV9_int, neqV9_int, eqlV9_bool, neqV9_bool, eqlV9_str, neqV9_str, ↓aop_eqlV9, ↓aop_neqV9, ↓afloat_eqlV9, ↓afloat_neqV9, apure_eqlV9, apure_neqV9, eqlW, neqW, eqlI64, neqI64, aload_sealed, adU, adE, ldI', ldU', ldL', ldS_pol, ldS_bud, ldF_p0, ldF_p1, ldF_p2, ldF_b0, ldF_b1, ldF_b2, stI', stU', stT', stL, polLen, budLen, layP, layB, layB0, layB1, layB2, List.length_nil, List.length_cons, List.length_append, Nat.reduceAdd, Nat.reduceLeDiff, List.set_cons_zero, List.set_cons_succ, and_self, true_and, Nat.le_refl, apure_max, apure_min, maxV, minV, finish, ares, aresL, ares1_tmp, ares1_cell, aresC_adr, aextract, bxEn, alEn, ldEn, stEn, faEn0, faEn1, faEn2, faEn3, faEn4, bxRn, alRn, ldRn, stRn, faRn0, faRn1, faRn2, faRn3, faRn4, ldS_en, ldF_n0, ldF_n1, ldF_n2, ldF_n3, ldF_n4, enLen, layN, layN0, layN1, layN2, layN3, layN4, stTx, ldT', alenT, lssI, d1, apure_build0E, buildR0]
  exact ⟨_, rfl⟩
/-- How long a name is told to be. -/
def nl (l : List UInt8) : Nat := (l.getD 17 0).toNat * 256 + (l.getD 18 0).toNat
theorem alenU9 {l : List UInt8} : alen E.P 9 (.string ⟨l.toArray⟩) = some (.int .i64 (l.length : Nat)) := alenT (l := l)
theorem rpa_name (hN : ∀ k M, k + 8 ≤ l.length → ainv E self 24 [tx l, .int .i64 (k : Nat)] M = some (.int .u64 (nb ((l.drop k).take 8) : Nat), M)) (h : ¬ l.length < 21) (h2 : l.length < 21 + nl l) (hl : l.length ≤ 400) :
    ∃ m', abody E self nf 9 [tx l] (ap m []) = some (.tuple ⟨[entV 0 0 0 [] [], .bool false]⟩, m') := by
  rw [abody_eqF (by kernel_rfl) Tryd.func9 bodyrpa (by kernel_rfl) (Nat.le_of_ble_eq_true rfl)]
  rw [show Tryd.f9.ntmps = 62 from rfl]
  have d1 : decide (((l.length : Nat) : Int) < 21) = false := decide_eq_false (by omega)
  have q1 : ∀ M, ainv E self 24 [.string ⟨l.toArray⟩, .int .i64 0] M = some (.int .u64 (nb (l.take 8) : Nat), M) := fun M => hN 0 M (by omega)
  have q2 : ∀ M, ainv E self 24 [.string ⟨l.toArray⟩, .int .i64 8] M = some (.int .u64 (nb ((l.drop 8).take 8) : Nat), M) := fun M => hN 8 M (by omega)
  have i16 : aindex E.P 9 (.string ⟨l.toArray⟩) (.int .i64 16) = some (.int .u8 ((l.getD 16 0).toNat : Nat)) := by rw [getD_ixE (by omega)]; exact ixT (i := 16) (by omega)
  have i17 : aindex E.P 9 (.string ⟨l.toArray⟩) (.int .i64 17) = some (.int .u8 ((l.getD 17 0).toNat : Nat)) := by rw [getD_ixE (by omega)]; exact ixT (i := 17) (by omega)
  have i18 : aindex E.P 9 (.string ⟨l.toArray⟩) (.int .i64 18) = some (.int .u8 ((l.getD 18 0).toNat : Nat)) := by rw [getD_ixE (by omega)]; exact ixT (i := 18) (by omega)
  have x17 := (l.getD 17 0).toNat_lt
  have x18 := (l.getD 18 0).toNat_lt
  have c16 := cv8i (n := (l.getD 16 0).toNat) (UInt8.toNat_lt _)
  have c17 := cv8i (n := (l.getD 17 0).toNat) x17
  have c18 := cv8i (n := (l.getD 18 0).toNat) x18
  have e1 : wrapF .i64 ((((l.getD 17 0).toNat : Nat) : Int) * 256) = (((l.getD 17 0).toNat * 256 : Nat) : Int) := by simp only [wrapF]; omega
  have e2 : wrapF .i64 ((((l.getD 17 0).toNat * 256 : Nat) : Int) + (((l.getD 18 0).toNat : Nat) : Int)) = ((nl l : Nat) : Int) := by unfold nl; simp only [wrapF]; omega
  have hnl : nl l < 65536 := by unfold nl; omega
  have e3 : wrapF .i64 (19 + ((nl l : Nat) : Int)) = ((19 + nl l : Nat) : Int) := by simp only [wrapF]; omega
  have e4 : wrapF .i64 (((19 + nl l : Nat) : Int) + 2) = ((21 + nl l : Nat) : Int) := by simp only [wrapF]; omega
  have d2 : decide (((21 + nl l : Nat) : Int) > ((l.length : Nat) : Int)) = true := decide_eq_true (by omega)
  simp only [↓drpa_7, ↓srpa_7, erpa_0, erpa_1, erpa_10, erpa_11, erpa_12, erpa_13, erpa_14, erpa_15, erpa_2, erpa_3, erpa_4, erpa_5, erpa_6, erpa_7, erpa_8, erpa_9, lrpa_0, lrpa_1, lrpa_2, lrpa_3, lrpa_4, lrpa_5, lrpa_6, lrpa_7, lrpa_8, lrpa_9, lrpa_10, lrpa_11, lrpa_12, lrpa_13, lrpa_14, lrpa_15, grpa_13_2, agd_none, gdAt, gdV_bool, gdV_undef, Tryd.f9, List.append_eq, List.cons_append, List.nil_append, apure_call1, apure_call2, apure_call3, bft, btf, acodeN, List.getElem?_toArray, List.getElem?_cons_zero, List.getElem?_cons_succ, aopsN, adrawT, cls, astep, aop, afloat, ev, nth_lst, get_lst, aput, setAt_lst, upd_at, init_zero, init_succ, init_nil, Nat.reduceLT, Nat.reduceEqDiff, reduceIte, abuiltin, Option.map_some, Option.map_none, orElse_some, apure_add, List.map_cons, List.map_nil, List.all_cons, List.all_nil, lit2, lit1, lit0, List.isEmpty_nil, Bool.and_self, Bool.and_true, Bool.true_and, Bool.false_and, Bool.and_false, Bool.not_true, Bool.not_false, Bool.or_true, Bool.true_or, Bool.false_or, Bool.or_false, Bool.false_eq_true, if_true, if_false, List.length_map, beq_self_eq_true, und3, und4, und5, und9, eqlV9_int, neqV9_int, eqlV9_bool, neqV9_bool, eqlV9_str, neqV9_str, ↓aop_eqlV9, ↓aop_neqV9, ↓afloat_eqlV9, ↓afloat_neqV9, apure_eqlV9, apure_neqV9, eqlW, neqW, eqlI64, neqI64, aload_sealed, adU, adE, ldI', ldU', ldL', ldS_pol, ldS_bud, ldF_p0, ldF_p1, ldF_p2, ldF_b0, ldF_b1, ldF_b2, stI', stU', stT', stL, polLen, budLen, layP, layB, layB0, layB1, layB2, List.length_nil, List.length_cons, List.length_append, Nat.reduceAdd, Nat.reduceLeDiff, List.set_cons_zero, List.set_cons_succ, and_self, true_and, Nat.le_refl, apure_max, apure_min, maxV, minV, finish, ares, aresL, ares1_tmp, ares1_cell, aresC_adr, aextract, bxEn, alEn, ldEn, stEn, faEn0, faEn1, faEn2, faEn3, faEn4, bxRn, alRn, ldRn, stRn, faRn0, faRn1, faRn2, faRn3, faRn4, ldS_en, ldF_n0, ldF_n1, ldF_n2, ldF_n3, ldF_n4, enLen, layN, layN0, layN1, layN2, layN3, layN4, stTx, ldT', tx, alenU9, lssI, gtrI, mulI, addI, d1, d2, cbR19, q1, q2, i16, i17, i18, c16, c17, c18, e1, e2, e3, e4, apure_build0E, buildR0]
  exact ⟨_, rfl⟩
/-- The entry that a text's bytes would be. -/
def entP (l : List UInt8) : Ent := ⟨nb (l.take 8), nb ((l.drop 8).take 8), (l.getD 16 0).toNat, (l.drop 19).take (nl l), l.drop (21 + nl l)⟩
theorem rpa_rest (hN : ∀ k M, k + 8 ≤ l.length → ainv E self 24 [tx l, .int .i64 (k : Nat)] M = some (.int .u64 (nb ((l.drop k).take 8) : Nat), M)) (h : ¬ l.length < 21) (h2 : ¬ l.length < 21 + nl l) (hl : l.length ≤ 400)
    {A : List UInt8} {e : Int} (hT : ∀ L, ainv E self 7 [(entP l).v] (ap m L) = some (.tuple ⟨[tx A, .int .i64 e]⟩, ap m L)) :
    ∃ m', abody E self nf 9 [tx l] (ap m []) = some (.tuple ⟨if e = 0 ∧ A = l then [(entP l).v, .bool true] else [entV 0 0 0 [] [], .bool false]⟩, m') := by
  rw [abody_eqF (by kernel_rfl) Tryd.func9 bodyrpa (by kernel_rfl) (Nat.le_of_ble_eq_true rfl)]
  rw [show Tryd.f9.ntmps = 62 from rfl]
  have d1 : decide (((l.length : Nat) : Int) < 21) = false := decide_eq_false (by omega)
  have q1 : ∀ M, ainv E self 24 [.string ⟨l.toArray⟩, .int .i64 0] M = some (.int .u64 (nb (l.take 8) : Nat), M) := fun M => hN 0 M (by omega)
  have q2 : ∀ M, ainv E self 24 [.string ⟨l.toArray⟩, .int .i64 8] M = some (.int .u64 (nb ((l.drop 8).take 8) : Nat), M) := fun M => hN 8 M (by omega)
  have i16 : aindex E.P 9 (.string ⟨l.toArray⟩) (.int .i64 16) = some (.int .u8 ((l.getD 16 0).toNat : Nat)) := by rw [getD_ixE (by omega)]; exact ixT (i := 16) (by omega)
  have i17 : aindex E.P 9 (.string ⟨l.toArray⟩) (.int .i64 17) = some (.int .u8 ((l.getD 17 0).toNat : Nat)) := by rw [getD_ixE (by omega)]; exact ixT (i := 17) (by omega)
  have i18 : aindex E.P 9 (.string ⟨l.toArray⟩) (.int .i64 18) = some (.int .u8 ((l.getD 18 0).toNat : Nat)) := by rw [getD_ixE (by omega)]; exact ixT (i := 18) (by omega)
  have x17 := (l.getD 17 0).toNat_lt
  have x18 := (l.getD 18 0).toNat_lt
  have c16 := cv8i (n := (l.getD 16 0).toNat) (UInt8.toNat_lt _)
  have c17 := cv8i (n := (l.getD 17 0).toNat) x17
  have c18 := cv8i (n := (l.getD 18 0).toNat) x18
  have e1 : wrapF .i64 ((((l.getD 17 0).toNat : Nat) : Int) * 256) = (((l.getD 17 0).toNat * 256 : Nat) : Int) := by simp only [wrapF]; omega
  have e2 : wrapF .i64 ((((l.getD 17 0).toNat * 256 : Nat) : Int) + (((l.getD 18 0).toNat : Nat) : Int)) = ((nl l : Nat) : Int) := by unfold nl; simp only [wrapF]; omega
  have hnl : nl l < 65536 := by unfold nl; omega
  have e3 : wrapF .i64 (19 + ((nl l : Nat) : Int)) = ((19 + nl l : Nat) : Int) := by simp only [wrapF]; omega
  have e4 : wrapF .i64 (((19 + nl l : Nat) : Int) + 2) = ((21 + nl l : Nat) : Int) := by simp only [wrapF]; omega
  have d2 : decide (((21 + nl l : Nat) : Int) > ((l.length : Nat) : Int)) = false := decide_eq_false (by omega)
  have hle : 21 + nl l ≤ l.length := Nat.not_lt.1 h2
  have s1 : sliceS ⟨l.toArray⟩ 19 ((19 + nl l : Nat) : Int) = some (.string ⟨((l.drop 19).take (nl l)).toArray⟩) := by
    clear e1 e2 e3 e4 d1 d2
    unfold sliceS
    rw [if_pos ⟨by omega, by show ((19 + nl l : Nat) : Int) ≤ ((l.length : Nat) : Int); omega⟩, if_pos ⟨by omega, by omega⟩, ext_list]
    congr 5
    omega
  have s2 : sliceLo ⟨l.toArray⟩ ((21 + nl l : Nat) : Int) = some (.string ⟨(l.drop (21 + nl l)).toArray⟩) := by
    have hh := sliceLo_ok (s := ⟨l.toArray⟩) (n := 21 + nl l) (by rw [tx_size]; exact hle)
    rw [ext_list, tx_size, List.take_of_length_le (by rw [List.length_drop]; exact Nat.le_refl _)] at hh
    exact hh
  have hT' : ∀ L, ainv E self 7 [entV (nb (l.take 8) : Nat) (nb ((l.drop 8).take 8) : Nat) ((l.getD 16 0).toNat : Nat) ((l.drop 19).take (nl l)) (l.drop (21 + nl l))] (ap m L) = some (.tuple ⟨[.string ⟨A.toArray⟩, .int .i64 e]⟩, ap m L) := hT
  have hq : ((⟨A.toArray⟩ : ByteArray).toList == (⟨l.toArray⟩ : ByteArray).toList) = decide (A = l) := by
    rw [ByteArray.toList_eq, ByteArray.toList_eq, Bool.eq_iff_iff, beq_iff_eq, decide_eq_true_eq]
  by_cases he : e = 0
  · subst he
    have e5 : ((0 : Int) != 0) = false := rfl
    by_cases hA : A = l
    · rw [decide_eq_true hA] at hq
      rw [if_pos ⟨rfl, hA⟩]
      simp only [↓drpa_7, ↓srpa_7, erpa_0, erpa_1, erpa_10, erpa_11, erpa_12, erpa_13, erpa_14, erpa_15, erpa_2, erpa_3, erpa_4, erpa_5, erpa_6, erpa_7, erpa_8, erpa_9, lrpa_0, lrpa_1, lrpa_2, lrpa_3, lrpa_4, lrpa_5, lrpa_6, lrpa_7, lrpa_8, lrpa_9, lrpa_10, lrpa_11, lrpa_12, lrpa_13, lrpa_14, lrpa_15, grpa_13_2, agd_none, gdAt, gdV_bool, gdV_undef, Tryd.f9, List.append_eq, List.cons_append, List.nil_append, apure_call1, apure_call2, apure_call3, bft, btf, acodeN, List.getElem?_toArray, List.getElem?_cons_zero, List.getElem?_cons_succ, aopsN, adrawT, cls, astep, aop, afloat, ev, nth_lst, get_lst, aput, setAt_lst, upd_at, init_zero, init_succ, init_nil, Nat.reduceLT, Nat.reduceEqDiff, reduceIte, abuiltin, Option.map_some, Option.map_none, orElse_some, apure_add, List.map_cons, List.map_nil, List.all_cons, List.all_nil, lit2, lit1, lit0, List.isEmpty_nil, Bool.and_self, Bool.and_true, Bool.true_and, Bool.false_and, Bool.and_false, Bool.not_true, Bool.not_false, Bool.or_true, Bool.true_or, Bool.false_or, Bool.or_false, Bool.false_eq_true, if_true, if_false, List.length_map, beq_self_eq_true, und3, und4, und5, und9, eqlV9_int, neqV9_int, eqlV9_bool, neqV9_bool, eqlV9_str, neqV9_str, ↓aop_eqlV9, ↓aop_neqV9, ↓afloat_eqlV9, ↓afloat_neqV9, apure_eqlV9, apure_neqV9, eqlW, neqW, eqlI64, neqI64, aload_sealed, adU, adE, ldI', ldU', ldL', ldS_pol, ldS_bud, ldF_p0, ldF_p1, ldF_p2, ldF_b0, ldF_b1, ldF_b2, stI', stU', stT', stL, polLen, budLen, layP, layB, layB0, layB1, layB2, List.length_nil, List.length_cons, List.length_append, Nat.reduceAdd, Nat.reduceLeDiff, List.set_cons_zero, List.set_cons_succ, and_self, true_and, Nat.le_refl, apure_max, apure_min, maxV, minV, finish, ares, aresL, ares1_tmp, ares1_cell, aresC_adr, aextract, bxEn, alEn, ldEn, stEn, faEn0, faEn1, faEn2, faEn3, faEn4, bxRn, alRn, ldRn, stRn, faRn0, faRn1, faRn2, faRn3, faRn4, ldS_en, ldF_n0, ldF_n1, ldF_n2, ldF_n3, ldF_n4, enLen, layN, layN0, layN1, layN2, layN3, layN4, stTx, ldT', tx, alenU9, lssI, gtrI, mulI, addI, d1, d2, cbR19, q1, q2, i16, i17, i18, c16, c17, c18, e1, e2, e3, e4, apure_build0E, buildR0, apure_slice2 und9, apure_slice1 und9, s1, s2, stTxU, layN3U, layN4U, cbT19, hT', e5, hq]
      exact ⟨_, rfl⟩
    · rw [decide_eq_false hA] at hq
      rw [if_neg (fun hh => hA hh.2)]
      simp only [↓drpa_7, ↓srpa_7, erpa_0, erpa_1, erpa_10, erpa_11, erpa_12, erpa_13, erpa_14, erpa_15, erpa_2, erpa_3, erpa_4, erpa_5, erpa_6, erpa_7, erpa_8, erpa_9, lrpa_0, lrpa_1, lrpa_2, lrpa_3, lrpa_4, lrpa_5, lrpa_6, lrpa_7, lrpa_8, lrpa_9, lrpa_10, lrpa_11, lrpa_12, lrpa_13, lrpa_14, lrpa_15, grpa_13_2, agd_none, gdAt, gdV_bool, gdV_undef, Tryd.f9, List.append_eq, List.cons_append, List.nil_append, apure_call1, apure_call2, apure_call3, bft, btf, acodeN, List.getElem?_toArray, List.getElem?_cons_zero, List.getElem?_cons_succ, aopsN, adrawT, cls, astep, aop, afloat, ev, nth_lst, get_lst, aput, setAt_lst, upd_at, init_zero, init_succ, init_nil, Nat.reduceLT, Nat.reduceEqDiff, reduceIte, abuiltin, Option.map_some, Option.map_none, orElse_some, apure_add, List.map_cons, List.map_nil, List.all_cons, List.all_nil, lit2, lit1, lit0, List.isEmpty_nil, Bool.and_self, Bool.and_true, Bool.true_and, Bool.false_and, Bool.and_false, Bool.not_true, Bool.not_false, Bool.or_true, Bool.true_or, Bool.false_or, Bool.or_false, Bool.false_eq_true, if_true, if_false, List.length_map, beq_self_eq_true, und3, und4, und5, und9, eqlV9_int, neqV9_int, eqlV9_bool, neqV9_bool, eqlV9_str, neqV9_str, ↓aop_eqlV9, ↓aop_neqV9, ↓afloat_eqlV9, ↓afloat_neqV9, apure_eqlV9, apure_neqV9, eqlW, neqW, eqlI64, neqI64, aload_sealed, adU, adE, ldI', ldU', ldL', ldS_pol, ldS_bud, ldF_p0, ldF_p1, ldF_p2, ldF_b0, ldF_b1, ldF_b2, stI', stU', stT', stL, polLen, budLen, layP, layB, layB0, layB1, layB2, List.length_nil, List.length_cons, List.length_append, Nat.reduceAdd, Nat.reduceLeDiff, List.set_cons_zero, List.set_cons_succ, and_self, true_and, Nat.le_refl, apure_max, apure_min, maxV, minV, finish, ares, aresL, ares1_tmp, ares1_cell, aresC_adr, aextract, bxEn, alEn, ldEn, stEn, faEn0, faEn1, faEn2, faEn3, faEn4, bxRn, alRn, ldRn, stRn, faRn0, faRn1, faRn2, faRn3, faRn4, ldS_en, ldF_n0, ldF_n1, ldF_n2, ldF_n3, ldF_n4, enLen, layN, layN0, layN1, layN2, layN3, layN4, stTx, ldT', tx, alenU9, lssI, gtrI, mulI, addI, d1, d2, cbR19, q1, q2, i16, i17, i18, c16, c17, c18, e1, e2, e3, e4, apure_build0E, buildR0, apure_slice2 und9, apure_slice1 und9, s1, s2, stTxU, layN3U, layN4U, cbT19, hT', e5, hq]
      exact ⟨_, rfl⟩
  · have e5 : (e != 0) = true := bne_iff_ne.2 he
    rw [if_neg (fun hh => he hh.1)]
    simp only [↓drpa_7, ↓srpa_7, erpa_0, erpa_1, erpa_10, erpa_11, erpa_12, erpa_13, erpa_14, erpa_15, erpa_2, erpa_3, erpa_4, erpa_5, erpa_6, erpa_7, erpa_8, erpa_9, lrpa_0, lrpa_1, lrpa_2, lrpa_3, lrpa_4, lrpa_5, lrpa_6, lrpa_7, lrpa_8, lrpa_9, lrpa_10, lrpa_11, lrpa_12, lrpa_13, lrpa_14, lrpa_15, grpa_13_2, agd_none, gdAt, gdV_bool, gdV_undef, Tryd.f9, List.append_eq, List.cons_append, List.nil_append, apure_call1, apure_call2, apure_call3, bft, btf, acodeN, List.getElem?_toArray, List.getElem?_cons_zero, List.getElem?_cons_succ, aopsN, adrawT, cls, astep, aop, afloat, ev, nth_lst, get_lst, aput, setAt_lst, upd_at, init_zero, init_succ, init_nil, Nat.reduceLT, Nat.reduceEqDiff, reduceIte, abuiltin, Option.map_some, Option.map_none, orElse_some, apure_add, List.map_cons, List.map_nil, List.all_cons, List.all_nil, lit2, lit1, lit0, List.isEmpty_nil, Bool.and_self, Bool.and_true, Bool.true_and, Bool.false_and, Bool.and_false, Bool.not_true, Bool.not_false, Bool.or_true, Bool.true_or, Bool.false_or, Bool.or_false, Bool.false_eq_true, if_true, if_false, List.length_map, beq_self_eq_true, und3, und4, und5, und9, eqlV9_int, neqV9_int, eqlV9_bool, neqV9_bool, eqlV9_str, neqV9_str, ↓aop_eqlV9, ↓aop_neqV9, ↓afloat_eqlV9, ↓afloat_neqV9, apure_eqlV9, apure_neqV9, eqlW, neqW, eqlI64, neqI64, aload_sealed, adU, adE, ldI', ldU', ldL', ldS_pol, ldS_bud, ldF_p0, ldF_p1, ldF_p2, ldF_b0, ldF_b1, ldF_b2, stI', stU', stT', stL, polLen, budLen, layP, layB, layB0, layB1, layB2, List.length_nil, List.length_cons, List.length_append, Nat.reduceAdd, Nat.reduceLeDiff, List.set_cons_zero, List.set_cons_succ, and_self, true_and, Nat.le_refl, apure_max, apure_min, maxV, minV, finish, ares, aresL, ares1_tmp, ares1_cell, aresC_adr, aextract, bxEn, alEn, ldEn, stEn, faEn0, faEn1, faEn2, faEn3, faEn4, bxRn, alRn, ldRn, stRn, faRn0, faRn1, faRn2, faRn3, faRn4, ldS_en, ldF_n0, ldF_n1, ldF_n2, ldF_n3, ldF_n4, enLen, layN, layN0, layN1, layN2, layN3, layN4, stTx, ldT', tx, alenU9, lssI, gtrI, mulI, addI, d1, d2, cbR19, q1, q2, i16, i17, i18, c16, c17, c18, e1, e2, e3, e4, apure_build0E, buildR0, apure_slice2 und9, apure_slice1 und9, s1, s2, stTxU, layN3U, layN4U, cbT19, hT', e5, hq]
    exact ⟨_, rfl⟩
end
end Go.Am.Seat

/-
  The document's reading of an entry is the program's (own work).
-/
set_option linter.unusedSimpArgs false
set_option linter.unusedVariables false
namespace Go.Am.Seat
open Go.Proofs Go.Am
set_option maxRecDepth 100000

/-- Whether a text's bytes are an entry's. -/
def goodE (l : List UInt8) : Prop := 21 ≤ l.length ∧ 21 + nl l ≤ l.length ∧ ckE ((entP l).c : Nat) (entP l).s (entP l).t = 0 ∧ entB (entP l).a (entP l).b (entP l).c (entP l).s (entP l).t = l
section
variable {l s r : List UInt8} {e : Ent}
theorem nb2 {x y : UInt8} : nb [x, y] = x.toNat * 256 + y.toNat := by
  show (0 * 256 + x.toNat) * 256 + y.toNat = _
  omega
theorem two_bytes (h : 19 ≤ l.length) : (l.drop 17).take 2 = [l.getD 17 0, l.getD 18 0] := by
  rw [getD_ixE (by omega), getD_ixE (by omega), List.drop_eq_getElem_cons (by omega), List.take_succ_cons, List.drop_eq_getElem_cons (i := 17 + 1) (by omega), List.take_succ_cons, List.take_zero]
theorem nl_eq (h : 19 ≤ l.length) : nb ((l.drop 17).take 2) = nl l := by rw [two_bytes h, nb2]; rfl
theorem lowB2_nb (h : 2 ≤ l.length) : lowB (nb (l.take 2)) 2 = l.take 2 := by
  have h1 := lowB_nb (l.take 2)
  rw [List.length_take, Nat.min_eq_left h] at h1
  exact h1
theorem cnt9_parts (h : cnt9 l = some (s, r)) : 2 ≤ l.length ∧ nb (l.take 2) ≤ l.length - 2 ∧ s = (l.drop 2).take (nb (l.take 2)) ∧ r = (l.drop 2).drop (nb (l.take 2)) ∧ s.length = nb (l.take 2) ∧ lowB s.length 2 ++ s ++ r = l := by
  unfold cnt9 at h
  split at h
  · rename_i hc
    cases h
    have h1 : ((l.drop 2).take (nb (l.take 2))).length = nb (l.take 2) := by
      rw [List.length_take, List.length_drop]
      exact Nat.min_eq_left hc.2
    refine ⟨hc.1, hc.2, rfl, rfl, h1, ?_⟩
    rw [h1, lowB2_nb hc.1, List.append_assoc, List.take_append_drop, List.take_append_drop]
  · cases h
theorem rdE_good (h : rdE l = some (e, [])) : goodE l ∧ e = entP l := by
  unfold rdE at h
  split at h
  · rename_i h17
    split at h
    · rename_i s l4 h4
      split at h
      · rename_i t r' h6
        split at h
        · rename_i hk
          cases h
          obtain ⟨a1, a2, a3, a4, a5, a6⟩ := cnt9_parts h4
          obtain ⟨b1, b2, b3, b4, b5, b6⟩ := cnt9_parts h6
          rw [List.length_drop] at a1 a2
          have hn := nl_eq (l := l) (by omega)
          rw [hn] at a2 a3 a4 a5
          rw [List.drop_drop] at a3 a4
          rw [List.drop_drop] at a4
          have hl4 : l4.length = l.length - (19 + nl l) := by rw [a4, List.length_drop]; omega
          have ht : t = l.drop (21 + nl l) := by
            have h1 := congrArg List.length b4
            rw [List.length_nil, List.length_drop, List.length_drop] at h1
            rw [b3, List.take_of_length_le (by rw [List.length_drop]; omega), a4, List.drop_drop]
            congr 1
            omega
          have he : (⟨nb (l.take 8), nb ((l.drop 8).take 8), (l.getD 16 0).toNat, s, t⟩ : Ent) = entP l := by
            unfold entP
            rw [← ht, a3]
          have hk' : ckE (((l.getD 16 0).toNat : Nat) : Int) s t = 0 := by simpa using hk
          refine ⟨⟨by omega, by omega, ?_, ?_⟩, he⟩
          · rw [← he]; exact hk'
          · rw [← he]
            obtain ⟨p1, p2, p3⟩ := cut17 h17
            show be8 (nb (l.take 8)) ++ be8 (nb ((l.drop 8).take 8)) ++ [UInt8.ofNat (l.getD 16 0).toNat] ++ lowB s.length 2 ++ s ++ lowB t.length 2 ++ t = l
            rw [be8_nb p1, be8_nb p2, UInt8.ofNat_toNat]
            rw [List.append_nil] at b6
            conv => rhs; rw [p3, ← a6, ← b6]
            simp only [List.append_assoc, List.cons_append, List.nil_append]
        · cases h
      · cases h
    · cases h
  · cases h
theorem good_rdE (h : goodE l) : rdE l = some (entP l, []) := by
  obtain ⟨h1, h2, h3, h4⟩ := h
  have hn := nl_eq (l := l) (by omega)
  obtain ⟨k1, k2, k3, k4⟩ := ckE_zero h3
  have c1 : cnt9 (l.drop 17) = some ((l.drop 19).take (nl l), l.drop (19 + nl l)) := by
    unfold cnt9
    rw [if_pos ⟨by rw [List.length_drop]; omega, by rw [List.length_drop, hn]; omega⟩, hn, List.drop_drop, List.drop_drop]
  have hs : (entP l).s.length = nl l := by
    show ((l.drop 19).take (nl l)).length = _
    rw [List.length_take, List.length_drop]
    omega
  have e1 : l.drop (19 + nl l) = lowB (entP l).t.length 2 ++ (entP l).t := by
    have h5 : (be8 (entP l).a ++ be8 (entP l).b ++ [UInt8.ofNat (entP l).c] ++ lowB (entP l).s.length 2 ++ (entP l).s) ++ (lowB (entP l).t.length 2 ++ (entP l).t) = l := by
      rw [← List.append_assoc]
      exact h4
    have h6 : (be8 (entP l).a ++ be8 (entP l).b ++ [UInt8.ofNat (entP l).c] ++ lowB (entP l).s.length 2 ++ (entP l).s).length = 19 + nl l := by
      simp only [List.length_append, be8_len, lowB_len, List.length_cons, List.length_nil, hs]
    have h7 := congrArg (List.drop (19 + nl l)) h5
    rw [List.drop_left' h6] at h7
    exact h7.symm
  have c2 : cnt9 (l.drop (19 + nl l)) = some ((entP l).t, []) := by
    rw [e1]
    have e2 : (lowB (entP l).t.length 2 ++ (entP l).t).take 2 = lowB (entP l).t.length 2 := List.take_left' (lowB_len _ 2)
    have e3 : (lowB (entP l).t.length 2 ++ (entP l).t).drop 2 = (entP l).t := List.drop_left' (lowB_len _ 2)
    have e4 : nb (lowB (entP l).t.length 2) = (entP l).t.length := by rw [nb_lowB]; omega
    unfold cnt9
    rw [e2, e3, e4, List.length_append, lowB_len, if_pos ⟨by omega, by omega⟩, List.take_length, List.drop_length]
  unfold rdE
  rw [if_pos (by omega), c1]
  simp only
  rw [c2]
  simp only
  rw [if_pos (by rw [beq_iff_eq]; exact h3)]
  rfl
theorem parsed_good (h : goodE l) : parsedE l = (entP l, 0) := by unfold parsedE; rw [good_rdE h]
theorem parsed_bad (h : ¬ goodE l) : parsedE l = (ent0, 4) := by
  unfold parsedE
  split
  · rename_i en hh
    exact absurd (rdE_good hh).1 h
  · rfl
/-- The document's reading answers as the program's. -/
theorem rparse_call {N : Nat} (hN : 8 ≤ N) (hl : l.length ≤ 400) : AnsH (RQ (N + 3)) 9 [tx l] (.tuple ⟨[(parsedE l).1.v, .bool ((parsedE l).2 == 0)]⟩) := by
  have hNm : ∀ k M, k + 8 ≤ l.length → ainv E (RQ (N + 2)) 24 [tx l, .int .i64 (k : Nat)] M = some (.int .u64 (nb ((l.drop k).take 8) : Nat), M) := fun k M hk => num19_call (N := N + 1) (by omega) hk (by omega) M
  have n8 : ∀ x : List UInt8, nb (x.take 8) < 18446744073709551616 := fun x => by
    have h := nb_lt (x.take 8)
    rw [List.length_take] at h
    exact Nat.lt_of_lt_of_le h (Nat.pow_le_pow_right (n := 256) (by decide) (show min 8 x.length ≤ 8 by omega))
  by_cases h1 : l.length < 21
  · rw [parsed_bad (fun h => by have := h.1; omega)]
    exact ans9g rfl rfl rfl fun m _ => rpa_short h1
  by_cases h2 : l.length < 21 + nl l
  · rw [parsed_bad (fun h => by have := h.2.1; omega)]
    exact ans9g rfl rfl rfl fun m _ => rpa_name hNm h1 h2 hl
  have hT : ∀ m : Mem, E.G ≤ m.length → ∀ L, ainv E (RQ (N + 2)) 7 [(entP l).v] (ap m L) = some (.tuple ⟨[tx (textE (entP l).a (entP l).b ((entP l).c : Nat) (entP l).s (entP l).t), .int .i64 (ckE ((entP l).c : Nat) (entP l).s (entP l).t)]⟩, ap m L) := fun m hG L => rtext_call hN (n8 l) (n8 (l.drop 8)) (ap m L) (by unfold ap; rw [List.length_append]; omega)
  by_cases hg : goodE l
  · rw [parsed_good hg]
    refine ans9g rfl rfl rfl fun m hG => ?_
    obtain ⟨m', h⟩ := rpa_rest (self := RQ (N + 2)) (nf := N + 3) (m := m) hNm h1 h2 hl (hT m hG)
    rw [if_pos ⟨hg.2.2.1, by unfold textE; rw [if_pos hg.2.2.1]; exact hg.2.2.2⟩] at h
    exact ⟨m', h⟩
  · rw [parsed_bad hg]
    refine ans9g rfl rfl rfl fun m hG => ?_
    obtain ⟨m', h⟩ := rpa_rest (self := RQ (N + 2)) (nf := N + 3) (m := m) hNm h1 h2 hl (hT m hG)
    rw [if_neg (fun hh => hg ⟨by omega, by omega, hh.1, by
      have h3 := hh.2
      unfold textE at h3
      rw [if_pos hh.1] at h3
      exact h3⟩)] at h
    exact ⟨m', h⟩
end
end Go.Am.Seat

/-
  Equality of the chain's entries (own work).
-/
set_option linter.unusedSimpArgs false
set_option linter.unusedVariables false
namespace Go.Am.Seat
open Go.Proofs Go.Am
set_option maxRecDepth 100000

section
variable {a b c a' b' c' : Int} {s t s' t' : List UInt8} {x y : Operand}
theorem pv_five {ty : TypeId} (hu : E.P.underlying ty = E.P.underlying 24) (hs : E.P.stoodInHeld ty = false) : pv E.P (Op.equal ty (entV a b c s t) (entV a' b' c' s' t')) = some (a == a' && (b == b' && (c == c' && (decide (s = s') && decide (t = t'))))) := by
  have h1 : pv E.P (Op.equalIn 9999 22 (.int .u64 a) (.int .u64 a')) = some (a == a') := pv_eqI Tryd.underlying22 a a'
  have h2 : pv E.P (Op.equalIn 9999 22 (.int .u64 b) (.int .u64 b')) = some (b == b') := pv_eqI Tryd.underlying22 b b'
  have h3 : pv E.P (Op.equalIn 9999 3 (.int .i64 c) (.int .i64 c')) = some (c == c') := pv_eqI Tryd.underlying3 c c'
  have h4 : pv E.P (Op.equalIn 9999 9 (tx s) (tx s')) = some (decide (s = s')) := pv_eqStr Tryd.underlying9 s s'
  have h5 : pv E.P (Op.equalIn 9999 9 (tx t) (tx t')) = some (decide (t = t')) := pv_eqStr Tryd.underlying9 t t'
  generalize (a == a') = q1 at *
  generalize (b == b') = q2 at *
  generalize (c == c') = q3 at *
  generalize decide (s = s') = q4 at *
  generalize decide (t = t') = q5 at *
  unfold Op.equal Op.maxDepth
  rw [show (10000 : Nat) = 9999 + 1 from rfl]
  unfold Op.equalIn entV entC
  rw [pv_bind (pv_undB (hu.trans Tryd.underlying24))]
  simp only
  rw [pv_bind (a := E.P) rfl]
  rw [hs]
  simp only [Bool.false_eq_true, if_false]
  rw [← Array.forIn_toList]
  simp only [List.forIn_cons, List.forIn_nil, ne_eq, String.reduceEq, not_false_eq_true, if_true]
  rw [pv_bind (a := (if q1 && (q2 && (q3 && (q4 && q5))) then (none : Option Bool) else some false, ())) ?_]
  · cases q1 <;> cases q2 <;> cases q3 <;> cases q4 <;> cases q5 <;> rfl
  · rw [pv_bind (pv_blk (x := .int .u64 a) (y := .int .u64 a') (by kernel_rfl) (by kernel_rfl) h1)]
    cases q1 with
    | false => rfl
    | true =>
      simp only [if_true, Bool.true_and]
      rw [pv_bind (pv_blk (x := .int .u64 b) (y := .int .u64 b') (by kernel_rfl) (by kernel_rfl) h2)]
      cases q2 with
      | false => rfl
      | true =>
        simp only [if_true, Bool.true_and]
        rw [pv_bind (pv_blk (x := .int .i64 c) (y := .int .i64 c') (by kernel_rfl) (by kernel_rfl) h3)]
        cases q3 with
        | false => rfl
        | true =>
          simp only [if_true, Bool.true_and]
          rw [pv_bind (pv_blk (x := tx s) (y := tx s') (by kernel_rfl) (by kernel_rfl) h4)]
          cases q4 with
          | false => rfl
          | true =>
            simp only [if_true, Bool.true_and]
            rw [pv_bind (pv_blk (x := tx t) (y := tx t') (by kernel_rfl) (by kernel_rfl) h5)]
            cases q5 <;> rfl
theorem ent_lit : lit2 (entV a b c s t) = true := rfl
theorem eqV9_ent {ty : TypeId} (hu : E.P.underlying ty = E.P.underlying 24) (hs : E.P.stoodInHeld ty = false) (hq : E.P.eqGuardType E.P.depth ty = false) :
    eqlV9 E.P ty x y (entV a b c s t) (entV a' b' c' s' t') = some (.bool (a == a' && (b == b' && (c == c' && (decide (s = s') && decide (t = t')))))) := by
  have h := pv_five (a := a) (b := b) (c := c) (a' := a') (b' := b') (c' := c') (s := s) (t := t) (s' := s') (t' := t') hu hs
  have hg : pv E.P (eqGuard .eql ty x y (entV a b c s t) (entV a' b' c' s' t')) = some () := by
    unfold eqGuard entV
    simp only [Bool.not_true, Bool.false_eq_true, if_false]
    rw [pv_bind (a := E.P) rfl, pv_bind (a := E.P) rfl, hq]
    rfl
  have hb : pv E.P (binOp .eql ty (entV a b c s t) (entV a' b' c' s' t')) = some (.bool (a == a' && (b == b' && (c == c' && (decide (s = s') && decide (t = t')))))) := by
    show pv E.P (Op.equal ty (entV a b c s t) (entV a' b' c' s' t') >>= fun c => pure (Value.bool c)) = _
    rw [pv_bind h]
    rfl
  unfold eqlV9
  rw [ent_lit, ent_lit]
  simp only [Bool.and_self, if_true]
  rw [pv_bind (a := Value.bool (a == a' && (b == b' && (c == c' && (decide (s = s') && decide (t = t')))))) (by rw [pv_bind hg, hb])]
  rfl
theorem eqlRn : eqlV9 E.P 31 x y (entV a b c s t) (entV a b c s t) = some (.bool true) := by
  rw [eqV9_ent (by kernel_rfl) (by kernel_rfl) (by kernel_rfl)]
  simp only [beq_self_eq_true, decide_true, Bool.and_self]
end

/-- The chain's words. -/
def wordsC : List Value := [tx [], tx [114, 101, 103, 105, 115, 116, 101, 114], tx [108, 111, 103, 105, 110], tx [100, 101, 110, 121], tx [108, 111, 99, 107], tx [114, 101, 102, 105, 108, 108], tx [114, 101, 99, 111, 118, 101, 114], tx [114, 111, 116, 97, 116, 101], tx [114, 101, 109, 111, 118, 101], tx [111, 112, 101, 110], tx [97, 100, 109, 105, 110], tx [114, 101, 102, 117, 110, 100]]
def wordsV : Value := .agg ⟨wordsC⟩
theorem words_run : ansIs wordsV ((runO E [] (fun _ _ _ => none) 2).1 10 [] []) = true := by kernel_rfl
end Go.Am.Seat

/-
  ChainTexts: the law (own work).
-/
set_option linter.unusedSimpArgs false
set_option linter.unusedVariables false
namespace Go.Am.Seat
open Go.Proofs Go.Am
set_option maxRecDepth 100000

theorem awake19_told : isTrue (O9 5 [] mem2) = true := by kernel_rfl
theorem take19 (L : List Blk) : ((ap mem2 L).take E.G).map onlyTab = mem2 := by
  unfold ap
  rw [List.take_append_of_le_length (Nat.le_of_ble_eq_true (by kernel_rfl))]
  rfl
theorem G19 : E.G ≤ mem2.length := Nat.le_of_ble_eq_true (by kernel_rfl)
theorem awk19 {N : Nat} (L : List Blk) : ainv E (RQ (N + 1)) 5 [] (ap mem2 L) = some (.bool true, ap mem2 L) := by
  have h := awake19_told
  unfold isTrue at h
  split at h
  · rename_i m1 h1
    refine ainv_lit9 rfl rfl (m1 := m1) ?_ rfl
    rw [take19]
    show (runO E S9 O9 (N + 1)).1 _ _ _ = _
    rw [runO_told rfl]
    exact h1
  · cases h
theorem cbAw19 : callableB E.P 5 = true := by kernel_rfl
theorem cbTxE : callableB E.P 6 = true := by kernel_rfl
theorem cbTxR : callableB E.P 7 = true := by kernel_rfl
theorem cbPaR : callableB E.P 9 = true := by kernel_rfl
theorem cbWds : callableB E.P 10 = true := by kernel_rfl

section
variable (m : Mem) (L : List Blk) (k : Nat)
theorem alWd : aalloc E.P 36 (ap m L) = some (adr m L.length 0, ap m (L ++ [.row false 36 (List.replicate 12 (tx []))])) := aalloc_L (z := .agg ⟨List.replicate 12 (tx [])⟩) (by kernel_rfl) rfl rfl m L
theorem stWd : astore E.P 36 (adr m k 0) wordsV (ap m L) = stL 12 m L k 0 wordsC := astore_L (by kernel_rfl) rfl m L k 0
theorem ldWd : aload E.P 36 (adr m k 0) (ap m L) = ldS 12 L[k]? := aload_S Tryd.underlying36 rfl (by kernel_rfl) m L k
theorem ixWd0 : aindexAddr E.P 36 (adr m k 0) (.int .i64 0) = some (adr m k 0) := by unfold adr; kernel_rfl
theorem ixWd1 : aindexAddr E.P 36 (adr m k 0) (.int .i64 1) = some (adr m k 1) := by unfold adr; kernel_rfl
theorem ixWd11 : aindexAddr E.P 36 (adr m k 0) (.int .i64 11) = some (adr m k 11) := by unfold adr; kernel_rfl
theorem ldS_wd {ro : Bool} {e : TypeId} : ldS 12 (some (.row ro e wordsC)) = some wordsV := rfl
theorem ldF_w0 {ro : Bool} {e : TypeId} : ldF 0 (some (.row ro e wordsC)) = some (tx []) := rfl
theorem ldF_w1 {ro : Bool} {e : TypeId} : ldF 1 (some (.row ro e wordsC)) = some (tx [114, 101, 103, 105, 115, 116, 101, 114]) := rfl
theorem ldF_w11 {ro : Bool} {e : TypeId} : ldF 11 (some (.row ro e wordsC)) = some (tx [114, 101, 102, 117, 110, 100]) := rfl
theorem layWd : lay (List.replicate 12 (tx [])) 0 wordsC = wordsC := rfl
theorem wdLen : wordsC.length = 12 := rfl
theorem repLen : (List.replicate 12 (tx [])).length = 12 := rfl
end
section
variable {x y : Operand} {l : List UInt8}
theorem eqlTx : eqlV9 E.P 9 x y (tx l) (tx l) = some (.bool true) := by
  unfold tx
  rw [eqlV9_str, beq_self_eq_true]
theorem eqW0 : eqlV9 E.P 9 x y (tx []) (.string ⟨#[]⟩) = some (.bool true) := eqlTx (l := [])
theorem eqW1 : eqlV9 E.P 9 x y (tx [114, 101, 103, 105, 115, 116, 101, 114]) (.string ⟨#[114, 101, 103, 105, 115, 116, 101, 114]⟩) = some (.bool true) := eqlTx
theorem eqW11 : eqlV9 E.P 9 x y (tx [114, 101, 102, 117, 110, 100]) (.string ⟨#[114, 101, 102, 117, 110, 100]⟩) = some (.bool true) := eqlTx
end
noncomputable def apB12 (P : Program) : Option Value := apure P [] { dst := none, op := .build 36 #[(0, .const (.string ⟨#[]⟩)), (1, .const (.string ⟨#[114, 101, 103, 105, 115, 116, 101, 114]⟩)), (2, .const (.string ⟨#[108, 111, 103, 105, 110]⟩)), (3, .const (.string ⟨#[100, 101, 110, 121]⟩)), (4, .const (.string ⟨#[108, 111, 99, 107]⟩)), (5, .const (.string ⟨#[114, 101, 102, 105, 108, 108]⟩)), (6, .const (.string ⟨#[114, 101, 99, 111, 118, 101, 114]⟩)), (7, .const (.string ⟨#[114, 111, 116, 97, 116, 101]⟩)), (8, .const (.string ⟨#[114, 101, 109, 111, 118, 101]⟩)), (9, .const (.string ⟨#[111, 112, 101, 110]⟩)), (10, .const (.string ⟨#[97, 100, 109, 105, 110]⟩)), (11, .const (.string ⟨#[114, 101, 102, 117, 110, 100]⟩))], type := 36, pos := "", after := #[], guard := none }
theorem apure_words {T : List Value} {pos : String} {af : Array Edge} {gu : Option (Nat × Bool)} {dd : Option Tmp} :
    apure E.P T { dst := dd, op := .build 36 #[(0, .const (.string ⟨#[]⟩)), (1, .const (.string ⟨#[114, 101, 103, 105, 115, 116, 101, 114]⟩)), (2, .const (.string ⟨#[108, 111, 103, 105, 110]⟩)), (3, .const (.string ⟨#[100, 101, 110, 121]⟩)), (4, .const (.string ⟨#[108, 111, 99, 107]⟩)), (5, .const (.string ⟨#[114, 101, 102, 105, 108, 108]⟩)), (6, .const (.string ⟨#[114, 101, 99, 111, 118, 101, 114]⟩)), (7, .const (.string ⟨#[114, 111, 116, 97, 116, 101]⟩)), (8, .const (.string ⟨#[114, 101, 109, 111, 118, 101]⟩)), (9, .const (.string ⟨#[111, 112, 101, 110]⟩)), (10, .const (.string ⟨#[97, 100, 109, 105, 110]⟩)), (11, .const (.string ⟨#[114, 101, 102, 117, 110, 100]⟩))], type := 36, pos := pos, after := af, guard := gu } = apB12 E.P := by
  unfold apB12 apure
  simp [Op.operands, execOp, ev]
theorem words_ok : apB12 E.P = some wordsV := by kernel_rfl
theorem wds_body {self : Self} {nf : Nat} {m : Mem} : ∃ m', abody E self nf 10 [] (ap m []) = some (wordsV, m') := by
  rw [abody_eqF (by kernel_rfl) Tryd.func10 bodywds (by kernel_rfl) (Nat.le_of_ble_eq_true rfl)]
  rw [show Tryd.f10.ntmps = 2 from rfl]
  simp only [ewds_0, ewds_1, lwds_0, lwds_1, agd_none, gdAt, gdV_bool, gdV_undef, Tryd.f10, List.append_eq, List.cons_append, List.nil_append, apure_call1, apure_call2, apure_call3, bft, btf, acodeN, List.getElem?_toArray, List.getElem?_cons_zero, List.getElem?_cons_succ, aopsN, adrawT, cls, astep, aop, afloat, ev, nth_lst, get_lst, aput, setAt_lst, upd_at, init_zero, init_succ, init_nil, Nat.reduceLT, Nat.reduceEqDiff, reduceIte, abuiltin, Option.map_some, Option.map_none, orElse_some, apure_add, List.map_cons, List.map_nil, List.all_cons, List.all_nil, lit2, lit1, lit0, List.isEmpty_nil, Bool.and_self, Bool.and_true, Bool.true_and, Bool.false_and, Bool.and_false, Bool.not_true, Bool.not_false, Bool.or_true, Bool.true_or, Bool.false_or, Bool.or_false, Bool.false_eq_true, if_true, if_false, List.length_map, beq_self_eq_true, und3, und4, und5, und9, eqlV9_int, neqV9_int, eqlV9_bool, neqV9_bool, eqlV9_str, neqV9_str, ↓aop_eqlV9, ↓aop_neqV9, ↓afloat_eqlV9, ↓afloat_neqV9, apure_eqlV9, apure_neqV9, eqlW, neqW, eqlI64, neqI64, aload_sealed, adU, adE, ldI', ldU', ldL', ldS_pol, ldS_bud, ldF_p0, ldF_p1, ldF_p2, ldF_b0, ldF_b1, ldF_b2, stI', stU', stT', stL, polLen, budLen, layP, layB, layB0, layB1, layB2, List.length_nil, List.length_cons, List.length_append, Nat.reduceAdd, Nat.reduceLeDiff, List.set_cons_zero, List.set_cons_succ, and_self, true_and, Nat.le_refl, apure_max, apure_min, maxV, minV, finish, ares, aresL, ares1_tmp, ares1_cell, aresC_adr, aextract, alWd, stWd, ldWd, ldS_wd, layWd, wdLen, repLen, apure_words, words_ok]
  exact ⟨_, rfl⟩
theorem wds_call {N : Nat} : AnsB (RQ (N + 1)) 10 [] wordsV := ans9 rfl rfl rfl fun m => wds_body

theorem apure_max3 {P : Program} {T : List Value} {ts : Array TypeId} {x y z : Operand} {ty : TypeId} {pos : String} {af : Array Edge} {g : Option (Nat × Bool)} {d : Option Tmp} {k : IntKind} {a b c : Int} (hx : ev T x = .int k a) (hy : ev T y = .int k b) (hz : ev T z = .int k c) : apure P T { dst := d, op := .call { callee := .builtin .max, args := #[x, y, z], argTypes := ts }, type := ty, pos := pos, after := af, guard := g } = some (.int k (max (max a b) c)) := by
  have h2 : max (max a b) c = if c > (if b > a then b else a) then c else (if b > a then b else a) := by
    by_cases h : b > a
    · rw [if_pos h]; omega
    · rw [if_neg h]; omega
  simp only [apure, Op.operands, Call.operands, Array.toList_append, List.nil_append, List.all_cons, List.all_nil, hx, hy, hz, lit2, lit1, lit0, Bool.and_self, if_true, execOp, resolve, List.map_toArray, List.map_cons, List.map_nil, h2]
  rfl
end Go.Am.Seat

/-
  The abstract memory at a law's start: tables that are laid, and package variables of which nothing is said (own work; nothing of a dump).
-/
set_option linter.unusedSimpArgs false
set_option linter.unusedVariables false
namespace Go.Am
noncomputable section

def ren0 (P : Program) (m : Mem) : Ren := fun k => match m[k]? with
  | some (.tab e cs) => some ⟨k, cs.length, ((P.info? e).map (·.size)).getD 0⟩
  | some _ => some ⟨k, 0, 0⟩
  | none => none

/-- What is asked of a block. -/
def BlkAt (P : Program) (W : World) (k : Nat) : Blk → Prop
  | .dead => True
  | .tab e cs => W.heap[k]? = some (.cells ⟨cs⟩ e (0, 0)) ∧ (P.info? e).isSome = true ∧ cs.all lit0 = true
  | .row .. => False

theorem mr_tabs {P : Program} {m : Mem} {W : World} (hG : P.globals.size ≤ m.length) (hsize : m.length ≤ W.heap.size) (hb : ∀ k b, m[k]? = some b → BlkAt P W k b) : MR P (ren0 P m) m W := by
  have hr : ∀ k x, ren0 P m k = some x → k < m.length ∧ x.r = k := by
    intro k x h
    unfold ren0 at h
    cases hm : m[k]? with
    | none => rw [hm] at h; cases h
    | some b =>
      have hk : k < m.length := (List.getElem?_eq_some_iff.1 hm).1
      rw [hm] at h
      cases b <;> (cases h; exact ⟨hk, rfl⟩)
  have hs : ∀ k, k < m.length → ∃ x, ren0 P m k = some x ∧ x.r = k := by
    intro k hk
    have hm : m[k]? = some m[k] := by simp [hk]
    cases hq : m[k] with
    | dead => exact ⟨_, by unfold ren0; rw [hm, hq], rfl⟩
    | row ro e cs => exact ⟨_, by unfold ren0; rw [hm, hq], rfl⟩
    | tab e cs => exact ⟨_, by unfold ren0; rw [hm, hq], rfl⟩
  have hl : ∀ k ro e cs, look m k = some (ro, e, cs) → m[k]? = some (.tab e cs) := by
    intro k ro e cs h
    unfold look at h
    split at h
    · rename_i b hm
      have := hb k b hm
      cases b with
      | dead => simp [Blk.cells?] at h
      | row => exact absurd this id
      | tab e' cs' =>
        simp [Blk.cells?] at h
        obtain ⟨_, rfl, rfl⟩ := h
        exact hm
    · cases h
  refine ⟨fun k hk => ?_, fun k x h => ?_, fun g hg => hs g (by omega), fun k ro e cs h => ?_, fun k e cs k' ro' e' cs' x x' h => ?_, fun k e cs h => ?_⟩
  · unfold ren0
    rw [List.getElem?_eq_none hk]
  · obtain ⟨h1, h2⟩ := hr k x h
    omega
  · have hm := hl k ro e cs h
    obtain ⟨h1, h2, h3⟩ := hb k _ hm
    refine ⟨⟨k, cs.length, ((P.info? e).map (·.size)).getD 0⟩, ⟨cs⟩, (0, 0), by unfold ren0; rw [hm], h1, rfl, Nat.le_refl _, fun i u hu => ⟨u, by simpa using hu, .lit ?_⟩, fun _ => loose_zero _, ?_⟩
    · exact lit2_of_lit1 (lit1_of_lit0 (List.all_eq_true.1 h3 u (List.mem_of_getElem? hu)))
    · cases hi : P.info? e with
      | none => rw [hi] at h2; cases h2
      | some i => rfl
  · exact absurd (hb k _ h) id
  · obtain ⟨_, _, h3⟩ := hb k _ h
    intro v hv
    exact List.all_eq_true.1 h3 v hv

/-- A package variable's block. -/
theorem shaped_at {P : Program} {W : World} (h : W.ShapedOpen P) {g : Nat} {t : TypeId} (hg : g < P.globals.size) (h0 : (((begin P (fun _ _ => 0) default).world.heap[g]?).bind Obj.row?).map (·.2) = some t) :
    ∃ cs, W.heap[g]? = some (.cells cs t (0, 0)) := by
  obtain ⟨⟨z, t'⟩, h1, h2⟩ := Option.map_eq_some_iff.1 h0
  simp only at h2
  subst h2
  obtain ⟨cs, hc, _⟩ := h.1 g z t' hg h1
  exact ⟨cs, hc⟩

theorem tab_at {P : Program} {W : World} {name : String} {k : IntKind} {zs : List Int} {g : Nat} {t : TypeId} {cs : Array Value} (hg : P.globalNamed name = some g) (hc : W.heap[g]? = some (.cells cs t (0, 0))) (h : Lib.TabIs P W name k zs) :
    W.heap[g]? = some (.cells ⟨zs.map (.int k)⟩ t (0, 0)) := by
  unfold Lib.TabIs World.var? at h
  rw [hg] at h
  simp only [Option.bind_some, hc] at h
  cases h
  exact hc

theorem laid_tail {P : Program} {x : String × DataW Unit} {r : List (String × DataW Unit)} {w : World} (h : laidMet P (x :: r) w) : laidMet P r w := by
  obtain ⟨ps, hv, hnd, hrows⟩ := h
  obtain ⟨n, d⟩ := x
  obtain ⟨g, t, cs, fuel, p, q, _, _, _, _, hq, rfl⟩ := hv
  exact ⟨q, hq, List.Nodup.sublist (List.sublist_append_right _ _) hnd, fun b off hm => hrows b off (List.mem_append_right _ hm)⟩

/-- How a law's call ends, seen from outside: what was there stands as it stood. -/
theorem below_of_ends {P : Program} {ρ : Ren} {m m1 : Mem} {w w1 : World} {v : Value} {e : Ending} (hm : ∀ (k : Nat) (e : TypeId) (cs : List Value), m[k]? ≠ some (Blk.row false e cs)) (hv : lit2 v = true) (h : Ends P ρ m w v m1 e w1) : e = .returned v ∧ Go.RowKit.Below w.heap.size w w1 := by
  obtain ⟨v', ρ1, rfl, hvr, _, hx⟩ := h
  refine ⟨?_, ⟨hx.os, hx.tape, hx.output, hx.size, fun r hr => hx.kept r hr fun k e cs _ hk _ => absurd hk (hm k e cs)⟩⟩
  rw [hvr.eq_of_lit2 hv]
end
end Go.Am

/-
  A law's arguments, opened: structs and arrays of plain cells, slices of such; the memory that slices lead to (own work; nothing of a dump).
-/
set_option linter.unusedSimpArgs false
set_option linter.unusedVariables false
namespace Go.Am
open Go.Deep
variable {H : Type} {enc : TypeId × Value → H} {P : Program} {W : World} {base : Nat} {spare : Nat → Bool} {held : Bool}

/-- The kinds of plain cells. -/
inductive CK where
  | bool
  | int (k : IntKind)
  | str

/-- A cell of a kind; texts have at most N bytes. -/
def CK.is (N : Nat) : CK → Value → Prop
  | .bool, v => ∃ b, v = .bool b
  | .int k, v => ∃ n, v = .int k n ∧ (Lit.int k n).wf = true
  | .str, v => ∃ s : ByteArray, v = .string s ∧ s.size ≤ N

/-- What measures data: a text at least by its bytes, a whole at least by its parts. -/
structure BulkOK (bulk : DataW H → Nat) : Prop where
  str : ∀ bytes, bytes.length ≤ bulk (.lit (.string bytes))
  agg : ∀ l d, d ∈ l → bulk d ≤ bulk (.agg l)
  slice : ∀ l r d, d ∈ l → bulk d ≤ bulk (.slice l r)

/-- A measure that says little: the bytes of the greatest text. -/
def bulk0 {H : Type} : DataW H → Nat
  | .lit (.string b) => b.length
  | .agg l => bulkL l
  | .slice l _ => bulkL l
  | _ => 0
where bulkL {H : Type} : List (DataW H) → Nat
  | [] => 0
  | d :: l => bulk0 d + bulkL l

theorem bulkL_le {d : DataW H} : ∀ {l : List (DataW H)}, d ∈ l → bulk0 d ≤ bulk0.bulkL l
  | x :: l, h => by
    simp only [bulk0.bulkL]
    cases List.mem_cons.1 h with
    | inl e => subst e; omega
    | inr e => have := bulkL_le e; omega

theorem bulk0_ok : BulkOK (H := H) bulk0 where
  str := fun b => by simp [bulk0]
  agg := fun l d h => by have := bulkL_le h; simpa [bulk0] using this
  slice := fun l r d h => by have := bulkL_le h; simpa [bulk0] using this

/-- No text in it has more than N bytes: by the language's own bound, or by the measure. -/
def Small (bulk : DataW H → Nat) (N : Nat) (d : DataW H) : Prop := maxLen ≤ N ∨ bulk d ≤ N

theorem Small.part {bulk : DataW H → Nat} (hB : BulkOK bulk) {N : Nat} {l : List (DataW H)} {d : DataW H} (h : Small bulk N (.agg l)) (hd : d ∈ l) : Small bulk N d := by
  rcases h with h | h
  · exact .inl h
  · exact .inr (Nat.le_trans (hB.agg l d hd) h)
theorem Small.elem {bulk : DataW H → Nat} (hB : BulkOK bulk) {N : Nat} {l r : List (DataW H)} {d : DataW H} (h : Small bulk N (.slice l r)) (hd : d ∈ l) : Small bulk N d := by
  rcases h with h | h
  · exact .inl h
  · exact .inr (Nat.le_trans (hB.slice l r d hd) h)

variable {bulk : DataW H → Nat} {N : Nat}

theorem CK.is_lit {N : Nat} {k : CK} {v : Value} (h : k.is N v) : lit0 v = true := by
  cases k with
  | bool => obtain ⟨b, rfl⟩ := h; rfl
  | int k => obtain ⟨n, rfl, _⟩ := h; rfl
  | str => obtain ⟨s, rfl, _⟩ := h; rfl

def ckOf (P : Program) (t : TypeId) : Option CK := match P.underlying t with
  | some .bool => some .bool
  | some (.int k) => some (.int k)
  | some .string => some .str
  | _ => none

theorem ck_trod {t : TypeId} {k : CK} {fuel : Nat} {cs : List Value} {x : DataW H × List MemPlace} (hB : BulkOK bulk) (hN : Small bulk N x.1) (hk : ckOf P t = some k) (h : DataW.trod enc P W base spare held fuel t cs = some x) : ∃ v, cs = [v] ∧ k.is N v ∧ x.2 = [] := by
  unfold ckOf at hk
  split at hk
  · rename_i ht
    cases hk
    obtain ⟨b, rfl, rfl⟩ := DataW.trod_bool ht h
    exact ⟨_, rfl, ⟨b, rfl⟩, rfl⟩
  · rename_i k ht
    cases hk
    obtain ⟨n, rfl, rfl, hw⟩ := DataW.trod_int ht h
    exact ⟨_, rfl, ⟨n, rfl, hw⟩, rfl⟩
  · rename_i ht
    cases hk
    obtain ⟨s, rfl, rfl, hs⟩ := DataW.trod_string ht h
    refine ⟨_, rfl, ⟨s, rfl, ?_⟩, rfl⟩
    rcases hN with hN | hN
    · omega
    · have hN : bulk (.lit (.string s.data.toList)) ≤ N := hN
      have := hB.str s.data.toList
      have e : s.data.toList.length = s.size := rfl
      omega
  · cases hk

/-- The kinds of a type's cells: a plain one, a struct of such, an array of such. -/
def cksOf (P : Program) (t : TypeId) : Option (List CK) := match P.underlying t with
  | some (.struct fs) => if oneCellFields P fs && decide (P.cellsOf t = fs.size) then fs.toList.mapM (fun f => ckOf P f.type) else none
  | some (.array n e) => match ckOf P e with
    | some k => if P.cellsOf t = n ∧ P.cellsOf e = 1 then some (List.replicate n k) else none
    | none => none
  | _ => match ckOf P t with
    | some k => if P.cellsOf t = 1 then some [k] else none
    | none => none

theorem mapM_at {α β : Type} {F : α → Option β} : ∀ {l : List α} {l2 : List β}, l.mapM F = some l2 → l2.length = l.length ∧ ∀ (i : Nat) (x : α), l[i]? = some x → ∃ y, l2[i]? = some y ∧ F x = some y
  | [], l2, h => by simp at h; subst h; exact ⟨rfl, fun i u hu => by simp at hu⟩
  | v :: l, l2, h => by
    rw [List.mapM_cons] at h
    cases h1 : F v with
    | none => rw [h1] at h; cases h
    | some u1 =>
      cases h2 : l.mapM F with
      | none => rw [h1, h2] at h; cases h
      | some l3 =>
        rw [h1, h2] at h
        cases h
        obtain ⟨e, ih⟩ := mapM_at h2
        refine ⟨by simp [e], fun i x hx => ?_⟩
        cases i with
        | zero => simp at hx; subst hx; exact ⟨u1, rfl, h1⟩
        | succ i => simp at hx; obtain ⟨y, hy, hf⟩ := ih i x hx; exact ⟨y, by simpa using hy, hf⟩

theorem flat_nil {α β : Type} {l : List (α × List β)} (h : ∀ (i : Nat) (x : α × List β), l[i]? = some x → x.2 = []) : l.flatMap (·.2) = [] := by
  rw [List.flatMap_eq_nil_iff]
  intro x hx
  obtain ⟨i, hi⟩ := List.getElem?_of_mem hx
  exact h i x hi

/-- What a row of cells that reads at such a type is. -/
theorem cks_trod {t : TypeId} {ks : List CK} {fuel : Nat} {cs : List Value} {x : DataW H × List MemPlace} (hB : BulkOK bulk) (hN : Small bulk N x.1) (hk : cksOf P t = some ks) (h : DataW.trod enc P W base spare held fuel t cs = some x) :
    cs.length = ks.length ∧ x.2 = [] ∧ ∀ (i : Nat) (k : CK) (v : Value), ks[i]? = some k → cs[i]? = some v → k.is N v := by
  unfold cksOf at hk
  split at hk
  · rename_i fs ht
    split at hk
    · rename_i hc
      simp only [Bool.and_eq_true, decide_eq_true_eq] at hc
      obtain ⟨hone, hC⟩ := hc
      obtain ⟨xs, n, _, rfl, hl, hxl, hf⟩ := DataW.trod_struct ht h
      obtain ⟨hkl, hka⟩ := mapM_at hk
      have each : ∀ (i : Nat), i < fs.size → ∃ k v y, ks[i]? = some k ∧ cs[i]? = some v ∧ xs[i]? = some y ∧ k.is N v ∧ y.2 = [] := by
        intro i hi
        have hfi : fs[i]? = some fs[i] := by simp [hi]
        obtain ⟨ho, hc1⟩ := hone_of hone i fs[i] hfi
        have h1 := hf i fs[i] hfi
        obtain ⟨k, hk1, hk2⟩ := hka i fs[i] (by simp [hi])
        have hxi : xs[i]? = some xs[i] := by simp [hxl, hi]
        rw [hxi] at h1
        obtain ⟨v, hv, his, h2⟩ := ck_trod hB (hN.part hB (List.mem_map.2 ⟨_, List.mem_of_getElem? hxi, rfl⟩)) hk2 h1
        refine ⟨k, v, xs[i], hk1, ?_, hxi, his, h2⟩
        rw [hc1, ho] at hv
        have h9 := congrArg (·[0]?) hv
        simp [List.getElem?_take, List.getElem?_drop] at h9
        exact h9
      refine ⟨by rw [hl, hC, hkl]; simp, flat_nil fun i y hy => ?_, fun i k v hk hv => ?_⟩
      · have hi : i < fs.size := by rw [← hxl]; exact (List.getElem?_eq_some_iff.1 hy).1
        obtain ⟨_, _, y', _, _, e, _, h2⟩ := each i hi
        rw [hy] at e; cases e; exact h2
      · have hi : i < fs.size := by
          have := (List.getElem?_eq_some_iff.1 hk).1
          rw [hkl] at this
          simpa using this
        obtain ⟨k', v', _, e1, e2, _, h2, _⟩ := each i hi
        rw [hk] at e1; cases e1
        rw [hv] at e2; cases e2
        exact h2
    · cases hk
  · rename_i n e ht
    split at hk
    · rename_i k hke
      split at hk
      · rename_i hc
        obtain ⟨hC, hC1⟩ := hc
        cases hk
        obtain ⟨xs, m, _, rfl, hl, hxl, hf⟩ := DataW.trod_array ht h
        have each : ∀ (i : Nat), i < n → ∃ v y, cs[i]? = some v ∧ xs[i]? = some y ∧ k.is N v ∧ y.2 = [] := by
          intro i hi
          have h1 := hf i hi
          have hxi : xs[i]? = some xs[i] := by simp [hxl, hi]
          rw [hxi] at h1
          obtain ⟨v, hv, his, h2⟩ := ck_trod hB (hN.part hB (List.mem_map.2 ⟨_, List.mem_of_getElem? hxi, rfl⟩)) hke h1
          refine ⟨v, xs[i], ?_, hxi, his, h2⟩
          rw [hC1, Nat.mul_one] at hv
          have h9 := congrArg (·[0]?) hv
          simp [List.getElem?_take, List.getElem?_drop] at h9
          exact h9
        refine ⟨by rw [hl, hC]; simp, flat_nil fun i y hy => ?_, fun i k' v hk hv => ?_⟩
        · have hi : i < n := by rw [← hxl]; exact (List.getElem?_eq_some_iff.1 hy).1
          obtain ⟨_, y', _, e, _, h2⟩ := each i hi
          rw [hy] at e; cases e; exact h2
        · rw [List.getElem?_replicate] at hk
          split at hk
          · rename_i hi
            cases hk
            obtain ⟨v', _, e2, _, h2, _⟩ := each i hi
            rw [hv] at e2; cases e2
            exact h2
          · cases hk
      · cases hk
    · cases hk
  · split at hk
    · rename_i k hke
      split at hk
      · cases hk
        obtain ⟨v, rfl, his, h2⟩ := ck_trod hB hN hke h
        refine ⟨rfl, h2, fun i k' v' hk hv => ?_⟩
        cases i with
        | zero => simp at hk hv; subst hk hv; exact his
        | succ i => simp at hk
      · cases hk
    · cases hk

/-- Rows of cells of given kinds. -/
def AllIs (N : Nat) (ks : List CK) (cs : List Value) : Prop := cs.length = ks.length ∧ ∀ (i : Nat) (k : CK) (v : Value), ks[i]? = some k → cs[i]? = some v → k.is N v

theorem AllIs.nil {N : Nat} {cs : List Value} (h : AllIs N [] cs) : cs = [] := List.eq_nil_of_length_eq_zero h.1
theorem AllIs.cons {N : Nat} {k : CK} {ks : List CK} {cs : List Value} (h : AllIs N (k :: ks) cs) : ∃ v l, cs = v :: l ∧ k.is N v ∧ AllIs N ks l := by
  obtain ⟨hl, hi⟩ := h
  match cs, hl with
  | v :: l, hl => exact ⟨v, l, rfl, hi 0 k v rfl rfl, by simpa using hl, fun i k' v' h1 h2 => hi (i + 1) k' v' (by simpa using h1) (by simpa using h2)⟩
theorem AllIs.lit {N : Nat} {ks : List CK} {cs : List Value} (h : AllIs N ks cs) : cs.all lit0 = true := by
  rw [List.all_eq_true]
  intro v hv
  obtain ⟨i, hi⟩ := List.getElem?_of_mem hv
  have hlt : i < ks.length := by rw [← h.1]; exact (List.getElem?_eq_some_iff.1 hi).1
  exact CK.is_lit (h.2 i ks[i] v (by simp [hlt]) hi)

/-- A struct or an array of plain cells, by value. -/
theorem open_agg {r : Reach} {b0 : Nat} {t : TypeId} {ks : List CK} {v : Value} {d : DataW H} {ps : List MemPlace} (hB : BulkOK bulk) (hN : Small bulk N d) (hk : cksOf P t = some ks) (ha : ckOf P t = none) (hval : Value.okWide P W r b0 t v) (hd : DataW.Trod enc P W base spare held t v d ps) :
    ∃ cs : List Value, v = .agg ⟨cs⟩ ∧ AllIs N ks cs ∧ ps = [] := by
  obtain ⟨fuel, hf⟩ := hd
  obtain ⟨h1, h2, h3⟩ := cks_trod hB hN hk hf
  have : ∃ cs : Array Value, v = .agg cs := by
    unfold cksOf at hk
    unfold Value.okWide at hval
    split at hk
    · rename_i fs ht
      simp only [ht] at hval
      obtain ⟨cs, h, _⟩ := hval
      exact ⟨cs, h⟩
    · rename_i n e ht
      simp only [ht] at hval
      obtain ⟨cs, h, _⟩ := hval
      exact ⟨cs, h⟩
    · rw [ha] at hk; cases hk
  obtain ⟨⟨cs⟩, rfl⟩ := this
  exact ⟨cs, rfl, ⟨h1, h3⟩, h2⟩

/-- A plain cell, by value. -/
theorem open_cell {r : Reach} {b0 : Nat} {t : TypeId} {k : CK} {v : Value} {d : DataW H} {ps : List MemPlace} (hB : BulkOK bulk) (hN : Small bulk N d) (hk : ckOf P t = some k) (hval : Value.okWide P W r b0 t v) (hd : DataW.Trod enc P W base spare held t v d ps) : k.is N v ∧ ps = [] := by
  obtain ⟨fuel, hf⟩ := hd
  obtain ⟨v', h1, h2, h3⟩ := ck_trod hB hN hk hf
  refine ⟨?_, h3⟩
  have : v.cells = #[v] := by
    unfold ckOf at hk
    unfold Value.okWide Cell.okWide Cell.ok at hval
    split at hk
    · rename_i ht
      simp only [ht] at hval
      cases v <;> first | rfl | cases hval
    · rename_i k ht
      simp only [ht] at hval
      cases v <;> first | rfl | cases hval
    · rename_i ht
      simp only [ht] at hval
      cases v <;> first | rfl | cases hval
    · cases hk
  rw [this] at h1
  simp at h1
  rw [h1]
  exact h2

theorem liesAt_info {p : Program} : ∀ {d : Nat} {e : TypeId} {count off n : Nat} {u : TypeId}, liesAt p d e count off u n = true → ∃ i, p.info? e = some i
  | 0, _, _, _, _, _, h => by simp [liesAt] at h
  | d + 1, e, count, off, n, u, h => by
    unfold liesAt at h
    simp only [Bool.or_eq_true] at h
    rcases h with h | h
    · cases hi : p.info? e with
      | some i => exact ⟨i, rfl⟩
      | none =>
        have h0 : p.cellsOf e = 0 := by unfold Program.cellsOf; rw [hi]; rfl
        cases hd : p.depth with
        | zero => rw [hd] at h; simp [rowAt] at h
        | succ k => rw [hd] at h; simp [rowAt, h0] at h
    · split at h
      · exact liesAt_info h
      · cases h

theorem liesAt_off {p : Program} : ∀ {d : Nat} {e : TypeId} {count off n : Nat} {u : TypeId}, liesAt p d e count off u n = true → off ≤ count * p.cellsOf e
  | 0, _, _, _, _, _, h => by simp [liesAt] at h
  | d + 1, e, count, off, n, u, h => by
    unfold liesAt at h
    simp only [Bool.or_eq_true] at h
    rcases h with h | h
    · cases hd : p.depth with
      | zero => rw [hd] at h; simp [rowAt] at h
      | succ k =>
        rw [hd] at h
        unfold rowAt at h
        simp only at h
        split at h
        · cases h
        · rename_i hs
          simp only [Bool.or_eq_true, Bool.and_eq_true, decide_eq_true_eq, beq_iff_eq] at h
          have hdm := Nat.div_add_mod off (p.cellsOf e)
          rcases h with ⟨⟨h1, h2⟩, _⟩ | ⟨h1, _⟩
          · have : off / p.cellsOf e * p.cellsOf e ≤ count * p.cellsOf e := Nat.mul_le_mul_right _ (by omega)
            rw [Nat.mul_comm] at hdm
            omega
          · have h3 : (off / p.cellsOf e + 1) * p.cellsOf e ≤ count * p.cellsOf e := Nat.mul_le_mul_right _ (by omega)
            have h4 := Nat.mod_lt off (Nat.pos_of_ne_zero hs)
            rw [Nat.succ_mul] at h3
            rw [Nat.mul_comm] at hdm
            omega
    · split at h
      · exact liesAt_off h
      · cases h

/-- A slice of elements of plain cells: nil, or where it lies and what its elements are. -/
theorem open_row {r : Reach} {b0 : Nat} {t e : TypeId} {ks : List CK} {v : Value} {d : DataW H} {ps : List MemPlace} (hB : BulkOK bulk) (hN : Small bulk N d) (ht : P.underlying t = some (.slice e)) (hk : cksOf P e = some ks) (hc : P.cellsOf e = ks.length)
    (hval : Value.okWide P W r b0 t v) (hd : DataW.Trod enc P W base spare held t v d ps) :
    v = .slice none 0 0 ∨ ∃ (q off len cap : Nat) (row : TypeId) (c : Array Value) (fr : Nat × Nat) (i : TypeInfo) (vs : List Value), v = .slice (some ⟨q, off, none⟩) len cap ∧ len ≤ cap ∧ W.heap[q]? = some (.cells c row fr) ∧ P.info? row = some i ∧
      vs.length = len * ks.length ∧ off + vs.length ≤ c.size ∧ (∀ (j : Nat) (u : Value), vs[j]? = some u → c[off + j]? = some u) ∧ (∀ (j : Nat), j < len → AllIs N ks ((vs.drop (j * ks.length)).take ks.length)) := by
  have hform : ∃ a l c, v = .slice a l c := by
    unfold Value.okWide Cell.okWide Cell.ok at hval
    simp only [ht] at hval
    cases v <;> first | exact ⟨_, _, _, rfl⟩ | cases hval
  obtain ⟨a0, len0, cap0, rfl⟩ := hform
  obtain ⟨fuel, hf⟩ := hd
  simp only [Value.cells] at hf
  rcases open_slice ht hf with ⟨h1, _⟩ | ⟨a, len, cap, m, n, D, Pl, h1, _, hlc, _, hm, hxx, hx⟩
  · left
    simpa using h1
  · right
    simp only [List.cons.injEq, Value.slice.injEq, and_true] at h1
    obtain ⟨rfl, rfl, rfl⟩ := h1
    simp only [Prod.mk.injEq] at hxx
    rw [hxx.1] at hN
    unfold Value.okWide Cell.okWide Cell.ok at hval
    simp only [ht] at hval
    obtain ⟨_, _, _, hspot, row, cells, hshape, hlies⟩ := hval
    obtain ⟨i, hi⟩ := liesAt_info hlies
    obtain ⟨q, off, spot⟩ := a
    simp only at hspot
    subst hspot
    unfold World.shape? at hshape
    split at hshape
    · rename_i c elem fr hheap
      cases hshape
      have hlm : len0 ≤ m := by rw [hm]; split <;> omega
      -- the elements' cells
      have each : ∀ j, j < len0 → ∃ cs', AllIs N ks cs' ∧ ∀ (l : Nat) (u : Value), cs'[l]? = some u → c[off + (j * ks.length + l)]? = some u := by
        intro j hj
        obtain ⟨cs', h2, h3⟩ := hx j (by omega)
        obtain ⟨k1, _, k3⟩ := cks_trod hB (hN.elem hB (List.mem_map.2 ⟨j, List.mem_range.2 hj, rfl⟩)) hk h3
        refine ⟨cs', ⟨k1, k3⟩, fun l u hu => ?_⟩
        obtain ⟨_, hlen, hcell⟩ := World.cells?_some h2
        have hl : l < P.cellsOf e := by rw [← hlen]; exact (List.getElem?_eq_some_iff.1 hu).1
        have h4 := hcell l hl
        rw [hu, hc] at h4
        have e4 : ((⟨q, off, none⟩ : Addr).add (j * ks.length)).add l = ⟨q, off + (j * ks.length + l), none⟩ := by
          unfold Addr.add
          split <;> split <;> simp <;> omega
        rw [e4] at h4
        simp only [World.cell?, hheap] at h4
        simpa using h4
      obtain ⟨G, hG⟩ := Classical.axiomOfChoice (r := fun (j : Nat) (cs' : List Value) => j < len0 → AllIs N ks cs' ∧ ∀ (l : Nat) (u : Value), cs'[l]? = some u → c[off + (j * ks.length + l)]? = some u)
        (fun j => by
          by_cases hj : j < len0
          · obtain ⟨cs', h⟩ := each j hj
            exact ⟨cs', fun _ => h⟩
          · exact ⟨[], fun h => absurd h hj⟩)
      -- all of them, one behind the other
      have build : ∀ n, n ≤ len0 → ∃ vs : List Value, vs.length = n * ks.length ∧ (∀ (j : Nat) (u : Value), vs[j]? = some u → c[off + j]? = some u) ∧ (∀ j, j < n → AllIs N ks ((vs.drop (j * ks.length)).take ks.length)) := by
        intro n
        induction n with
        | zero => intro _; exact ⟨[], by simp, fun j u hu => by simp at hu, fun j hj => by omega⟩
        | succ n ih =>
          intro hn
          obtain ⟨vs, v1, v2, v3⟩ := ih (by omega)
          obtain ⟨g1, g2⟩ := hG n (by omega)
          refine ⟨vs ++ G n, by rw [List.length_append, v1, g1.1, Nat.succ_mul], fun j u hu => ?_, fun j hj => ?_⟩
          · by_cases hj : j < vs.length
            · rw [List.getElem?_append_left hj] at hu; exact v2 j u hu
            · rw [List.getElem?_append_right (by omega)] at hu
              have := g2 _ u hu
              rw [v1] at this
              rw [show off + (n * ks.length + (j - n * ks.length)) = off + j by omega] at this
              exact this
          · by_cases hjn : j < n
            · rw [List.drop_append_of_le_length (by rw [v1]; exact Nat.mul_le_mul_right _ (by omega))]
              have hle : ks.length ≤ (vs.drop (j * ks.length)).length := by
                rw [List.length_drop, v1]
                have : (j + 1) * ks.length ≤ n * ks.length := Nat.mul_le_mul_right _ (by omega)
                rw [Nat.succ_mul] at this
                omega
              rw [List.take_append_of_le_length hle]
              exact v3 j hjn
            · have : j = n := by omega
              subst this
              rw [← v1, List.drop_left, List.take_of_length_le (by rw [g1.1]; exact Nat.le_refl _)]
              exact g1
      obtain ⟨vs, v1, v2, v3⟩ := build len0 (Nat.le_refl _)
      refine ⟨q, off, len0, cap0, row, c, fr, i, vs, rfl, hlc, hheap, hi, v1, ?_, v2, v3⟩
      have hoff : off ≤ c.size := by
        have h8 : off ≤ c.size / P.cellsOf row * P.cellsOf row := liesAt_off hlies
        have h9 := Nat.div_mul_le_self c.size (P.cellsOf row)
        omega
      by_cases hne : vs.length = 0
      · omega
      · have hl : vs.length - 1 < vs.length := by omega
        have := v2 (vs.length - 1) vs[vs.length - 1] (by simp [hl])
        have := (Array.getElem?_eq_some_iff.1 this).1
        omega
    · cases hshape

/-- The memory with what an argument leads to, which may only be read. -/
theorem mr_more {ρ : Ren} {m : Mem} (h : MR P ρ m W) (hro : ∀ (k : Nat) (e : TypeId) (cs : List Value), m[k]? ≠ some (Blk.row false e cs)) {q : Nat} {c : Array Value} {row : TypeId} {fr : Nat × Nat} {i : TypeInfo} (hq : W.heap[q]? = some (.cells c row fr)) (hi : P.info? row = some i)
    {cs : List Value} (hl : cs.length ≤ c.size) (hcs : ∀ (j : Nat) (u : Value), cs[j]? = some u → ∃ v, c[j]? = some v ∧ VR ρ u v) :
    MR P (ρ.put m.length ⟨q, c.size, i.size⟩) (m ++ [.row true row cs]) W ∧ ρ.le (ρ.put m.length ⟨q, c.size, i.size⟩) ∧ (ρ.put m.length ⟨q, c.size, i.size⟩) m.length = some ⟨q, c.size, i.size⟩ ∧
      ∀ (k : Nat) (e : TypeId) (l : List Value), (m ++ [Blk.row true row cs])[k]? ≠ some (Blk.row false e l) := by
  have hle : ρ.le (ρ.put m.length ⟨q, c.size, i.size⟩) := Ren.le_put (h.dom _ (Nat.le_refl _))
  have hcase : ∀ k b, (m ++ [Blk.row true row cs])[k]? = some b → (k < m.length ∧ m[k]? = some b) ∨ (k = m.length ∧ b = .row true row cs) := by
    intro k b hb
    rcases Nat.lt_trichotomy k m.length with hk | hk | hk
    · left; rw [List.getElem?_append_left hk] at hb; exact ⟨hk, hb⟩
    · right; subst hk; simp at hb; exact ⟨rfl, hb.symm⟩
    · rw [List.getElem?_append_right (by omega), List.getElem?_eq_none (by simp; omega)] at hb; cases hb
  have hput : ∀ k, k < m.length → (ρ.put m.length ⟨q, c.size, i.size⟩) k = ρ k := by
    intro k hk; unfold Ren.put; rw [if_neg (by omega)]
  have hputn : (ρ.put m.length ⟨q, c.size, i.size⟩) m.length = some ⟨q, c.size, i.size⟩ := by simp [Ren.put]
  have hro' : ∀ (k : Nat) (e : TypeId) (l : List Value), (m ++ [Blk.row true row cs])[k]? ≠ some (Blk.row false e l) := by
    intro k e l hk
    rcases hcase k _ hk with ⟨_, hk⟩ | ⟨_, hk⟩
    · exact hro k e l hk
    · cases hk
  refine ⟨⟨?_, ?_, fun g hg => (h.glob g hg).imp fun x hx => ⟨hle _ _ hx.1, hx.2⟩, ?_, fun k e1 cs1 k' ro' e' cs' x x' hb => absurd hb (hro' k e1 cs1), ?_⟩, hle, hputn, hro'⟩
  · intro k hk
    simp at hk
    unfold Ren.put
    rw [if_neg (by omega)]
    exact h.dom k (by omega)
  · intro k x hx
    unfold Ren.put at hx
    split at hx
    · cases hx; exact (Array.getElem?_eq_some_iff.1 hq).1
    · exact h.bnd _ _ hx
  · intro k ro' e' cs' hb
    unfold look at hb
    split at hb
    · rename_i b hb'
      rcases hcase k b hb' with ⟨hk, hb'⟩ | ⟨rfl, rfl⟩
      · obtain ⟨x, c', fr', hx, hw, hn, hl', hi', hf, hz⟩ := h.row k ro' e' cs' (by simp [look, hb', hb])
        exact ⟨x, c', fr', hle _ _ hx, hw, hn, hl', fun j u hu => (by obtain ⟨v, hv, hr⟩ := hi' j u hu; exact ⟨v, hv, hr.mono hle⟩), hf, hz⟩
      · simp [Blk.cells?] at hb
        obtain ⟨rfl, rfl, rfl⟩ := hb
        exact ⟨_, c, fr, hputn, hq, rfl, hl, fun j u hu => (by obtain ⟨v, hv, hr⟩ := hcs j u hu; exact ⟨v, hv, hr.mono hle⟩), fun hh => (by cases hh), by rw [hi]; rfl⟩
    · cases hb
  · intro k e1 cs1 hb
    rcases hcase k _ hb with ⟨hk, hb⟩ | ⟨_, hb⟩
    · exact h.tab k e1 cs1 hb
    · cases hb

/-- A slice's block in the abstract memory: of what lies ahead nothing is known. -/
def ahead (off : Nat) (vs : List Value) : List Value := List.replicate off junk ++ vs

theorem ahead_get (off : Nat) (vs : List Value) (j : Nat) : (ahead off vs)[off + j]? = vs[j]? := by
  unfold ahead
  rw [List.getElem?_append_right (by simp)]
  simp

/-- A slice as an argument: the memory grows by one block that may only be read, or the slice is nil. -/
theorem mr_slice {r : Reach} {b0 : Nat} {t e : TypeId} {ks : List CK} {v : Value} {d : DataW H} {ps : List MemPlace} (hB : BulkOK bulk) (hN : Small bulk N d) (ht : P.underlying t = some (.slice e)) (hk : cksOf P e = some ks) (hc : P.cellsOf e = ks.length) (hks : 0 < ks.length)
    (hval : Value.okWide P W r b0 t v) (hd : DataW.Trod enc P W base spare held t v d ps)
    {ρ : Ren} {m : Mem} (h : MR P ρ m W) (hro : ∀ (k : Nat) (e : TypeId) (cs : List Value), m[k]? ≠ some (Blk.row false e cs)) :
    v = .slice none 0 0 ∨ ∃ (off len cap : Nat) (row : TypeId) (vs : List Value) (ρ' : Ren), len ≤ cap ∧ vs.length = len * ks.length ∧ (∀ (j : Nat), j < len → AllIs N ks ((vs.drop (j * ks.length)).take ks.length)) ∧ ρ.le ρ' ∧
      VR ρ' (.slice (some ⟨m.length, off, none⟩) len cap) v ∧ MR P ρ' (m ++ [.row true row (ahead off vs)]) W ∧ ∀ (k : Nat) (e : TypeId) (l : List Value), (m ++ [Blk.row true row (ahead off vs)])[k]? ≠ some (Blk.row false e l) := by
  rcases open_row hB hN ht hk hc hval hd with h0 | ⟨q, off, len, cap, row, c, fr, i, vs, rfl, hlc, hq, hi, v1, vfit, v2, v3⟩
  · exact .inl h0
  · right
    · obtain ⟨g1, g2, g3, g4⟩ := mr_more h hro hq hi (cs := ahead off vs) (by unfold ahead; simp; omega) (fun j u hu => by
        unfold ahead at hu
        by_cases hj : j < off
        · rw [List.getElem?_append_left (by simpa using hj), List.getElem?_replicate, if_pos hj] at hu
          cases hu
          exact ⟨c[j], by simp [show j < c.size by omega], .junk⟩
        · rw [List.getElem?_append_right (by simp; omega)] at hu
          simp only [List.length_replicate] at hu
          have h5 := v2 _ u hu
          rw [show off + (j - off) = j by omega] at h5
          have hlt : j - off < vs.length := (List.getElem?_eq_some_iff.1 hu).1
          refine ⟨u, h5, .lit (lit2_of_lit1 (lit1_of_lit0 ?_))⟩
          -- it is a cell of an element
          have hidx : (j - off) / ks.length < len := by
            rw [Nat.div_lt_iff_lt_mul hks, ← v1]; exact hlt
          have h6 := (v3 _ hidx).lit
          rw [List.all_eq_true] at h6
          refine h6 u (List.mem_of_getElem? (i := (j - off) % ks.length) ?_)
          rw [List.getElem?_take, if_pos (Nat.mod_lt _ hks), List.getElem?_drop, Nat.mul_comm, Nat.div_add_mod]
          exact hu)
      exact ⟨off, len, cap, row, vs, _, hlc, v1, v3, g2, .slice (x := ⟨q, c.size, i.size⟩) g3 (.inl rfl), g1, g4⟩

end Go.Am
