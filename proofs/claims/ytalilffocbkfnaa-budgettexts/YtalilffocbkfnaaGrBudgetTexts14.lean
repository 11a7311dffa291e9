/-
  Texts of my own, put together: BT2, BT3, BT4, BT5.
-/
import Derived.Test.YtalilffocbkfnaaGrBudgetTexts13
/-
  Numbers of bytes; one byte, four, eight of a reader (own work).
-/
set_option linter.unusedSimpArgs false
set_option linter.unusedVariables false
namespace Go.Am.Seat
open Go.Proofs Go.Am
set_option maxRecDepth 100000

/-- The number of so many bytes, the highest first. -/
def nb (l : List UInt8) : Nat := l.foldl (fun n x => n * 256 + x.toNat) 0
theorem nb_nil : nb [] = 0 := rfl
theorem nb_app (l : List UInt8) (x : UInt8) : nb (l ++ [x]) = nb l * 256 + x.toNat := by simp [nb]
theorem nb_lt_at (l : List UInt8) : ∀ n0 : Nat, l.foldl (fun n x => n * 256 + x.toNat) n0 < (n0 + 1) * 256 ^ l.length := by
  induction l with
  | nil => intro n0; simp
  | cons x l ih =>
    intro n0
    have h := ih (n0 * 256 + x.toNat)
    have hx := x.toNat_lt
    rw [List.foldl_cons, List.length_cons, Nat.pow_succ, Nat.mul_comm (256 ^ l.length), ← Nat.mul_assoc]
    exact Nat.lt_of_lt_of_le h (Nat.mul_le_mul_right _ (by omega))
theorem nb_lt (l : List UInt8) : nb l < 256 ^ l.length := by
  have h := nb_lt_at l 0
  rwa [Nat.zero_add, Nat.one_mul] at h

theorem shlB {n : Nat} {k : IntKind} (h : n * 256 < 18446744073709551616) : abin .shl .u64 ((n : Nat) : Int) k 8 = some (.int .u64 ((n * 256 : Nat) : Int)) := by
  have h1 : abin .shl .u64 ((n : Nat) : Int) k 8 = some (.int .u64 (wrapF .u64 (((n : Nat) : Int) * 256))) := by cases k <;> rfl
  rw [h1]
  congr 2
  simp only [wrapF]
  omega
theorem orB {n x : Nat} (h : n * 256 < 18446744073709551616) (hx : x < 256) : abin .or .u64 ((n * 256 : Nat) : Int) .u64 ((x : Nat) : Int) = some (.int .u64 ((n * 256 + x : Nat) : Int)) := by
  have h1 : abin .or .u64 ((n * 256 : Nat) : Int) .u64 ((x : Nat) : Int) = some (.int .u64 (wrapF .u64 (((((n * 256 : Nat) : Int) % 18446744073709551616).toNat ||| (((x : Nat) : Int) % 18446744073709551616).toNat : Nat) : Int))) := by kernel_rfl
  have h2 : (((n * 256 : Nat) : Int) % 18446744073709551616).toNat = n <<< 8 := by rw [Nat.shiftLeft_eq]; omega
  have h3 : (((x : Nat) : Int) % 18446744073709551616).toNat = x := by omega
  rw [h1, h2, h3, ← Nat.shiftLeft_add_eq_or_of_lt (by omega), Nat.shiftLeft_eq]
  congr 2
  simp only [wrapF]
  omega
theorem cvB {x : Nat} (hx : x < 256) : aconv E.P 5 22 (.int .u8 ((x : Nat) : Int)) = some (.int .u64 ((x : Nat) : Int)) := by
  have h : aconv E.P 5 22 (.int .u8 ((x : Nat) : Int)) = some (.int .u64 (wrapF .u64 ((x : Nat) : Int))) := by kernel_rfl
  rw [h]
  congr 2
  simp only [wrapF]
  omega

theorem ixT {i : Nat} {l : List UInt8} (hi : i < l.length) : aindex E.P 9 (tx l) (.int .i64 (i : Nat)) = some (.int .u8 ((l[i]).toNat : Nat)) := by
  unfold aindex tx
  simp only [und9]
  rw [if_pos (by omega), Int.toNat_natCast]
  have h : l.toArray.toList[i]? = some l[i] := by simp [hi]
  simp only [h]
theorem alenT {l : List UInt8} : alen E.P 9 (tx l) = some (.int .i64 (l.length : Nat)) := by
  unfold alen tx
  simp only [und9]

section
variable {self sp : Self} {nf : Nat} {m : Mem} {F : Nat → Value} {i : Nat} {l : List UInt8}
theorem pnu_it (h0 : F 0 = tx l) (h3 : F 3 = .int .u64 (nb (l.take i) : Nat)) (h6 : F 6 = .int .i64 (l.length : Nat)) (h7 : F 7 = .int .i64 (i : Nat)) (hi : i < l.length) (hl : l.length ≤ 8) :
    ∃ F', acodeN E self nf lppnu_0 (lst F 19) m = some (.normal, lst F' 19, m) ∧ F' 0 = tx l ∧ F' 3 = .int .u64 (nb (l.take (i + 1)) : Nat) ∧ F' 6 = .int .i64 (l.length : Nat) ∧ F' 7 = .int .i64 ((i + 1 : Nat) : Int) := by
  have d1 : decide (((i : Nat) : Int) < ((l.length : Nat) : Int)) = true := decide_eq_true (by omega)
  have hx := (l[i]).toNat_lt
  have hn : nb (l.take i) * 256 < 18446744073709551616 := by
    have h := nb_lt (l.take i)
    rw [List.length_take_of_le (by omega)] at h
    have h2 : 256 ^ i ≤ 256 ^ 7 := Nat.pow_le_pow_right (by decide) (by omega)
    have h3 : (256 : Nat) ^ 7 = 72057594037927936 := by decide
    omega
  have e1 := shlB (k := .i64) hn
  have e1' := shlB (k := .u64) hn
  have e2 := orB hn (x := (l[i]).toNat) hx
  have e3 := cvB (x := (l[i]).toNat) hx
  have e4 : wrapF .i64 (((i : Nat) : Int) + 1) = ((i + 1 : Nat) : Int) := by simp only [wrapF]; omega
  have e5 : nb (l.take (i + 1)) = nb (l.take i) * 256 + (l[i]).toNat := by rw [← nb_app, List.take_append_getElem hi]
  rw [e5]
  simp only [lppnu_0_eq, epnu_0, epnu_1, epnu_2, epnu_3, epnu_4, epnu_5, epnu_6, epnu_7, lpnu_0, lpnu_1, lpnu_2, lpnu_3, lpnu_4, lpnu_5, lpnu_6, lpnu_7, agd_none, gdAt, gdV_bool, gdV_undef, Try.f41, List.append_eq, List.cons_append, List.nil_append, apure_call1, apure_call2, apure_call3, bft, btf, acodeN, List.getElem?_toArray, List.getElem?_cons_zero, List.getElem?_cons_succ, aopsN, adrawT, cls, astep, aop, afloat, ev, nth_lst, get_lst, aput, setAt_lst, upd_at, init_zero, init_succ, init_nil, Nat.reduceLT, Nat.reduceEqDiff, reduceIte, abuiltin, alen, Option.map_some, Option.map_none, orElse_some, apure_add, List.map_cons, List.map_nil, List.all_cons, List.all_nil, lit2, lit1, lit0, List.isEmpty_nil, Bool.and_self, Bool.and_true, Bool.true_and, Bool.false_and, Bool.and_false, Bool.not_true, Bool.not_false, Bool.or_true, Bool.true_or, Bool.false_or, Bool.or_false, Bool.false_eq_true, if_true, if_false, List.length_map, beq_self_eq_true, und3, und4, und5, und9, eqlV9_int, neqV9_int, eqlV9_bool, neqV9_bool, eqlV9_str, neqV9_str, eqlB, neqB, eqlBr, neqBr, ↓aop_eqlV9, ↓aop_neqV9, ↓afloat_eqlV9, ↓afloat_neqV9, apure_eqlV9, apure_neqV9, eqlW, neqW, eqlI64, neqI64, aload_sealed, adB, adBr, adU, adE, wrWi, wrLt, wrFr, wrBk, wrCk, wrRl, wrRb, cbWi, cbAt, cbSp, cbLt, cbFr, cbBk, cbCk, cbRa, cbRs, cbRl, cbRb, cbMay, cbLk, cbLo, cbRe, cbSg, cbAw, bxP, bxB, bxPr, bxBr, alP, alB, alPr, alBr, ldP', ldB', ldPr', ldBr', ldI', ldU', ldL', ldS_pol, ldS_bud, ldF_p0, ldF_p1, ldF_p2, ldF_b0, ldF_b1, ldF_b2, stP', stB', stPr', stBr', stI', stU', stT', stL, polLen, budLen, layP, layB, layB0, layB1, layB2, faP0, faP1, faP2, faB0, faB1, faB2, faPr0, faPr1, faPr2, faBr0, faBr1, faBr2, List.length_nil, List.length_cons, List.length_append, Nat.reduceAdd, Nat.reduceLeDiff, List.set_cons_zero, List.set_cons_succ, and_self, true_and, Nat.le_refl, apure_max, apure_min, maxV, minV, finish, ares, aresL, ares1_tmp, ares1_cell, aresC_adr, aextract, h0, h3, h6, h7, lssI, addI, ixT hi, d1, e1, e1', e2, e3, e4]
  exact ⟨_, rfl, by simp only [upd_at, Nat.reduceEqDiff, reduceIte, h0], by simp only [upd_at, Nat.reduceEqDiff, reduceIte], by simp only [upd_at, Nat.reduceEqDiff, reduceIte, h6], by simp only [upd_at, Nat.reduceEqDiff, reduceIte]⟩
theorem pnu_end (h6 : F 6 = .int .i64 (l.length : Nat)) (h7 : F 7 = .int .i64 (l.length : Nat)) : ∃ F', acodeN E self nf lppnu_0 (lst F 19) m = some (.exit 0, lst F' 19, m) ∧ F' 3 = F 3 := by
  have d1 : decide (((l.length : Nat) : Int) < ((l.length : Nat) : Int)) = false := decide_eq_false (by omega)
  simp only [lppnu_0_eq, epnu_0, epnu_1, epnu_2, epnu_3, epnu_4, epnu_5, epnu_6, epnu_7, lpnu_0, lpnu_1, lpnu_2, lpnu_3, lpnu_4, lpnu_5, lpnu_6, lpnu_7, agd_none, gdAt, gdV_bool, gdV_undef, Try.f41, List.append_eq, List.cons_append, List.nil_append, apure_call1, apure_call2, apure_call3, bft, btf, acodeN, List.getElem?_toArray, List.getElem?_cons_zero, List.getElem?_cons_succ, aopsN, adrawT, cls, astep, aop, afloat, ev, nth_lst, get_lst, aput, setAt_lst, upd_at, init_zero, init_succ, init_nil, Nat.reduceLT, Nat.reduceEqDiff, reduceIte, abuiltin, alen, Option.map_some, Option.map_none, orElse_some, apure_add, List.map_cons, List.map_nil, List.all_cons, List.all_nil, lit2, lit1, lit0, List.isEmpty_nil, Bool.and_self, Bool.and_true, Bool.true_and, Bool.false_and, Bool.and_false, Bool.not_true, Bool.not_false, Bool.or_true, Bool.true_or, Bool.false_or, Bool.or_false, Bool.false_eq_true, if_true, if_false, List.length_map, beq_self_eq_true, und3, und4, und5, und9, eqlV9_int, neqV9_int, eqlV9_bool, neqV9_bool, eqlV9_str, neqV9_str, eqlB, neqB, eqlBr, neqBr, ↓aop_eqlV9, ↓aop_neqV9, ↓afloat_eqlV9, ↓afloat_neqV9, apure_eqlV9, apure_neqV9, eqlW, neqW, eqlI64, neqI64, aload_sealed, adB, adBr, adU, adE, wrWi, wrLt, wrFr, wrBk, wrCk, wrRl, wrRb, cbWi, cbAt, cbSp, cbLt, cbFr, cbBk, cbCk, cbRa, cbRs, cbRl, cbRb, cbMay, cbLk, cbLo, cbRe, cbSg, cbAw, bxP, bxB, bxPr, bxBr, alP, alB, alPr, alBr, ldP', ldB', ldPr', ldBr', ldI', ldU', ldL', ldS_pol, ldS_bud, ldF_p0, ldF_p1, ldF_p2, ldF_b0, ldF_b1, ldF_b2, stP', stB', stPr', stBr', stI', stU', stT', stL, polLen, budLen, layP, layB, layB0, layB1, layB2, faP0, faP1, faP2, faB0, faB1, faB2, faPr0, faPr1, faPr2, faBr0, faBr1, faBr2, List.length_nil, List.length_cons, List.length_append, Nat.reduceAdd, Nat.reduceLeDiff, List.set_cons_zero, List.set_cons_succ, and_self, true_and, Nat.le_refl, apure_max, apure_min, maxV, minV, finish, ares, aresL, ares1_tmp, ares1_cell, aresC_adr, aextract, h6, h7, lssI, d1]
  exact ⟨_, rfl, by simp only [upd_at, Nat.reduceEqDiff, reduceIte]⟩
theorem pnu_body (hl : l.length ≤ 8) (hnf : 8 < nf) : abody E self nf 41 [tx l] m = some (.int .u64 (nb l : Nat), m) := by
  rw [abody_eqF (by kernel_rfl) Try.func41 bodypnu (by kernel_rfl) (Nat.le_of_ble_eq_true rfl)]
  rw [show Try.f41.ntmps = 19 from rfl]
  have h := aloop_inv (body := acodeN E self nf lppnu_0) (N := l.length) (I := fun i T m' => m' = m ∧ ∃ F, T = lst F 19 ∧ F 0 = tx l ∧ F 3 = .int .u64 (nb (l.take i) : Nat) ∧ F 6 = .int .i64 (l.length : Nat) ∧ F 7 = .int .i64 (i : Nat))
    (Q := fun e T m' => e = .exit 0 ∧ m' = m ∧ ∃ F, T = lst F 19 ∧ F 3 = .int .u64 (nb l : Nat)) (fun i T m' hi hI => by
      obtain ⟨rfl, F, rfl, h0, h3, h6, h7⟩ := hI
      by_cases hlt : i < l.length
      · left
        obtain ⟨F', hr, g0, g3, g6, g7⟩ := pnu_it (self := self) (nf := nf) (m := m') h0 h3 h6 h7 hlt hl
        exact ⟨_, _, hr, hlt, rfl, F', rfl, g0, g3, g6, g7⟩
      · right
        have hie : i = l.length := by omega
        subst hie
        obtain ⟨F', hr, g3⟩ := pnu_end (self := self) (nf := nf) (m := m') h6 h7
        exact ⟨_, _, _, hr, by simp, rfl, rfl, F', rfl, by rw [g3, h3, List.take_length]⟩)
  obtain ⟨e, T', m', hr, rfl, rfl, F', rfl, g3⟩ := h l.length 0 nf (lst (upd (upd (upd (upd (upd (init [tx l]) 2 (.int .u64 0)) 3 (.int .u64 0)) 5 (tx l)) 6 (.int .i64 (l.length : Nat))) 7 (.int .i64 0)) 19) m (by omega) (by omega) ⟨rfl, _, rfl, rfl, rfl, rfl, rfl⟩
  simp only [epnu_0, epnu_1, epnu_2, epnu_3, epnu_4, epnu_5, epnu_6, epnu_7, lpnu_0, lpnu_1, lpnu_2, lpnu_3, lpnu_4, lpnu_5, lpnu_6, lpnu_7, agd_none, gdAt, gdV_bool, gdV_undef, Try.f41, List.append_eq, List.cons_append, List.nil_append, apure_call1, apure_call2, apure_call3, bft, btf, acodeN, List.getElem?_toArray, List.getElem?_cons_zero, List.getElem?_cons_succ, aopsN, adrawT, cls, astep, aop, afloat, ev, nth_lst, get_lst, aput, setAt_lst, upd_at, init_zero, init_succ, init_nil, Nat.reduceLT, Nat.reduceEqDiff, reduceIte, abuiltin, Option.map_some, Option.map_none, orElse_some, apure_add, List.map_cons, List.map_nil, List.all_cons, List.all_nil, lit2, lit1, lit0, List.isEmpty_nil, Bool.and_self, Bool.and_true, Bool.true_and, Bool.false_and, Bool.and_false, Bool.not_true, Bool.not_false, Bool.or_true, Bool.true_or, Bool.false_or, Bool.or_false, Bool.false_eq_true, if_true, if_false, List.length_map, beq_self_eq_true, und3, und4, und5, und9, eqlV9_int, neqV9_int, eqlV9_bool, neqV9_bool, eqlV9_str, neqV9_str, eqlB, neqB, eqlBr, neqBr, ↓aop_eqlV9, ↓aop_neqV9, ↓afloat_eqlV9, ↓afloat_neqV9, apure_eqlV9, apure_neqV9, eqlW, neqW, eqlI64, neqI64, aload_sealed, adB, adBr, adU, adE, wrWi, wrLt, wrFr, wrBk, wrCk, wrRl, wrRb, cbWi, cbAt, cbSp, cbLt, cbFr, cbBk, cbCk, cbRa, cbRs, cbRl, cbRb, cbMay, cbLk, cbLo, cbRe, cbSg, cbAw, bxP, bxB, bxPr, bxBr, alP, alB, alPr, alBr, ldP', ldB', ldPr', ldBr', ldI', ldU', ldL', ldS_pol, ldS_bud, ldF_p0, ldF_p1, ldF_p2, ldF_b0, ldF_b1, ldF_b2, stP', stB', stPr', stBr', stI', stU', stT', stL, polLen, budLen, layP, layB, layB0, layB1, layB2, faP0, faP1, faP2, faB0, faB1, faB2, faPr0, faPr1, faPr2, faBr0, faBr1, faBr2, List.length_nil, List.length_cons, List.length_append, Nat.reduceAdd, Nat.reduceLeDiff, List.set_cons_zero, List.set_cons_succ, and_self, true_and, Nat.le_refl, apure_max, apure_min, maxV, minV, finish, ares, aresL, ares1_tmp, ares1_cell, aresC_adr, aextract, alenT, hr, g3]
end

section
variable {N : Nat} {l : List UInt8}
theorem tx_lit : lit2 (tx l) = true := rfl
theorem num_call (hl : l.length ≤ 8) (hN : 8 ≤ N) : AnsB (RQ (N + 1)) 41 [tx l] (.int .u64 (nb l : Nat)) :=
  ans9 rfl rfl rfl fun m => ⟨_, pnu_body hl (by omega)⟩
end
end Go.Am.Seat

/-
  One byte, four, eight, a flag of a reader (own work).
-/
set_option linter.unusedSimpArgs false
set_option linter.unusedVariables false
namespace Go.Am.Seat
open Go.Proofs Go.Am
set_option maxRecDepth 100000

theorem cbTk : callableB E.P 42 = true := by kernel_rfl
theorem cbNu : callableB E.P 41 = true := by kernel_rfl
theorem cbBy : callableB E.P 43 = true := by kernel_rfl
theorem cbFo : callableB E.P 37 = true := by kernel_rfl
theorem cbEi : callableB E.P 38 = true := by kernel_rfl
theorem cbFl : callableB E.P 39 = true := by kernel_rfl
theorem cvFo {n : Nat} (h : n < 4294967296) : aconv E.P 22 60 (.int .u64 ((n : Nat) : Int)) = some (.int .u32 ((n : Nat) : Int)) := by
  have h1 : aconv E.P 22 60 (.int .u64 ((n : Nat) : Int)) = some (.int .u32 (wrapF .u32 ((n : Nat) : Int))) := by kernel_rfl
  rw [h1]
  congr 2
  simp only [wrapF]
  omega
theorem leqB (a b : Int) : abin .leq .u8 a .u8 b = some (.bool (decide (a ≤ b))) := by kernel_rfl
theorem leq32 (a b : Int) : abin .leq .u32 a .u32 b = some (.bool (decide (a ≤ b))) := by kernel_rfl

section
variable {self sp : Self} {nf : Nat} {m M' : Mem} {L : List Blk} {k : Nat} {x : UInt8} {l : List UInt8}
theorem rby_ok (hT : ainv E self 42 [adr m k 0, .int .i64 1] (ap m L) = some (tx [x], M')) : abody E self nf 43 [adr m k 0] (ap m L) = some (.int .u8 (x.toNat : Nat), M') := by
  rw [abody_eqF (by kernel_rfl) Try.func43 bodyrby (by kernel_rfl) (Nat.le_of_ble_eq_true rfl)]
  rw [show Try.f43.ntmps = 6 from rfl]
  have hi : aindex E.P 9 (tx [x]) (.int .i64 0) = some (.int .u8 (x.toNat : Nat)) := ixT (i := 0) (l := [x]) Nat.zero_lt_one
  simp only [erby_0, erby_1, lrby_0, lrby_1, agd_none, gdAt, gdV_bool, gdV_undef, Try.f43, List.append_eq, List.cons_append, List.nil_append, apure_call1, apure_call2, apure_call3, bft, btf, acodeN, List.getElem?_toArray, List.getElem?_cons_zero, List.getElem?_cons_succ, aopsN, adrawT, cls, astep, aop, afloat, ev, nth_lst, get_lst, aput, setAt_lst, upd_at, init_zero, init_succ, init_nil, Nat.reduceLT, Nat.reduceEqDiff, reduceIte, abuiltin, Option.map_some, Option.map_none, orElse_some, apure_add, List.map_cons, List.map_nil, List.all_cons, List.all_nil, lit2, lit1, lit0, List.isEmpty_nil, Bool.and_self, Bool.and_true, Bool.true_and, Bool.false_and, Bool.and_false, Bool.not_true, Bool.not_false, Bool.or_true, Bool.true_or, Bool.false_or, Bool.or_false, Bool.false_eq_true, if_true, if_false, List.length_map, beq_self_eq_true, und3, und4, und5, und9, eqlV9_int, neqV9_int, eqlV9_bool, neqV9_bool, eqlV9_str, neqV9_str, eqlB, neqB, eqlBr, neqBr, ↓aop_eqlV9, ↓aop_neqV9, ↓afloat_eqlV9, ↓afloat_neqV9, apure_eqlV9, apure_neqV9, eqlW, neqW, eqlI64, neqI64, aload_sealed, adB, adBr, adU, adE, wrWi, wrLt, wrFr, wrBk, wrCk, wrRl, wrRb, cbWi, cbAt, cbSp, cbLt, cbFr, cbBk, cbCk, cbRa, cbRs, cbRl, cbRb, cbMay, cbLk, cbLo, cbRe, cbSg, cbAw, bxP, bxB, bxPr, bxBr, alP, alB, alPr, alBr, ldP', ldB', ldPr', ldBr', ldI', ldU', ldL', ldS_pol, ldS_bud, ldF_p0, ldF_p1, ldF_p2, ldF_b0, ldF_b1, ldF_b2, stP', stB', stPr', stBr', stI', stU', stT', stL, polLen, budLen, layP, layB, layB0, layB1, layB2, faP0, faP1, faP2, faB0, faB1, faB2, faPr0, faPr1, faPr2, faBr0, faBr1, faBr2, List.length_nil, List.length_cons, List.length_append, Nat.reduceAdd, Nat.reduceLeDiff, List.set_cons_zero, List.set_cons_succ, and_self, true_and, Nat.le_refl, apure_max, apure_min, maxV, minV, finish, ares, aresL, ares1_tmp, ares1_cell, aresC_adr, aextract, cbTk, hT, hi]
theorem rby_no (hT : ainv E self 42 [adr m k 0, .int .i64 1] (ap m L) = none) : abody E self nf 43 [adr m k 0] (ap m L) = none := by
  rw [abody_eqF (by kernel_rfl) Try.func43 bodyrby (by kernel_rfl) (Nat.le_of_ble_eq_true rfl)]
  rw [show Try.f43.ntmps = 6 from rfl]
  simp only [erby_0, erby_1, lrby_0, lrby_1, agd_none, gdAt, gdV_bool, gdV_undef, Try.f43, List.append_eq, List.cons_append, List.nil_append, apure_call1, apure_call2, apure_call3, bft, btf, acodeN, List.getElem?_toArray, List.getElem?_cons_zero, List.getElem?_cons_succ, aopsN, adrawT, cls, astep, aop, afloat, ev, nth_lst, get_lst, aput, setAt_lst, upd_at, init_zero, init_succ, init_nil, Nat.reduceLT, Nat.reduceEqDiff, reduceIte, abuiltin, Option.map_some, Option.map_none, orElse_some, apure_add, List.map_cons, List.map_nil, List.all_cons, List.all_nil, lit2, lit1, lit0, List.isEmpty_nil, Bool.and_self, Bool.and_true, Bool.true_and, Bool.false_and, Bool.and_false, Bool.not_true, Bool.not_false, Bool.or_true, Bool.true_or, Bool.false_or, Bool.or_false, Bool.false_eq_true, if_true, if_false, List.length_map, beq_self_eq_true, und3, und4, und5, und9, eqlV9_int, neqV9_int, eqlV9_bool, neqV9_bool, eqlV9_str, neqV9_str, eqlB, neqB, eqlBr, neqBr, ↓aop_eqlV9, ↓aop_neqV9, ↓afloat_eqlV9, ↓afloat_neqV9, apure_eqlV9, apure_neqV9, eqlW, neqW, eqlI64, neqI64, aload_sealed, adB, adBr, adU, adE, wrWi, wrLt, wrFr, wrBk, wrCk, wrRl, wrRb, cbWi, cbAt, cbSp, cbLt, cbFr, cbBk, cbCk, cbRa, cbRs, cbRl, cbRb, cbMay, cbLk, cbLo, cbRe, cbSg, cbAw, bxP, bxB, bxPr, bxBr, alP, alB, alPr, alBr, ldP', ldB', ldPr', ldBr', ldI', ldU', ldL', ldS_pol, ldS_bud, ldF_p0, ldF_p1, ldF_p2, ldF_b0, ldF_b1, ldF_b2, stP', stB', stPr', stBr', stI', stU', stT', stL, polLen, budLen, layP, layB, layB0, layB1, layB2, faP0, faP1, faP2, faB0, faB1, faB2, faPr0, faPr1, faPr2, faBr0, faBr1, faBr2, List.length_nil, List.length_cons, List.length_append, Nat.reduceAdd, Nat.reduceLeDiff, List.set_cons_zero, List.set_cons_succ, and_self, true_and, Nat.le_refl, apure_max, apure_min, maxV, minV, finish, ares, aresL, ares1_tmp, ares1_cell, aresC_adr, aextract, cbTk, hT]
theorem rby_pan {e : Int} (hT : ainv E self 42 [adr m k 0, .int .i64 1] (ap m L) = none) (hP : ainvP E sp 42 [adr m k 0, .int .i64 1] (ap m L) = some (ref9 e, M')) : abodyP E self sp nf 43 [adr m k 0] (ap m L) = some (ref9 e, M') := by
  rw [abodyP_eqF (by kernel_rfl) Try.func43 bodyrby (by kernel_rfl) (Nat.le_of_ble_eq_true rfl)]
  rw [show Try.f43.ntmps = 6 from rfl]
  simp only [erby_0, erby_1, lrby_0, lrby_1, agd_none, gdAt, gdV_bool, gdV_undef, Try.f43, List.append_eq, List.cons_append, List.nil_append, apure_call1, apure_call2, apure_call3, bft, btf, acodeN, List.getElem?_toArray, List.getElem?_cons_zero, List.getElem?_cons_succ, aopsN, adrawT, cls, astep, aop, afloat, ev, nth_lst, get_lst, aput, setAt_lst, upd_at, init_zero, init_succ, init_nil, Nat.reduceLT, Nat.reduceEqDiff, reduceIte, abuiltin, Option.map_some, Option.map_none, orElse_some, apure_add, List.map_cons, List.map_nil, List.all_cons, List.all_nil, lit2, lit1, lit0, List.isEmpty_nil, Bool.and_self, Bool.and_true, Bool.true_and, Bool.false_and, Bool.and_false, Bool.not_true, Bool.not_false, Bool.or_true, Bool.true_or, Bool.false_or, Bool.or_false, Bool.false_eq_true, if_true, if_false, List.length_map, beq_self_eq_true, und3, und4, und5, und9, eqlV9_int, neqV9_int, eqlV9_bool, neqV9_bool, eqlV9_str, neqV9_str, eqlB, neqB, eqlBr, neqBr, ↓aop_eqlV9, ↓aop_neqV9, ↓afloat_eqlV9, ↓afloat_neqV9, apure_eqlV9, apure_neqV9, eqlW, neqW, eqlI64, neqI64, aload_sealed, adB, adBr, adU, adE, wrWi, wrLt, wrFr, wrBk, wrCk, wrRl, wrRb, cbWi, cbAt, cbSp, cbLt, cbFr, cbBk, cbCk, cbRa, cbRs, cbRl, cbRb, cbMay, cbLk, cbLo, cbRe, cbSg, cbAw, bxP, bxB, bxPr, bxBr, alP, alB, alPr, alBr, ldP', ldB', ldPr', ldBr', ldI', ldU', ldL', ldS_pol, ldS_bud, ldF_p0, ldF_p1, ldF_p2, ldF_b0, ldF_b1, ldF_b2, stP', stB', stPr', stBr', stI', stU', stT', stL, polLen, budLen, layP, layB, layB0, layB1, layB2, faP0, faP1, faP2, faB0, faB1, faB2, faPr0, faPr1, faPr2, faBr0, faBr1, faBr2, List.length_nil, List.length_cons, List.length_append, Nat.reduceAdd, Nat.reduceLeDiff, List.set_cons_zero, List.set_cons_succ, and_self, true_and, Nat.le_refl, apure_max, apure_min, maxV, minV, finish, ares, aresL, ares1_tmp, ares1_cell, aresC_adr, aextract, cbTk, hT, acodePN, aopsPN, apan, hP, finishP]

theorem rfo_ok (h4 : l.length = 4) (hT : ainv E self 42 [adr m k 0, .int .i64 4] (ap m L) = some (tx l, M')) (hN : ∀ M, ainv E self 41 [tx l] M = some (.int .u64 (nb l : Nat), M)) : abody E self nf 37 [adr m k 0] (ap m L) = some (.int .u32 (nb l : Nat), M') := by
  rw [abody_eqF (by kernel_rfl) Try.func37 bodyrfo (by kernel_rfl) (Nat.le_of_ble_eq_true rfl)]
  rw [show Try.f37.ntmps = 7 from rfl]
  have hc := cvFo (n := nb l) (by have := nb_lt l; rw [h4] at this; exact this)
  simp only [erfo_0, erfo_1, lrfo_0, lrfo_1, agd_none, gdAt, gdV_bool, gdV_undef, Try.f37, List.append_eq, List.cons_append, List.nil_append, apure_call1, apure_call2, apure_call3, bft, btf, acodeN, List.getElem?_toArray, List.getElem?_cons_zero, List.getElem?_cons_succ, aopsN, adrawT, cls, astep, aop, afloat, ev, nth_lst, get_lst, aput, setAt_lst, upd_at, init_zero, init_succ, init_nil, Nat.reduceLT, Nat.reduceEqDiff, reduceIte, abuiltin, Option.map_some, Option.map_none, orElse_some, apure_add, List.map_cons, List.map_nil, List.all_cons, List.all_nil, lit2, lit1, lit0, List.isEmpty_nil, Bool.and_self, Bool.and_true, Bool.true_and, Bool.false_and, Bool.and_false, Bool.not_true, Bool.not_false, Bool.or_true, Bool.true_or, Bool.false_or, Bool.or_false, Bool.false_eq_true, if_true, if_false, List.length_map, beq_self_eq_true, und3, und4, und5, und9, eqlV9_int, neqV9_int, eqlV9_bool, neqV9_bool, eqlV9_str, neqV9_str, eqlB, neqB, eqlBr, neqBr, ↓aop_eqlV9, ↓aop_neqV9, ↓afloat_eqlV9, ↓afloat_neqV9, apure_eqlV9, apure_neqV9, eqlW, neqW, eqlI64, neqI64, aload_sealed, adB, adBr, adU, adE, wrWi, wrLt, wrFr, wrBk, wrCk, wrRl, wrRb, cbWi, cbAt, cbSp, cbLt, cbFr, cbBk, cbCk, cbRa, cbRs, cbRl, cbRb, cbMay, cbLk, cbLo, cbRe, cbSg, cbAw, bxP, bxB, bxPr, bxBr, alP, alB, alPr, alBr, ldP', ldB', ldPr', ldBr', ldI', ldU', ldL', ldS_pol, ldS_bud, ldF_p0, ldF_p1, ldF_p2, ldF_b0, ldF_b1, ldF_b2, stP', stB', stPr', stBr', stI', stU', stT', stL, polLen, budLen, layP, layB, layB0, layB1, layB2, faP0, faP1, faP2, faB0, faB1, faB2, faPr0, faPr1, faPr2, faBr0, faBr1, faBr2, List.length_nil, List.length_cons, List.length_append, Nat.reduceAdd, Nat.reduceLeDiff, List.set_cons_zero, List.set_cons_succ, and_self, true_and, Nat.le_refl, apure_max, apure_min, maxV, minV, finish, ares, aresL, ares1_tmp, ares1_cell, aresC_adr, aextract, cbTk, cbNu, hT, hN, hc]
theorem rfo_no (hT : ainv E self 42 [adr m k 0, .int .i64 4] (ap m L) = none) : abody E self nf 37 [adr m k 0] (ap m L) = none := by
  rw [abody_eqF (by kernel_rfl) Try.func37 bodyrfo (by kernel_rfl) (Nat.le_of_ble_eq_true rfl)]
  rw [show Try.f37.ntmps = 7 from rfl]
  simp only [erfo_0, erfo_1, lrfo_0, lrfo_1, agd_none, gdAt, gdV_bool, gdV_undef, Try.f37, List.append_eq, List.cons_append, List.nil_append, apure_call1, apure_call2, apure_call3, bft, btf, acodeN, List.getElem?_toArray, List.getElem?_cons_zero, List.getElem?_cons_succ, aopsN, adrawT, cls, astep, aop, afloat, ev, nth_lst, get_lst, aput, setAt_lst, upd_at, init_zero, init_succ, init_nil, Nat.reduceLT, Nat.reduceEqDiff, reduceIte, abuiltin, Option.map_some, Option.map_none, orElse_some, apure_add, List.map_cons, List.map_nil, List.all_cons, List.all_nil, lit2, lit1, lit0, List.isEmpty_nil, Bool.and_self, Bool.and_true, Bool.true_and, Bool.false_and, Bool.and_false, Bool.not_true, Bool.not_false, Bool.or_true, Bool.true_or, Bool.false_or, Bool.or_false, Bool.false_eq_true, if_true, if_false, List.length_map, beq_self_eq_true, und3, und4, und5, und9, eqlV9_int, neqV9_int, eqlV9_bool, neqV9_bool, eqlV9_str, neqV9_str, eqlB, neqB, eqlBr, neqBr, ↓aop_eqlV9, ↓aop_neqV9, ↓afloat_eqlV9, ↓afloat_neqV9, apure_eqlV9, apure_neqV9, eqlW, neqW, eqlI64, neqI64, aload_sealed, adB, adBr, adU, adE, wrWi, wrLt, wrFr, wrBk, wrCk, wrRl, wrRb, cbWi, cbAt, cbSp, cbLt, cbFr, cbBk, cbCk, cbRa, cbRs, cbRl, cbRb, cbMay, cbLk, cbLo, cbRe, cbSg, cbAw, bxP, bxB, bxPr, bxBr, alP, alB, alPr, alBr, ldP', ldB', ldPr', ldBr', ldI', ldU', ldL', ldS_pol, ldS_bud, ldF_p0, ldF_p1, ldF_p2, ldF_b0, ldF_b1, ldF_b2, stP', stB', stPr', stBr', stI', stU', stT', stL, polLen, budLen, layP, layB, layB0, layB1, layB2, faP0, faP1, faP2, faB0, faB1, faB2, faPr0, faPr1, faPr2, faBr0, faBr1, faBr2, List.length_nil, List.length_cons, List.length_append, Nat.reduceAdd, Nat.reduceLeDiff, List.set_cons_zero, List.set_cons_succ, and_self, true_and, Nat.le_refl, apure_max, apure_min, maxV, minV, finish, ares, aresL, ares1_tmp, ares1_cell, aresC_adr, aextract, cbTk, hT]
theorem rfo_pan {e : Int} (hT : ainv E self 42 [adr m k 0, .int .i64 4] (ap m L) = none) (hP : ainvP E sp 42 [adr m k 0, .int .i64 4] (ap m L) = some (ref9 e, M')) : abodyP E self sp nf 37 [adr m k 0] (ap m L) = some (ref9 e, M') := by
  rw [abodyP_eqF (by kernel_rfl) Try.func37 bodyrfo (by kernel_rfl) (Nat.le_of_ble_eq_true rfl)]
  rw [show Try.f37.ntmps = 7 from rfl]
  simp only [erfo_0, erfo_1, lrfo_0, lrfo_1, agd_none, gdAt, gdV_bool, gdV_undef, Try.f37, List.append_eq, List.cons_append, List.nil_append, apure_call1, apure_call2, apure_call3, bft, btf, acodeN, List.getElem?_toArray, List.getElem?_cons_zero, List.getElem?_cons_succ, aopsN, adrawT, cls, astep, aop, afloat, ev, nth_lst, get_lst, aput, setAt_lst, upd_at, init_zero, init_succ, init_nil, Nat.reduceLT, Nat.reduceEqDiff, reduceIte, abuiltin, Option.map_some, Option.map_none, orElse_some, apure_add, List.map_cons, List.map_nil, List.all_cons, List.all_nil, lit2, lit1, lit0, List.isEmpty_nil, Bool.and_self, Bool.and_true, Bool.true_and, Bool.false_and, Bool.and_false, Bool.not_true, Bool.not_false, Bool.or_true, Bool.true_or, Bool.false_or, Bool.or_false, Bool.false_eq_true, if_true, if_false, List.length_map, beq_self_eq_true, und3, und4, und5, und9, eqlV9_int, neqV9_int, eqlV9_bool, neqV9_bool, eqlV9_str, neqV9_str, eqlB, neqB, eqlBr, neqBr, ↓aop_eqlV9, ↓aop_neqV9, ↓afloat_eqlV9, ↓afloat_neqV9, apure_eqlV9, apure_neqV9, eqlW, neqW, eqlI64, neqI64, aload_sealed, adB, adBr, adU, adE, wrWi, wrLt, wrFr, wrBk, wrCk, wrRl, wrRb, cbWi, cbAt, cbSp, cbLt, cbFr, cbBk, cbCk, cbRa, cbRs, cbRl, cbRb, cbMay, cbLk, cbLo, cbRe, cbSg, cbAw, bxP, bxB, bxPr, bxBr, alP, alB, alPr, alBr, ldP', ldB', ldPr', ldBr', ldI', ldU', ldL', ldS_pol, ldS_bud, ldF_p0, ldF_p1, ldF_p2, ldF_b0, ldF_b1, ldF_b2, stP', stB', stPr', stBr', stI', stU', stT', stL, polLen, budLen, layP, layB, layB0, layB1, layB2, faP0, faP1, faP2, faB0, faB1, faB2, faPr0, faPr1, faPr2, faBr0, faBr1, faBr2, List.length_nil, List.length_cons, List.length_append, Nat.reduceAdd, Nat.reduceLeDiff, List.set_cons_zero, List.set_cons_succ, and_self, true_and, Nat.le_refl, apure_max, apure_min, maxV, minV, finish, ares, aresL, ares1_tmp, ares1_cell, aresC_adr, aextract, cbTk, hT, acodePN, aopsPN, apan, hP, finishP]

theorem rei_ok (hT : ainv E self 42 [adr m k 0, .int .i64 8] (ap m L) = some (tx l, M')) (hN : ∀ M, ainv E self 41 [tx l] M = some (.int .u64 (nb l : Nat), M)) : abody E self nf 38 [adr m k 0] (ap m L) = some (.int .u64 (nb l : Nat), M') := by
  rw [abody_eqF (by kernel_rfl) Try.func38 bodyrei (by kernel_rfl) (Nat.le_of_ble_eq_true rfl)]
  rw [show Try.f38.ntmps = 6 from rfl]
  simp only [erei_0, erei_1, lrei_0, lrei_1, agd_none, gdAt, gdV_bool, gdV_undef, Try.f38, List.append_eq, List.cons_append, List.nil_append, apure_call1, apure_call2, apure_call3, bft, btf, acodeN, List.getElem?_toArray, List.getElem?_cons_zero, List.getElem?_cons_succ, aopsN, adrawT, cls, astep, aop, afloat, ev, nth_lst, get_lst, aput, setAt_lst, upd_at, init_zero, init_succ, init_nil, Nat.reduceLT, Nat.reduceEqDiff, reduceIte, abuiltin, Option.map_some, Option.map_none, orElse_some, apure_add, List.map_cons, List.map_nil, List.all_cons, List.all_nil, lit2, lit1, lit0, List.isEmpty_nil, Bool.and_self, Bool.and_true, Bool.true_and, Bool.false_and, Bool.and_false, Bool.not_true, Bool.not_false, Bool.or_true, Bool.true_or, Bool.false_or, Bool.or_false, Bool.false_eq_true, if_true, if_false, List.length_map, beq_self_eq_true, und3, und4, und5, und9, eqlV9_int, neqV9_int, eqlV9_bool, neqV9_bool, eqlV9_str, neqV9_str, eqlB, neqB, eqlBr, neqBr, ↓aop_eqlV9, ↓aop_neqV9, ↓afloat_eqlV9, ↓afloat_neqV9, apure_eqlV9, apure_neqV9, eqlW, neqW, eqlI64, neqI64, aload_sealed, adB, adBr, adU, adE, wrWi, wrLt, wrFr, wrBk, wrCk, wrRl, wrRb, cbWi, cbAt, cbSp, cbLt, cbFr, cbBk, cbCk, cbRa, cbRs, cbRl, cbRb, cbMay, cbLk, cbLo, cbRe, cbSg, cbAw, bxP, bxB, bxPr, bxBr, alP, alB, alPr, alBr, ldP', ldB', ldPr', ldBr', ldI', ldU', ldL', ldS_pol, ldS_bud, ldF_p0, ldF_p1, ldF_p2, ldF_b0, ldF_b1, ldF_b2, stP', stB', stPr', stBr', stI', stU', stT', stL, polLen, budLen, layP, layB, layB0, layB1, layB2, faP0, faP1, faP2, faB0, faB1, faB2, faPr0, faPr1, faPr2, faBr0, faBr1, faBr2, List.length_nil, List.length_cons, List.length_append, Nat.reduceAdd, Nat.reduceLeDiff, List.set_cons_zero, List.set_cons_succ, and_self, true_and, Nat.le_refl, apure_max, apure_min, maxV, minV, finish, ares, aresL, ares1_tmp, ares1_cell, aresC_adr, aextract, cbTk, cbNu, hT, hN]
theorem rei_no (hT : ainv E self 42 [adr m k 0, .int .i64 8] (ap m L) = none) : abody E self nf 38 [adr m k 0] (ap m L) = none := by
  rw [abody_eqF (by kernel_rfl) Try.func38 bodyrei (by kernel_rfl) (Nat.le_of_ble_eq_true rfl)]
  rw [show Try.f38.ntmps = 6 from rfl]
  simp only [erei_0, erei_1, lrei_0, lrei_1, agd_none, gdAt, gdV_bool, gdV_undef, Try.f38, List.append_eq, List.cons_append, List.nil_append, apure_call1, apure_call2, apure_call3, bft, btf, acodeN, List.getElem?_toArray, List.getElem?_cons_zero, List.getElem?_cons_succ, aopsN, adrawT, cls, astep, aop, afloat, ev, nth_lst, get_lst, aput, setAt_lst, upd_at, init_zero, init_succ, init_nil, Nat.reduceLT, Nat.reduceEqDiff, reduceIte, abuiltin, Option.map_some, Option.map_none, orElse_some, apure_add, List.map_cons, List.map_nil, List.all_cons, List.all_nil, lit2, lit1, lit0, List.isEmpty_nil, Bool.and_self, Bool.and_true, Bool.true_and, Bool.false_and, Bool.and_false, Bool.not_true, Bool.not_false, Bool.or_true, Bool.true_or, Bool.false_or, Bool.or_false, Bool.false_eq_true, if_true, if_false, List.length_map, beq_self_eq_true, und3, und4, und5, und9, eqlV9_int, neqV9_int, eqlV9_bool, neqV9_bool, eqlV9_str, neqV9_str, eqlB, neqB, eqlBr, neqBr, ↓aop_eqlV9, ↓aop_neqV9, ↓afloat_eqlV9, ↓afloat_neqV9, apure_eqlV9, apure_neqV9, eqlW, neqW, eqlI64, neqI64, aload_sealed, adB, adBr, adU, adE, wrWi, wrLt, wrFr, wrBk, wrCk, wrRl, wrRb, cbWi, cbAt, cbSp, cbLt, cbFr, cbBk, cbCk, cbRa, cbRs, cbRl, cbRb, cbMay, cbLk, cbLo, cbRe, cbSg, cbAw, bxP, bxB, bxPr, bxBr, alP, alB, alPr, alBr, ldP', ldB', ldPr', ldBr', ldI', ldU', ldL', ldS_pol, ldS_bud, ldF_p0, ldF_p1, ldF_p2, ldF_b0, ldF_b1, ldF_b2, stP', stB', stPr', stBr', stI', stU', stT', stL, polLen, budLen, layP, layB, layB0, layB1, layB2, faP0, faP1, faP2, faB0, faB1, faB2, faPr0, faPr1, faPr2, faBr0, faBr1, faBr2, List.length_nil, List.length_cons, List.length_append, Nat.reduceAdd, Nat.reduceLeDiff, List.set_cons_zero, List.set_cons_succ, and_self, true_and, Nat.le_refl, apure_max, apure_min, maxV, minV, finish, ares, aresL, ares1_tmp, ares1_cell, aresC_adr, aextract, cbTk, hT]
theorem rei_pan {e : Int} (hT : ainv E self 42 [adr m k 0, .int .i64 8] (ap m L) = none) (hP : ainvP E sp 42 [adr m k 0, .int .i64 8] (ap m L) = some (ref9 e, M')) : abodyP E self sp nf 38 [adr m k 0] (ap m L) = some (ref9 e, M') := by
  rw [abodyP_eqF (by kernel_rfl) Try.func38 bodyrei (by kernel_rfl) (Nat.le_of_ble_eq_true rfl)]
  rw [show Try.f38.ntmps = 6 from rfl]
  simp only [erei_0, erei_1, lrei_0, lrei_1, agd_none, gdAt, gdV_bool, gdV_undef, Try.f38, List.append_eq, List.cons_append, List.nil_append, apure_call1, apure_call2, apure_call3, bft, btf, acodeN, List.getElem?_toArray, List.getElem?_cons_zero, List.getElem?_cons_succ, aopsN, adrawT, cls, astep, aop, afloat, ev, nth_lst, get_lst, aput, setAt_lst, upd_at, init_zero, init_succ, init_nil, Nat.reduceLT, Nat.reduceEqDiff, reduceIte, abuiltin, Option.map_some, Option.map_none, orElse_some, apure_add, List.map_cons, List.map_nil, List.all_cons, List.all_nil, lit2, lit1, lit0, List.isEmpty_nil, Bool.and_self, Bool.and_true, Bool.true_and, Bool.false_and, Bool.and_false, Bool.not_true, Bool.not_false, Bool.or_true, Bool.true_or, Bool.false_or, Bool.or_false, Bool.false_eq_true, if_true, if_false, List.length_map, beq_self_eq_true, und3, und4, und5, und9, eqlV9_int, neqV9_int, eqlV9_bool, neqV9_bool, eqlV9_str, neqV9_str, eqlB, neqB, eqlBr, neqBr, ↓aop_eqlV9, ↓aop_neqV9, ↓afloat_eqlV9, ↓afloat_neqV9, apure_eqlV9, apure_neqV9, eqlW, neqW, eqlI64, neqI64, aload_sealed, adB, adBr, adU, adE, wrWi, wrLt, wrFr, wrBk, wrCk, wrRl, wrRb, cbWi, cbAt, cbSp, cbLt, cbFr, cbBk, cbCk, cbRa, cbRs, cbRl, cbRb, cbMay, cbLk, cbLo, cbRe, cbSg, cbAw, bxP, bxB, bxPr, bxBr, alP, alB, alPr, alBr, ldP', ldB', ldPr', ldBr', ldI', ldU', ldL', ldS_pol, ldS_bud, ldF_p0, ldF_p1, ldF_p2, ldF_b0, ldF_b1, ldF_b2, stP', stB', stPr', stBr', stI', stU', stT', stL, polLen, budLen, layP, layB, layB0, layB1, layB2, faP0, faP1, faP2, faB0, faB1, faB2, faPr0, faPr1, faPr2, faBr0, faBr1, faBr2, List.length_nil, List.length_cons, List.length_append, Nat.reduceAdd, Nat.reduceLeDiff, List.set_cons_zero, List.set_cons_succ, and_self, true_and, Nat.le_refl, apure_max, apure_min, maxV, minV, finish, ares, aresL, ares1_tmp, ares1_cell, aresC_adr, aextract, cbTk, hT, acodePN, aopsPN, apan, hP, finishP]

theorem rfl_ok (hB : ainv E self 43 [adr m k 0] (ap m L) = some (.int .u8 (x.toNat : Nat), M')) (hx : x.toNat ≤ 1) (hT : ∀ e M, ainv E self 35 [.bool true, .int .i64 e] M = some (.tuple ⟨[]⟩, M)) : abody E self nf 39 [adr m k 0] (ap m L) = some (.bool (decide (x.toNat = 1)), M') := by
  rw [abody_eqF (by kernel_rfl) Try.func39 bodyrfl (by kernel_rfl) (Nat.le_of_ble_eq_true rfl)]
  rw [show Try.f39.ntmps = 11 from rfl]
  have d1 : decide (((x.toNat : Nat) : Int) ≤ 1) = true := decide_eq_true (by omega)
  have d2 : (((x.toNat : Nat) : Int) == 1) = decide (x.toNat = 1) := by rw [Bool.eq_iff_iff]; simp only [beq_iff_eq, decide_eq_true_eq]; omega
  simp only [erfl_0, erfl_1, erfl_2, erfl_3, lrfl_0, lrfl_1, lrfl_2, lrfl_3, agd_none, gdAt, gdV_bool, gdV_undef, Try.f39, List.append_eq, List.cons_append, List.nil_append, apure_call1, apure_call2, apure_call3, bft, btf, acodeN, List.getElem?_toArray, List.getElem?_cons_zero, List.getElem?_cons_succ, aopsN, adrawT, cls, astep, aop, afloat, ev, nth_lst, get_lst, aput, setAt_lst, upd_at, init_zero, init_succ, init_nil, Nat.reduceLT, Nat.reduceEqDiff, reduceIte, abuiltin, Option.map_some, Option.map_none, orElse_some, apure_add, List.map_cons, List.map_nil, List.all_cons, List.all_nil, lit2, lit1, lit0, List.isEmpty_nil, Bool.and_self, Bool.and_true, Bool.true_and, Bool.false_and, Bool.and_false, Bool.not_true, Bool.not_false, Bool.or_true, Bool.true_or, Bool.false_or, Bool.or_false, Bool.false_eq_true, if_true, if_false, List.length_map, beq_self_eq_true, und3, und4, und5, und9, eqlV9_int, neqV9_int, eqlV9_bool, neqV9_bool, eqlV9_str, neqV9_str, eqlB, neqB, eqlBr, neqBr, ↓aop_eqlV9, ↓aop_neqV9, ↓afloat_eqlV9, ↓afloat_neqV9, apure_eqlV9, apure_neqV9, eqlW, neqW, eqlI64, neqI64, aload_sealed, adB, adBr, adU, adE, wrWi, wrLt, wrFr, wrBk, wrCk, wrRl, wrRb, cbWi, cbAt, cbSp, cbLt, cbFr, cbBk, cbCk, cbRa, cbRs, cbRl, cbRb, cbMay, cbLk, cbLo, cbRe, cbSg, cbAw, bxP, bxB, bxPr, bxBr, alP, alB, alPr, alBr, ldP', ldB', ldPr', ldBr', ldI', ldU', ldL', ldS_pol, ldS_bud, ldF_p0, ldF_p1, ldF_p2, ldF_b0, ldF_b1, ldF_b2, stP', stB', stPr', stBr', stI', stU', stT', stL, polLen, budLen, layP, layB, layB0, layB1, layB2, faP0, faP1, faP2, faB0, faB1, faB2, faPr0, faPr1, faPr2, faBr0, faBr1, faBr2, List.length_nil, List.length_cons, List.length_append, Nat.reduceAdd, Nat.reduceLeDiff, List.set_cons_zero, List.set_cons_succ, and_self, true_and, Nat.le_refl, apure_max, apure_min, maxV, minV, finish, ares, aresL, ares1_tmp, ares1_cell, aresC_adr, aextract, cbBy, cbHld, hB, hT, leqB, d1, d2]
theorem rfl_no (hB : ainv E self 43 [adr m k 0] (ap m L) = none) : abody E self nf 39 [adr m k 0] (ap m L) = none := by
  rw [abody_eqF (by kernel_rfl) Try.func39 bodyrfl (by kernel_rfl) (Nat.le_of_ble_eq_true rfl)]
  rw [show Try.f39.ntmps = 11 from rfl]
  simp only [erfl_0, erfl_1, erfl_2, erfl_3, lrfl_0, lrfl_1, lrfl_2, lrfl_3, agd_none, gdAt, gdV_bool, gdV_undef, Try.f39, List.append_eq, List.cons_append, List.nil_append, apure_call1, apure_call2, apure_call3, bft, btf, acodeN, List.getElem?_toArray, List.getElem?_cons_zero, List.getElem?_cons_succ, aopsN, adrawT, cls, astep, aop, afloat, ev, nth_lst, get_lst, aput, setAt_lst, upd_at, init_zero, init_succ, init_nil, Nat.reduceLT, Nat.reduceEqDiff, reduceIte, abuiltin, Option.map_some, Option.map_none, orElse_some, apure_add, List.map_cons, List.map_nil, List.all_cons, List.all_nil, lit2, lit1, lit0, List.isEmpty_nil, Bool.and_self, Bool.and_true, Bool.true_and, Bool.false_and, Bool.and_false, Bool.not_true, Bool.not_false, Bool.or_true, Bool.true_or, Bool.false_or, Bool.or_false, Bool.false_eq_true, if_true, if_false, List.length_map, beq_self_eq_true, und3, und4, und5, und9, eqlV9_int, neqV9_int, eqlV9_bool, neqV9_bool, eqlV9_str, neqV9_str, eqlB, neqB, eqlBr, neqBr, ↓aop_eqlV9, ↓aop_neqV9, ↓afloat_eqlV9, ↓afloat_neqV9, apure_eqlV9, apure_neqV9, eqlW, neqW, eqlI64, neqI64, aload_sealed, adB, adBr, adU, adE, wrWi, wrLt, wrFr, wrBk, wrCk, wrRl, wrRb, cbWi, cbAt, cbSp, cbLt, cbFr, cbBk, cbCk, cbRa, cbRs, cbRl, cbRb, cbMay, cbLk, cbLo, cbRe, cbSg, cbAw, bxP, bxB, bxPr, bxBr, alP, alB, alPr, alBr, ldP', ldB', ldPr', ldBr', ldI', ldU', ldL', ldS_pol, ldS_bud, ldF_p0, ldF_p1, ldF_p2, ldF_b0, ldF_b1, ldF_b2, stP', stB', stPr', stBr', stI', stU', stT', stL, polLen, budLen, layP, layB, layB0, layB1, layB2, faP0, faP1, faP2, faB0, faB1, faB2, faPr0, faPr1, faPr2, faBr0, faBr1, faBr2, List.length_nil, List.length_cons, List.length_append, Nat.reduceAdd, Nat.reduceLeDiff, List.set_cons_zero, List.set_cons_succ, and_self, true_and, Nat.le_refl, apure_max, apure_min, maxV, minV, finish, ares, aresL, ares1_tmp, ares1_cell, aresC_adr, aextract, cbBy, hB]
theorem rfl_pan {e : Int} (hB : ainv E self 43 [adr m k 0] (ap m L) = none) (hP : ainvP E sp 43 [adr m k 0] (ap m L) = some (ref9 e, M')) : abodyP E self sp nf 39 [adr m k 0] (ap m L) = some (ref9 e, M') := by
  rw [abodyP_eqF (by kernel_rfl) Try.func39 bodyrfl (by kernel_rfl) (Nat.le_of_ble_eq_true rfl)]
  rw [show Try.f39.ntmps = 11 from rfl]
  simp only [erfl_0, erfl_1, erfl_2, erfl_3, lrfl_0, lrfl_1, lrfl_2, lrfl_3, agd_none, gdAt, gdV_bool, gdV_undef, Try.f39, List.append_eq, List.cons_append, List.nil_append, apure_call1, apure_call2, apure_call3, bft, btf, acodeN, List.getElem?_toArray, List.getElem?_cons_zero, List.getElem?_cons_succ, aopsN, adrawT, cls, astep, aop, afloat, ev, nth_lst, get_lst, aput, setAt_lst, upd_at, init_zero, init_succ, init_nil, Nat.reduceLT, Nat.reduceEqDiff, reduceIte, abuiltin, Option.map_some, Option.map_none, orElse_some, apure_add, List.map_cons, List.map_nil, List.all_cons, List.all_nil, lit2, lit1, lit0, List.isEmpty_nil, Bool.and_self, Bool.and_true, Bool.true_and, Bool.false_and, Bool.and_false, Bool.not_true, Bool.not_false, Bool.or_true, Bool.true_or, Bool.false_or, Bool.or_false, Bool.false_eq_true, if_true, if_false, List.length_map, beq_self_eq_true, und3, und4, und5, und9, eqlV9_int, neqV9_int, eqlV9_bool, neqV9_bool, eqlV9_str, neqV9_str, eqlB, neqB, eqlBr, neqBr, ↓aop_eqlV9, ↓aop_neqV9, ↓afloat_eqlV9, ↓afloat_neqV9, apure_eqlV9, apure_neqV9, eqlW, neqW, eqlI64, neqI64, aload_sealed, adB, adBr, adU, adE, wrWi, wrLt, wrFr, wrBk, wrCk, wrRl, wrRb, cbWi, cbAt, cbSp, cbLt, cbFr, cbBk, cbCk, cbRa, cbRs, cbRl, cbRb, cbMay, cbLk, cbLo, cbRe, cbSg, cbAw, bxP, bxB, bxPr, bxBr, alP, alB, alPr, alBr, ldP', ldB', ldPr', ldBr', ldI', ldU', ldL', ldS_pol, ldS_bud, ldF_p0, ldF_p1, ldF_p2, ldF_b0, ldF_b1, ldF_b2, stP', stB', stPr', stBr', stI', stU', stT', stL, polLen, budLen, layP, layB, layB0, layB1, layB2, faP0, faP1, faP2, faB0, faB1, faB2, faPr0, faPr1, faPr2, faBr0, faBr1, faBr2, List.length_nil, List.length_cons, List.length_append, Nat.reduceAdd, Nat.reduceLeDiff, List.set_cons_zero, List.set_cons_succ, and_self, true_and, Nat.le_refl, apure_max, apure_min, maxV, minV, finish, ares, aresL, ares1_tmp, ares1_cell, aresC_adr, aextract, cbBy, hB, acodePN, aopsPN, apan, hP, finishP]
theorem rfl_no2 (hB : ainv E self 43 [adr m k 0] (ap m L) = some (.int .u8 (x.toNat : Nat), M')) (hx : 1 < x.toNat) (hN : ∀ e M, ainv E self 35 [.bool false, .int .i64 e] M = none) : abody E self nf 39 [adr m k 0] (ap m L) = none := by
  rw [abody_eqF (by kernel_rfl) Try.func39 bodyrfl (by kernel_rfl) (Nat.le_of_ble_eq_true rfl)]
  rw [show Try.f39.ntmps = 11 from rfl]
  have d1 : decide (((x.toNat : Nat) : Int) ≤ 1) = false := decide_eq_false (by omega)
  simp only [erfl_0, erfl_1, erfl_2, erfl_3, lrfl_0, lrfl_1, lrfl_2, lrfl_3, agd_none, gdAt, gdV_bool, gdV_undef, Try.f39, List.append_eq, List.cons_append, List.nil_append, apure_call1, apure_call2, apure_call3, bft, btf, acodeN, List.getElem?_toArray, List.getElem?_cons_zero, List.getElem?_cons_succ, aopsN, adrawT, cls, astep, aop, afloat, ev, nth_lst, get_lst, aput, setAt_lst, upd_at, init_zero, init_succ, init_nil, Nat.reduceLT, Nat.reduceEqDiff, reduceIte, abuiltin, Option.map_some, Option.map_none, orElse_some, apure_add, List.map_cons, List.map_nil, List.all_cons, List.all_nil, lit2, lit1, lit0, List.isEmpty_nil, Bool.and_self, Bool.and_true, Bool.true_and, Bool.false_and, Bool.and_false, Bool.not_true, Bool.not_false, Bool.or_true, Bool.true_or, Bool.false_or, Bool.or_false, Bool.false_eq_true, if_true, if_false, List.length_map, beq_self_eq_true, und3, und4, und5, und9, eqlV9_int, neqV9_int, eqlV9_bool, neqV9_bool, eqlV9_str, neqV9_str, eqlB, neqB, eqlBr, neqBr, ↓aop_eqlV9, ↓aop_neqV9, ↓afloat_eqlV9, ↓afloat_neqV9, apure_eqlV9, apure_neqV9, eqlW, neqW, eqlI64, neqI64, aload_sealed, adB, adBr, adU, adE, wrWi, wrLt, wrFr, wrBk, wrCk, wrRl, wrRb, cbWi, cbAt, cbSp, cbLt, cbFr, cbBk, cbCk, cbRa, cbRs, cbRl, cbRb, cbMay, cbLk, cbLo, cbRe, cbSg, cbAw, bxP, bxB, bxPr, bxBr, alP, alB, alPr, alBr, ldP', ldB', ldPr', ldBr', ldI', ldU', ldL', ldS_pol, ldS_bud, ldF_p0, ldF_p1, ldF_p2, ldF_b0, ldF_b1, ldF_b2, stP', stB', stPr', stBr', stI', stU', stT', stL, polLen, budLen, layP, layB, layB0, layB1, layB2, faP0, faP1, faP2, faB0, faB1, faB2, faPr0, faPr1, faPr2, faBr0, faBr1, faBr2, List.length_nil, List.length_cons, List.length_append, Nat.reduceAdd, Nat.reduceLeDiff, List.set_cons_zero, List.set_cons_succ, and_self, true_and, Nat.le_refl, apure_max, apure_min, maxV, minV, finish, ares, aresL, ares1_tmp, ares1_cell, aresC_adr, aextract, cbBy, cbHld, hB, hN, leqB, d1]
theorem rfl_pan2 (hB : ainv E self 43 [adr m k 0] (ap m L) = some (.int .u8 (x.toNat : Nat), M')) (hx : 1 < x.toNat) (hN : ∀ e M, ainv E self 35 [.bool false, .int .i64 e] M = none) (hP : ∀ e M, ainvP E sp 35 [.bool false, .int .i64 e] M = some (ref9 e, M)) : abodyP E self sp nf 39 [adr m k 0] (ap m L) = some (ref9 4, M') := by
  rw [abodyP_eqF (by kernel_rfl) Try.func39 bodyrfl (by kernel_rfl) (Nat.le_of_ble_eq_true rfl)]
  rw [show Try.f39.ntmps = 11 from rfl]
  have d1 : decide (((x.toNat : Nat) : Int) ≤ 1) = false := decide_eq_false (by omega)
  simp only [erfl_0, erfl_1, erfl_2, erfl_3, lrfl_0, lrfl_1, lrfl_2, lrfl_3, agd_none, gdAt, gdV_bool, gdV_undef, Try.f39, List.append_eq, List.cons_append, List.nil_append, apure_call1, apure_call2, apure_call3, bft, btf, acodeN, List.getElem?_toArray, List.getElem?_cons_zero, List.getElem?_cons_succ, aopsN, adrawT, cls, astep, aop, afloat, ev, nth_lst, get_lst, aput, setAt_lst, upd_at, init_zero, init_succ, init_nil, Nat.reduceLT, Nat.reduceEqDiff, reduceIte, abuiltin, Option.map_some, Option.map_none, orElse_some, apure_add, List.map_cons, List.map_nil, List.all_cons, List.all_nil, lit2, lit1, lit0, List.isEmpty_nil, Bool.and_self, Bool.and_true, Bool.true_and, Bool.false_and, Bool.and_false, Bool.not_true, Bool.not_false, Bool.or_true, Bool.true_or, Bool.false_or, Bool.or_false, Bool.false_eq_true, if_true, if_false, List.length_map, beq_self_eq_true, und3, und4, und5, und9, eqlV9_int, neqV9_int, eqlV9_bool, neqV9_bool, eqlV9_str, neqV9_str, eqlB, neqB, eqlBr, neqBr, ↓aop_eqlV9, ↓aop_neqV9, ↓afloat_eqlV9, ↓afloat_neqV9, apure_eqlV9, apure_neqV9, eqlW, neqW, eqlI64, neqI64, aload_sealed, adB, adBr, adU, adE, wrWi, wrLt, wrFr, wrBk, wrCk, wrRl, wrRb, cbWi, cbAt, cbSp, cbLt, cbFr, cbBk, cbCk, cbRa, cbRs, cbRl, cbRb, cbMay, cbLk, cbLo, cbRe, cbSg, cbAw, bxP, bxB, bxPr, bxBr, alP, alB, alPr, alBr, ldP', ldB', ldPr', ldBr', ldI', ldU', ldL', ldS_pol, ldS_bud, ldF_p0, ldF_p1, ldF_p2, ldF_b0, ldF_b1, ldF_b2, stP', stB', stPr', stBr', stI', stU', stT', stL, polLen, budLen, layP, layB, layB0, layB1, layB2, faP0, faP1, faP2, faB0, faB1, faB2, faPr0, faPr1, faPr2, faBr0, faBr1, faBr2, List.length_nil, List.length_cons, List.length_append, Nat.reduceAdd, Nat.reduceLeDiff, List.set_cons_zero, List.set_cons_succ, and_self, true_and, Nat.le_refl, apure_max, apure_min, maxV, minV, finish, ares, aresL, ares1_tmp, ares1_cell, aresC_adr, aextract, cbBy, cbHld, hB, hN, leqB, d1, acodePN, aopsPN, apan, hP, finishP]
end
end Go.Am.Seat

/-
  A reader's calls at each level; a budget's reading (own work).
-/
set_option linter.unusedSimpArgs false
set_option linter.unusedVariables false
namespace Go.Am.Seat
open Go.Proofs Go.Am
set_option maxRecDepth 100000

theorem wrBy : E.wr 43 = true := by kernel_rfl
theorem wrFo : E.wr 37 = true := by kernel_rfl
theorem wrEi : E.wr 38 = true := by kernel_rfl
theorem wrFl : E.wr 39 = true := by kernel_rfl
theorem wrRd : E.wr 27 = true := by kernel_rfl

section
variable {N : Nat} {m : Mem} {L : List Blk} {k : Nat} {l p q r : List UInt8} {x : UInt8}
theorem by_ok (hk : L[k]? = some (rdR (x :: r))) : ainv E (RQ (N + 3)) 43 [adr m k 0] (ap m L) = some (.int .u8 (x.toNat : Nat), ap m (L.set k (rdR r))) := by
  rw [ainv_w rfl wrBy]
  exact runQ_1 (rby_ok (tk_ok (N := N) (n := 1) hk (Nat.le_add_left 1 _)))
theorem by_no (hk : L[k]? = some (rdR [])) : ainv E (RQ (N + 3)) 43 [adr m k 0] (ap m L) = none ∧ ainvP E (RP (N + 3)) 43 [adr m k 0] (ap m L) = some (ref9 4, ap m L) := by
  have h1 := tk_no (N := N) (m := m) (n := 1) hk Nat.zero_lt_one
  have h2 := tk_pan (N := N) (m := m) (n := 1) hk Nat.zero_lt_one
  rw [ainv_w rfl wrBy, ainvP_w rfl wrBy]
  exact ⟨runQ_no (rby_no h1) (abodyD_none Try.func43 bodyrby (by kernel_rfl)), runQ_2 (rby_pan h1 h2)⟩
theorem fo_ok (hp : p.length = 4) (hk : L[k]? = some (rdR (p ++ l))) (hN : 8 ≤ N) : ainv E (RQ (N + 3)) 37 [adr m k 0] (ap m L) = some (.int .u32 (nb p : Nat), ap m (L.set k (rdR l))) := by
  rw [ainv_w rfl wrFo]
  have h := tk_ok (N := N) (m := m) (n := 4) hk (by rw [List.length_append]; omega)
  rw [List.take_left' hp, List.drop_left' hp] at h
  exact runQ_1 (rfo_ok hp h (fun M => num_call (by omega) (by omega) M))
theorem fo_no (hl : l.length < 4) (hk : L[k]? = some (rdR l)) : ainv E (RQ (N + 3)) 37 [adr m k 0] (ap m L) = none ∧ ainvP E (RP (N + 3)) 37 [adr m k 0] (ap m L) = some (ref9 4, ap m L) := by
  have h1 := tk_no (N := N) (m := m) (n := 4) hk hl
  have h2 := tk_pan (N := N) (m := m) (n := 4) hk hl
  rw [ainv_w rfl wrFo, ainvP_w rfl wrFo]
  exact ⟨runQ_no (rfo_no h1) (abodyD_none Try.func37 bodyrfo (by kernel_rfl)), runQ_2 (rfo_pan h1 h2)⟩
theorem ei_ok (hp : p.length = 8) (hk : L[k]? = some (rdR (p ++ l))) (hN : 8 ≤ N) : ainv E (RQ (N + 3)) 38 [adr m k 0] (ap m L) = some (.int .u64 (nb p : Nat), ap m (L.set k (rdR l))) := by
  rw [ainv_w rfl wrEi]
  have h := tk_ok (N := N) (m := m) (n := 8) hk (by rw [List.length_append]; omega)
  rw [List.take_left' hp, List.drop_left' hp] at h
  exact runQ_1 (rei_ok h (fun M => num_call (by omega) (by omega) M))
theorem ei_no (hl : l.length < 8) (hk : L[k]? = some (rdR l)) : ainv E (RQ (N + 3)) 38 [adr m k 0] (ap m L) = none ∧ ainvP E (RP (N + 3)) 38 [adr m k 0] (ap m L) = some (ref9 4, ap m L) := by
  have h1 := tk_no (N := N) (m := m) (n := 8) hk hl
  have h2 := tk_pan (N := N) (m := m) (n := 8) hk hl
  rw [ainv_w rfl wrEi, ainvP_w rfl wrEi]
  exact ⟨runQ_no (rei_no h1) (abodyD_none Try.func38 bodyrei (by kernel_rfl)), runQ_2 (rei_pan h1 h2)⟩
theorem fl_ok (hk : L[k]? = some (rdR (x :: r))) (hx : x.toNat ≤ 1) : ainv E (RQ (N + 4)) 39 [adr m k 0] (ap m L) = some (.bool (decide (x.toNat = 1)), ap m (L.set k (rdR r))) := by
  rw [ainv_w rfl wrFl]
  exact runQ_1 (rfl_ok (by_ok (N := N) hk) hx (fun e M => hold_T M))
theorem fl_no (hk : L[k]? = some (rdR [])) : ainv E (RQ (N + 4)) 39 [adr m k 0] (ap m L) = none ∧ ainvP E (RP (N + 4)) 39 [adr m k 0] (ap m L) = some (ref9 4, ap m L) := by
  obtain ⟨h1, h2⟩ := by_no (N := N) (m := m) hk
  rw [ainv_w rfl wrFl, ainvP_w rfl wrFl]
  exact ⟨runQ_no (rfl_no h1) (abodyD_none Try.func39 bodyrfl (by kernel_rfl)), runQ_2 (rfl_pan h1 h2)⟩
theorem fl_no2 (hk : L[k]? = some (rdR (x :: r))) (hx : 1 < x.toNat) : ainv E (RQ (N + 4)) 39 [adr m k 0] (ap m L) = none ∧ ainvP E (RP (N + 4)) 39 [adr m k 0] (ap m L) = some (ref9 4, ap m (L.set k (rdR r))) := by
  have h1 := by_ok (N := N) (m := m) hk
  rw [ainv_w rfl wrFl, ainvP_w rfl wrFl]
  exact ⟨runQ_no (rfl_no2 h1 hx (fun e M => hold_N M)) (abodyD_none Try.func39 bodyrfl (by kernel_rfl)), runQ_2 (rfl_pan2 h1 hx (fun e M => hold_N M) (fun e M => hold_P M))⟩
end

noncomputable def apB3s (P : Program) (t ty : TypeId) (a b c : Value) : Option Value := apure P [a, b, c] { dst := none, op := .build t #[(0, .tmp 0), (1, .tmp 1), (2, .tmp 2)], type := ty, pos := "", after := #[], guard := none }
theorem apure_build3s {P : Program} {T : List Value} {t ty : TypeId} {a b c : Nat} {pos : String} {af : Array Edge} {gu : Option (Nat × Bool)} {dd : Option Tmp} :
    apure P T { dst := dd, op := .build t #[(0, .tmp a), (1, .tmp b), (2, .tmp c)], type := ty, pos := pos, after := af, guard := gu } = apB3s P t ty (nth T a) (nth T b) (nth T c) := by
  unfold apB3s apure
  simp [Op.operands, execOp, ev, nth_zero, nth_succ]
theorem buildB3 (a b : Int) (c : Bool) : apB3s E.P 26 26 (.int .i64 a) (.int .u64 b) (.bool c) = some (bud a b c) := by kernel_rfl
theorem cv32 {n : Nat} (h : n < 4294967296) : aconv E.P 60 3 (.int .u32 ((n : Nat) : Int)) = some (.int .i64 ((n : Nat) : Int)) := by
  have h1 : aconv E.P 60 3 (.int .u32 ((n : Nat) : Int)) = some (.int .i64 (wrapF .i64 ((n : Nat) : Int))) := by kernel_rfl
  rw [h1]
  congr 2
  simp only [wrapF]
  omega

section
variable {N : Nat} {m : Mem} {b0 : Blk} {l p q r : List UInt8} {x : UInt8}
theorem brd_ok (hN : 8 ≤ N) (hp : p.length = 4) (hq : q.length = 8) (hv : nb p ≤ 2147483647) (hx : x.toNat ≤ 1) :
    abody E (RQ (N + 4)) (N + 5) 27 [adr m 1 0] (ap m [b0, rdR (p ++ (q ++ x :: r))]) = some (bud (nb p : Nat) (nb q : Nat) (decide (x.toNat = 1)), ap m [b0, rdR r, .row false 26 (budC (nb p : Nat) (nb q : Nat) (decide (x.toNat = 1)))]) := by
  rw [abody_eqF (by kernel_rfl) Try.func27 bodybrd (by kernel_rfl) (Nat.le_of_ble_eq_true rfl)]
  rw [show Try.f27.ntmps = 16 from rfl]
  have h1 := fo_ok (N := N + 1) (m := m) (L := [b0, rdR (p ++ (q ++ x :: r)), .row false 26 (budC 0 0 false)]) (k := 1) hp rfl (by omega)
  have h2 := ei_ok (N := N + 1) (m := m) (L := [b0, rdR (q ++ x :: r), .row false 26 (budC 0 0 false)]) (k := 1) hq rfl (by omega)
  have h3 := fl_ok (N := N) (m := m) (L := [b0, rdR (x :: r), .row false 26 (budC 0 0 false)]) (k := 1) rfl hx
  have h4 := fun e M => hold_T (N := N + 3) (e := e) M
  have hc := cv32 (n := nb p) (by omega)
  have d1 : decide (((nb p : Nat) : Int) ≤ 2147483647) = true := decide_eq_true (by omega)
  generalize RQ (N + 4) = slf at *
  simp only [List.set_cons_succ, List.set_cons_zero] at h1 h2 h3
  simp only [ebrd_0, ebrd_1, ebrd_2, ebrd_3, lbrd_0, lbrd_1, lbrd_2, lbrd_3, agd_none, gdAt, gdV_bool, gdV_undef, Try.f27, List.append_eq, List.cons_append, List.nil_append, apure_call1, apure_call2, apure_call3, bft, btf, acodeN, List.getElem?_toArray, List.getElem?_cons_zero, List.getElem?_cons_succ, aopsN, adrawT, cls, astep, aop, afloat, ev, nth_lst, get_lst, aput, setAt_lst, upd_at, init_zero, init_succ, init_nil, Nat.reduceLT, Nat.reduceEqDiff, reduceIte, abuiltin, Option.map_some, Option.map_none, orElse_some, apure_add, List.map_cons, List.map_nil, List.all_cons, List.all_nil, lit2, lit1, lit0, List.isEmpty_nil, Bool.and_self, Bool.and_true, Bool.true_and, Bool.false_and, Bool.and_false, Bool.not_true, Bool.not_false, Bool.or_true, Bool.true_or, Bool.false_or, Bool.or_false, Bool.false_eq_true, if_true, if_false, List.length_map, beq_self_eq_true, und3, und4, und5, und9, eqlV9_int, neqV9_int, eqlV9_bool, neqV9_bool, eqlV9_str, neqV9_str, eqlB, neqB, eqlBr, neqBr, ↓aop_eqlV9, ↓aop_neqV9, ↓afloat_eqlV9, ↓afloat_neqV9, apure_eqlV9, apure_neqV9, eqlW, neqW, eqlI64, neqI64, aload_sealed, adB, adBr, adU, adE, wrWi, wrLt, wrFr, wrBk, wrCk, wrRl, wrRb, cbWi, cbAt, cbSp, cbLt, cbFr, cbBk, cbCk, cbRa, cbRs, cbRl, cbRb, cbMay, cbLk, cbLo, cbRe, cbSg, cbAw, bxP, bxB, bxPr, bxBr, alP, alB, alPr, alBr, ldP', ldB', ldPr', ldBr', ldI', ldU', ldL', ldS_pol, ldS_bud, ldF_p0, ldF_p1, ldF_p2, ldF_b0, ldF_b1, ldF_b2, stP', stB', stPr', stBr', stI', stU', stT', stL, polLen, budLen, layP, layB, layB0, layB1, layB2, faP0, faP1, faP2, faB0, faB1, faB2, faPr0, faPr1, faPr2, faBr0, faBr1, faBr2, List.length_nil, List.length_cons, List.length_append, Nat.reduceAdd, Nat.reduceLeDiff, List.set_cons_zero, List.set_cons_succ, and_self, true_and, Nat.le_refl, apure_max, apure_min, maxV, minV, finish, ares, aresL, ares1_tmp, ares1_cell, aresC_adr, aextract, cbFo, cbEi, cbFl, cbHld, h1, h2, h3, h4, hc, leq32, d1, apure_build3s, buildB3]
end
end Go.Am.Seat

/-
  A budget's reading where it ends too soon (own work).
-/
set_option linter.unusedSimpArgs false
set_option linter.unusedVariables false
namespace Go.Am.Seat
open Go.Proofs Go.Am
set_option maxRecDepth 100000

section
variable {N : Nat} {m : Mem} {b0 : Blk} {l p q r : List UInt8} {x : UInt8}
theorem brd_a_no (hN : 8 ≤ N) (hl : l.length < 4) : abody E (RQ (N + 4)) (N + 5) 27 [adr m 1 0] (ap m [b0, rdR l]) = none := by
  rw [abody_eqF (by kernel_rfl) Try.func27 bodybrd (by kernel_rfl) (Nat.le_of_ble_eq_true rfl)]
  rw [show Try.f27.ntmps = 16 from rfl]
  obtain ⟨h1, h1p⟩ := fo_no (N := N + 1) (m := m) (L := [b0, rdR l, .row false 26 (budC 0 0 false)]) (k := 1) hl rfl
  generalize RQ (N + 4) = slf at *
  generalize RP (N + 4) = slp at *
  try simp only [List.set_cons_succ, List.set_cons_zero] at *
  simp only [ebrd_0, ebrd_1, ebrd_2, ebrd_3, lbrd_0, lbrd_1, lbrd_2, lbrd_3, agd_none, gdAt, gdV_bool, gdV_undef, Try.f27, List.append_eq, List.cons_append, List.nil_append, apure_call1, apure_call2, apure_call3, bft, btf, acodeN, List.getElem?_toArray, List.getElem?_cons_zero, List.getElem?_cons_succ, aopsN, adrawT, cls, astep, aop, afloat, ev, nth_lst, get_lst, aput, setAt_lst, upd_at, init_zero, init_succ, init_nil, Nat.reduceLT, Nat.reduceEqDiff, reduceIte, abuiltin, Option.map_some, Option.map_none, orElse_some, apure_add, List.map_cons, List.map_nil, List.all_cons, List.all_nil, lit2, lit1, lit0, List.isEmpty_nil, Bool.and_self, Bool.and_true, Bool.true_and, Bool.false_and, Bool.and_false, Bool.not_true, Bool.not_false, Bool.or_true, Bool.true_or, Bool.false_or, Bool.or_false, Bool.false_eq_true, if_true, if_false, List.length_map, beq_self_eq_true, und3, und4, und5, und9, eqlV9_int, neqV9_int, eqlV9_bool, neqV9_bool, eqlV9_str, neqV9_str, eqlB, neqB, eqlBr, neqBr, ↓aop_eqlV9, ↓aop_neqV9, ↓afloat_eqlV9, ↓afloat_neqV9, apure_eqlV9, apure_neqV9, eqlW, neqW, eqlI64, neqI64, aload_sealed, adB, adBr, adU, adE, wrWi, wrLt, wrFr, wrBk, wrCk, wrRl, wrRb, cbWi, cbAt, cbSp, cbLt, cbFr, cbBk, cbCk, cbRa, cbRs, cbRl, cbRb, cbMay, cbLk, cbLo, cbRe, cbSg, cbAw, bxP, bxB, bxPr, bxBr, alP, alB, alPr, alBr, ldP', ldB', ldPr', ldBr', ldI', ldU', ldL', ldS_pol, ldS_bud, ldF_p0, ldF_p1, ldF_p2, ldF_b0, ldF_b1, ldF_b2, stP', stB', stPr', stBr', stI', stU', stT', stL, polLen, budLen, layP, layB, layB0, layB1, layB2, faP0, faP1, faP2, faB0, faB1, faB2, faPr0, faPr1, faPr2, faBr0, faBr1, faBr2, List.length_nil, List.length_cons, List.length_append, Nat.reduceAdd, Nat.reduceLeDiff, List.set_cons_zero, List.set_cons_succ, and_self, true_and, Nat.le_refl, apure_max, apure_min, maxV, minV, finish, ares, aresL, ares1_tmp, ares1_cell, aresC_adr, aextract, cbFo, cbEi, cbFl, cbHld, leq32, apure_build3s, buildB3, h1, h1p]
theorem brd_a_pan (hN : 8 ≤ N) (hl : l.length < 4) : ∃ m', abodyP E (RQ (N + 4)) (RP (N + 4)) (N + 5) 27 [adr m 1 0] (ap m [b0, rdR l]) = some (ref9 4, m') := by
  rw [abodyP_eqF (by kernel_rfl) Try.func27 bodybrd (by kernel_rfl) (Nat.le_of_ble_eq_true rfl)]
  rw [show Try.f27.ntmps = 16 from rfl]
  obtain ⟨h1, h1p⟩ := fo_no (N := N + 1) (m := m) (L := [b0, rdR l, .row false 26 (budC 0 0 false)]) (k := 1) hl rfl
  generalize RQ (N + 4) = slf at *
  generalize RP (N + 4) = slp at *
  try simp only [List.set_cons_succ, List.set_cons_zero] at *
  simp only [ebrd_0, ebrd_1, ebrd_2, ebrd_3, lbrd_0, lbrd_1, lbrd_2, lbrd_3, agd_none, gdAt, gdV_bool, gdV_undef, Try.f27, List.append_eq, List.cons_append, List.nil_append, apure_call1, apure_call2, apure_call3, bft, btf, acodeN, List.getElem?_toArray, List.getElem?_cons_zero, List.getElem?_cons_succ, aopsN, adrawT, cls, astep, aop, afloat, ev, nth_lst, get_lst, aput, setAt_lst, upd_at, init_zero, init_succ, init_nil, Nat.reduceLT, Nat.reduceEqDiff, reduceIte, abuiltin, Option.map_some, Option.map_none, orElse_some, apure_add, List.map_cons, List.map_nil, List.all_cons, List.all_nil, lit2, lit1, lit0, List.isEmpty_nil, Bool.and_self, Bool.and_true, Bool.true_and, Bool.false_and, Bool.and_false, Bool.not_true, Bool.not_false, Bool.or_true, Bool.true_or, Bool.false_or, Bool.or_false, Bool.false_eq_true, if_true, if_false, List.length_map, beq_self_eq_true, und3, und4, und5, und9, eqlV9_int, neqV9_int, eqlV9_bool, neqV9_bool, eqlV9_str, neqV9_str, eqlB, neqB, eqlBr, neqBr, ↓aop_eqlV9, ↓aop_neqV9, ↓afloat_eqlV9, ↓afloat_neqV9, apure_eqlV9, apure_neqV9, eqlW, neqW, eqlI64, neqI64, aload_sealed, adB, adBr, adU, adE, wrWi, wrLt, wrFr, wrBk, wrCk, wrRl, wrRb, cbWi, cbAt, cbSp, cbLt, cbFr, cbBk, cbCk, cbRa, cbRs, cbRl, cbRb, cbMay, cbLk, cbLo, cbRe, cbSg, cbAw, bxP, bxB, bxPr, bxBr, alP, alB, alPr, alBr, ldP', ldB', ldPr', ldBr', ldI', ldU', ldL', ldS_pol, ldS_bud, ldF_p0, ldF_p1, ldF_p2, ldF_b0, ldF_b1, ldF_b2, stP', stB', stPr', stBr', stI', stU', stT', stL, polLen, budLen, layP, layB, layB0, layB1, layB2, faP0, faP1, faP2, faB0, faB1, faB2, faPr0, faPr1, faPr2, faBr0, faBr1, faBr2, List.length_nil, List.length_cons, List.length_append, Nat.reduceAdd, Nat.reduceLeDiff, List.set_cons_zero, List.set_cons_succ, and_self, true_and, Nat.le_refl, apure_max, apure_min, maxV, minV, finish, ares, aresL, ares1_tmp, ares1_cell, aresC_adr, aextract, cbFo, cbEi, cbFl, cbHld, leq32, apure_build3s, buildB3, h1, h1p, acodePN, aopsPN, apan, finishP]
  exact ⟨_, rfl⟩
theorem brd_b_no (hN : 8 ≤ N) (hp : p.length = 4) (hv : 2147483647 < nb p) : abody E (RQ (N + 4)) (N + 5) 27 [adr m 1 0] (ap m [b0, rdR (p ++ l)]) = none := by
  rw [abody_eqF (by kernel_rfl) Try.func27 bodybrd (by kernel_rfl) (Nat.le_of_ble_eq_true rfl)]
  rw [show Try.f27.ntmps = 16 from rfl]
  have h1 := fo_ok (N := N + 1) (m := m) (L := [b0, rdR (p ++ l), .row false 26 (budC 0 0 false)]) (k := 1) hp rfl (by omega)
  have h4 := fun e M => hold_N (N := N + 3) (e := e) M
  have h4p := fun e M => hold_P (N := N + 3) (e := e) M
  have d1 : decide (((nb p : Nat) : Int) ≤ 2147483647) = false := decide_eq_false (by omega)
  generalize RQ (N + 4) = slf at *
  generalize RP (N + 4) = slp at *
  try simp only [List.set_cons_succ, List.set_cons_zero] at *
  simp only [ebrd_0, ebrd_1, ebrd_2, ebrd_3, lbrd_0, lbrd_1, lbrd_2, lbrd_3, agd_none, gdAt, gdV_bool, gdV_undef, Try.f27, List.append_eq, List.cons_append, List.nil_append, apure_call1, apure_call2, apure_call3, bft, btf, acodeN, List.getElem?_toArray, List.getElem?_cons_zero, List.getElem?_cons_succ, aopsN, adrawT, cls, astep, aop, afloat, ev, nth_lst, get_lst, aput, setAt_lst, upd_at, init_zero, init_succ, init_nil, Nat.reduceLT, Nat.reduceEqDiff, reduceIte, abuiltin, Option.map_some, Option.map_none, orElse_some, apure_add, List.map_cons, List.map_nil, List.all_cons, List.all_nil, lit2, lit1, lit0, List.isEmpty_nil, Bool.and_self, Bool.and_true, Bool.true_and, Bool.false_and, Bool.and_false, Bool.not_true, Bool.not_false, Bool.or_true, Bool.true_or, Bool.false_or, Bool.or_false, Bool.false_eq_true, if_true, if_false, List.length_map, beq_self_eq_true, und3, und4, und5, und9, eqlV9_int, neqV9_int, eqlV9_bool, neqV9_bool, eqlV9_str, neqV9_str, eqlB, neqB, eqlBr, neqBr, ↓aop_eqlV9, ↓aop_neqV9, ↓afloat_eqlV9, ↓afloat_neqV9, apure_eqlV9, apure_neqV9, eqlW, neqW, eqlI64, neqI64, aload_sealed, adB, adBr, adU, adE, wrWi, wrLt, wrFr, wrBk, wrCk, wrRl, wrRb, cbWi, cbAt, cbSp, cbLt, cbFr, cbBk, cbCk, cbRa, cbRs, cbRl, cbRb, cbMay, cbLk, cbLo, cbRe, cbSg, cbAw, bxP, bxB, bxPr, bxBr, alP, alB, alPr, alBr, ldP', ldB', ldPr', ldBr', ldI', ldU', ldL', ldS_pol, ldS_bud, ldF_p0, ldF_p1, ldF_p2, ldF_b0, ldF_b1, ldF_b2, stP', stB', stPr', stBr', stI', stU', stT', stL, polLen, budLen, layP, layB, layB0, layB1, layB2, faP0, faP1, faP2, faB0, faB1, faB2, faPr0, faPr1, faPr2, faBr0, faBr1, faBr2, List.length_nil, List.length_cons, List.length_append, Nat.reduceAdd, Nat.reduceLeDiff, List.set_cons_zero, List.set_cons_succ, and_self, true_and, Nat.le_refl, apure_max, apure_min, maxV, minV, finish, ares, aresL, ares1_tmp, ares1_cell, aresC_adr, aextract, cbFo, cbEi, cbFl, cbHld, leq32, apure_build3s, buildB3, h1, h4, h4p, d1]
theorem brd_b_pan (hN : 8 ≤ N) (hp : p.length = 4) (hv : 2147483647 < nb p) : ∃ m', abodyP E (RQ (N + 4)) (RP (N + 4)) (N + 5) 27 [adr m 1 0] (ap m [b0, rdR (p ++ l)]) = some (ref9 4, m') := by
  rw [abodyP_eqF (by kernel_rfl) Try.func27 bodybrd (by kernel_rfl) (Nat.le_of_ble_eq_true rfl)]
  rw [show Try.f27.ntmps = 16 from rfl]
  have h1 := fo_ok (N := N + 1) (m := m) (L := [b0, rdR (p ++ l), .row false 26 (budC 0 0 false)]) (k := 1) hp rfl (by omega)
  have h4 := fun e M => hold_N (N := N + 3) (e := e) M
  have h4p := fun e M => hold_P (N := N + 3) (e := e) M
  have d1 : decide (((nb p : Nat) : Int) ≤ 2147483647) = false := decide_eq_false (by omega)
  generalize RQ (N + 4) = slf at *
  generalize RP (N + 4) = slp at *
  try simp only [List.set_cons_succ, List.set_cons_zero] at *
  simp only [ebrd_0, ebrd_1, ebrd_2, ebrd_3, lbrd_0, lbrd_1, lbrd_2, lbrd_3, agd_none, gdAt, gdV_bool, gdV_undef, Try.f27, List.append_eq, List.cons_append, List.nil_append, apure_call1, apure_call2, apure_call3, bft, btf, acodeN, List.getElem?_toArray, List.getElem?_cons_zero, List.getElem?_cons_succ, aopsN, adrawT, cls, astep, aop, afloat, ev, nth_lst, get_lst, aput, setAt_lst, upd_at, init_zero, init_succ, init_nil, Nat.reduceLT, Nat.reduceEqDiff, reduceIte, abuiltin, Option.map_some, Option.map_none, orElse_some, apure_add, List.map_cons, List.map_nil, List.all_cons, List.all_nil, lit2, lit1, lit0, List.isEmpty_nil, Bool.and_self, Bool.and_true, Bool.true_and, Bool.false_and, Bool.and_false, Bool.not_true, Bool.not_false, Bool.or_true, Bool.true_or, Bool.false_or, Bool.or_false, Bool.false_eq_true, if_true, if_false, List.length_map, beq_self_eq_true, und3, und4, und5, und9, eqlV9_int, neqV9_int, eqlV9_bool, neqV9_bool, eqlV9_str, neqV9_str, eqlB, neqB, eqlBr, neqBr, ↓aop_eqlV9, ↓aop_neqV9, ↓afloat_eqlV9, ↓afloat_neqV9, apure_eqlV9, apure_neqV9, eqlW, neqW, eqlI64, neqI64, aload_sealed, adB, adBr, adU, adE, wrWi, wrLt, wrFr, wrBk, wrCk, wrRl, wrRb, cbWi, cbAt, cbSp, cbLt, cbFr, cbBk, cbCk, cbRa, cbRs, cbRl, cbRb, cbMay, cbLk, cbLo, cbRe, cbSg, cbAw, bxP, bxB, bxPr, bxBr, alP, alB, alPr, alBr, ldP', ldB', ldPr', ldBr', ldI', ldU', ldL', ldS_pol, ldS_bud, ldF_p0, ldF_p1, ldF_p2, ldF_b0, ldF_b1, ldF_b2, stP', stB', stPr', stBr', stI', stU', stT', stL, polLen, budLen, layP, layB, layB0, layB1, layB2, faP0, faP1, faP2, faB0, faB1, faB2, faPr0, faPr1, faPr2, faBr0, faBr1, faBr2, List.length_nil, List.length_cons, List.length_append, Nat.reduceAdd, Nat.reduceLeDiff, List.set_cons_zero, List.set_cons_succ, and_self, true_and, Nat.le_refl, apure_max, apure_min, maxV, minV, finish, ares, aresL, ares1_tmp, ares1_cell, aresC_adr, aextract, cbFo, cbEi, cbFl, cbHld, leq32, apure_build3s, buildB3, h1, h4, h4p, d1, acodePN, aopsPN, apan, finishP]
  exact ⟨_, rfl⟩
theorem brd_c_no (hN : 8 ≤ N) (hp : p.length = 4) (hv : nb p ≤ 2147483647) (hl : l.length < 8) : abody E (RQ (N + 4)) (N + 5) 27 [adr m 1 0] (ap m [b0, rdR (p ++ l)]) = none := by
  rw [abody_eqF (by kernel_rfl) Try.func27 bodybrd (by kernel_rfl) (Nat.le_of_ble_eq_true rfl)]
  rw [show Try.f27.ntmps = 16 from rfl]
  have h1 := fo_ok (N := N + 1) (m := m) (L := [b0, rdR (p ++ l), .row false 26 (budC 0 0 false)]) (k := 1) hp rfl (by omega)
  obtain ⟨h2, h2p⟩ := ei_no (N := N + 1) (m := m) (L := [b0, rdR l, .row false 26 (budC 0 0 false)]) (k := 1) hl rfl
  have h4 := fun e M => hold_T (N := N + 3) (e := e) M
  have hc := cv32 (n := nb p) (by omega)
  have d1 : decide (((nb p : Nat) : Int) ≤ 2147483647) = true := decide_eq_true (by omega)
  generalize RQ (N + 4) = slf at *
  generalize RP (N + 4) = slp at *
  try simp only [List.set_cons_succ, List.set_cons_zero] at *
  simp only [ebrd_0, ebrd_1, ebrd_2, ebrd_3, lbrd_0, lbrd_1, lbrd_2, lbrd_3, agd_none, gdAt, gdV_bool, gdV_undef, Try.f27, List.append_eq, List.cons_append, List.nil_append, apure_call1, apure_call2, apure_call3, bft, btf, acodeN, List.getElem?_toArray, List.getElem?_cons_zero, List.getElem?_cons_succ, aopsN, adrawT, cls, astep, aop, afloat, ev, nth_lst, get_lst, aput, setAt_lst, upd_at, init_zero, init_succ, init_nil, Nat.reduceLT, Nat.reduceEqDiff, reduceIte, abuiltin, Option.map_some, Option.map_none, orElse_some, apure_add, List.map_cons, List.map_nil, List.all_cons, List.all_nil, lit2, lit1, lit0, List.isEmpty_nil, Bool.and_self, Bool.and_true, Bool.true_and, Bool.false_and, Bool.and_false, Bool.not_true, Bool.not_false, Bool.or_true, Bool.true_or, Bool.false_or, Bool.or_false, Bool.false_eq_true, if_true, if_false, List.length_map, beq_self_eq_true, und3, und4, und5, und9, eqlV9_int, neqV9_int, eqlV9_bool, neqV9_bool, eqlV9_str, neqV9_str, eqlB, neqB, eqlBr, neqBr, ↓aop_eqlV9, ↓aop_neqV9, ↓afloat_eqlV9, ↓afloat_neqV9, apure_eqlV9, apure_neqV9, eqlW, neqW, eqlI64, neqI64, aload_sealed, adB, adBr, adU, adE, wrWi, wrLt, wrFr, wrBk, wrCk, wrRl, wrRb, cbWi, cbAt, cbSp, cbLt, cbFr, cbBk, cbCk, cbRa, cbRs, cbRl, cbRb, cbMay, cbLk, cbLo, cbRe, cbSg, cbAw, bxP, bxB, bxPr, bxBr, alP, alB, alPr, alBr, ldP', ldB', ldPr', ldBr', ldI', ldU', ldL', ldS_pol, ldS_bud, ldF_p0, ldF_p1, ldF_p2, ldF_b0, ldF_b1, ldF_b2, stP', stB', stPr', stBr', stI', stU', stT', stL, polLen, budLen, layP, layB, layB0, layB1, layB2, faP0, faP1, faP2, faB0, faB1, faB2, faPr0, faPr1, faPr2, faBr0, faBr1, faBr2, List.length_nil, List.length_cons, List.length_append, Nat.reduceAdd, Nat.reduceLeDiff, List.set_cons_zero, List.set_cons_succ, and_self, true_and, Nat.le_refl, apure_max, apure_min, maxV, minV, finish, ares, aresL, ares1_tmp, ares1_cell, aresC_adr, aextract, cbFo, cbEi, cbFl, cbHld, leq32, apure_build3s, buildB3, h1, h4, hc, d1, h2, h2p]
theorem brd_c_pan (hN : 8 ≤ N) (hp : p.length = 4) (hv : nb p ≤ 2147483647) (hl : l.length < 8) : ∃ m', abodyP E (RQ (N + 4)) (RP (N + 4)) (N + 5) 27 [adr m 1 0] (ap m [b0, rdR (p ++ l)]) = some (ref9 4, m') := by
  rw [abodyP_eqF (by kernel_rfl) Try.func27 bodybrd (by kernel_rfl) (Nat.le_of_ble_eq_true rfl)]
  rw [show Try.f27.ntmps = 16 from rfl]
  have h1 := fo_ok (N := N + 1) (m := m) (L := [b0, rdR (p ++ l), .row false 26 (budC 0 0 false)]) (k := 1) hp rfl (by omega)
  obtain ⟨h2, h2p⟩ := ei_no (N := N + 1) (m := m) (L := [b0, rdR l, .row false 26 (budC 0 0 false)]) (k := 1) hl rfl
  have h4 := fun e M => hold_T (N := N + 3) (e := e) M
  have hc := cv32 (n := nb p) (by omega)
  have d1 : decide (((nb p : Nat) : Int) ≤ 2147483647) = true := decide_eq_true (by omega)
  generalize RQ (N + 4) = slf at *
  generalize RP (N + 4) = slp at *
  try simp only [List.set_cons_succ, List.set_cons_zero] at *
  simp only [ebrd_0, ebrd_1, ebrd_2, ebrd_3, lbrd_0, lbrd_1, lbrd_2, lbrd_3, agd_none, gdAt, gdV_bool, gdV_undef, Try.f27, List.append_eq, List.cons_append, List.nil_append, apure_call1, apure_call2, apure_call3, bft, btf, acodeN, List.getElem?_toArray, List.getElem?_cons_zero, List.getElem?_cons_succ, aopsN, adrawT, cls, astep, aop, afloat, ev, nth_lst, get_lst, aput, setAt_lst, upd_at, init_zero, init_succ, init_nil, Nat.reduceLT, Nat.reduceEqDiff, reduceIte, abuiltin, Option.map_some, Option.map_none, orElse_some, apure_add, List.map_cons, List.map_nil, List.all_cons, List.all_nil, lit2, lit1, lit0, List.isEmpty_nil, Bool.and_self, Bool.and_true, Bool.true_and, Bool.false_and, Bool.and_false, Bool.not_true, Bool.not_false, Bool.or_true, Bool.true_or, Bool.false_or, Bool.or_false, Bool.false_eq_true, if_true, if_false, List.length_map, beq_self_eq_true, und3, und4, und5, und9, eqlV9_int, neqV9_int, eqlV9_bool, neqV9_bool, eqlV9_str, neqV9_str, eqlB, neqB, eqlBr, neqBr, ↓aop_eqlV9, ↓aop_neqV9, ↓afloat_eqlV9, ↓afloat_neqV9, apure_eqlV9, apure_neqV9, eqlW, neqW, eqlI64, neqI64, aload_sealed, adB, adBr, adU, adE, wrWi, wrLt, wrFr, wrBk, wrCk, wrRl, wrRb, cbWi, cbAt, cbSp, cbLt, cbFr, cbBk, cbCk, cbRa, cbRs, cbRl, cbRb, cbMay, cbLk, cbLo, cbRe, cbSg, cbAw, bxP, bxB, bxPr, bxBr, alP, alB, alPr, alBr, ldP', ldB', ldPr', ldBr', ldI', ldU', ldL', ldS_pol, ldS_bud, ldF_p0, ldF_p1, ldF_p2, ldF_b0, ldF_b1, ldF_b2, stP', stB', stPr', stBr', stI', stU', stT', stL, polLen, budLen, layP, layB, layB0, layB1, layB2, faP0, faP1, faP2, faB0, faB1, faB2, faPr0, faPr1, faPr2, faBr0, faBr1, faBr2, List.length_nil, List.length_cons, List.length_append, Nat.reduceAdd, Nat.reduceLeDiff, List.set_cons_zero, List.set_cons_succ, and_self, true_and, Nat.le_refl, apure_max, apure_min, maxV, minV, finish, ares, aresL, ares1_tmp, ares1_cell, aresC_adr, aextract, cbFo, cbEi, cbFl, cbHld, leq32, apure_build3s, buildB3, h1, h4, hc, d1, h2, h2p, acodePN, aopsPN, apan, finishP]
  exact ⟨_, rfl⟩
theorem brd_d_no (hN : 8 ≤ N) (hp : p.length = 4) (hv : nb p ≤ 2147483647) (hq : q.length = 8) : abody E (RQ (N + 4)) (N + 5) 27 [adr m 1 0] (ap m [b0, rdR (p ++ (q ++ []))]) = none := by
  rw [abody_eqF (by kernel_rfl) Try.func27 bodybrd (by kernel_rfl) (Nat.le_of_ble_eq_true rfl)]
  rw [show Try.f27.ntmps = 16 from rfl]
  have h1 := fo_ok (N := N + 1) (m := m) (L := [b0, rdR (p ++ (q ++ [])), .row false 26 (budC 0 0 false)]) (k := 1) hp rfl (by omega)
  have h2 := ei_ok (N := N + 1) (m := m) (L := [b0, rdR (q ++ []), .row false 26 (budC 0 0 false)]) (k := 1) hq rfl (by omega)
  obtain ⟨h3, h3p⟩ := fl_no (N := N) (m := m) (L := [b0, rdR [], .row false 26 (budC 0 0 false)]) (k := 1) rfl
  have h4 := fun e M => hold_T (N := N + 3) (e := e) M
  have hc := cv32 (n := nb p) (by omega)
  have d1 : decide (((nb p : Nat) : Int) ≤ 2147483647) = true := decide_eq_true (by omega)
  generalize RQ (N + 4) = slf at *
  generalize RP (N + 4) = slp at *
  try simp only [List.set_cons_succ, List.set_cons_zero] at *
  simp only [ebrd_0, ebrd_1, ebrd_2, ebrd_3, lbrd_0, lbrd_1, lbrd_2, lbrd_3, agd_none, gdAt, gdV_bool, gdV_undef, Try.f27, List.append_eq, List.cons_append, List.nil_append, apure_call1, apure_call2, apure_call3, bft, btf, acodeN, List.getElem?_toArray, List.getElem?_cons_zero, List.getElem?_cons_succ, aopsN, adrawT, cls, astep, aop, afloat, ev, nth_lst, get_lst, aput, setAt_lst, upd_at, init_zero, init_succ, init_nil, Nat.reduceLT, Nat.reduceEqDiff, reduceIte, abuiltin, Option.map_some, Option.map_none, orElse_some, apure_add, List.map_cons, List.map_nil, List.all_cons, List.all_nil, lit2, lit1, lit0, List.isEmpty_nil, Bool.and_self, Bool.and_true, Bool.true_and, Bool.false_and, Bool.and_false, Bool.not_true, Bool.not_false, Bool.or_true, Bool.true_or, Bool.false_or, Bool.or_false, Bool.false_eq_true, if_true, if_false, List.length_map, beq_self_eq_true, und3, und4, und5, und9, eqlV9_int, neqV9_int, eqlV9_bool, neqV9_bool, eqlV9_str, neqV9_str, eqlB, neqB, eqlBr, neqBr, ↓aop_eqlV9, ↓aop_neqV9, ↓afloat_eqlV9, ↓afloat_neqV9, apure_eqlV9, apure_neqV9, eqlW, neqW, eqlI64, neqI64, aload_sealed, adB, adBr, adU, adE, wrWi, wrLt, wrFr, wrBk, wrCk, wrRl, wrRb, cbWi, cbAt, cbSp, cbLt, cbFr, cbBk, cbCk, cbRa, cbRs, cbRl, cbRb, cbMay, cbLk, cbLo, cbRe, cbSg, cbAw, bxP, bxB, bxPr, bxBr, alP, alB, alPr, alBr, ldP', ldB', ldPr', ldBr', ldI', ldU', ldL', ldS_pol, ldS_bud, ldF_p0, ldF_p1, ldF_p2, ldF_b0, ldF_b1, ldF_b2, stP', stB', stPr', stBr', stI', stU', stT', stL, polLen, budLen, layP, layB, layB0, layB1, layB2, faP0, faP1, faP2, faB0, faB1, faB2, faPr0, faPr1, faPr2, faBr0, faBr1, faBr2, List.length_nil, List.length_cons, List.length_append, Nat.reduceAdd, Nat.reduceLeDiff, List.set_cons_zero, List.set_cons_succ, and_self, true_and, Nat.le_refl, apure_max, apure_min, maxV, minV, finish, ares, aresL, ares1_tmp, ares1_cell, aresC_adr, aextract, cbFo, cbEi, cbFl, cbHld, leq32, apure_build3s, buildB3, h1, h4, hc, d1, h2, h3, h3p]
theorem brd_d_pan (hN : 8 ≤ N) (hp : p.length = 4) (hv : nb p ≤ 2147483647) (hq : q.length = 8) : ∃ m', abodyP E (RQ (N + 4)) (RP (N + 4)) (N + 5) 27 [adr m 1 0] (ap m [b0, rdR (p ++ (q ++ []))]) = some (ref9 4, m') := by
  rw [abodyP_eqF (by kernel_rfl) Try.func27 bodybrd (by kernel_rfl) (Nat.le_of_ble_eq_true rfl)]
  rw [show Try.f27.ntmps = 16 from rfl]
  have h1 := fo_ok (N := N + 1) (m := m) (L := [b0, rdR (p ++ (q ++ [])), .row false 26 (budC 0 0 false)]) (k := 1) hp rfl (by omega)
  have h2 := ei_ok (N := N + 1) (m := m) (L := [b0, rdR (q ++ []), .row false 26 (budC 0 0 false)]) (k := 1) hq rfl (by omega)
  obtain ⟨h3, h3p⟩ := fl_no (N := N) (m := m) (L := [b0, rdR [], .row false 26 (budC 0 0 false)]) (k := 1) rfl
  have h4 := fun e M => hold_T (N := N + 3) (e := e) M
  have hc := cv32 (n := nb p) (by omega)
  have d1 : decide (((nb p : Nat) : Int) ≤ 2147483647) = true := decide_eq_true (by omega)
  generalize RQ (N + 4) = slf at *
  generalize RP (N + 4) = slp at *
  try simp only [List.set_cons_succ, List.set_cons_zero] at *
  simp only [ebrd_0, ebrd_1, ebrd_2, ebrd_3, lbrd_0, lbrd_1, lbrd_2, lbrd_3, agd_none, gdAt, gdV_bool, gdV_undef, Try.f27, List.append_eq, List.cons_append, List.nil_append, apure_call1, apure_call2, apure_call3, bft, btf, acodeN, List.getElem?_toArray, List.getElem?_cons_zero, List.getElem?_cons_succ, aopsN, adrawT, cls, astep, aop, afloat, ev, nth_lst, get_lst, aput, setAt_lst, upd_at, init_zero, init_succ, init_nil, Nat.reduceLT, Nat.reduceEqDiff, reduceIte, abuiltin, Option.map_some, Option.map_none, orElse_some, apure_add, List.map_cons, List.map_nil, List.all_cons, List.all_nil, lit2, lit1, lit0, List.isEmpty_nil, Bool.and_self, Bool.and_true, Bool.true_and, Bool.false_and, Bool.and_false, Bool.not_true, Bool.not_false, Bool.or_true, Bool.true_or, Bool.false_or, Bool.or_false, Bool.false_eq_true, if_true, if_false, List.length_map, beq_self_eq_true, und3, und4, und5, und9, eqlV9_int, neqV9_int, eqlV9_bool, neqV9_bool, eqlV9_str, neqV9_str, eqlB, neqB, eqlBr, neqBr, ↓aop_eqlV9, ↓aop_neqV9, ↓afloat_eqlV9, ↓afloat_neqV9, apure_eqlV9, apure_neqV9, eqlW, neqW, eqlI64, neqI64, aload_sealed, adB, adBr, adU, adE, wrWi, wrLt, wrFr, wrBk, wrCk, wrRl, wrRb, cbWi, cbAt, cbSp, cbLt, cbFr, cbBk, cbCk, cbRa, cbRs, cbRl, cbRb, cbMay, cbLk, cbLo, cbRe, cbSg, cbAw, bxP, bxB, bxPr, bxBr, alP, alB, alPr, alBr, ldP', ldB', ldPr', ldBr', ldI', ldU', ldL', ldS_pol, ldS_bud, ldF_p0, ldF_p1, ldF_p2, ldF_b0, ldF_b1, ldF_b2, stP', stB', stPr', stBr', stI', stU', stT', stL, polLen, budLen, layP, layB, layB0, layB1, layB2, faP0, faP1, faP2, faB0, faB1, faB2, faPr0, faPr1, faPr2, faBr0, faBr1, faBr2, List.length_nil, List.length_cons, List.length_append, Nat.reduceAdd, Nat.reduceLeDiff, List.set_cons_zero, List.set_cons_succ, and_self, true_and, Nat.le_refl, apure_max, apure_min, maxV, minV, finish, ares, aresL, ares1_tmp, ares1_cell, aresC_adr, aextract, cbFo, cbEi, cbFl, cbHld, leq32, apure_build3s, buildB3, h1, h4, hc, d1, h2, h3, h3p, acodePN, aopsPN, apan, finishP]
  exact ⟨_, rfl⟩
theorem brd_e_no (hN : 8 ≤ N) (hp : p.length = 4) (hv : nb p ≤ 2147483647) (hq : q.length = 8) (hx : 1 < x.toNat) : abody E (RQ (N + 4)) (N + 5) 27 [adr m 1 0] (ap m [b0, rdR (p ++ (q ++ x :: r))]) = none := by
  rw [abody_eqF (by kernel_rfl) Try.func27 bodybrd (by kernel_rfl) (Nat.le_of_ble_eq_true rfl)]
  rw [show Try.f27.ntmps = 16 from rfl]
  have h1 := fo_ok (N := N + 1) (m := m) (L := [b0, rdR (p ++ (q ++ x :: r)), .row false 26 (budC 0 0 false)]) (k := 1) hp rfl (by omega)
  have h2 := ei_ok (N := N + 1) (m := m) (L := [b0, rdR (q ++ (x :: r)), .row false 26 (budC 0 0 false)]) (k := 1) hq rfl (by omega)
  obtain ⟨h3, h3p⟩ := fl_no2 (N := N) (m := m) (L := [b0, rdR (x :: r), .row false 26 (budC 0 0 false)]) (k := 1) rfl hx
  have h4 := fun e M => hold_T (N := N + 3) (e := e) M
  have hc := cv32 (n := nb p) (by omega)
  have d1 : decide (((nb p : Nat) : Int) ≤ 2147483647) = true := decide_eq_true (by omega)
  generalize RQ (N + 4) = slf at *
  generalize RP (N + 4) = slp at *
  try simp only [List.set_cons_succ, List.set_cons_zero] at *
  simp only [ebrd_0, ebrd_1, ebrd_2, ebrd_3, lbrd_0, lbrd_1, lbrd_2, lbrd_3, agd_none, gdAt, gdV_bool, gdV_undef, Try.f27, List.append_eq, List.cons_append, List.nil_append, apure_call1, apure_call2, apure_call3, bft, btf, acodeN, List.getElem?_toArray, List.getElem?_cons_zero, List.getElem?_cons_succ, aopsN, adrawT, cls, astep, aop, afloat, ev, nth_lst, get_lst, aput, setAt_lst, upd_at, init_zero, init_succ, init_nil, Nat.reduceLT, Nat.reduceEqDiff, reduceIte, abuiltin, Option.map_some, Option.map_none, orElse_some, apure_add, List.map_cons, List.map_nil, List.all_cons, List.all_nil, lit2, lit1, lit0, List.isEmpty_nil, Bool.and_self, Bool.and_true, Bool.true_and, Bool.false_and, Bool.and_false, Bool.not_true, Bool.not_false, Bool.or_true, Bool.true_or, Bool.false_or, Bool.or_false, Bool.false_eq_true, if_true, if_false, List.length_map, beq_self_eq_true, und3, und4, und5, und9, eqlV9_int, neqV9_int, eqlV9_bool, neqV9_bool, eqlV9_str, neqV9_str, eqlB, neqB, eqlBr, neqBr, ↓aop_eqlV9, ↓aop_neqV9, ↓afloat_eqlV9, ↓afloat_neqV9, apure_eqlV9, apure_neqV9, eqlW, neqW, eqlI64, neqI64, aload_sealed, adB, adBr, adU, adE, wrWi, wrLt, wrFr, wrBk, wrCk, wrRl, wrRb, cbWi, cbAt, cbSp, cbLt, cbFr, cbBk, cbCk, cbRa, cbRs, cbRl, cbRb, cbMay, cbLk, cbLo, cbRe, cbSg, cbAw, bxP, bxB, bxPr, bxBr, alP, alB, alPr, alBr, ldP', ldB', ldPr', ldBr', ldI', ldU', ldL', ldS_pol, ldS_bud, ldF_p0, ldF_p1, ldF_p2, ldF_b0, ldF_b1, ldF_b2, stP', stB', stPr', stBr', stI', stU', stT', stL, polLen, budLen, layP, layB, layB0, layB1, layB2, faP0, faP1, faP2, faB0, faB1, faB2, faPr0, faPr1, faPr2, faBr0, faBr1, faBr2, List.length_nil, List.length_cons, List.length_append, Nat.reduceAdd, Nat.reduceLeDiff, List.set_cons_zero, List.set_cons_succ, and_self, true_and, Nat.le_refl, apure_max, apure_min, maxV, minV, finish, ares, aresL, ares1_tmp, ares1_cell, aresC_adr, aextract, cbFo, cbEi, cbFl, cbHld, leq32, apure_build3s, buildB3, h1, h4, hc, d1, h2, h3, h3p]
theorem brd_e_pan (hN : 8 ≤ N) (hp : p.length = 4) (hv : nb p ≤ 2147483647) (hq : q.length = 8) (hx : 1 < x.toNat) : ∃ m', abodyP E (RQ (N + 4)) (RP (N + 4)) (N + 5) 27 [adr m 1 0] (ap m [b0, rdR (p ++ (q ++ x :: r))]) = some (ref9 4, m') := by
  rw [abodyP_eqF (by kernel_rfl) Try.func27 bodybrd (by kernel_rfl) (Nat.le_of_ble_eq_true rfl)]
  rw [show Try.f27.ntmps = 16 from rfl]
  have h1 := fo_ok (N := N + 1) (m := m) (L := [b0, rdR (p ++ (q ++ x :: r)), .row false 26 (budC 0 0 false)]) (k := 1) hp rfl (by omega)
  have h2 := ei_ok (N := N + 1) (m := m) (L := [b0, rdR (q ++ (x :: r)), .row false 26 (budC 0 0 false)]) (k := 1) hq rfl (by omega)
  obtain ⟨h3, h3p⟩ := fl_no2 (N := N) (m := m) (L := [b0, rdR (x :: r), .row false 26 (budC 0 0 false)]) (k := 1) rfl hx
  have h4 := fun e M => hold_T (N := N + 3) (e := e) M
  have hc := cv32 (n := nb p) (by omega)
  have d1 : decide (((nb p : Nat) : Int) ≤ 2147483647) = true := decide_eq_true (by omega)
  generalize RQ (N + 4) = slf at *
  generalize RP (N + 4) = slp at *
  try simp only [List.set_cons_succ, List.set_cons_zero] at *
  simp only [ebrd_0, ebrd_1, ebrd_2, ebrd_3, lbrd_0, lbrd_1, lbrd_2, lbrd_3, agd_none, gdAt, gdV_bool, gdV_undef, Try.f27, List.append_eq, List.cons_append, List.nil_append, apure_call1, apure_call2, apure_call3, bft, btf, acodeN, List.getElem?_toArray, List.getElem?_cons_zero, List.getElem?_cons_succ, aopsN, adrawT, cls, astep, aop, afloat, ev, nth_lst, get_lst, aput, setAt_lst, upd_at, init_zero, init_succ, init_nil, Nat.reduceLT, Nat.reduceEqDiff, reduceIte, abuiltin, Option.map_some, Option.map_none, orElse_some, apure_add, List.map_cons, List.map_nil, List.all_cons, List.all_nil, lit2, lit1, lit0, List.isEmpty_nil, Bool.and_self, Bool.and_true, Bool.true_and, Bool.false_and, Bool.and_false, Bool.not_true, Bool.not_false, Bool.or_true, Bool.true_or, Bool.false_or, Bool.or_false, Bool.false_eq_true, if_true, if_false, List.length_map, beq_self_eq_true, und3, und4, und5, und9, eqlV9_int, neqV9_int, eqlV9_bool, neqV9_bool, eqlV9_str, neqV9_str, eqlB, neqB, eqlBr, neqBr, ↓aop_eqlV9, ↓aop_neqV9, ↓afloat_eqlV9, ↓afloat_neqV9, apure_eqlV9, apure_neqV9, eqlW, neqW, eqlI64, neqI64, aload_sealed, adB, adBr, adU, adE, wrWi, wrLt, wrFr, wrBk, wrCk, wrRl, wrRb, cbWi, cbAt, cbSp, cbLt, cbFr, cbBk, cbCk, cbRa, cbRs, cbRl, cbRb, cbMay, cbLk, cbLo, cbRe, cbSg, cbAw, bxP, bxB, bxPr, bxBr, alP, alB, alPr, alBr, ldP', ldB', ldPr', ldBr', ldI', ldU', ldL', ldS_pol, ldS_bud, ldF_p0, ldF_p1, ldF_p2, ldF_b0, ldF_b1, ldF_b2, stP', stB', stPr', stBr', stI', stU', stT', stL, polLen, budLen, layP, layB, layB0, layB1, layB2, faP0, faP1, faP2, faB0, faB1, faB2, faPr0, faPr1, faPr2, faBr0, faBr1, faBr2, List.length_nil, List.length_cons, List.length_append, Nat.reduceAdd, Nat.reduceLeDiff, List.set_cons_zero, List.set_cons_succ, and_self, true_and, Nat.le_refl, apure_max, apure_min, maxV, minV, finish, ares, aresL, ares1_tmp, ares1_cell, aresC_adr, aextract, cbFo, cbEi, cbFl, cbHld, leq32, apure_build3s, buildB3, h1, h4, hc, d1, h2, h3, h3p, acodePN, aopsPN, apan, finishP]
  exact ⟨_, rfl⟩

/-- What a text's bytes say of a budget, and what stands behind. -/
def rd9 (l : List UInt8) : Option (Nat × Nat × Bool × List UInt8) :=
  if 13 ≤ l.length ∧ nb (l.take 4) ≤ 2147483647 ∧ (l.getD 12 0).toNat ≤ 1 then some (nb (l.take 4), nb ((l.drop 4).take 8), decide ((l.getD 12 0).toNat = 1), l.drop 13) else none

theorem read_some (hN : 8 ≤ N) {a b : Nat} {c : Bool} (h : rd9 l = some (a, b, c, r)) :
    ainv E (RQ (N + 5)) 27 [adr m 1 0] (ap m [b0, rdR l]) = some (bud a b c, ap m [b0, rdR r, .row false 26 (budC a b c)]) := by
  unfold rd9 at h
  split at h
  · rename_i hc
    obtain ⟨h1, h2, h3⟩ := hc
    cases h
    have e1 : l = l.take 4 ++ ((l.drop 4).take 8 ++ (l.getD 12 0 :: l.drop 13)) := by
      have e2 : l.getD 12 0 :: l.drop 13 = l.drop 12 := by
        rw [List.getD_eq_getElem?_getD, List.getElem?_eq_getElem (by omega)]
        exact (List.drop_eq_getElem_cons (by omega)).symm
      rw [e2, ← List.drop_drop (i := 8) (j := 4), List.take_append_drop, List.take_append_drop]
    rw [ainv_w rfl wrRd]
    have h := brd_ok (N := N) (m := m) (b0 := b0) (p := l.take 4) (q := (l.drop 4).take 8) (r := l.drop 13) hN (by rw [List.length_take]; omega) (by rw [List.length_take, List.length_drop]; omega) h2 h3
    rw [← e1] at h
    exact runQ_1 h
  · cases h
theorem read_none (hN : 8 ≤ N) (h : rd9 l = none) :
    ainv E (RQ (N + 5)) 27 [adr m 1 0] (ap m [b0, rdR l]) = none ∧ ∃ m', ainvP E (RP (N + 5)) 27 [adr m 1 0] (ap m [b0, rdR l]) = some (ref9 4, m') := by
  have key : abody E (RQ (N + 4)) (N + 5) 27 [adr m 1 0] (ap m [b0, rdR l]) = none ∧ ∃ m', abodyP E (RQ (N + 4)) (RP (N + 4)) (N + 5) 27 [adr m 1 0] (ap m [b0, rdR l]) = some (ref9 4, m') := by
    by_cases h4 : l.length < 4
    · exact ⟨brd_a_no hN h4, brd_a_pan hN h4⟩
    have hp : (l.take 4).length = 4 := by rw [List.length_take]; omega
    have e1 : l = l.take 4 ++ l.drop 4 := (List.take_append_drop 4 l).symm
    by_cases hv : nb (l.take 4) ≤ 2147483647
    · by_cases h8 : (l.drop 4).length < 8
      · rw [e1]
        exact ⟨brd_c_no hN hp hv h8, brd_c_pan hN hp hv h8⟩
      have hq : ((l.drop 4).take 8).length = 8 := by rw [List.length_take]; omega
      have e2 : l.drop 4 = (l.drop 4).take 8 ++ l.drop 12 := by
        rw [← List.drop_drop (i := 8) (j := 4), List.take_append_drop]
      rw [List.length_drop] at h8
      by_cases h13 : l.length < 13
      · have e3 : l.drop 12 = [] := List.drop_eq_nil_of_le (by omega)
        rw [e3] at e2
        rw [e1, e2]
        exact ⟨brd_d_no hN hp hv hq, brd_d_pan hN hp hv hq⟩
      · have e3 : l.drop 12 = l.getD 12 0 :: l.drop 13 := by
          rw [List.getD_eq_getElem?_getD, List.getElem?_eq_getElem (by omega)]
          exact List.drop_eq_getElem_cons (by omega)
        have hx : 1 < (l.getD 12 0).toNat := by
          unfold rd9 at h
          split at h
          · cases h
          · rename_i hc
            exact Nat.lt_of_not_le fun h' => hc ⟨by omega, hv, h'⟩
        rw [e3] at e2
        rw [e1, e2]
        exact ⟨brd_e_no hN hp hv hq hx, brd_e_pan hN hp hv hq hx⟩
    · rw [e1]
      exact ⟨brd_b_no hN hp (by omega), brd_b_pan hN hp (by omega)⟩
  obtain ⟨k1, m', k2⟩ := key
  rw [ainv_w rfl wrRd, ainvP_w rfl wrRd]
  exact ⟨runQ_no k1 (abodyD_none Try.func27 bodybrd (by kernel_rfl)), m', runQ_2 k2⟩
end
end Go.Am.Seat
