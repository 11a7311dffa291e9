/-
  Texts of my own, put together: BT6, BT7, BT8, BT9, BT10, BT11.
-/
import Derived.Test.YtalilffocbkfnaaGrBudgetTexts14
/-
  Whole texts behind a door (own work).
-/
set_option linter.unusedSimpArgs false
set_option linter.unusedVariables false
namespace Go.Am.Seat
open Go.Proofs Go.Am
set_option maxRecDepth 100000

def plc9 (p o : Nat) : Value := .pointer (some ⟨p, o, none⟩)
theorem ap_old9 {m : Mem} {L : List Blk} {p : Nat} {x : Blk} (h : m[p]? = some x) : (ap m L)[p]? = some x := by
  unfold ap
  rw [List.getElem?_append_left (List.getElem?_eq_some_iff.1 h).1, h]
theorem aload_at9 {t : TypeId} {d : TypeDesc} (hd : E.P.underlying t = some d) (ha : aggD d = false) {m : Mem} {p o : Nat} {ro : Bool} {e : TypeId} {cs : List Value} (h : m[p]? = some (.row ro e cs)) : aload E.P t (plc9 p o) m = cs[o]? := by
  unfold aload plc9
  simp only [look_row h, hd, ha]

theorem acoll_ptr {M m0 : Mem} {e : TypeId} {s : ByteArray} : acoll M m0.length (adr m0 0 0) (ap m0 [.row false e [.string s]]) = some (.pointer (some ⟨M.length, 0, none⟩), M ++ [.row false e [.string s]]) := by
  have hnb : ¬ m0.length + 0 < m0.length := by omega
  have hm : (ap m0 [.row false e [.string s]])[m0.length + 0]? = some (.row false e [.string s]) := ap_get m0 _ 0
  unfold acoll
  rw [if_neg (by simp [lit2, lit1, lit0, adr])]
  have h1 : idsL m0.length (partsOf (adr m0 0 0)) [] = [m0.length + 0] := by
    show addIds (idOf m0.length (adr m0 0 0)) [] = [m0.length + 0]
    simp [idOf, adr, addIds]
  have h2 : closeIds m0.length (ap m0 [.row false e [.string s]]) 2 [m0.length + 0] = [m0.length + 0] := by
    have hi : ∀ acc, idsL m0.length [Value.string s] acc = acc := fun _ => rfl
    simp only [closeIds, List.foldl_cons, List.foldl_nil, hm, hi]
  simp only [h1, h2]
  rw [if_pos (by simp [nodupB])]
  have h3 : rid m0.length M.length [m0.length + 0] (m0.length + 0) = some M.length := by
    unfold rid
    rw [if_neg hnb]
    simp [List.idxOf?]
  have h5 : ren3 m0.length M.length [m0.length + 0] (adr m0 0 0) = some (.pointer (some ⟨M.length, 0, none⟩)) := by
    show ren1 m0.length M.length [m0.length + 0] (.pointer (some ⟨m0.length + 0, 0, none⟩)) = _
    simp only [ren1, h3]
  simp only [renB, hm, h5]
  rfl

theorem bxR (m : Mem) (L : List Blk) (l : List UInt8) : abox E.P 75 (.agg ⟨[tx l]⟩) (ap m L) = some (adr m L.length 0, ap m (L ++ [rdR l])) := abox_L (by kernel_rfl) rfl m L
theorem buildRd (l : List UInt8) : apB1s E.P 75 75 (tx l) = some (.agg ⟨[tx l]⟩) := by kernel_rfl
theorem ldF_rdR {l : List UInt8} : ldF 0 (some (rdR l)) = some (tx l) := rfl

section
variable {self sp : Self} {nf : Nat} {m M : Mem} {L : List Blk} {k : Nat} {l : List UInt8}
theorem prr_body : abody E self nf 34 [tx l] (ap m []) = some (adr m 0 0, ap m [rdR l]) := by
  rw [abody_eqF (by kernel_rfl) Try.func34 bodyprr (by kernel_rfl) (Nat.le_of_ble_eq_true rfl)]
  rw [show Try.f34.ntmps = 6 from rfl]
  simp only [eprr_0, eprr_1, lprr_0, lprr_1, agd_none, gdAt, gdV_bool, gdV_undef, Try.f34, List.append_eq, List.cons_append, List.nil_append, apure_call1, apure_call2, apure_call3, bft, btf, acodeN, List.getElem?_toArray, List.getElem?_cons_zero, List.getElem?_cons_succ, aopsN, adrawT, cls, astep, aop, afloat, ev, nth_lst, get_lst, aput, setAt_lst, upd_at, init_zero, init_succ, init_nil, Nat.reduceLT, Nat.reduceEqDiff, reduceIte, abuiltin, Option.map_some, Option.map_none, orElse_some, apure_add, List.map_cons, List.map_nil, List.all_cons, List.all_nil, lit2, lit1, lit0, List.isEmpty_nil, Bool.and_self, Bool.and_true, Bool.true_and, Bool.false_and, Bool.and_false, Bool.not_true, Bool.not_false, Bool.or_true, Bool.true_or, Bool.false_or, Bool.or_false, Bool.false_eq_true, if_true, if_false, List.length_map, beq_self_eq_true, und3, und4, und5, und9, eqlV9_int, neqV9_int, eqlV9_bool, neqV9_bool, eqlV9_str, neqV9_str, eqlB, neqB, eqlBr, neqBr, ↓aop_eqlV9, ↓aop_neqV9, ↓afloat_eqlV9, ↓afloat_neqV9, apure_eqlV9, apure_neqV9, eqlW, neqW, eqlI64, neqI64, aload_sealed, adB, adBr, adU, adE, wrWi, wrLt, wrFr, wrBk, wrCk, wrRl, wrRb, cbWi, cbAt, cbSp, cbLt, cbFr, cbBk, cbCk, cbRa, cbRs, cbRl, cbRb, cbMay, cbLk, cbLo, cbRe, cbSg, cbAw, bxP, bxB, bxPr, bxBr, alP, alB, alPr, alBr, ldP', ldB', ldPr', ldBr', ldI', ldU', ldL', ldS_pol, ldS_bud, ldF_p0, ldF_p1, ldF_p2, ldF_b0, ldF_b1, ldF_b2, stP', stB', stPr', stBr', stI', stU', stT', stL, polLen, budLen, layP, layB, layB0, layB1, layB2, faP0, faP1, faP2, faB0, faB1, faB2, faPr0, faPr1, faPr2, faBr0, faBr1, faBr2, List.length_nil, List.length_cons, List.length_append, Nat.reduceAdd, Nat.reduceLeDiff, List.set_cons_zero, List.set_cons_succ, and_self, true_and, Nat.le_refl, apure_max, apure_min, maxV, minV, finish, ares, aresL, ares1_tmp, ares1_cell, aresC_adr, aextract, apure_build1s, buildRd, bxR]
theorem rmo_body (hk : L[k]? = some (rdR l)) : abody E self nf 36 [adr m k 0] ((ap m L).map sealed) = some (.bool !(l.length == 0), (ap m L).map sealed) := by
  rw [abody_eqF (by kernel_rfl) Try.func36 bodyrmo (by kernel_rfl) (Nat.le_of_ble_eq_true rfl)]
  rw [show Try.f36.ntmps = 8 from rfl]
  have h1 : neqV9 E.P 9 (.tmp 6) (.const (.string ⟨#[]⟩)) (tx l) (.string ⟨#[]⟩) = some (.bool !(l.length == 0)) := by
    unfold tx
    rw [neqV9_str, ByteArray.toList_eq, ByteArray.toList_eq]
    cases l <;> rfl
  simp only [ermo_0, ermo_1, lrmo_0, lrmo_1, agd_none, gdAt, gdV_bool, gdV_undef, Try.f36, List.append_eq, List.cons_append, List.nil_append, apure_call1, apure_call2, apure_call3, bft, btf, acodeN, List.getElem?_toArray, List.getElem?_cons_zero, List.getElem?_cons_succ, aopsN, adrawT, cls, astep, aop, afloat, ev, nth_lst, get_lst, aput, setAt_lst, upd_at, init_zero, init_succ, init_nil, Nat.reduceLT, Nat.reduceEqDiff, reduceIte, abuiltin, Option.map_some, Option.map_none, orElse_some, apure_add, List.map_cons, List.map_nil, List.all_cons, List.all_nil, lit2, lit1, lit0, List.isEmpty_nil, Bool.and_self, Bool.and_true, Bool.true_and, Bool.false_and, Bool.and_false, Bool.not_true, Bool.not_false, Bool.or_true, Bool.true_or, Bool.false_or, Bool.or_false, Bool.false_eq_true, if_true, if_false, List.length_map, beq_self_eq_true, und3, und4, und5, und9, eqlV9_int, neqV9_int, eqlV9_bool, neqV9_bool, eqlV9_str, neqV9_str, eqlB, neqB, eqlBr, neqBr, ↓aop_eqlV9, ↓aop_neqV9, ↓afloat_eqlV9, ↓afloat_neqV9, apure_eqlV9, apure_neqV9, eqlW, neqW, eqlI64, neqI64, aload_sealed, adB, adBr, adU, adE, wrWi, wrLt, wrFr, wrBk, wrCk, wrRl, wrRb, cbWi, cbAt, cbSp, cbLt, cbFr, cbBk, cbCk, cbRa, cbRs, cbRl, cbRb, cbMay, cbLk, cbLo, cbRe, cbSg, cbAw, bxP, bxB, bxPr, bxBr, alP, alB, alPr, alBr, ldP', ldB', ldPr', ldBr', ldI', ldU', ldL', ldS_pol, ldS_bud, ldF_p0, ldF_p1, ldF_p2, ldF_b0, ldF_b1, ldF_b2, stP', stB', stPr', stBr', stI', stU', stT', stL, polLen, budLen, layP, layB, layB0, layB1, layB2, faP0, faP1, faP2, faB0, faB1, faB2, faPr0, faPr1, faPr2, faBr0, faBr1, faBr2, List.length_nil, List.length_cons, List.length_append, Nat.reduceAdd, Nat.reduceLeDiff, List.set_cons_zero, List.set_cons_succ, and_self, true_and, Nat.le_refl, apure_max, apure_min, maxV, minV, finish, ares, aresL, ares1_tmp, ares1_cell, aresC_adr, aextract, ↓astep_nilCheck, ncV_adr, faR, ldT', hk, ldF_rdR, h1]
end
section
variable {N : Nat} {m : Mem} {L : List Blk} {k : Nat} {l : List UInt8}
theorem read_call : ainv E (RQ (N + 1)) 34 [tx l] (ap m L) = some (adr m L.length 0, ap m (L ++ [rdR l])) := by
  have h := runQ_1 (prr_body (self := RQ N) (nf := N + 1) (m := ((ap m L).take E.G).map onlyTab) (l := l))
  rw [← ap_nil] at h
  have h' : RQ (N + 1) 34 [tx l] (((ap m L).take E.G).map onlyTab) = some (adr (((ap m L).take E.G).map onlyTab) 0 0, ap (((ap m L).take E.G).map onlyTab) [rdR l]) := h
  unfold ainv
  rw [if_pos (show [tx l].all lit2 = true from rfl), show E.fast 34 = none from rfl]
  simp only [h']
  have h2 := acoll_ptr (M := ap m L) (m0 := ((ap m L).take E.G).map onlyTab) (e := 75) (s := ⟨l.toArray⟩)
  rw [ap_len, ap_app] at h2
  exact h2
theorem more_call (hk : L[k]? = some (rdR l)) : ainv E (RQ (N + 1)) 36 [adr m k 0] (ap m L) = some (.bool !(l.length == 0), ap m L) := by
  have h : RQ (N + 1) 36 [adr m k 0] ((ap m L).map sealed) = some (.bool !(l.length == 0), (ap m L).map sealed) := runQ_1 (rmo_body hk)
  unfold ainv
  rw [if_neg (show ¬ [adr m k 0].all lit2 = true from Bool.false_ne_true), show E.wr 36 = false by kernel_rfl]
  simp only [Bool.false_eq_true, if_false, h]
  unfold acoll
  exact if_pos rfl
end
end Go.Am.Seat

/-
  Whole texts behind a door: what is done behind it (own work).
-/
set_option linter.unusedSimpArgs false
set_option linter.unusedVariables false
namespace Go.Am.Seat
open Go.Proofs Go.Am
set_option maxRecDepth 100000

theorem cbRead : callableB E.P 34 = true := by kernel_rfl
theorem cbMore : callableB E.P 36 = true := by kernel_rfl
theorem cbRd : callableB E.P 27 = true := by kernel_rfl
theorem cbWha : callableB E.P 33 = true := by kernel_rfl
theorem cbDor : callableB E.P 32 = true := by kernel_rfl
theorem cbDod : callableB E.P 40 = true := by kernel_rfl
theorem cbWho : callableB E.P 26 = true := by kernel_rfl
theorem cbPa : callableB E.P 21 = true := by kernel_rfl

/-- The reading of a budget, as a value. -/
def fnRd : Value := .func (.func 27) ⟨[]⟩ ⟨[]⟩
section
variable {N : Nat} {M : Mem} {l r : List UInt8} {p q : Nat} {ro ro' : Bool} {e e' : TypeId} {a b : Nat} {c : Bool}
theorem wha_ok (hN : 8 ≤ N) (hp : M[p]? = some (.row ro e [tx l])) (hq : M[q]? = some (.row ro' e' [fnRd])) (h : rd9 l = some (a, b, c, [])) :
    ∃ m', abody E (RQ (N + 5)) (N + 6) 33 [plc9 p 0, plc9 q 0] (ap M []) = some (bud a b c, m') := by
  rw [abody_eqF (by kernel_rfl) Try.func33 bodywha (by kernel_rfl) (Nat.le_of_ble_eq_true rfl)]
  rw [show Try.f33.ntmps = 15 from rfl]
  have l1 : ∀ L, aload E.P 9 (plc9 p 0) (ap M L) = some (tx l) := fun L => aload_at9 Try.underlying9 rfl (ap_old9 hp)
  have l2 : ∀ L, aload E.P 58 (plc9 q 0) (ap M L) = some (.func (.func 27) ⟨[]⟩ ⟨[]⟩) := fun L => aload_at9 Try.underlying58 rfl (ap_old9 hq)
  have h1 := read_call (N := N + 4) (m := M) (L := [.row false 26 (budC 0 0 false)]) (l := l)
  have h2 := read_some (N := N) (m := M) (b0 := .row false 26 (budC 0 0 false)) hN h
  have h3 := more_call (N := N + 4) (m := M) (L := [.row false 26 (budC 0 0 false), rdR [], .row false 26 (budC a b c), .row false 26 (budC a b c)]) (k := 1) (l := []) rfl
  have h4 := fun e M => hold_T (N := N + 4) (e := e) M
  generalize RQ (N + 5) = slf at *
  simp only [List.length_cons, List.length_nil, Nat.reduceAdd, List.cons_append, List.nil_append, beq_self_eq_true, Bool.not_true] at h1 h3
  simp only [ewha_0, ewha_1, ewha_2, ewha_3, ewha_4, lwha_0, lwha_1, lwha_2, lwha_3, lwha_4, agd_none, gdAt, gdV_bool, gdV_undef, Try.f33, List.append_eq, List.cons_append, List.nil_append, apure_call1, apure_call2, apure_call3, bft, btf, acodeN, List.getElem?_toArray, List.getElem?_cons_zero, List.getElem?_cons_succ, aopsN, adrawT, cls, astep, aop, afloat, ev, nth_lst, get_lst, aput, setAt_lst, upd_at, init_zero, init_succ, init_nil, Nat.reduceLT, Nat.reduceEqDiff, reduceIte, abuiltin, Option.map_some, Option.map_none, orElse_some, apure_add, List.map_cons, List.map_nil, List.all_cons, List.all_nil, lit2, lit1, lit0, List.isEmpty_nil, Bool.and_self, Bool.and_true, Bool.true_and, Bool.false_and, Bool.and_false, Bool.not_true, Bool.not_false, Bool.or_true, Bool.true_or, Bool.false_or, Bool.or_false, Bool.false_eq_true, if_true, if_false, List.length_map, beq_self_eq_true, und3, und4, und5, und9, eqlV9_int, neqV9_int, eqlV9_bool, neqV9_bool, eqlV9_str, neqV9_str, eqlB, neqB, eqlBr, neqBr, ↓aop_eqlV9, ↓aop_neqV9, ↓afloat_eqlV9, ↓afloat_neqV9, apure_eqlV9, apure_neqV9, eqlW, neqW, eqlI64, neqI64, aload_sealed, adB, adBr, adU, adE, wrWi, wrLt, wrFr, wrBk, wrCk, wrRl, wrRb, cbWi, cbAt, cbSp, cbLt, cbFr, cbBk, cbCk, cbRa, cbRs, cbRl, cbRb, cbMay, cbLk, cbLo, cbRe, cbSg, cbAw, bxP, bxB, bxPr, bxBr, alP, alB, alPr, alBr, ldP', ldB', ldPr', ldBr', ldI', ldU', ldL', ldS_pol, ldS_bud, ldF_p0, ldF_p1, ldF_p2, ldF_b0, ldF_b1, ldF_b2, stP', stB', stPr', stBr', stI', stU', stT', stL, polLen, budLen, layP, layB, layB0, layB1, layB2, faP0, faP1, faP2, faB0, faB1, faB2, faPr0, faPr1, faPr2, faBr0, faBr1, faBr2, List.length_nil, List.length_cons, List.length_append, Nat.reduceAdd, Nat.reduceLeDiff, List.set_cons_zero, List.set_cons_succ, and_self, true_and, Nat.le_refl, apure_max, apure_min, maxV, minV, finish, ares, aresL, ares1_tmp, ares1_cell, aresC_adr, aextract, cbRead, cbMore, cbRd, cbHld, l1, l2, h1, h2, h3, h4]
  exact ⟨_, rfl⟩
theorem wha_more (hN : 8 ≤ N) (hr : r ≠ []) (hp : M[p]? = some (.row ro e [tx l])) (hq : M[q]? = some (.row ro' e' [fnRd])) (h : rd9 l = some (a, b, c, r)) :
    abody E (RQ (N + 5)) (N + 6) 33 [plc9 p 0, plc9 q 0] (ap M []) = none ∧ ∃ m', abodyP E (RQ (N + 5)) (RP (N + 5)) (N + 6) 33 [plc9 p 0, plc9 q 0] (ap M []) = some (ref9 4, m') := by
  rw [abody_eqF (by kernel_rfl) Try.func33 bodywha (by kernel_rfl) (Nat.le_of_ble_eq_true rfl), abodyP_eqF (by kernel_rfl) Try.func33 bodywha (by kernel_rfl) (Nat.le_of_ble_eq_true rfl)]
  rw [show Try.f33.ntmps = 15 from rfl]
  have l1 : ∀ L, aload E.P 9 (plc9 p 0) (ap M L) = some (tx l) := fun L => aload_at9 Try.underlying9 rfl (ap_old9 hp)
  have l2 : ∀ L, aload E.P 58 (plc9 q 0) (ap M L) = some (.func (.func 27) ⟨[]⟩ ⟨[]⟩) := fun L => aload_at9 Try.underlying58 rfl (ap_old9 hq)
  have h1 := read_call (N := N + 4) (m := M) (L := [.row false 26 (budC 0 0 false)]) (l := l)
  have h2 := read_some (N := N) (m := M) (b0 := .row false 26 (budC 0 0 false)) hN h
  have h3 := more_call (N := N + 4) (m := M) (L := [.row false 26 (budC 0 0 false), rdR r, .row false 26 (budC a b c), .row false 26 (budC a b c)]) (k := 1) (l := r) rfl
  have hl : (r.length == 0) = false := by cases r with | nil => exact absurd rfl hr | cons _ _ => rfl
  rw [hl] at h3
  have h4 := fun e M => hold_N (N := N + 4) (e := e) M
  have h5 := fun e M => hold_P (N := N + 4) (e := e) M
  generalize RQ (N + 5) = slf at *
  generalize RP (N + 5) = slp at *
  simp only [List.length_cons, List.length_nil, Nat.reduceAdd, List.cons_append, List.nil_append, Bool.not_false] at h1 h3
  constructor
  · simp only [ewha_0, ewha_1, ewha_2, ewha_3, ewha_4, lwha_0, lwha_1, lwha_2, lwha_3, lwha_4, agd_none, gdAt, gdV_bool, gdV_undef, Try.f33, List.append_eq, List.cons_append, List.nil_append, apure_call1, apure_call2, apure_call3, bft, btf, acodeN, List.getElem?_toArray, List.getElem?_cons_zero, List.getElem?_cons_succ, aopsN, adrawT, cls, astep, aop, afloat, ev, nth_lst, get_lst, aput, setAt_lst, upd_at, init_zero, init_succ, init_nil, Nat.reduceLT, Nat.reduceEqDiff, reduceIte, abuiltin, Option.map_some, Option.map_none, orElse_some, apure_add, List.map_cons, List.map_nil, List.all_cons, List.all_nil, lit2, lit1, lit0, List.isEmpty_nil, Bool.and_self, Bool.and_true, Bool.true_and, Bool.false_and, Bool.and_false, Bool.not_true, Bool.not_false, Bool.or_true, Bool.true_or, Bool.false_or, Bool.or_false, Bool.false_eq_true, if_true, if_false, List.length_map, beq_self_eq_true, und3, und4, und5, und9, eqlV9_int, neqV9_int, eqlV9_bool, neqV9_bool, eqlV9_str, neqV9_str, eqlB, neqB, eqlBr, neqBr, ↓aop_eqlV9, ↓aop_neqV9, ↓afloat_eqlV9, ↓afloat_neqV9, apure_eqlV9, apure_neqV9, eqlW, neqW, eqlI64, neqI64, aload_sealed, adB, adBr, adU, adE, wrWi, wrLt, wrFr, wrBk, wrCk, wrRl, wrRb, cbWi, cbAt, cbSp, cbLt, cbFr, cbBk, cbCk, cbRa, cbRs, cbRl, cbRb, cbMay, cbLk, cbLo, cbRe, cbSg, cbAw, bxP, bxB, bxPr, bxBr, alP, alB, alPr, alBr, ldP', ldB', ldPr', ldBr', ldI', ldU', ldL', ldS_pol, ldS_bud, ldF_p0, ldF_p1, ldF_p2, ldF_b0, ldF_b1, ldF_b2, stP', stB', stPr', stBr', stI', stU', stT', stL, polLen, budLen, layP, layB, layB0, layB1, layB2, faP0, faP1, faP2, faB0, faB1, faB2, faPr0, faPr1, faPr2, faBr0, faBr1, faBr2, List.length_nil, List.length_cons, List.length_append, Nat.reduceAdd, Nat.reduceLeDiff, List.set_cons_zero, List.set_cons_succ, and_self, true_and, Nat.le_refl, apure_max, apure_min, maxV, minV, finish, ares, aresL, ares1_tmp, ares1_cell, aresC_adr, aextract, cbRead, cbMore, cbRd, cbHld, l1, l2, h1, h2, h3, h4]
  · simp only [ewha_0, ewha_1, ewha_2, ewha_3, ewha_4, lwha_0, lwha_1, lwha_2, lwha_3, lwha_4, agd_none, gdAt, gdV_bool, gdV_undef, Try.f33, List.append_eq, List.cons_append, List.nil_append, apure_call1, apure_call2, apure_call3, bft, btf, acodeN, List.getElem?_toArray, List.getElem?_cons_zero, List.getElem?_cons_succ, aopsN, adrawT, cls, astep, aop, afloat, ev, nth_lst, get_lst, aput, setAt_lst, upd_at, init_zero, init_succ, init_nil, Nat.reduceLT, Nat.reduceEqDiff, reduceIte, abuiltin, Option.map_some, Option.map_none, orElse_some, apure_add, List.map_cons, List.map_nil, List.all_cons, List.all_nil, lit2, lit1, lit0, List.isEmpty_nil, Bool.and_self, Bool.and_true, Bool.true_and, Bool.false_and, Bool.and_false, Bool.not_true, Bool.not_false, Bool.or_true, Bool.true_or, Bool.false_or, Bool.or_false, Bool.false_eq_true, if_true, if_false, List.length_map, beq_self_eq_true, und3, und4, und5, und9, eqlV9_int, neqV9_int, eqlV9_bool, neqV9_bool, eqlV9_str, neqV9_str, eqlB, neqB, eqlBr, neqBr, ↓aop_eqlV9, ↓aop_neqV9, ↓afloat_eqlV9, ↓afloat_neqV9, apure_eqlV9, apure_neqV9, eqlW, neqW, eqlI64, neqI64, aload_sealed, adB, adBr, adU, adE, wrWi, wrLt, wrFr, wrBk, wrCk, wrRl, wrRb, cbWi, cbAt, cbSp, cbLt, cbFr, cbBk, cbCk, cbRa, cbRs, cbRl, cbRb, cbMay, cbLk, cbLo, cbRe, cbSg, cbAw, bxP, bxB, bxPr, bxBr, alP, alB, alPr, alBr, ldP', ldB', ldPr', ldBr', ldI', ldU', ldL', ldS_pol, ldS_bud, ldF_p0, ldF_p1, ldF_p2, ldF_b0, ldF_b1, ldF_b2, stP', stB', stPr', stBr', stI', stU', stT', stL, polLen, budLen, layP, layB, layB0, layB1, layB2, faP0, faP1, faP2, faB0, faB1, faB2, faPr0, faPr1, faPr2, faBr0, faBr1, faBr2, List.length_nil, List.length_cons, List.length_append, Nat.reduceAdd, Nat.reduceLeDiff, List.set_cons_zero, List.set_cons_succ, and_self, true_and, Nat.le_refl, apure_max, apure_min, maxV, minV, finish, ares, aresL, ares1_tmp, ares1_cell, aresC_adr, aextract, cbRead, cbMore, cbRd, cbHld, l1, l2, h1, h2, h3, h4, acodePN, aopsPN, apan, h5, finishP]
    exact ⟨_, rfl⟩
theorem wha_none (hN : 8 ≤ N) (hp : M[p]? = some (.row ro e [tx l])) (hq : M[q]? = some (.row ro' e' [fnRd])) (h : rd9 l = none) :
    abody E (RQ (N + 5)) (N + 6) 33 [plc9 p 0, plc9 q 0] (ap M []) = none ∧ ∃ m', abodyP E (RQ (N + 5)) (RP (N + 5)) (N + 6) 33 [plc9 p 0, plc9 q 0] (ap M []) = some (ref9 4, m') := by
  rw [abody_eqF (by kernel_rfl) Try.func33 bodywha (by kernel_rfl) (Nat.le_of_ble_eq_true rfl), abodyP_eqF (by kernel_rfl) Try.func33 bodywha (by kernel_rfl) (Nat.le_of_ble_eq_true rfl)]
  rw [show Try.f33.ntmps = 15 from rfl]
  have l1 : ∀ L, aload E.P 9 (plc9 p 0) (ap M L) = some (tx l) := fun L => aload_at9 Try.underlying9 rfl (ap_old9 hp)
  have l2 : ∀ L, aload E.P 58 (plc9 q 0) (ap M L) = some (.func (.func 27) ⟨[]⟩ ⟨[]⟩) := fun L => aload_at9 Try.underlying58 rfl (ap_old9 hq)
  have h1 := read_call (N := N + 4) (m := M) (L := [.row false 26 (budC 0 0 false)]) (l := l)
  obtain ⟨h2, m2, h3⟩ := read_none (N := N) (m := M) (b0 := .row false 26 (budC 0 0 false)) hN h
  generalize RQ (N + 5) = slf at *
  generalize RP (N + 5) = slp at *
  simp only [List.length_cons, List.length_nil, Nat.reduceAdd, List.cons_append, List.nil_append] at h1
  constructor
  · simp only [ewha_0, ewha_1, ewha_2, ewha_3, ewha_4, lwha_0, lwha_1, lwha_2, lwha_3, lwha_4, agd_none, gdAt, gdV_bool, gdV_undef, Try.f33, List.append_eq, List.cons_append, List.nil_append, apure_call1, apure_call2, apure_call3, bft, btf, acodeN, List.getElem?_toArray, List.getElem?_cons_zero, List.getElem?_cons_succ, aopsN, adrawT, cls, astep, aop, afloat, ev, nth_lst, get_lst, aput, setAt_lst, upd_at, init_zero, init_succ, init_nil, Nat.reduceLT, Nat.reduceEqDiff, reduceIte, abuiltin, Option.map_some, Option.map_none, orElse_some, apure_add, List.map_cons, List.map_nil, List.all_cons, List.all_nil, lit2, lit1, lit0, List.isEmpty_nil, Bool.and_self, Bool.and_true, Bool.true_and, Bool.false_and, Bool.and_false, Bool.not_true, Bool.not_false, Bool.or_true, Bool.true_or, Bool.false_or, Bool.or_false, Bool.false_eq_true, if_true, if_false, List.length_map, beq_self_eq_true, und3, und4, und5, und9, eqlV9_int, neqV9_int, eqlV9_bool, neqV9_bool, eqlV9_str, neqV9_str, eqlB, neqB, eqlBr, neqBr, ↓aop_eqlV9, ↓aop_neqV9, ↓afloat_eqlV9, ↓afloat_neqV9, apure_eqlV9, apure_neqV9, eqlW, neqW, eqlI64, neqI64, aload_sealed, adB, adBr, adU, adE, wrWi, wrLt, wrFr, wrBk, wrCk, wrRl, wrRb, cbWi, cbAt, cbSp, cbLt, cbFr, cbBk, cbCk, cbRa, cbRs, cbRl, cbRb, cbMay, cbLk, cbLo, cbRe, cbSg, cbAw, bxP, bxB, bxPr, bxBr, alP, alB, alPr, alBr, ldP', ldB', ldPr', ldBr', ldI', ldU', ldL', ldS_pol, ldS_bud, ldF_p0, ldF_p1, ldF_p2, ldF_b0, ldF_b1, ldF_b2, stP', stB', stPr', stBr', stI', stU', stT', stL, polLen, budLen, layP, layB, layB0, layB1, layB2, faP0, faP1, faP2, faB0, faB1, faB2, faPr0, faPr1, faPr2, faBr0, faBr1, faBr2, List.length_nil, List.length_cons, List.length_append, Nat.reduceAdd, Nat.reduceLeDiff, List.set_cons_zero, List.set_cons_succ, and_self, true_and, Nat.le_refl, apure_max, apure_min, maxV, minV, finish, ares, aresL, ares1_tmp, ares1_cell, aresC_adr, aextract, cbRead, cbMore, cbRd, cbHld, l1, l2, h1, h2]
  · simp only [ewha_0, ewha_1, ewha_2, ewha_3, ewha_4, lwha_0, lwha_1, lwha_2, lwha_3, lwha_4, agd_none, gdAt, gdV_bool, gdV_undef, Try.f33, List.append_eq, List.cons_append, List.nil_append, apure_call1, apure_call2, apure_call3, bft, btf, acodeN, List.getElem?_toArray, List.getElem?_cons_zero, List.getElem?_cons_succ, aopsN, adrawT, cls, astep, aop, afloat, ev, nth_lst, get_lst, aput, setAt_lst, upd_at, init_zero, init_succ, init_nil, Nat.reduceLT, Nat.reduceEqDiff, reduceIte, abuiltin, Option.map_some, Option.map_none, orElse_some, apure_add, List.map_cons, List.map_nil, List.all_cons, List.all_nil, lit2, lit1, lit0, List.isEmpty_nil, Bool.and_self, Bool.and_true, Bool.true_and, Bool.false_and, Bool.and_false, Bool.not_true, Bool.not_false, Bool.or_true, Bool.true_or, Bool.false_or, Bool.or_false, Bool.false_eq_true, if_true, if_false, List.length_map, beq_self_eq_true, und3, und4, und5, und9, eqlV9_int, neqV9_int, eqlV9_bool, neqV9_bool, eqlV9_str, neqV9_str, eqlB, neqB, eqlBr, neqBr, ↓aop_eqlV9, ↓aop_neqV9, ↓afloat_eqlV9, ↓afloat_neqV9, apure_eqlV9, apure_neqV9, eqlW, neqW, eqlI64, neqI64, aload_sealed, adB, adBr, adU, adE, wrWi, wrLt, wrFr, wrBk, wrCk, wrRl, wrRb, cbWi, cbAt, cbSp, cbLt, cbFr, cbBk, cbCk, cbRa, cbRs, cbRl, cbRb, cbMay, cbLk, cbLo, cbRe, cbSg, cbAw, bxP, bxB, bxPr, bxBr, alP, alB, alPr, alBr, ldP', ldB', ldPr', ldBr', ldI', ldU', ldL', ldS_pol, ldS_bud, ldF_p0, ldF_p1, ldF_p2, ldF_b0, ldF_b1, ldF_b2, stP', stB', stPr', stBr', stI', stU', stT', stL, polLen, budLen, layP, layB, layB0, layB1, layB2, faP0, faP1, faP2, faB0, faB1, faB2, faPr0, faPr1, faPr2, faBr0, faBr1, faBr2, List.length_nil, List.length_cons, List.length_append, Nat.reduceAdd, Nat.reduceLeDiff, List.set_cons_zero, List.set_cons_succ, and_self, true_and, Nat.le_refl, apure_max, apure_min, maxV, minV, finish, ares, aresL, ares1_tmp, ares1_cell, aresC_adr, aextract, cbRead, cbMore, cbRd, cbHld, l1, l2, h1, h2, acodePN, aopsPN, apan, h3, finishP]
    exact ⟨_, rfl⟩
end
end Go.Am.Seat

/-
  A door, and what is deferred there (own work).
-/
set_option linter.unusedSimpArgs false
set_option linter.unusedVariables false
namespace Go.Am.Seat
open Go.Proofs Go.Am
set_option maxRecDepth 100000

theorem sealed_get {X : Mem} {p : Nat} {ro : Bool} {e : TypeId} {cs : List Value} (h : X[p]? = some (.row ro e cs)) : (X.map sealed)[p]? = some (.row true e cs) := by
  rw [List.getElem?_map, h]
  rfl
theorem ainv_seal {self : Self} {g : FuncId} {args : List Value} {X m' : Mem} {v : Value} (ha : args.all lit2 = false) (hw : E.wr g = false) (hv : lit2 v = true) (h : self g args (X.map sealed) = some (v, m')) : ainv E self g args X = some (v, X) := by
  unfold ainv
  rw [if_neg (by rw [ha]; exact Bool.false_ne_true), hw]
  simp only [Bool.false_eq_true, if_false, h]
  unfold acoll
  rw [if_pos hv]
theorem ainv_sealN {self : Self} {g : FuncId} {args : List Value} {X : Mem} (ha : args.all lit2 = false) (hw : E.wr g = false) (h : self g args (X.map sealed) = none) : ainv E self g args X = none := by
  unfold ainv
  rw [if_neg (by rw [ha]; exact Bool.false_ne_true), hw]
  simp only [Bool.false_eq_true, if_false, h]
theorem ainvP_seal {sp : Self} {g : FuncId} {args : List Value} {X m' : Mem} {v : Value} (ha : args.all lit2 = false) (hw : E.wr g = false) (hv : lit2 v = true) (h : sp g args (X.map sealed) = some (v, m')) : ainvP E sp g args X = some (v, X) := by
  unfold ainvP
  rw [if_neg (by rw [ha]; exact Bool.false_ne_true), hw]
  simp only [Bool.false_eq_true, if_false, h]
  unfold acoll
  rw [if_pos hv]

theorem wrWha : E.wr 33 = false := by kernel_rfl
section
variable {N : Nat} {X : Mem} {l r : List UInt8} {p q : Nat} {ro ro' : Bool} {e e' : TypeId} {a b : Nat} {c : Bool}
theorem whaC_ok (hN : 8 ≤ N) (hp : X[p]? = some (.row ro e [tx l])) (hq : X[q]? = some (.row ro' e' [fnRd])) (h : rd9 l = some (a, b, c, [])) : ainv E (RQ (N + 6)) 33 [plc9 p 0, plc9 q 0] X = some (bud a b c, X) := by
  obtain ⟨m', h1⟩ := wha_ok hN (sealed_get hp) (sealed_get hq) h
  rw [← ap_nil] at h1
  exact ainv_seal rfl wrWha rfl (runQ_1 h1)
theorem whaC_no (hN : 8 ≤ N) (hp : X[p]? = some (.row ro e [tx l])) (hq : X[q]? = some (.row ro' e' [fnRd])) (h : ∀ a b c, rd9 l ≠ some (a, b, c, [])) :
    ainv E (RQ (N + 6)) 33 [plc9 p 0, plc9 q 0] X = none ∧ ainvP E (RP (N + 6)) 33 [plc9 p 0, plc9 q 0] X = some (ref9 4, X) := by
  have key : abody E (RQ (N + 5)) (N + 6) 33 [plc9 p 0, plc9 q 0] (ap (X.map sealed) []) = none ∧ ∃ m', abodyP E (RQ (N + 5)) (RP (N + 5)) (N + 6) 33 [plc9 p 0, plc9 q 0] (ap (X.map sealed) []) = some (ref9 4, m') := by
    cases hr : rd9 l with
    | none => exact wha_none hN (sealed_get hp) (sealed_get hq) hr
    | some y =>
      obtain ⟨a, b, c, r⟩ := y
      exact wha_more hN (fun hh => h a b c (by rw [hr, hh])) (sealed_get hp) (sealed_get hq) hr
  rw [← ap_nil] at key
  obtain ⟨k1, m', k2⟩ := key
  exact ⟨ainv_sealN rfl wrWha (runQ_no k1 (abodyD_none Try.func33 bodywha (by kernel_rfl))), ainvP_seal rfl wrWha rfl (runQ_2 k2)⟩
end

def erC (e : Int) : List Value := [.int .i64 e]
section
variable (m : Mem) (L : List Blk) (k o : Nat) (e e' : Int)
theorem alE : aalloc E.P 30 (ap m L) = some (adr m L.length 0, ap m (L ++ [.row false 30 (erC 0)])) := aalloc_L (z := .int .i64 0) (by kernel_rfl) rfl rfl m L
theorem alRf : aalloc E.P 73 (ap m L) = some (adr m L.length 0, ap m (L ++ [.row false 73 (erC 0)])) := aalloc_L (z := .agg ⟨[.int .i64 0]⟩) (by kernel_rfl) rfl rfl m L
theorem ldE' : aload E.P 30 (adr m k o) (ap m L) = ldF o L[k]? := aload_F Try.underlying30 rfl m L k o
theorem ldF_e {ro : Bool} {t : TypeId} : ldF 0 (some (.row ro t (erC e))) = some (.int .i64 e) := rfl
theorem stE' : astore E.P 30 (adr m k o) (.int .i64 e) (ap m L) = stL 1 m L k o (erC e) := astore_L (by kernel_rfl) rfl m L k o
theorem stRf : astore E.P 73 (adr m k o) (.agg ⟨[.int .i64 e]⟩) (ap m L) = stL 1 m L k o (erC e) := astore_L (by kernel_rfl) rfl m L k o
theorem erLen : (erC e).length = 1 := rfl
theorem layE : lay (erC e) 0 (erC e') = erC e' := rfl
theorem faRf : afieldAddr E.P 73 (adr m k 0) 0 = some (adr m k 0) := by unfold adr; kernel_rfl
end
theorem apure_deferF {P : Program} {T : List Value} {d : Option Tmp} {t : Nat} {ts : Array TypeId} {ty : TypeId} {pos : String} {af : Array Edge} {g : Option (Nat × Bool)} (h : lit2 (nth T t) = false) : apure P T { dst := d, op := .defer { callee := .value (.tmp t), args := #[], argTypes := ts }, type := ty, pos := pos, after := af, guard := g } = none := by
  unfold apure
  rw [if_neg]
  simp [Op.operands, Call.operands, ev, h]
noncomputable def apTA (P : Program) (s t ty : TypeId) (c : Bool) (a : Value) : Option Value := apure P [a] { dst := none, op := .typeAssert (.tmp 0) s t c, type := ty, pos := "", after := #[], guard := none }
theorem apure_ta {P : Program} {T : List Value} {s t ty : TypeId} {c : Bool} {a : Nat} {pos : String} {af : Array Edge} {gu : Option (Nat × Bool)} {dd : Option Tmp} :
    apure P T { dst := dd, op := .typeAssert (.tmp a) s t c, type := ty, pos := pos, after := af, guard := gu } = apTA P s t ty c (nth T a) := by
  unfold apTA apure
  simp [Op.operands, execOp, ev, nth_zero, nth_succ]
theorem taRef (ty : TypeId) (e : Int) : apTA E.P 20 73 ty true (ref9 e) = some (.tuple ⟨[.agg ⟨[.int .i64 e]⟩, .bool true]⟩) := by kernel_rfl
theorem litF1 {f : Fn} {x : Value} : lit2 (.func f ⟨[]⟩ ⟨[x]⟩) = false := rfl

section
variable {self sp : Self} {nf : Nat} {m X : Mem} {B : Blk} {l : List UInt8} {e : Int}
theorem dod_none : abodyS E self nf 40 [adr m 1 0] (ap m [B, .row false 30 (erC e)]) .none = some (ap m [B, .row false 30 (erC e)], .none) := by
  have hq : eqlV9 E.P 20 (.tmp 4) (.const .nilIface) .nilIface .nilIface = some (.bool true) := by kernel_rfl
  have h1 : ∃ F, acodeSN E self nf (match Try.f40.body with | some c => c | none => .skip) (lst (init [adr m 1 0]) 12) (ap m [B, .row false 30 (erC e)]) .none = some (.normal, lst F 12, ap m [B, .row false 30 (erC e)], .none) := by
    rw [bodydod]
    simp only [edod_0, edod_1, edod_2, edod_3, edod_4, edod_5, edod_6, edod_7, ldod_0, ldod_1, ldod_2, ldod_3, ldod_4, ldod_5, ldod_6, ldod_7, agd_none, gdAt, gdV_bool, gdV_undef, Try.f40, List.append_eq, List.cons_append, List.nil_append, apure_call1, apure_call2, apure_call3, bft, btf, acodeN, List.getElem?_toArray, List.getElem?_cons_zero, List.getElem?_cons_succ, aopsN, adrawT, cls, astep, aop, afloat, ev, nth_lst, get_lst, aput, setAt_lst, upd_at, init_zero, init_succ, init_nil, Nat.reduceLT, Nat.reduceEqDiff, reduceIte, abuiltin, Option.map_some, Option.map_none, orElse_some, apure_add, List.map_cons, List.map_nil, List.all_cons, List.all_nil, lit2, lit1, lit0, List.isEmpty_nil, Bool.and_self, Bool.and_true, Bool.true_and, Bool.false_and, Bool.and_false, Bool.not_true, Bool.not_false, Bool.or_true, Bool.true_or, Bool.false_or, Bool.or_false, Bool.false_eq_true, if_true, if_false, List.length_map, beq_self_eq_true, und3, und4, und5, und9, eqlV9_int, neqV9_int, eqlV9_bool, neqV9_bool, eqlV9_str, neqV9_str, eqlB, neqB, eqlBr, neqBr, ↓aop_eqlV9, ↓aop_neqV9, ↓afloat_eqlV9, ↓afloat_neqV9, apure_eqlV9, apure_neqV9, eqlW, neqW, eqlI64, neqI64, aload_sealed, adB, adBr, adU, adE, wrWi, wrLt, wrFr, wrBk, wrCk, wrRl, wrRb, cbWi, cbAt, cbSp, cbLt, cbFr, cbBk, cbCk, cbRa, cbRs, cbRl, cbRb, cbMay, cbLk, cbLo, cbRe, cbSg, cbAw, bxP, bxB, bxPr, bxBr, alP, alB, alPr, alBr, ldP', ldB', ldPr', ldBr', ldI', ldU', ldL', ldS_pol, ldS_bud, ldF_p0, ldF_p1, ldF_p2, ldF_b0, ldF_b1, ldF_b2, stP', stB', stPr', stBr', stI', stU', stT', stL, polLen, budLen, layP, layB, layB0, layB1, layB2, faP0, faP1, faP2, faB0, faB1, faB2, faPr0, faPr1, faPr2, faBr0, faBr1, faBr2, List.length_nil, List.length_cons, List.length_append, Nat.reduceAdd, Nat.reduceLeDiff, List.set_cons_zero, List.set_cons_succ, and_self, true_and, Nat.le_refl, apure_max, apure_min, maxV, minV, finish, ares, aresL, ares1_tmp, ares1_cell, aresC_adr, aextract, acodeSN, aopsSN, isRec, hq]
    exact ⟨_, rfl⟩
  obtain ⟨F, h1⟩ := h1
  rw [bodydod] at h1
  exact abodyS_eqF (by kernel_rfl) Try.func40 bodydod (by kernel_rfl) (Nat.le_of_ble_eq_true rfl) h1 (.inl rfl) rfl
theorem dod_live {e0 : Int} : ∃ R, abodyS E self nf 40 [adr m 1 0] (ap m [B, .row false 30 (erC e0)]) (.live (ref9 e)) = some (ap m [B, .row false 30 (erC e), R], .done) := by
  have hq : eqlV9 E.P 20 (.tmp 4) (.const .nilIface) (ref9 e) .nilIface = some (.bool false) := by kernel_rfl
  have h1 : ∃ F R, acodeSN E self nf (match Try.f40.body with | some c => c | none => .skip) (lst (init [adr m 1 0]) 12) (ap m [B, .row false 30 (erC e0)]) (.live (ref9 e)) = some (.normal, lst F 12, ap m [B, .row false 30 (erC e), R], .done) := by
    rw [bodydod]
    simp only [edod_0, edod_1, edod_2, edod_3, edod_4, edod_5, edod_6, edod_7, ldod_0, ldod_1, ldod_2, ldod_3, ldod_4, ldod_5, ldod_6, ldod_7, agd_none, gdAt, gdV_bool, gdV_undef, Try.f40, List.append_eq, List.cons_append, List.nil_append, apure_call1, apure_call2, apure_call3, bft, btf, acodeN, List.getElem?_toArray, List.getElem?_cons_zero, List.getElem?_cons_succ, aopsN, adrawT, cls, astep, aop, afloat, ev, nth_lst, get_lst, aput, setAt_lst, upd_at, init_zero, init_succ, init_nil, Nat.reduceLT, Nat.reduceEqDiff, reduceIte, abuiltin, Option.map_some, Option.map_none, orElse_some, apure_add, List.map_cons, List.map_nil, List.all_cons, List.all_nil, lit2, lit1, lit0, List.isEmpty_nil, Bool.and_self, Bool.and_true, Bool.true_and, Bool.false_and, Bool.and_false, Bool.not_true, Bool.not_false, Bool.or_true, Bool.true_or, Bool.false_or, Bool.or_false, Bool.false_eq_true, if_true, if_false, List.length_map, beq_self_eq_true, und3, und4, und5, und9, eqlV9_int, neqV9_int, eqlV9_bool, neqV9_bool, eqlV9_str, neqV9_str, eqlB, neqB, eqlBr, neqBr, ↓aop_eqlV9, ↓aop_neqV9, ↓afloat_eqlV9, ↓afloat_neqV9, apure_eqlV9, apure_neqV9, eqlW, neqW, eqlI64, neqI64, aload_sealed, adB, adBr, adU, adE, wrWi, wrLt, wrFr, wrBk, wrCk, wrRl, wrRb, cbWi, cbAt, cbSp, cbLt, cbFr, cbBk, cbCk, cbRa, cbRs, cbRl, cbRb, cbMay, cbLk, cbLo, cbRe, cbSg, cbAw, bxP, bxB, bxPr, bxBr, alP, alB, alPr, alBr, ldP', ldB', ldPr', ldBr', ldI', ldU', ldL', ldS_pol, ldS_bud, ldF_p0, ldF_p1, ldF_p2, ldF_b0, ldF_b1, ldF_b2, stP', stB', stPr', stBr', stI', stU', stT', stL, polLen, budLen, layP, layB, layB0, layB1, layB2, faP0, faP1, faP2, faB0, faB1, faB2, faPr0, faPr1, faPr2, faBr0, faBr1, faBr2, List.length_nil, List.length_cons, List.length_append, Nat.reduceAdd, Nat.reduceLeDiff, List.set_cons_zero, List.set_cons_succ, and_self, true_and, Nat.le_refl, apure_max, apure_min, maxV, minV, finish, ares, aresL, ares1_tmp, ares1_cell, aresC_adr, aextract, acodeSN, aopsSN, isRec, hq, apure_ta, taRef, alRf, stRf, stE', ldE', ldF_e, erLen, layE, faRf]
    exact ⟨_, _, rfl⟩
  obtain ⟨F, R, h1⟩ := h1
  rw [bodydod] at h1
  exact ⟨R, abodyS_eqF (by kernel_rfl) Try.func40 bodydod (by kernel_rfl) (Nat.le_of_ble_eq_true rfl) h1 (.inl rfl) rfl⟩
end
end Go.Am.Seat

/-
  A door; a whole text; a budget's text read (own work).
-/
set_option linter.unusedSimpArgs false
set_option linter.unusedVariables false
namespace Go.Am.Seat
open Go.Proofs Go.Am
set_option maxRecDepth 100000

/-- What is done behind the door. -/
def fnWh (p q : Nat) : Value := .func (.func 33) ⟨[]⟩ ⟨[plc9 p 0, plc9 q 0]⟩
theorem stBud (m : Mem) (L : List Blk) (k : Nat) (a b : Int) (d : Bool) : astore E.P 26 (adr m k 0) (bud a b d) (ap m L) = stL 3 m L k 0 (budC a b d) := stB' m L k a b d
section
variable {self sp : Self} {nf : Nat} {m : Mem} {l : List UInt8} {p q : Nat} {a b e : Int} {c : Bool}
theorem dor_no : abody E self nf 32 [fnWh p q] (ap m []) = none := by
  rw [abody_eqF (by kernel_rfl) Try.func32 bodydor (by kernel_rfl) (Nat.le_of_ble_eq_true rfl)]
  rw [show Try.f32.ntmps = 7 from rfl]
  simp only [edor_0, edor_1, edor_2, ldor_0, ldor_1, ldor_2, agd_none, gdAt, gdV_bool, gdV_undef, Try.f32, List.append_eq, List.cons_append, List.nil_append, apure_call1, apure_call2, apure_call3, bft, btf, acodeN, List.getElem?_toArray, List.getElem?_cons_zero, List.getElem?_cons_succ, aopsN, adrawT, cls, astep, aop, afloat, ev, nth_lst, get_lst, aput, setAt_lst, upd_at, init_zero, init_succ, init_nil, Nat.reduceLT, Nat.reduceEqDiff, reduceIte, abuiltin, Option.map_some, Option.map_none, orElse_some, apure_add, List.map_cons, List.map_nil, List.all_cons, List.all_nil, lit2, lit1, lit0, List.isEmpty_nil, Bool.and_self, Bool.and_true, Bool.true_and, Bool.false_and, Bool.and_false, Bool.not_true, Bool.not_false, Bool.or_true, Bool.true_or, Bool.false_or, Bool.or_false, Bool.false_eq_true, if_true, if_false, List.length_map, beq_self_eq_true, und3, und4, und5, und9, eqlV9_int, neqV9_int, eqlV9_bool, neqV9_bool, eqlV9_str, neqV9_str, eqlB, neqB, eqlBr, neqBr, ↓aop_eqlV9, ↓aop_neqV9, ↓afloat_eqlV9, ↓afloat_neqV9, apure_eqlV9, apure_neqV9, eqlW, neqW, eqlI64, neqI64, aload_sealed, adB, adBr, adU, adE, wrWi, wrLt, wrFr, wrBk, wrCk, wrRl, wrRb, cbWi, cbAt, cbSp, cbLt, cbFr, cbBk, cbCk, cbRa, cbRs, cbRl, cbRb, cbMay, cbLk, cbLo, cbRe, cbSg, cbAw, bxP, bxB, bxPr, bxBr, alP, alB, alPr, alBr, ldP', ldB', ldPr', ldBr', ldI', ldU', ldL', ldS_pol, ldS_bud, ldF_p0, ldF_p1, ldF_p2, ldF_b0, ldF_b1, ldF_b2, stP', stB', stPr', stBr', stI', stU', stT', stL, polLen, budLen, layP, layB, layB0, layB1, layB2, faP0, faP1, faP2, faB0, faB1, faB2, faPr0, faPr1, faPr2, faBr0, faBr1, faBr2, List.length_nil, List.length_cons, List.length_append, Nat.reduceAdd, Nat.reduceLeDiff, List.set_cons_zero, List.set_cons_succ, and_self, true_and, Nat.le_refl, apure_max, apure_min, maxV, minV, finish, ares, aresL, ares1_tmp, ares1_cell, aresC_adr, aextract, alE, apure_deferF, litF1, List.isEmpty_cons]
theorem dor_ok (hw : ∀ L, ainv E self 33 [plc9 p 0, plc9 q 0] (ap m L) = some (bud a b c, ap m L)) :
    abodyD E self sp nf 32 [fnWh p q] (ap m []) = some (.tuple ⟨[bud a b c, .int .i64 0]⟩, ap m [.row false 26 (budC a b c), .row false 30 (erC 0)]) := by
  have h1 : ∃ F, acodeDN E self sp nf (match Try.f32.body with | some c => c | none => .skip) (lst (init [fnWh p q]) 7) (ap m []) = some (40, [adr m 1 0], none, lst F 7, ap m [.row false 26 (budC a b c), .row false 30 (erC 0)]) ∧ F 2 = adr m 0 0 ∧ F 3 = adr m 1 0 := by
    rw [bodydor]
    unfold fnWh
    simp only [edor_0, edor_1, edor_2, ldor_0, ldor_1, ldor_2, agd_none, gdAt, gdV_bool, gdV_undef, Try.f32, List.append_eq, List.cons_append, List.nil_append, apure_call1, apure_call2, apure_call3, bft, btf, acodeN, List.getElem?_toArray, List.getElem?_cons_zero, List.getElem?_cons_succ, aopsN, adrawT, cls, astep, aop, afloat, ev, nth_lst, get_lst, aput, setAt_lst, upd_at, init_zero, init_succ, init_nil, Nat.reduceLT, Nat.reduceEqDiff, reduceIte, abuiltin, Option.map_some, Option.map_none, orElse_some, apure_add, List.map_cons, List.map_nil, List.all_cons, List.all_nil, lit2, lit1, lit0, List.isEmpty_nil, Bool.and_self, Bool.and_true, Bool.true_and, Bool.false_and, Bool.and_false, Bool.not_true, Bool.not_false, Bool.or_true, Bool.true_or, Bool.false_or, Bool.or_false, Bool.false_eq_true, if_true, if_false, List.length_map, beq_self_eq_true, und3, und4, und5, und9, eqlV9_int, neqV9_int, eqlV9_bool, neqV9_bool, eqlV9_str, neqV9_str, eqlB, neqB, eqlBr, neqBr, ↓aop_eqlV9, ↓aop_neqV9, ↓afloat_eqlV9, ↓afloat_neqV9, apure_eqlV9, apure_neqV9, eqlW, neqW, eqlI64, neqI64, aload_sealed, adB, adBr, adU, adE, wrWi, wrLt, wrFr, wrBk, wrCk, wrRl, wrRb, cbWi, cbAt, cbSp, cbLt, cbFr, cbBk, cbCk, cbRa, cbRs, cbRl, cbRb, cbMay, cbLk, cbLo, cbRe, cbSg, cbAw, bxP, bxB, bxPr, bxBr, alP, alB, alPr, alBr, ldP', ldB', ldPr', ldBr', ldI', ldU', ldL', ldS_pol, ldS_bud, ldF_p0, ldF_p1, ldF_p2, ldF_b0, ldF_b1, ldF_b2, stP', stB', stPr', stBr', stI', stU', stT', stL, polLen, budLen, layP, layB, layB0, layB1, layB2, faP0, faP1, faP2, faB0, faB1, faB2, faPr0, faPr1, faPr2, faBr0, faBr1, faBr2, List.length_nil, List.length_cons, List.length_append, Nat.reduceAdd, Nat.reduceLeDiff, List.set_cons_zero, List.set_cons_succ, and_self, true_and, Nat.le_refl, apure_max, apure_min, maxV, minV, finish, ares, aresL, ares1_tmp, ares1_cell, aresC_adr, aextract, acodeDN, aopsDN, alE, apure_deferF, litF1, cbDod, cbWha, List.isEmpty_cons, List.append_nil, hw, stE', erLen, layE]
    exact ⟨_, rfl, by simp only [upd_at, Nat.reduceEqDiff, reduceIte], by simp only [upd_at, Nat.reduceEqDiff, reduceIte]⟩
  obtain ⟨F, h1, f2, f3⟩ := h1
  rw [bodydor] at h1
  exact abodyD_eqF (by kernel_rfl) Try.func32 bodydor (by kernel_rfl) (Nat.le_of_ble_eq_true rfl) h1 dod_none (.inl rfl) (by
    simp only [Try.f32, List.append_eq, List.cons_append, List.nil_append, apure_call1, apure_call2, apure_call3, bft, btf, acodeN, List.getElem?_toArray, List.getElem?_cons_zero, List.getElem?_cons_succ, aopsN, adrawT, cls, astep, aop, afloat, ev, nth_lst, get_lst, aput, setAt_lst, upd_at, init_zero, init_succ, init_nil, Nat.reduceLT, Nat.reduceEqDiff, reduceIte, abuiltin, Option.map_some, Option.map_none, orElse_some, apure_add, List.map_cons, List.map_nil, List.all_cons, List.all_nil, lit2, lit1, lit0, List.isEmpty_nil, Bool.and_self, Bool.and_true, Bool.true_and, Bool.false_and, Bool.and_false, Bool.not_true, Bool.not_false, Bool.or_true, Bool.true_or, Bool.false_or, Bool.or_false, Bool.false_eq_true, if_true, if_false, List.length_map, beq_self_eq_true, und3, und4, und5, und9, eqlV9_int, neqV9_int, eqlV9_bool, neqV9_bool, eqlV9_str, neqV9_str, eqlB, neqB, eqlBr, neqBr, ↓aop_eqlV9, ↓aop_neqV9, ↓afloat_eqlV9, ↓afloat_neqV9, apure_eqlV9, apure_neqV9, eqlW, neqW, eqlI64, neqI64, aload_sealed, adB, adBr, adU, adE, wrWi, wrLt, wrFr, wrBk, wrCk, wrRl, wrRb, cbWi, cbAt, cbSp, cbLt, cbFr, cbBk, cbCk, cbRa, cbRs, cbRl, cbRb, cbMay, cbLk, cbLo, cbRe, cbSg, cbAw, bxP, bxB, bxPr, bxBr, alP, alB, alPr, alBr, ldP', ldB', ldPr', ldBr', ldI', ldU', ldL', ldS_pol, ldS_bud, ldF_p0, ldF_p1, ldF_p2, ldF_b0, ldF_b1, ldF_b2, stP', stB', stPr', stBr', stI', stU', stT', stL, polLen, budLen, layP, layB, layB0, layB1, layB2, faP0, faP1, faP2, faB0, faB1, faB2, faPr0, faPr1, faPr2, faBr0, faBr1, faBr2, List.length_nil, List.length_cons, List.length_append, Nat.reduceAdd, Nat.reduceLeDiff, List.set_cons_zero, List.set_cons_succ, and_self, true_and, Nat.le_refl, apure_max, apure_min, maxV, minV, finish, ares, aresL, ares1_tmp, ares1_cell, aresC_adr, aextract, f2, f3, ldE', ldF_e])
theorem dor_pan (hw : ∀ L, ainv E self 33 [plc9 p 0, plc9 q 0] (ap m L) = none) (hp : ∀ L, ainvP E sp 33 [plc9 p 0, plc9 q 0] (ap m L) = some (ref9 e, ap m L)) :
    ∃ m', abodyD E self sp nf 32 [fnWh p q] (ap m []) = some (.tuple ⟨[bud 0 0 false, .int .i64 e]⟩, m') := by
  have h1 : ∃ F, acodeDN E self sp nf (match Try.f32.body with | some c => c | none => .skip) (lst (init [fnWh p q]) 7) (ap m []) = some (40, [adr m 1 0], some (ref9 e), lst F 7, ap m [.row false 26 (budC 0 0 false), .row false 30 (erC 0)]) ∧ F 2 = adr m 0 0 ∧ F 3 = adr m 1 0 := by
    rw [bodydor]
    unfold fnWh
    simp only [edor_0, edor_1, edor_2, ldor_0, ldor_1, ldor_2, agd_none, gdAt, gdV_bool, gdV_undef, Try.f32, List.append_eq, List.cons_append, List.nil_append, apure_call1, apure_call2, apure_call3, bft, btf, acodeN, List.getElem?_toArray, List.getElem?_cons_zero, List.getElem?_cons_succ, aopsN, adrawT, cls, astep, aop, afloat, ev, nth_lst, get_lst, aput, setAt_lst, upd_at, init_zero, init_succ, init_nil, Nat.reduceLT, Nat.reduceEqDiff, reduceIte, abuiltin, Option.map_some, Option.map_none, orElse_some, apure_add, List.map_cons, List.map_nil, List.all_cons, List.all_nil, lit2, lit1, lit0, List.isEmpty_nil, Bool.and_self, Bool.and_true, Bool.true_and, Bool.false_and, Bool.and_false, Bool.not_true, Bool.not_false, Bool.or_true, Bool.true_or, Bool.false_or, Bool.or_false, Bool.false_eq_true, if_true, if_false, List.length_map, beq_self_eq_true, und3, und4, und5, und9, eqlV9_int, neqV9_int, eqlV9_bool, neqV9_bool, eqlV9_str, neqV9_str, eqlB, neqB, eqlBr, neqBr, ↓aop_eqlV9, ↓aop_neqV9, ↓afloat_eqlV9, ↓afloat_neqV9, apure_eqlV9, apure_neqV9, eqlW, neqW, eqlI64, neqI64, aload_sealed, adB, adBr, adU, adE, wrWi, wrLt, wrFr, wrBk, wrCk, wrRl, wrRb, cbWi, cbAt, cbSp, cbLt, cbFr, cbBk, cbCk, cbRa, cbRs, cbRl, cbRb, cbMay, cbLk, cbLo, cbRe, cbSg, cbAw, bxP, bxB, bxPr, bxBr, alP, alB, alPr, alBr, ldP', ldB', ldPr', ldBr', ldI', ldU', ldL', ldS_pol, ldS_bud, ldF_p0, ldF_p1, ldF_p2, ldF_b0, ldF_b1, ldF_b2, stP', stB', stPr', stBr', stI', stU', stT', stL, polLen, budLen, layP, layB, layB0, layB1, layB2, faP0, faP1, faP2, faB0, faB1, faB2, faPr0, faPr1, faPr2, faBr0, faBr1, faBr2, List.length_nil, List.length_cons, List.length_append, Nat.reduceAdd, Nat.reduceLeDiff, List.set_cons_zero, List.set_cons_succ, and_self, true_and, Nat.le_refl, apure_max, apure_min, maxV, minV, finish, ares, aresL, ares1_tmp, ares1_cell, aresC_adr, aextract, acodeDN, aopsDN, acodePN, aopsPN, apan, alE, apure_deferF, litF1, cbDod, cbWha, List.isEmpty_cons, List.append_nil, hw, hp, stE', erLen, layE]
    exact ⟨_, rfl, by simp only [upd_at, Nat.reduceEqDiff, reduceIte], by simp only [upd_at, Nat.reduceEqDiff, reduceIte]⟩
  obtain ⟨F, h1, f2, f3⟩ := h1
  rw [bodydor] at h1
  obtain ⟨R, h2⟩ := dod_live (self := self) (nf := nf) (m := m) (B := .row false 26 (budC 0 0 false)) (e := e) (e0 := 0)
  exact ⟨_, abodyD_eqF (by kernel_rfl) Try.func32 bodydor (by kernel_rfl) (Nat.le_of_ble_eq_true rfl) h1 h2 (.inr rfl) (by
    simp only [Try.f32, List.append_eq, List.cons_append, List.nil_append, apure_call1, apure_call2, apure_call3, bft, btf, acodeN, List.getElem?_toArray, List.getElem?_cons_zero, List.getElem?_cons_succ, aopsN, adrawT, cls, astep, aop, afloat, ev, nth_lst, get_lst, aput, setAt_lst, upd_at, init_zero, init_succ, init_nil, Nat.reduceLT, Nat.reduceEqDiff, reduceIte, abuiltin, Option.map_some, Option.map_none, orElse_some, apure_add, List.map_cons, List.map_nil, List.all_cons, List.all_nil, lit2, lit1, lit0, List.isEmpty_nil, Bool.and_self, Bool.and_true, Bool.true_and, Bool.false_and, Bool.and_false, Bool.not_true, Bool.not_false, Bool.or_true, Bool.true_or, Bool.false_or, Bool.or_false, Bool.false_eq_true, if_true, if_false, List.length_map, beq_self_eq_true, und3, und4, und5, und9, eqlV9_int, neqV9_int, eqlV9_bool, neqV9_bool, eqlV9_str, neqV9_str, eqlB, neqB, eqlBr, neqBr, ↓aop_eqlV9, ↓aop_neqV9, ↓afloat_eqlV9, ↓afloat_neqV9, apure_eqlV9, apure_neqV9, eqlW, neqW, eqlI64, neqI64, aload_sealed, adB, adBr, adU, adE, wrWi, wrLt, wrFr, wrBk, wrCk, wrRl, wrRb, cbWi, cbAt, cbSp, cbLt, cbFr, cbBk, cbCk, cbRa, cbRs, cbRl, cbRb, cbMay, cbLk, cbLo, cbRe, cbSg, cbAw, bxP, bxB, bxPr, bxBr, alP, alB, alPr, alBr, ldP', ldB', ldPr', ldBr', ldI', ldU', ldL', ldS_pol, ldS_bud, ldF_p0, ldF_p1, ldF_p2, ldF_b0, ldF_b1, ldF_b2, stP', stB', stPr', stBr', stI', stU', stT', stL, polLen, budLen, layP, layB, layB0, layB1, layB2, faP0, faP1, faP2, faB0, faB1, faB2, faPr0, faPr1, faPr2, faBr0, faBr1, faBr2, List.length_nil, List.length_cons, List.length_append, Nat.reduceAdd, Nat.reduceLeDiff, List.set_cons_zero, List.set_cons_succ, and_self, true_and, Nat.le_refl, apure_max, apure_min, maxV, minV, finish, ares, aresL, ares1_tmp, ares1_cell, aresC_adr, aextract, f2, f3, ldE', ldF_e])⟩
end

theorem wrDor : E.wr 32 = false := by kernel_rfl
section
variable {N : Nat} {X : Mem} {l r : List UInt8} {p q : Nat} {ro ro' : Bool} {e e' : TypeId} {a b : Nat} {c : Bool}
theorem door_ok (hN : 8 ≤ N) (hp : X[p]? = some (.row ro e [tx l])) (hq : X[q]? = some (.row ro' e' [fnRd])) (h : rd9 l = some (a, b, c, [])) : ainv E (RQ (N + 7)) 32 [fnWh p q] X = some (.tuple ⟨[bud a b c, .int .i64 0]⟩, X) := by
  have hd := dor_ok (self := RQ (N + 6)) (sp := RP (N + 6)) (nf := N + 7) (m := X.map sealed) (p := p) (q := q) (a := a) (b := b) (c := c) (fun L => whaC_ok hN (ap_old9 (sealed_get hp)) (ap_old9 (sealed_get hq)) h)
  have hn := dor_no (self := RQ (N + 6)) (nf := N + 7) (m := X.map sealed) (p := p) (q := q)
  rw [← ap_nil] at hd hn
  exact ainv_seal rfl wrDor rfl (runQ_door hn hd)
theorem door_no (hN : 8 ≤ N) (hp : X[p]? = some (.row ro e [tx l])) (hq : X[q]? = some (.row ro' e' [fnRd])) (h : ∀ a b c, rd9 l ≠ some (a, b, c, [])) : ainv E (RQ (N + 7)) 32 [fnWh p q] X = some (.tuple ⟨[bud 0 0 false, .int .i64 4]⟩, X) := by
  obtain ⟨m', hd⟩ := dor_pan (self := RQ (N + 6)) (sp := RP (N + 6)) (nf := N + 7) (m := X.map sealed) (p := p) (q := q) (e := 4) (fun L => (whaC_no hN (ap_old9 (sealed_get hp)) (ap_old9 (sealed_get hq)) h).1) (fun L => (whaC_no hN (ap_old9 (sealed_get hp)) (ap_old9 (sealed_get hq)) h).2)
  have hn := dor_no (self := RQ (N + 6)) (nf := N + 7) (m := X.map sealed) (p := p) (q := q)
  rw [← ap_nil] at hd hn
  exact ainv_seal rfl wrDor rfl (runQ_door hn hd)
end

theorem bxT (m : Mem) (L : List Blk) (l : List UInt8) : abox E.P 9 (tx l) (ap m L) = some (adr m L.length 0, ap m (L ++ [.row false 9 [tx l]])) := abox_L (by kernel_rfl) rfl m L
theorem bxF (m : Mem) (L : List Blk) : abox E.P 58 fnRd (ap m L) = some (adr m L.length 0, ap m (L ++ [.row false 58 [fnRd]])) := abox_L (by kernel_rfl) rfl m L
/-- What a text is: a budget, or none. -/
def parsed (l : List UInt8) : Nat × Nat × Bool × Int := match rd9 l with
  | some (a, b, c, []) => (a, b, c, 0)
  | _ => (0, 0, false, 4)
section
variable {N : Nat} {m : Mem} {l : List UInt8}
theorem who_body (hN : 8 ≤ N) : ∃ m', abody E (RQ (N + 7)) (N + 8) 26 [tx l, fnRd] (ap m []) = some (.tuple ⟨[bud (parsed l).1 (parsed l).2.1 (parsed l).2.2.1, .int .i64 (parsed l).2.2.2]⟩, m') := by
  rw [abody_eqF (by kernel_rfl) Try.func26 bodywho (by kernel_rfl) (Nat.le_of_ble_eq_true rfl)]
  rw [show Try.f26.ntmps = 10 from rfl]
  have hd : ainv E (RQ (N + 7)) 32 [.func (.func 33) ⟨[]⟩ ⟨[adr m 0 0, adr m 1 0]⟩] (ap m [.row false 9 [tx l], .row false 58 [fnRd], .row false 26 (budC 0 0 false)]) = some (.tuple ⟨[bud (parsed l).1 (parsed l).2.1 (parsed l).2.2.1, .int .i64 (parsed l).2.2.2]⟩, ap m [.row false 9 [tx l], .row false 58 [fnRd], .row false 26 (budC 0 0 false)]) := by
    have hp := ap_get m [.row false 9 [tx l], .row false 58 [fnRd], .row false 26 (budC 0 0 false)] 0
    have hq := ap_get m [.row false 9 [tx l], .row false 58 [fnRd], .row false 26 (budC 0 0 false)] 1
    by_cases h : ∃ a b c, rd9 l = some (a, b, c, [])
    · obtain ⟨a, b, c, h⟩ := h
      have e1 : parsed l = (a, b, c, 0) := by unfold parsed; rw [h]
      rw [e1]
      exact door_ok hN hp hq h
    · have h' : ∀ a b c, rd9 l ≠ some (a, b, c, []) := fun a b c hh => h ⟨a, b, c, hh⟩
      have e1 : parsed l = (0, 0, false, 4) := by
        unfold parsed
        split
        · rename_i a b c hh
          exact absurd hh (h' a b c)
        · rfl
      rw [e1]
      exact door_no hN hp hq h'
  generalize parsed l = y at *
  obtain ⟨a, b, c, e⟩ := y
  generalize RQ (N + 7) = slf at *
  simp only [ewho_0, ewho_1, lwho_0, lwho_1, agd_none, gdAt, gdV_bool, gdV_undef, Try.f26, List.append_eq, List.cons_append, List.nil_append, apure_call1, apure_call2, apure_call3, bft, btf, acodeN, List.getElem?_toArray, List.getElem?_cons_zero, List.getElem?_cons_succ, aopsN, adrawT, cls, astep, aop, afloat, ev, nth_lst, get_lst, aput, setAt_lst, upd_at, init_zero, init_succ, init_nil, Nat.reduceLT, Nat.reduceEqDiff, reduceIte, abuiltin, Option.map_some, Option.map_none, orElse_some, apure_add, List.map_cons, List.map_nil, List.all_cons, List.all_nil, lit2, lit1, lit0, List.isEmpty_nil, Bool.and_self, Bool.and_true, Bool.true_and, Bool.false_and, Bool.and_false, Bool.not_true, Bool.not_false, Bool.or_true, Bool.true_or, Bool.false_or, Bool.or_false, Bool.false_eq_true, if_true, if_false, List.length_map, beq_self_eq_true, und3, und4, und5, und9, eqlV9_int, neqV9_int, eqlV9_bool, neqV9_bool, eqlV9_str, neqV9_str, eqlB, neqB, eqlBr, neqBr, ↓aop_eqlV9, ↓aop_neqV9, ↓afloat_eqlV9, ↓afloat_neqV9, apure_eqlV9, apure_neqV9, eqlW, neqW, eqlI64, neqI64, aload_sealed, adB, adBr, adU, adE, wrWi, wrLt, wrFr, wrBk, wrCk, wrRl, wrRb, cbWi, cbAt, cbSp, cbLt, cbFr, cbBk, cbCk, cbRa, cbRs, cbRl, cbRb, cbMay, cbLk, cbLo, cbRe, cbSg, cbAw, bxP, bxB, bxPr, bxBr, alP, alB, alPr, alBr, ldP', ldB', ldPr', ldBr', ldI', ldU', ldL', ldS_pol, ldS_bud, ldF_p0, ldF_p1, ldF_p2, ldF_b0, ldF_b1, ldF_b2, stP', stB', stPr', stBr', stI', stU', stT', stL, polLen, budLen, layP, layB, layB0, layB1, layB2, faP0, faP1, faP2, faB0, faB1, faB2, faPr0, faPr1, faPr2, faBr0, faBr1, faBr2, List.length_nil, List.length_cons, List.length_append, Nat.reduceAdd, Nat.reduceLeDiff, List.set_cons_zero, List.set_cons_succ, and_self, true_and, Nat.le_refl, apure_max, apure_min, maxV, minV, finish, ares, aresL, ares1_tmp, ares1_cell, aresC_adr, aextract, bxT, bxF, cbDor, hd]
  exact ⟨_, rfl⟩
end
end Go.Am.Seat

/-
  A number's eight bytes as a text (own work).
-/
set_option linter.unusedSimpArgs false
set_option linter.unusedVariables false
namespace Go.Am.Seat
open Go.Proofs Go.Am
set_option maxRecDepth 100000

/-- The lowest i bytes of a number, the highest first. -/
def lowB (n : Nat) : Nat → List UInt8
  | 0 => []
  | i + 1 => UInt8.ofNat (n / 256 ^ i % 256) :: lowB n i
theorem lowB_len (n : Nat) : ∀ i, (lowB n i).length = i
  | 0 => rfl
  | i + 1 => by rw [lowB, List.length_cons, lowB_len n i]
def be8 (n : Nat) : List UInt8 := lowB n 8
theorem be8_len (n : Nat) : (be8 n).length = 8 := lowB_len n 8

theorem nb_cons_at (l : List UInt8) : ∀ n0 : Nat, l.foldl (fun n x => n * 256 + x.toNat) n0 = n0 * 256 ^ l.length + nb l := by
  induction l with
  | nil => intro n0; simp [nb]
  | cons x l ih =>
    intro n0
    have h2 : nb (x :: l) = x.toNat * 256 ^ l.length + nb l := by
      show List.foldl (fun n x => n * 256 + x.toNat) (0 * 256 + x.toNat) l = _
      rw [Nat.zero_mul, Nat.zero_add]
      exact ih x.toNat
    rw [List.foldl_cons, ih, h2, List.length_cons, Nat.pow_succ, Nat.add_mul, ← Nat.add_assoc, Nat.mul_assoc, Nat.mul_comm 256]
theorem nb_cons (x : UInt8) (l : List UInt8) : nb (x :: l) = x.toNat * 256 ^ l.length + nb l := by
  show List.foldl (fun n x => n * 256 + x.toNat) (0 * 256 + x.toNat) l = _
  rw [Nat.zero_mul, Nat.zero_add]
  exact nb_cons_at l x.toNat
theorem u8_of (k : Nat) : (UInt8.ofNat (k % 256)).toNat = k % 256 := by
  rw [UInt8.toNat_ofNat']
  omega
theorem nb_lowB (n : Nat) : ∀ i, nb (lowB n i) = n % 256 ^ i
  | 0 => by rw [lowB, nb_nil, Nat.pow_zero, Nat.mod_one]
  | i + 1 => by
    rw [lowB, nb_cons, nb_lowB n i, lowB_len, u8_of, Nat.pow_succ, Nat.mod_mul, Nat.mul_comm, Nat.add_comm]
theorem nb_be8 {n : Nat} (h : n < 18446744073709551616) : nb (be8 n) = n := by
  unfold be8
  rw [nb_lowB]
  exact Nat.mod_eq_of_lt h
theorem lowB_add (x n : Nat) {j : Nat} : ∀ i, i ≤ j → lowB (x * 256 ^ j + n) i = lowB n i
  | 0, _ => rfl
  | i + 1, h => by
    rw [lowB, lowB, lowB_add x n i (by omega)]
    congr 2
    have e : x * 256 ^ j = 256 ^ i * (256 * (x * 256 ^ (j - i - 1))) := by
      rw [show j = i + (1 + (j - i - 1)) by omega, Nat.pow_add, Nat.pow_add, Nat.pow_one, show i + (1 + (j - i - 1)) - i - 1 = j - i - 1 by omega]
      ac_rfl
    rw [e, Nat.mul_add_div (Nat.pow_pos (by decide)), Nat.mul_add_mod]
theorem lowB_nb : ∀ l : List UInt8, lowB (nb l) l.length = l
  | [] => rfl
  | x :: l => by
    rw [nb_cons, List.length_cons, lowB, lowB_add _ _ _ (Nat.le_refl _), lowB_nb l]
    congr 1
    have h1 := nb_lt l
    have h2 := x.toNat_lt
    rw [Nat.mul_comm, Nat.mul_add_div (Nat.pow_pos (by decide)), Nat.div_eq_of_lt h1, Nat.add_zero, Nat.mod_eq_of_lt (by omega), UInt8.ofNat_toNat]
theorem be8_nb {l : List UInt8} (h : l.length = 8) : be8 (nb l) = l := by
  have := lowB_nb l
  rwa [h] at this

/-- Letters as cells. -/
def lts (l : List UInt8) : List Value := l.map fun x => .int .u8 ((x.toNat : Nat) : Int)
theorem bytesOf_lts : ∀ l : List UInt8, bytesOf (lts l) = some l
  | [] => rfl
  | x :: l => by
    show (match bytesOf (lts l) with | some bs => some (UInt8.ofNat ((x.toNat : Nat) : Int).toNat :: bs) | none => none) = _
    rw [bytesOf_lts l, Int.toNat_natCast, UInt8.ofNat_toNat]

def row8 (n i : Nat) : List Value := List.replicate (8 - i) (.int .u8 0) ++ lts (lowB n i)
theorem row8_len {n i : Nat} (h : i ≤ 8) : (row8 n i).length = 8 := by
  unfold row8 lts
  rw [List.length_append, List.length_replicate, List.length_map, lowB_len]
  omega
theorem row8_set {n i : Nat} (h : i < 8) : (row8 n i).set (7 - i) (.int .u8 ((n / 256 ^ i % 256 : Nat) : Int)) = row8 n (i + 1) := by
  unfold row8
  rw [show 8 - i = (7 - i) + 1 by omega, show 8 - (i + 1) = 7 - i by omega, List.replicate_succ', List.append_assoc, List.set_append_right _ _ (by rw [List.length_replicate]; exact Nat.le_refl _), List.length_replicate, Nat.sub_self]
  congr 1
  show Value.int .u8 ((n / 256 ^ i % 256 : Nat) : Int) :: lts (lowB n i) = lts (lowB n (i + 1))
  rw [lowB]
  show _ = Value.int .u8 (((UInt8.ofNat (n / 256 ^ i % 256)).toNat : Nat) : Int) :: lts (lowB n i)
  rw [u8_of]

theorem shrB {n i : Nat} (h : i < 8) : abin .shr .u64 ((n : Nat) : Int) .i64 ((8 * i : Nat) : Int) = some (.int .u64 ((n / 256 ^ i : Nat) : Int)) := by
  unfold abin
  rw [if_neg (by omega), Int.toNat_natCast, show min (8 * i) IntKind.u64.bits = 8 * i from Nat.min_eq_left (by show 8 * i ≤ 64; omega), Int.fdiv_eq_ediv_of_nonneg _ (Int.natCast_nonneg _), ← Int.natCast_ediv, Nat.pow_mul]
  rfl
theorem cv64 (x : Nat) : aconv E.P 22 5 (.int .u64 ((x : Nat) : Int)) = some (.int .u8 ((x % 256 : Nat) : Int)) := by
  have h1 : aconv E.P 22 5 (.int .u64 ((x : Nat) : Int)) = some (.int .u8 (wrapF .u8 ((x : Nat) : Int))) := by kernel_rfl
  rw [h1]
  congr 2
theorem mulI (a b : Int) : abin .mul .i64 a .i64 b = some (.int .i64 (wrapF .i64 (a * b))) := by kernel_rfl
theorem und8 : E.P.underlying 70 = some (.array 8 5) := Try.underlying70
theorem ix8 {m : Mem} {j : Nat} (h : j < 8) : aindexAddr E.P 70 (adr m 0 0) (.int .i64 (j : Nat)) = some (adr m 0 j) := by
  obtain ⟨i, hi, hs⟩ : ∃ i, E.P.info? 5 = some i ∧ i.size = 1 := Option.map_eq_some_iff.1 (by kernel_rfl : (E.P.info? 5).map (·.size) = some 1)
  unfold aindexAddr adr
  simp only [und8, hi, hs]
  rw [if_pos ⟨by omega, by omega⟩, Int.toNat_natCast, Nat.mul_one, Nat.zero_add]
theorem st8 {m : Mem} {n i : Nat} (h : i < 8) : astore E.P 5 (adr m 0 (7 - i)) (.int .u8 ((n / 256 ^ i % 256 : Nat) : Int)) (ap m [.row false 70 (row8 n i)]) = some (ap m [.row false 70 (row8 n (i + 1))]) := by
  rw [astore_L (n := 1) (l := [.int .u8 ((n / 256 ^ i % 256 : Nat) : Int)]) (by kernel_rfl) rfl, stL_1]
  simp only [List.getElem?_cons_zero]
  rw [if_pos (by rw [row8_len (by omega)]; omega), row8_set h, List.set_cons_zero]

noncomputable def slV (P : Program) (T : List Value) (m : Mem) (t : TypeId) (o : Oper) (v : Value) : Option (Value × Mem) := match v with
  | .pointer (some a) => (aslice P t (.pointer (some a)) none none m).map (·, m)
  | _ => aop P T m o
theorem aop_slAll {P : Program} {T : List Value} {m : Mem} {d : Option Tmp} {t : TypeId} {x : Operand} {ty : TypeId} {pos : String} {af : Array Edge} {g : Option (Nat × Bool)} : aop P T m { dst := d, op := .slice t x none none none, type := ty, pos := pos, after := af, guard := g } = slV P T m t { dst := d, op := .slice t x none none none, type := ty, pos := pos, after := af, guard := g } (ev T x) := by
  cases h : ev T x with
  | pointer a =>
    cases a with
    | none => rfl
    | some a =>
      unfold aop slV
      simp only [h]
      rfl
  | _ => rfl
theorem slV_adr {P : Program} {T : List Value} {m m' : Mem} {t : TypeId} {o : Oper} {k q : Nat} : slV P T m t o (adr m' k q) = (aslice P t (adr m' k q) none none m).map (·, m) := rfl
theorem sl8 {m M : Mem} : aslice E.P 70 (adr m 0 0) none none M = some (.slice (some ⟨m.length + 0, 0, none⟩) 8 8) := by
  obtain ⟨i, hi, hs⟩ : ∃ i, E.P.info? 5 = some i ∧ i.size = 1 := Option.map_eq_some_iff.1 (by kernel_rfl : (E.P.info? 5).map (·.size) = some 1)
  unfold aslice adr
  simp only [und8, hi]
  rw [show abounds 8 8 none none = some (0, 8) from rfl]
  simp only [hs]
  rfl
theorem undB8 : E.P.underlying 71 = some (.slice 5) := Try.underlying71
theorem acv8 {a : Addr} : aconv E.P 71 9 (.slice (some a) 8 8) = none := rfl
theorem acb8 {m : Mem} {n : Nat} : aconvB E.P 71 9 (.slice (some ⟨m.length + 0, 0, none⟩) 8 8) (ap m [.row false 70 (row8 n 8)]) = some (tx (be8 n), ap m [.row false 70 (row8 n 8)]) := by
  have hl : look (ap m [.row false 70 (row8 n 8)]) (m.length + 0) = some (false, 70, row8 n 8) := look_row (ap_get m _ 0)
  have e1 : row8 n 8 = lts (be8 n) := rfl
  have h8 : (row8 n 8).length = 8 := row8_len (Nat.le_refl 8)
  unfold aconvB
  simp only [undB8, und9, und5, asrc, hl]
  rw [if_pos (by rw [h8]; omega), List.drop_zero, List.take_of_length_le (by rw [h8]; omega), e1]
  simp only [bytesOf_lts]
  rfl

section
variable {self : Self} {nf : Nat} {m : Mem} {F : Nat → Value} {i n : Nat}
theorem pei_it (h0 : F 0 = .int .u64 (n : Nat)) (h3 : F 3 = adr m 0 0) (h5 : F 5 = .int .i64 (i : Nat)) (hi : i < 8) :
    ∃ F', acodeN E self nf lppei_0 (lst F 19) (ap m [.row false 70 (row8 n i)]) = some (.normal, lst F' 19, ap m [.row false 70 (row8 n (i + 1))]) ∧ F' 0 = .int .u64 (n : Nat) ∧ F' 3 = adr m 0 0 ∧ F' 5 = .int .i64 ((i + 1 : Nat) : Int) := by
  have d1 : decide (((i : Nat) : Int) < 8) = true := decide_eq_true (by omega)
  have e1 : wrapF .i64 (7 - ((i : Nat) : Int)) = ((7 - i : Nat) : Int) := by simp only [wrapF]; omega
  have e2 : wrapF .i64 (8 * ((i : Nat) : Int)) = ((8 * i : Nat) : Int) := by simp only [wrapF]; omega
  have e3 := shrB (n := n) hi
  have e4 := cv64 (n / 256 ^ i)
  have e5 := ix8 (m := m) (j := 7 - i) (by omega)
  have e6 := st8 (m := m) (n := n) hi
  have e7 : wrapF .i64 (((i : Nat) : Int) + 1) = ((i + 1 : Nat) : Int) := by simp only [wrapF]; omega
  simp only [lppei_0_eq, epei_0, epei_1, epei_2, epei_3, epei_4, epei_5, epei_6, epei_7, lpei_0, lpei_1, lpei_2, lpei_3, lpei_4, lpei_5, lpei_6, lpei_7, agd_none, gdAt, gdV_bool, gdV_undef, Try.f30, List.append_eq, List.cons_append, List.nil_append, apure_call1, apure_call2, apure_call3, bft, btf, acodeN, List.getElem?_toArray, List.getElem?_cons_zero, List.getElem?_cons_succ, aopsN, adrawT, cls, astep, aop, afloat, ev, nth_lst, get_lst, aput, setAt_lst, upd_at, init_zero, init_succ, init_nil, Nat.reduceLT, Nat.reduceEqDiff, reduceIte, abuiltin, Option.map_some, Option.map_none, orElse_some, apure_add, List.map_cons, List.map_nil, List.all_cons, List.all_nil, lit2, lit1, lit0, List.isEmpty_nil, Bool.and_self, Bool.and_true, Bool.true_and, Bool.false_and, Bool.and_false, Bool.not_true, Bool.not_false, Bool.or_true, Bool.true_or, Bool.false_or, Bool.or_false, Bool.false_eq_true, if_true, if_false, List.length_map, beq_self_eq_true, und3, und4, und5, und9, eqlV9_int, neqV9_int, eqlV9_bool, neqV9_bool, eqlV9_str, neqV9_str, eqlB, neqB, eqlBr, neqBr, ↓aop_eqlV9, ↓aop_neqV9, ↓afloat_eqlV9, ↓afloat_neqV9, apure_eqlV9, apure_neqV9, eqlW, neqW, eqlI64, neqI64, aload_sealed, adB, adBr, adU, adE, wrWi, wrLt, wrFr, wrBk, wrCk, wrRl, wrRb, cbWi, cbAt, cbSp, cbLt, cbFr, cbBk, cbCk, cbRa, cbRs, cbRl, cbRb, cbMay, cbLk, cbLo, cbRe, cbSg, cbAw, bxP, bxB, bxPr, bxBr, alP, alB, alPr, alBr, ldP', ldB', ldPr', ldBr', ldI', ldU', ldL', ldS_pol, ldS_bud, ldF_p0, ldF_p1, ldF_p2, ldF_b0, ldF_b1, ldF_b2, stP', stB', stPr', stBr', stI', stU', stT', stL, polLen, budLen, layP, layB, layB0, layB1, layB2, faP0, faP1, faP2, faB0, faB1, faB2, faPr0, faPr1, faPr2, faBr0, faBr1, faBr2, List.length_nil, List.length_cons, List.length_append, Nat.reduceAdd, Nat.reduceLeDiff, List.set_cons_zero, List.set_cons_succ, and_self, true_and, Nat.le_refl, apure_max, apure_min, maxV, minV, finish, ares, aresL, ares1_tmp, ares1_cell, aresC_adr, aextract, h0, h3, h5, lssI, subI, mulI, addI, d1, e1, e2, e3, e4, e5, e6, e7]
  exact ⟨_, rfl, by simp only [upd_at, Nat.reduceEqDiff, reduceIte, h0], by simp only [upd_at, Nat.reduceEqDiff, reduceIte, h3], by simp only [upd_at, Nat.reduceEqDiff, reduceIte]⟩
theorem pei_end (h3 : F 3 = adr m 0 0) (h5 : F 5 = .int .i64 8) {M : Mem} : ∃ F', acodeN E self nf lppei_0 (lst F 19) M = some (.exit 0, lst F' 19, M) ∧ F' 3 = adr m 0 0 := by
  have d1 : decide ((8 : Int) < 8) = false := by decide
  simp only [lppei_0_eq, epei_0, epei_1, epei_2, epei_3, epei_4, epei_5, epei_6, epei_7, lpei_0, lpei_1, lpei_2, lpei_3, lpei_4, lpei_5, lpei_6, lpei_7, agd_none, gdAt, gdV_bool, gdV_undef, Try.f30, List.append_eq, List.cons_append, List.nil_append, apure_call1, apure_call2, apure_call3, bft, btf, acodeN, List.getElem?_toArray, List.getElem?_cons_zero, List.getElem?_cons_succ, aopsN, adrawT, cls, astep, aop, afloat, ev, nth_lst, get_lst, aput, setAt_lst, upd_at, init_zero, init_succ, init_nil, Nat.reduceLT, Nat.reduceEqDiff, reduceIte, abuiltin, Option.map_some, Option.map_none, orElse_some, apure_add, List.map_cons, List.map_nil, List.all_cons, List.all_nil, lit2, lit1, lit0, List.isEmpty_nil, Bool.and_self, Bool.and_true, Bool.true_and, Bool.false_and, Bool.and_false, Bool.not_true, Bool.not_false, Bool.or_true, Bool.true_or, Bool.false_or, Bool.or_false, Bool.false_eq_true, if_true, if_false, List.length_map, beq_self_eq_true, und3, und4, und5, und9, eqlV9_int, neqV9_int, eqlV9_bool, neqV9_bool, eqlV9_str, neqV9_str, eqlB, neqB, eqlBr, neqBr, ↓aop_eqlV9, ↓aop_neqV9, ↓afloat_eqlV9, ↓afloat_neqV9, apure_eqlV9, apure_neqV9, eqlW, neqW, eqlI64, neqI64, aload_sealed, adB, adBr, adU, adE, wrWi, wrLt, wrFr, wrBk, wrCk, wrRl, wrRb, cbWi, cbAt, cbSp, cbLt, cbFr, cbBk, cbCk, cbRa, cbRs, cbRl, cbRb, cbMay, cbLk, cbLo, cbRe, cbSg, cbAw, bxP, bxB, bxPr, bxBr, alP, alB, alPr, alBr, ldP', ldB', ldPr', ldBr', ldI', ldU', ldL', ldS_pol, ldS_bud, ldF_p0, ldF_p1, ldF_p2, ldF_b0, ldF_b1, ldF_b2, stP', stB', stPr', stBr', stI', stU', stT', stL, polLen, budLen, layP, layB, layB0, layB1, layB2, faP0, faP1, faP2, faB0, faB1, faB2, faPr0, faPr1, faPr2, faBr0, faBr1, faBr2, List.length_nil, List.length_cons, List.length_append, Nat.reduceAdd, Nat.reduceLeDiff, List.set_cons_zero, List.set_cons_succ, and_self, true_and, Nat.le_refl, apure_max, apure_min, maxV, minV, finish, ares, aresL, ares1_tmp, ares1_cell, aresC_adr, aextract, h5, lssI, d1]
  exact ⟨_, rfl, by simp only [upd_at, Nat.reduceEqDiff, reduceIte, h3]⟩
theorem al8 (m : Mem) (n : Nat) : aalloc E.P 70 (ap m []) = some (adr m 0 0, ap m [.row false 70 (row8 n 0)]) := aalloc_L (z := .agg ⟨row8 n 0⟩) (by kernel_rfl) rfl rfl m []
theorem pei_body (hnf : 8 < nf) : ∃ m', abody E self nf 30 [.int .u64 (n : Nat)] (ap m []) = some (tx (be8 n), m') := by
  rw [abody_eqF (by kernel_rfl) Try.func30 bodypei (by kernel_rfl) (Nat.le_of_ble_eq_true rfl)]
  rw [show Try.f30.ntmps = 19 from rfl]
  have h := aloop_inv (body := acodeN E self nf lppei_0) (N := 8) (I := fun i T m' => m' = ap m [.row false 70 (row8 n i)] ∧ ∃ F, T = lst F 19 ∧ F 0 = .int .u64 (n : Nat) ∧ F 3 = adr m 0 0 ∧ F 5 = .int .i64 (i : Nat))
    (Q := fun e T m' => e = .exit 0 ∧ m' = ap m [.row false 70 (row8 n 8)] ∧ ∃ F, T = lst F 19 ∧ F 3 = adr m 0 0) (fun i T m' hi hI => by
      obtain ⟨rfl, F, rfl, h0, h3, h5⟩ := hI
      by_cases hlt : i < 8
      · left
        obtain ⟨F', hr, g0, g3, g5⟩ := pei_it (self := self) (nf := nf) (m := m) h0 h3 h5 hlt
        exact ⟨_, _, hr, hlt, rfl, F', rfl, g0, g3, g5⟩
      · right
        have hie : i = 8 := by omega
        subst hie
        obtain ⟨F', hr, g3⟩ := pei_end (self := self) (nf := nf) (m := m) (M := ap m [.row false 70 (row8 n 8)]) h3 h5
        exact ⟨_, _, _, hr, by simp, rfl, rfl, F', rfl, g3⟩)
  obtain ⟨e, T', m', hr, rfl, rfl, F', rfl, g3⟩ := h 8 0 nf (lst (upd (upd (upd (init [.int .u64 (n : Nat)]) 2 (.string ⟨#[]⟩)) 3 (adr m 0 0)) 5 (.int .i64 0)) 19) (ap m [.row false 70 (row8 n 0)]) (by omega) (by omega) ⟨rfl, _, rfl, rfl, rfl, rfl⟩
  have a8 := al8 m n
  simp only [epei_0, epei_1, epei_2, epei_3, epei_4, epei_5, epei_6, epei_7, lpei_0, lpei_1, lpei_2, lpei_3, lpei_4, lpei_5, lpei_6, lpei_7, agd_none, gdAt, gdV_bool, gdV_undef, Try.f30, List.append_eq, List.cons_append, List.nil_append, apure_call1, apure_call2, apure_call3, bft, btf, acodeN, List.getElem?_toArray, List.getElem?_cons_zero, List.getElem?_cons_succ, aopsN, adrawT, cls, astep, aop, afloat, ev, nth_lst, get_lst, aput, setAt_lst, upd_at, init_zero, init_succ, init_nil, Nat.reduceLT, Nat.reduceEqDiff, reduceIte, abuiltin, Option.map_some, Option.map_none, orElse_some, apure_add, List.map_cons, List.map_nil, List.all_cons, List.all_nil, lit2, lit1, lit0, List.isEmpty_nil, Bool.and_self, Bool.and_true, Bool.true_and, Bool.false_and, Bool.and_false, Bool.not_true, Bool.not_false, Bool.or_true, Bool.true_or, Bool.false_or, Bool.or_false, Bool.false_eq_true, if_true, if_false, List.length_map, beq_self_eq_true, und3, und4, und5, und9, eqlV9_int, neqV9_int, eqlV9_bool, neqV9_bool, eqlV9_str, neqV9_str, eqlB, neqB, eqlBr, neqBr, ↓aop_eqlV9, ↓aop_neqV9, ↓afloat_eqlV9, ↓afloat_neqV9, apure_eqlV9, apure_neqV9, eqlW, neqW, eqlI64, neqI64, aload_sealed, adB, adBr, adU, adE, wrWi, wrLt, wrFr, wrBk, wrCk, wrRl, wrRb, cbWi, cbAt, cbSp, cbLt, cbFr, cbBk, cbCk, cbRa, cbRs, cbRl, cbRb, cbMay, cbLk, cbLo, cbRe, cbSg, cbAw, bxP, bxB, bxPr, bxBr, alP, alB, alPr, alBr, ldP', ldB', ldPr', ldBr', ldI', ldU', ldL', ldS_pol, ldS_bud, ldF_p0, ldF_p1, ldF_p2, ldF_b0, ldF_b1, ldF_b2, stP', stB', stPr', stBr', stI', stU', stT', stL, polLen, budLen, layP, layB, layB0, layB1, layB2, faP0, faP1, faP2, faB0, faB1, faB2, faPr0, faPr1, faPr2, faBr0, faBr1, faBr2, List.length_nil, List.length_cons, List.length_append, Nat.reduceAdd, Nat.reduceLeDiff, List.set_cons_zero, List.set_cons_succ, and_self, true_and, Nat.le_refl, apure_max, apure_min, maxV, minV, finish, ares, aresL, ares1_tmp, ares1_cell, aresC_adr, aextract, a8, hr, g3, ↓aop_slAll, slV_adr, sl8, acv8, acb8, apure_convert, isAddr]
  exact ⟨_, rfl⟩
end
section
variable {N n : Nat}
theorem eight_call (hN : 8 ≤ N) : AnsB (RQ (N + 1)) 30 [.int .u64 (n : Nat)] (tx (be8 n)) := ans9 rfl rfl rfl fun m => pei_body (by omega)
end
end Go.Am.Seat

/-
  A budget's text (own work).
-/
set_option linter.unusedSimpArgs false
set_option linter.unusedVariables false
namespace Go.Am.Seat
open Go.Proofs Go.Am
set_option maxRecDepth 100000

def be4 (n : Nat) : List UInt8 := lowB n 4
theorem be4_len (n : Nat) : (be4 n).length = 4 := lowB_len n 4
theorem be8_drop (n : Nat) : (be8 n).drop 4 = be4 n := rfl
theorem nb_be4 {n : Nat} (h : n < 4294967296) : nb (be4 n) = n := by
  unfold be4
  rw [nb_lowB]
  exact Nat.mod_eq_of_lt h
theorem be4_nb {l : List UInt8} (h : l.length = 4) : be4 (nb l) = l := by
  have := lowB_nb l
  rwa [h] at this
def flB (c : Bool) : List UInt8 := if c then [1] else [0]

theorem cv3264 {n : Nat} (h : n < 4294967296) : aconv E.P 60 22 (.int .u32 ((n : Nat) : Int)) = some (.int .u64 ((n : Nat) : Int)) := by
  have h1 : aconv E.P 60 22 (.int .u32 ((n : Nat) : Int)) = some (.int .u64 (wrapF .u64 ((n : Nat) : Int))) := by kernel_rfl
  rw [h1]
  congr 2
  simp only [wrapF]
  omega
theorem cvLf {n : Nat} (h : n < 4294967296) : aconv E.P 2 60 (.int .i64 ((n : Nat) : Int)) = some (.int .u32 ((n : Nat) : Int)) := by
  have h1 : aconv E.P 2 60 (.int .i64 ((n : Nat) : Int)) = some (.int .u32 (wrapF .u32 ((n : Nat) : Int))) := by kernel_rfl
  rw [h1]
  congr 2
  simp only [wrapF]
  omega
theorem tx_app (a b : List UInt8) : (⟨a.toArray⟩ : ByteArray) ++ ⟨b.toArray⟩ = ⟨(a ++ b).toArray⟩ := by
  apply ByteArray.ext
  rw [ByteArray.data_append]
  simp
theorem cbE8 : callableB E.P 30 = true := by kernel_rfl
theorem cbF4 : callableB E.P 28 = true := by kernel_rfl
theorem cbFg : callableB E.P 31 = true := by kernel_rfl
theorem cbLf : callableB E.P 29 = true := by kernel_rfl
theorem cbTx : callableB E.P 22 = true := by kernel_rfl
theorem wrE8 : E.wr 30 = false := by kernel_rfl
theorem wrF4 : E.wr 28 = false := by kernel_rfl
theorem wrFg : E.wr 31 = false := by kernel_rfl
theorem wrLf : E.wr 29 = false := by kernel_rfl
theorem adSt : addrT E.P 4 9 = false := by kernel_rfl
theorem ad32 : addrT E.P 4 60 = false := by kernel_rfl

section
variable {self : Self} {nf : Nat} {m : Mem} {n w : Nat} {c : Bool} {k : Int}
theorem pfo_body (hn : n < 4294967296) (he : ∀ M, ainv E self 30 [.int .u64 (n : Nat)] M = some (tx (be8 n), M)) : ∃ m', abody E self nf 28 [.int .u32 (n : Nat)] (ap m []) = some (tx (be4 n), m') := by
  rw [abody_eqF (by kernel_rfl) Try.func28 bodypfo (by kernel_rfl) (Nat.le_of_ble_eq_true rfl)]
  rw [show Try.f28.ntmps = 7 from rfl]
  have h1 := cv3264 hn
  have h2 : sliceLo ⟨(be8 n).toArray⟩ 4 = some (.string ⟨(be4 n).toArray⟩) := by
    have h := sliceLo_ok (s := ⟨(be8 n).toArray⟩) (n := 4) (by rw [tx_size, be8_len]; omega)
    rw [ext_list, tx_size, be8_len, be8_drop, List.take_of_length_le (by rw [be4_len]; omega)] at h
    exact h
  simp only [epfo_0, epfo_1, lpfo_0, lpfo_1, agd_none, gdAt, gdV_bool, gdV_undef, Try.f28, List.append_eq, List.cons_append, List.nil_append, apure_call1, apure_call2, apure_call3, bft, btf, acodeN, List.getElem?_toArray, List.getElem?_cons_zero, List.getElem?_cons_succ, aopsN, adrawT, cls, astep, aop, afloat, ev, nth_lst, get_lst, aput, setAt_lst, upd_at, init_zero, init_succ, init_nil, Nat.reduceLT, Nat.reduceEqDiff, reduceIte, abuiltin, Option.map_some, Option.map_none, orElse_some, apure_add, List.map_cons, List.map_nil, List.all_cons, List.all_nil, lit2, lit1, lit0, List.isEmpty_nil, Bool.and_self, Bool.and_true, Bool.true_and, Bool.false_and, Bool.and_false, Bool.not_true, Bool.not_false, Bool.or_true, Bool.true_or, Bool.false_or, Bool.or_false, Bool.false_eq_true, if_true, if_false, List.length_map, beq_self_eq_true, und3, und4, und5, und9, eqlV9_int, neqV9_int, eqlV9_bool, neqV9_bool, eqlV9_str, neqV9_str, eqlB, neqB, eqlBr, neqBr, ↓aop_eqlV9, ↓aop_neqV9, ↓afloat_eqlV9, ↓afloat_neqV9, apure_eqlV9, apure_neqV9, eqlW, neqW, eqlI64, neqI64, aload_sealed, adB, adBr, adU, adE, wrWi, wrLt, wrFr, wrBk, wrCk, wrRl, wrRb, cbWi, cbAt, cbSp, cbLt, cbFr, cbBk, cbCk, cbRa, cbRs, cbRl, cbRb, cbMay, cbLk, cbLo, cbRe, cbSg, cbAw, bxP, bxB, bxPr, bxBr, alP, alB, alPr, alBr, ldP', ldB', ldPr', ldBr', ldI', ldU', ldL', ldS_pol, ldS_bud, ldF_p0, ldF_p1, ldF_p2, ldF_b0, ldF_b1, ldF_b2, stP', stB', stPr', stBr', stI', stU', stT', stL, polLen, budLen, layP, layB, layB0, layB1, layB2, faP0, faP1, faP2, faB0, faB1, faB2, faPr0, faPr1, faPr2, faBr0, faBr1, faBr2, List.length_nil, List.length_cons, List.length_append, Nat.reduceAdd, Nat.reduceLeDiff, List.set_cons_zero, List.set_cons_succ, and_self, true_and, Nat.le_refl, apure_max, apure_min, maxV, minV, finish, ares, aresL, ares1_tmp, ares1_cell, aresC_adr, aextract, cbE8, h1, he, tx, apure_slice1 und9, h2]
  exact ⟨_, rfl⟩
theorem pfl_body : ∃ m', abody E self nf 31 [.bool c] (ap m []) = some (tx (flB c), m') := by
  rw [abody_eqF (by kernel_rfl) Try.func31 bodypfl (by kernel_rfl) (Nat.le_of_ble_eq_true rfl)]
  rw [show Try.f31.ntmps = 4 from rfl]
  cases c <;> (simp only [epfl_0, epfl_1, epfl_2, epfl_3, lpfl_0, lpfl_1, lpfl_2, lpfl_3, agd_none, gdAt, gdV_bool, gdV_undef, Try.f31, List.append_eq, List.cons_append, List.nil_append, apure_call1, apure_call2, apure_call3, bft, btf, acodeN, List.getElem?_toArray, List.getElem?_cons_zero, List.getElem?_cons_succ, aopsN, adrawT, cls, astep, aop, afloat, ev, nth_lst, get_lst, aput, setAt_lst, upd_at, init_zero, init_succ, init_nil, Nat.reduceLT, Nat.reduceEqDiff, reduceIte, abuiltin, Option.map_some, Option.map_none, orElse_some, apure_add, List.map_cons, List.map_nil, List.all_cons, List.all_nil, lit2, lit1, lit0, List.isEmpty_nil, Bool.and_self, Bool.and_true, Bool.true_and, Bool.false_and, Bool.and_false, Bool.not_true, Bool.not_false, Bool.or_true, Bool.true_or, Bool.false_or, Bool.or_false, Bool.false_eq_true, if_true, if_false, List.length_map, beq_self_eq_true, und3, und4, und5, und9, eqlV9_int, neqV9_int, eqlV9_bool, neqV9_bool, eqlV9_str, neqV9_str, eqlB, neqB, eqlBr, neqBr, ↓aop_eqlV9, ↓aop_neqV9, ↓afloat_eqlV9, ↓afloat_neqV9, apure_eqlV9, apure_neqV9, eqlW, neqW, eqlI64, neqI64, aload_sealed, adB, adBr, adU, adE, wrWi, wrLt, wrFr, wrBk, wrCk, wrRl, wrRb, cbWi, cbAt, cbSp, cbLt, cbFr, cbBk, cbCk, cbRa, cbRs, cbRl, cbRb, cbMay, cbLk, cbLo, cbRe, cbSg, cbAw, bxP, bxB, bxPr, bxBr, alP, alB, alPr, alBr, ldP', ldB', ldPr', ldBr', ldI', ldU', ldL', ldS_pol, ldS_bud, ldF_p0, ldF_p1, ldF_p2, ldF_b0, ldF_b1, ldF_b2, stP', stB', stPr', stBr', stI', stU', stT', stL, polLen, budLen, layP, layB, layB0, layB1, layB2, faP0, faP1, faP2, faB0, faB1, faB2, faPr0, faPr1, faPr2, faBr0, faBr1, faBr2, List.length_nil, List.length_cons, List.length_append, Nat.reduceAdd, Nat.reduceLeDiff, List.set_cons_zero, List.set_cons_succ, and_self, true_and, Nat.le_refl, apure_max, apure_min, maxV, minV, finish, ares, aresL, ares1_tmp, ares1_cell, aresC_adr, aextract]; exact ⟨_, rfl⟩)
theorem blf_body (hn : n < 2147483648) {b : Int} : ∃ m', abody E self nf 29 [bud (n : Nat) b c] (ap m []) = some (.int .u32 (n : Nat), m') := by
  rw [abody_eqF (by kernel_rfl) Try.func29 bodyblf (by kernel_rfl) (Nat.le_of_ble_eq_true rfl)]
  rw [show Try.f29.ntmps = 8 from rfl]
  have h1 : max ((n : Nat) : Int) (-2147483648) = ((n : Nat) : Int) := by omega
  have h2 : min ((n : Nat) : Int) 4294967295 = ((n : Nat) : Int) := by omega
  have h3 := cvLf (n := n) (by omega)
  simp only [eblf_0, eblf_1, lblf_0, lblf_1, agd_none, gdAt, gdV_bool, gdV_undef, Try.f29, List.append_eq, List.cons_append, List.nil_append, apure_call1, apure_call2, apure_call3, bft, btf, acodeN, List.getElem?_toArray, List.getElem?_cons_zero, List.getElem?_cons_succ, aopsN, adrawT, cls, astep, aop, afloat, ev, nth_lst, get_lst, aput, setAt_lst, upd_at, init_zero, init_succ, init_nil, Nat.reduceLT, Nat.reduceEqDiff, reduceIte, abuiltin, Option.map_some, Option.map_none, orElse_some, apure_add, List.map_cons, List.map_nil, List.all_cons, List.all_nil, lit2, lit1, lit0, List.isEmpty_nil, Bool.and_self, Bool.and_true, Bool.true_and, Bool.false_and, Bool.and_false, Bool.not_true, Bool.not_false, Bool.or_true, Bool.true_or, Bool.false_or, Bool.or_false, Bool.false_eq_true, if_true, if_false, List.length_map, beq_self_eq_true, und3, und4, und5, und9, eqlV9_int, neqV9_int, eqlV9_bool, neqV9_bool, eqlV9_str, neqV9_str, eqlB, neqB, eqlBr, neqBr, ↓aop_eqlV9, ↓aop_neqV9, ↓afloat_eqlV9, ↓afloat_neqV9, apure_eqlV9, apure_neqV9, eqlW, neqW, eqlI64, neqI64, aload_sealed, adB, adBr, adU, adE, wrWi, wrLt, wrFr, wrBk, wrCk, wrRl, wrRb, cbWi, cbAt, cbSp, cbLt, cbFr, cbBk, cbCk, cbRa, cbRs, cbRl, cbRb, cbMay, cbLk, cbLo, cbRe, cbSg, cbAw, bxP, bxB, bxPr, bxBr, alP, alB, alPr, alBr, ldP', ldB', ldPr', ldBr', ldI', ldU', ldL', ldS_pol, ldS_bud, ldF_p0, ldF_p1, ldF_p2, ldF_b0, ldF_b1, ldF_b2, stP', stB', stPr', stBr', stI', stU', stT', stL, polLen, budLen, layP, layB, layB0, layB1, layB2, faP0, faP1, faP2, faB0, faB1, faB2, faPr0, faPr1, faPr2, faBr0, faBr1, faBr2, List.length_nil, List.length_cons, List.length_append, Nat.reduceAdd, Nat.reduceLeDiff, List.set_cons_zero, List.set_cons_succ, and_self, true_and, Nat.le_refl, apure_max, apure_min, maxV, minV, finish, ares, aresL, ares1_tmp, ares1_cell, aresC_adr, aextract, h1, h2, h3]
  exact ⟨_, rfl⟩
/-- A budget's bytes. -/
def budB (n w : Nat) (c : Bool) : List UInt8 := be4 n ++ (be8 w ++ flB c)
theorem flB_len (c : Bool) : (flB c).length = 1 := by cases c <;> rfl
theorem budB_len (n w : Nat) (c : Bool) : (budB n w c).length = 13 := by
  unfold budB
  rw [List.length_append, List.length_append, be4_len, be8_len, flB_len]
theorem btx_body (hl : ∀ M, ainv E self 29 [bud (n : Nat) (w : Nat) c] M = some (.int .u32 (n : Nat), M)) (h4 : ∀ M, ainv E self 28 [.int .u32 (n : Nat)] M = some (tx (be4 n), M)) (h8 : ∀ M, ainv E self 30 [.int .u64 (w : Nat)] M = some (tx (be8 w), M)) (hf : ∀ M, ainv E self 31 [.bool c] M = some (tx (flB c), M)) :
    ∃ m', abody E self nf 22 [bud (n : Nat) (w : Nat) c] (ap m []) = some (tx (budB n w c), m') := by
  rw [abody_eqF (by kernel_rfl) Try.func22 bodybtx (by kernel_rfl) (Nat.le_of_ble_eq_true rfl)]
  rw [show Try.f22.ntmps = 14 from rfl]
  simp only [↓dbtx_1, ↓sbtx_1, ebtx_0, ebtx_1, lbtx_0, lbtx_1, agd_none, gdAt, gdV_bool, gdV_undef, Try.f22, List.append_eq, List.cons_append, List.nil_append, apure_call1, apure_call2, apure_call3, bft, btf, acodeN, List.getElem?_toArray, List.getElem?_cons_zero, List.getElem?_cons_succ, aopsN, adrawT, cls, astep, aop, afloat, ev, nth_lst, get_lst, aput, setAt_lst, upd_at, init_zero, init_succ, init_nil, Nat.reduceLT, Nat.reduceEqDiff, reduceIte, abuiltin, Option.map_some, Option.map_none, orElse_some, apure_add, List.map_cons, List.map_nil, List.all_cons, List.all_nil, lit2, lit1, lit0, List.isEmpty_nil, Bool.and_self, Bool.and_true, Bool.true_and, Bool.false_and, Bool.and_false, Bool.not_true, Bool.not_false, Bool.or_true, Bool.true_or, Bool.false_or, Bool.or_false, Bool.false_eq_true, if_true, if_false, List.length_map, beq_self_eq_true, und3, und4, und5, und9, eqlV9_int, neqV9_int, eqlV9_bool, neqV9_bool, eqlV9_str, neqV9_str, eqlB, neqB, eqlBr, neqBr, ↓aop_eqlV9, ↓aop_neqV9, ↓afloat_eqlV9, ↓afloat_neqV9, apure_eqlV9, apure_neqV9, eqlW, neqW, eqlI64, neqI64, aload_sealed, adB, adBr, adU, adE, wrWi, wrLt, wrFr, wrBk, wrCk, wrRl, wrRb, cbWi, cbAt, cbSp, cbLt, cbFr, cbBk, cbCk, cbRa, cbRs, cbRl, cbRb, cbMay, cbLk, cbLo, cbRe, cbSg, cbAw, bxP, bxB, bxPr, bxBr, alP, alB, alPr, alBr, ldP', ldB', ldPr', ldBr', ldI', ldU', ldL', ldS_pol, ldS_bud, ldF_p0, ldF_p1, ldF_p2, ldF_b0, ldF_b1, ldF_b2, stP', stB', stPr', stBr', stI', stU', stT', stL, polLen, budLen, layP, layB, layB0, layB1, layB2, faP0, faP1, faP2, faB0, faB1, faB2, faPr0, faPr1, faPr2, faBr0, faBr1, faBr2, List.length_nil, List.length_cons, List.length_append, Nat.reduceAdd, Nat.reduceLeDiff, List.set_cons_zero, List.set_cons_succ, and_self, true_and, Nat.le_refl, apure_max, apure_min, maxV, minV, finish, ares, aresL, ares1_tmp, ares1_cell, aresC_adr, aextract, cbE8, cbF4, cbFg, cbLf, wrE8, wrF4, wrFg, wrLf, adSt, ad32, hl, h4, h8, hf, tx, tx_app, tx_size, List.length_append, be4_len, be8_len, flB_len, Nat.reduceAdd, Nat.reduceLeDiff]
  unfold budB
  rw [← List.append_assoc]
  exact ⟨_, rfl⟩
end

section
variable {N n w : Nat} {c : Bool} {l : List UInt8}
theorem text_call (hN : 8 ≤ N) (hn : n < 2147483648) : AnsB (RQ (N + 3)) 22 [bud (n : Nat) (w : Nat) c] (tx (budB n w c)) :=
  ans9 rfl rfl rfl fun m => btx_body (fun M => ans9 (n := N + 1) rfl rfl rfl (fun m => blf_body hn) M) (fun M => ans9 (n := N + 1) rfl rfl rfl (fun m => pfo_body (by omega) (fun M => eight_call hN M)) M) (fun M => eight_call (N := N + 1) (by omega) M) (fun M => ans9 (n := N + 1) rfl rfl rfl (fun m => pfl_body) M)

theorem parsed_some {a b : Nat} (h : rd9 l = some (a, b, c, [])) : l = budB a b c ∧ a ≤ 2147483647 ∧ b < 18446744073709551616 ∧ l.length = 13 := by
  unfold rd9 at h
  split at h
  · rename_i hc
    obtain ⟨h1, h2, h3⟩ := hc
    simp only [Option.some.injEq, Prod.mk.injEq] at h
    obtain ⟨rfl, rfl, rfl, h4⟩ := h
    have h13 : l.length = 13 := by
      have := congrArg List.length h4
      rw [List.length_drop, List.length_nil] at this
      omega
    have hp : (l.take 4).length = 4 := by rw [List.length_take]; omega
    have hq : ((l.drop 4).take 8).length = 8 := by rw [List.length_take, List.length_drop]; omega
    refine ⟨?_, h2, ?_, h13⟩
    · unfold budB
      rw [be4_nb hp, be8_nb hq]
      have e2 : l.getD 12 0 :: l.drop 13 = l.drop 12 := by
        rw [List.getD_eq_getElem?_getD, List.getElem?_eq_getElem (by omega)]
        exact (List.drop_eq_getElem_cons (by omega)).symm
      have e3 : flB (decide ((l.getD 12 0).toNat = 1)) = l.drop 12 := by
        rw [← e2, h4]
        generalize l.getD 12 0 = x at *
        rcases (by omega : x.toNat = 0 ∨ x.toNat = 1) with hx | hx
        · rw [hx]
          have : x = 0 := UInt8.toNat_inj.1 hx
          rw [this]
          rfl
        · rw [hx]
          have : x = 1 := UInt8.toNat_inj.1 hx
          rw [this]
          rfl
      rw [e3, ← List.drop_drop (i := 8) (j := 4), List.take_append_drop, List.take_append_drop]
    · have := nb_lt ((l.drop 4).take 8)
      rw [hq] at this
      exact this
  · cases h
theorem parsed_bud (hn : n < 2147483648) (hw : w < 18446744073709551616) : parsed (budB n w c) = (n, w, c, 0) := by
  have h : rd9 (budB n w c) = some (n, w, c, []) := by
    have e1 : (budB n w c).take 4 = be4 n := List.take_left' (be4_len n)
    have e2 : (budB n w c).drop 4 = be8 w ++ flB c := List.drop_left' (be4_len n)
    have e3 : ((budB n w c).drop 4).take 8 = be8 w := by rw [e2]; exact List.take_left' (be8_len w)
    have e4 : (budB n w c).drop 12 = flB c := by rw [← List.drop_drop (i := 8) (j := 4), e2]; exact List.drop_left' (be8_len w)
    have e5 : (budB n w c).drop 13 = [] := List.drop_eq_nil_of_le (by rw [budB_len]; omega)
    have e6 : (budB n w c).getD 12 0 = if c then 1 else 0 := by
      have h9 : ((budB n w c).drop 12).getD 0 0 = (budB n w c).getD 12 0 := by
        rw [List.getD_eq_getElem?_getD, List.getD_eq_getElem?_getD, List.getElem?_drop]
      rw [← h9, e4]
      cases c <;> rfl
    unfold rd9
    rw [e1, e3, e5, e6, nb_be4 (by omega), nb_be8 hw, if_pos ⟨by rw [budB_len]; omega, by omega, by cases c <;> decide⟩]
    cases c <;> rfl
  unfold parsed
  rw [h]
theorem top_byte {p : List UInt8} {x : UInt8} (h : p.length = 3) : nb (x :: p) ≤ 2147483647 ↔ x.toNat < 128 := by
  rw [nb_cons, h]
  have := nb_lt p
  rw [h] at this
  have e : (256 : Nat) ^ 3 = 16777216 := by decide
  rw [e] at *
  omega
end
end Go.Am.Seat
