/-
  Texts of my own, put together: CT5, BT9, BT10, CT6, CT7.
-/
import Derived.Test.YtalilffocbkfnaaDoorGrChainTexts15
/-
  An entry's text behind a door (own work).
-/
set_option linter.unusedSimpArgs false
set_option linter.unusedVariables false
namespace Go.Am.Seat
open Go.Proofs Go.Am
set_option maxRecDepth 100000

theorem cbRdE : callableB E.P 23 = true := by kernel_rfl
theorem cbWhaE : callableB E.P 31 = true := by kernel_rfl
theorem cbDorE : callableB E.P 30 = true := by kernel_rfl
theorem cbDodE : callableB E.P 43 = true := by kernel_rfl
theorem cbWhoE : callableB E.P 22 = true := by kernel_rfl
theorem cbPaE : callableB E.P 8 = true := by kernel_rfl

/-- The reading of a budget, as a value. -/
def fnRE : Value := .func (.func 23) ⟨[]⟩ ⟨[]⟩
section
variable {N : Nat} {M : Mem} {l r : List UInt8} {p q : Nat} {ro ro' : Bool} {e e' : TypeId} {en : Ent}
theorem cwa_ok (hN : 8 ≤ N) (hp : M[p]? = some (.row ro e [tx l])) (hq : M[q]? = some (.row ro' e' [fnRE])) (h : rdE l = some (en, [])) :
    ∃ m', abody E (RQ (N + 6)) (N + 7) 31 [plc9 p 0, plc9 q 0] (ap M []) = some (en.v, m') := by
  rw [abody_eqF (by kernel_rfl) Tryd.func31 bodycwa (by kernel_rfl) (Nat.le_of_ble_eq_true rfl)]
  rw [show Tryd.f31.ntmps = 15 from rfl]
  have l1 : ∀ L, aload E.P 9 (plc9 p 0) (ap M L) = some (tx l) := fun L => aload_at9 Tryd.underlying9 rfl (ap_old9 hp)
  have l2 : ∀ L, aload E.P 60 (plc9 q 0) (ap M L) = some (.func (.func 23) ⟨[]⟩ ⟨[]⟩) := fun L => aload_at9 Tryd.underlying60 rfl (ap_old9 hq)
  have h1 := read_call (N := N + 5) (m := M) (L := [.row false 24 (entC 0 0 0 [] [])]) (l := l)
  have h2 := readE_some (N := N) (m := M) (b0 := .row false 24 (entC 0 0 0 [] [])) hN h
  have h3 := more_call (N := N + 5) (m := M) (L := [.row false 24 (entC 0 0 0 [] []), rdR [], .row false 24 (en.cs), .row false 24 (en.cs), .row false 24 (en.cs)]) (k := 1) (l := []) rfl
  have h4 := fun e M => hold_T (N := N + 5) (e := e) M
  generalize RQ (N + 6) = slf at *
  simp only [List.length_cons, List.length_nil, Nat.reduceAdd, List.cons_append, List.nil_append, beq_self_eq_true, Bool.not_true, Ent.cs] at h1 h3
  simp only [ecwa_0, ecwa_1, ecwa_2, ecwa_3, ecwa_4, lcwa_0, lcwa_1, lcwa_2, lcwa_3, lcwa_4, agd_none, gdAt, gdV_bool, gdV_undef, Tryd.f31, List.append_eq, List.cons_append, List.nil_append, apure_call1, apure_call2, apure_call3, bft, btf, acodeN, List.getElem?_toArray, List.getElem?_cons_zero, List.getElem?_cons_succ, aopsN, adrawT, cls, astep, aop, afloat, ev, nth_lst, get_lst, aput, setAt_lst, upd_at, init_zero, init_succ, init_nil, Nat.reduceLT, Nat.reduceEqDiff, reduceIte, abuiltin, Option.map_some, Option.map_none, orElse_some, apure_add, List.map_cons, List.map_nil, List.all_cons, List.all_nil, lit2, lit1, lit0, List.isEmpty_nil, Bool.and_self, Bool.and_true, Bool.true_and, Bool.false_and, Bool.and_false, Bool.not_true, Bool.not_false, Bool.or_true, Bool.true_or, Bool.false_or, Bool.or_false, Bool.false_eq_true, if_true, if_false, List.length_map, beq_self_eq_true, und3, und4, und5, und9, eqlV9_int, neqV9_int, eqlV9_bool, neqV9_bool, eqlV9_str, neqV9_str, ↓aop_eqlV9, ↓aop_neqV9, ↓afloat_eqlV9, ↓afloat_neqV9, apure_eqlV9, apure_neqV9, eqlW, neqW, eqlI64, neqI64, aload_sealed, adU, adE, ldI', ldU', ldL', ldS_pol, ldS_bud, ldF_p0, ldF_p1, ldF_p2, ldF_b0, ldF_b1, ldF_b2, stI', stU', stT', stL, polLen, budLen, layP, layB, layB0, layB1, layB2, List.length_nil, List.length_cons, List.length_append, Nat.reduceAdd, Nat.reduceLeDiff, List.set_cons_zero, List.set_cons_succ, and_self, true_and, Nat.le_refl, apure_max, apure_min, maxV, minV, finish, ares, aresL, ares1_tmp, ares1_cell, aresC_adr, aextract, bxEn, alEn, ldEn, stEn, faEn0, faEn1, faEn2, faEn3, faEn4, bxRn, alRn, ldRn, stRn, faRn0, faRn1, faRn2, faRn3, faRn4, ldS_en, ldF_n0, ldF_n1, ldF_n2, ldF_n3, ldF_n4, enLen, layN, layN0, layN1, layN2, layN3, layN4, stTx, ldT', Ent.v, Ent.cs, ent0, cbRead, cbMore, cbRdE, cbHld, l1, l2, h1, h2, h3, h4]
  exact ⟨_, rfl⟩
theorem cwa_more (hN : 8 ≤ N) (hr : r ≠ []) (hp : M[p]? = some (.row ro e [tx l])) (hq : M[q]? = some (.row ro' e' [fnRE])) (h : rdE l = some (en, r)) :
    abody E (RQ (N + 6)) (N + 7) 31 [plc9 p 0, plc9 q 0] (ap M []) = none ∧ ∃ m', abodyP E (RQ (N + 6)) (RP (N + 6)) (N + 7) 31 [plc9 p 0, plc9 q 0] (ap M []) = some (ref9 4, m') := by
  rw [abody_eqF (by kernel_rfl) Tryd.func31 bodycwa (by kernel_rfl) (Nat.le_of_ble_eq_true rfl), abodyP_eqF (by kernel_rfl) Tryd.func31 bodycwa (by kernel_rfl) (Nat.le_of_ble_eq_true rfl)]
  rw [show Tryd.f31.ntmps = 15 from rfl]
  have l1 : ∀ L, aload E.P 9 (plc9 p 0) (ap M L) = some (tx l) := fun L => aload_at9 Tryd.underlying9 rfl (ap_old9 hp)
  have l2 : ∀ L, aload E.P 60 (plc9 q 0) (ap M L) = some (.func (.func 23) ⟨[]⟩ ⟨[]⟩) := fun L => aload_at9 Tryd.underlying60 rfl (ap_old9 hq)
  have h1 := read_call (N := N + 5) (m := M) (L := [.row false 24 (entC 0 0 0 [] [])]) (l := l)
  have h2 := readE_some (N := N) (m := M) (b0 := .row false 24 (entC 0 0 0 [] [])) hN h
  have h3 := more_call (N := N + 5) (m := M) (L := [.row false 24 (entC 0 0 0 [] []), rdR r, .row false 24 (en.cs), .row false 24 (en.cs), .row false 24 (en.cs)]) (k := 1) (l := r) rfl
  have hl : (r.length == 0) = false := by cases r with | nil => exact absurd rfl hr | cons _ _ => rfl
  rw [hl] at h3
  have h4 := fun e M => hold_N (N := N + 5) (e := e) M
  have h5 := fun e M => hold_P (N := N + 5) (e := e) M
  generalize RQ (N + 6) = slf at *
  generalize RP (N + 6) = slp at *
  simp only [List.length_cons, List.length_nil, Nat.reduceAdd, List.cons_append, List.nil_append, Bool.not_false, Ent.cs] at h1 h3
  constructor
  · simp only [ecwa_0, ecwa_1, ecwa_2, ecwa_3, ecwa_4, lcwa_0, lcwa_1, lcwa_2, lcwa_3, lcwa_4, agd_none, gdAt, gdV_bool, gdV_undef, Tryd.f31, List.append_eq, List.cons_append, List.nil_append, apure_call1, apure_call2, apure_call3, bft, btf, acodeN, List.getElem?_toArray, List.getElem?_cons_zero, List.getElem?_cons_succ, aopsN, adrawT, cls, astep, aop, afloat, ev, nth_lst, get_lst, aput, setAt_lst, upd_at, init_zero, init_succ, init_nil, Nat.reduceLT, Nat.reduceEqDiff, reduceIte, abuiltin, Option.map_some, Option.map_none, orElse_some, apure_add, List.map_cons, List.map_nil, List.all_cons, List.all_nil, lit2, lit1, lit0, List.isEmpty_nil, Bool.and_self, Bool.and_true, Bool.true_and, Bool.false_and, Bool.and_false, Bool.not_true, Bool.not_false, Bool.or_true, Bool.true_or, Bool.false_or, Bool.or_false, Bool.false_eq_true, if_true, if_false, List.length_map, beq_self_eq_true, und3, und4, und5, und9, eqlV9_int, neqV9_int, eqlV9_bool, neqV9_bool, eqlV9_str, neqV9_str, ↓aop_eqlV9, ↓aop_neqV9, ↓afloat_eqlV9, ↓afloat_neqV9, apure_eqlV9, apure_neqV9, eqlW, neqW, eqlI64, neqI64, aload_sealed, adU, adE, ldI', ldU', ldL', ldS_pol, ldS_bud, ldF_p0, ldF_p1, ldF_p2, ldF_b0, ldF_b1, ldF_b2, stI', stU', stT', stL, polLen, budLen, layP, layB, layB0, layB1, layB2, List.length_nil, List.length_cons, List.length_append, Nat.reduceAdd, Nat.reduceLeDiff, List.set_cons_zero, List.set_cons_succ, and_self, true_and, Nat.le_refl, apure_max, apure_min, maxV, minV, finish, ares, aresL, ares1_tmp, ares1_cell, aresC_adr, aextract, bxEn, alEn, ldEn, stEn, faEn0, faEn1, faEn2, faEn3, faEn4, bxRn, alRn, ldRn, stRn, faRn0, faRn1, faRn2, faRn3, faRn4, ldS_en, ldF_n0, ldF_n1, ldF_n2, ldF_n3, ldF_n4, enLen, layN, layN0, layN1, layN2, layN3, layN4, stTx, ldT', Ent.v, Ent.cs, ent0, cbRead, cbMore, cbRdE, cbHld, l1, l2, h1, h2, h3, h4]
  · simp only [ecwa_0, ecwa_1, ecwa_2, ecwa_3, ecwa_4, lcwa_0, lcwa_1, lcwa_2, lcwa_3, lcwa_4, agd_none, gdAt, gdV_bool, gdV_undef, Tryd.f31, List.append_eq, List.cons_append, List.nil_append, apure_call1, apure_call2, apure_call3, bft, btf, acodeN, List.getElem?_toArray, List.getElem?_cons_zero, List.getElem?_cons_succ, aopsN, adrawT, cls, astep, aop, afloat, ev, nth_lst, get_lst, aput, setAt_lst, upd_at, init_zero, init_succ, init_nil, Nat.reduceLT, Nat.reduceEqDiff, reduceIte, abuiltin, Option.map_some, Option.map_none, orElse_some, apure_add, List.map_cons, List.map_nil, List.all_cons, List.all_nil, lit2, lit1, lit0, List.isEmpty_nil, Bool.and_self, Bool.and_true, Bool.true_and, Bool.false_and, Bool.and_false, Bool.not_true, Bool.not_false, Bool.or_true, Bool.true_or, Bool.false_or, Bool.or_false, Bool.false_eq_true, if_true, if_false, List.length_map, beq_self_eq_true, und3, und4, und5, und9, eqlV9_int, neqV9_int, eqlV9_bool, neqV9_bool, eqlV9_str, neqV9_str, ↓aop_eqlV9, ↓aop_neqV9, ↓afloat_eqlV9, ↓afloat_neqV9, apure_eqlV9, apure_neqV9, eqlW, neqW, eqlI64, neqI64, aload_sealed, adU, adE, ldI', ldU', ldL', ldS_pol, ldS_bud, ldF_p0, ldF_p1, ldF_p2, ldF_b0, ldF_b1, ldF_b2, stI', stU', stT', stL, polLen, budLen, layP, layB, layB0, layB1, layB2, List.length_nil, List.length_cons, List.length_append, Nat.reduceAdd, Nat.reduceLeDiff, List.set_cons_zero, List.set_cons_succ, and_self, true_and, Nat.le_refl, apure_max, apure_min, maxV, minV, finish, ares, aresL, ares1_tmp, ares1_cell, aresC_adr, aextract, bxEn, alEn, ldEn, stEn, faEn0, faEn1, faEn2, faEn3, faEn4, bxRn, alRn, ldRn, stRn, faRn0, faRn1, faRn2, faRn3, faRn4, ldS_en, ldF_n0, ldF_n1, ldF_n2, ldF_n3, ldF_n4, enLen, layN, layN0, layN1, layN2, layN3, layN4, stTx, ldT', Ent.v, Ent.cs, ent0, cbRead, cbMore, cbRdE, cbHld, l1, l2, h1, h2, h3, h4, acodePN, aopsPN, apan, h5, finishP]
    exact ⟨_, rfl⟩
theorem cwa_none (hN : 8 ≤ N) (hp : M[p]? = some (.row ro e [tx l])) (hq : M[q]? = some (.row ro' e' [fnRE])) (h : rdE l = none) :
    abody E (RQ (N + 6)) (N + 7) 31 [plc9 p 0, plc9 q 0] (ap M []) = none ∧ ∃ m', abodyP E (RQ (N + 6)) (RP (N + 6)) (N + 7) 31 [plc9 p 0, plc9 q 0] (ap M []) = some (ref9 4, m') := by
  rw [abody_eqF (by kernel_rfl) Tryd.func31 bodycwa (by kernel_rfl) (Nat.le_of_ble_eq_true rfl), abodyP_eqF (by kernel_rfl) Tryd.func31 bodycwa (by kernel_rfl) (Nat.le_of_ble_eq_true rfl)]
  rw [show Tryd.f31.ntmps = 15 from rfl]
  have l1 : ∀ L, aload E.P 9 (plc9 p 0) (ap M L) = some (tx l) := fun L => aload_at9 Tryd.underlying9 rfl (ap_old9 hp)
  have l2 : ∀ L, aload E.P 60 (plc9 q 0) (ap M L) = some (.func (.func 23) ⟨[]⟩ ⟨[]⟩) := fun L => aload_at9 Tryd.underlying60 rfl (ap_old9 hq)
  have h1 := read_call (N := N + 5) (m := M) (L := [.row false 24 (entC 0 0 0 [] [])]) (l := l)
  obtain ⟨h2, m2, h3⟩ := readE_none (N := N) (m := M) (b0 := .row false 24 (entC 0 0 0 [] [])) hN h
  generalize RQ (N + 6) = slf at *
  generalize RP (N + 6) = slp at *
  simp only [List.length_cons, List.length_nil, Nat.reduceAdd, List.cons_append, List.nil_append] at h1
  constructor
  · simp only [ecwa_0, ecwa_1, ecwa_2, ecwa_3, ecwa_4, lcwa_0, lcwa_1, lcwa_2, lcwa_3, lcwa_4, agd_none, gdAt, gdV_bool, gdV_undef, Tryd.f31, List.append_eq, List.cons_append, List.nil_append, apure_call1, apure_call2, apure_call3, bft, btf, acodeN, List.getElem?_toArray, List.getElem?_cons_zero, List.getElem?_cons_succ, aopsN, adrawT, cls, astep, aop, afloat, ev, nth_lst, get_lst, aput, setAt_lst, upd_at, init_zero, init_succ, init_nil, Nat.reduceLT, Nat.reduceEqDiff, reduceIte, abuiltin, Option.map_some, Option.map_none, orElse_some, apure_add, List.map_cons, List.map_nil, List.all_cons, List.all_nil, lit2, lit1, lit0, List.isEmpty_nil, Bool.and_self, Bool.and_true, Bool.true_and, Bool.false_and, Bool.and_false, Bool.not_true, Bool.not_false, Bool.or_true, Bool.true_or, Bool.false_or, Bool.or_false, Bool.false_eq_true, if_true, if_false, List.length_map, beq_self_eq_true, und3, und4, und5, und9, eqlV9_int, neqV9_int, eqlV9_bool, neqV9_bool, eqlV9_str, neqV9_str, ↓aop_eqlV9, ↓aop_neqV9, ↓afloat_eqlV9, ↓afloat_neqV9, apure_eqlV9, apure_neqV9, eqlW, neqW, eqlI64, neqI64, aload_sealed, adU, adE, ldI', ldU', ldL', ldS_pol, ldS_bud, ldF_p0, ldF_p1, ldF_p2, ldF_b0, ldF_b1, ldF_b2, stI', stU', stT', stL, polLen, budLen, layP, layB, layB0, layB1, layB2, List.length_nil, List.length_cons, List.length_append, Nat.reduceAdd, Nat.reduceLeDiff, List.set_cons_zero, List.set_cons_succ, and_self, true_and, Nat.le_refl, apure_max, apure_min, maxV, minV, finish, ares, aresL, ares1_tmp, ares1_cell, aresC_adr, aextract, bxEn, alEn, ldEn, stEn, faEn0, faEn1, faEn2, faEn3, faEn4, bxRn, alRn, ldRn, stRn, faRn0, faRn1, faRn2, faRn3, faRn4, ldS_en, ldF_n0, ldF_n1, ldF_n2, ldF_n3, ldF_n4, enLen, layN, layN0, layN1, layN2, layN3, layN4, stTx, ldT', Ent.v, Ent.cs, ent0, cbRead, cbMore, cbRdE, cbHld, l1, l2, h1, h2]
  · simp only [ecwa_0, ecwa_1, ecwa_2, ecwa_3, ecwa_4, lcwa_0, lcwa_1, lcwa_2, lcwa_3, lcwa_4, agd_none, gdAt, gdV_bool, gdV_undef, Tryd.f31, List.append_eq, List.cons_append, List.nil_append, apure_call1, apure_call2, apure_call3, bft, btf, acodeN, List.getElem?_toArray, List.getElem?_cons_zero, List.getElem?_cons_succ, aopsN, adrawT, cls, astep, aop, afloat, ev, nth_lst, get_lst, aput, setAt_lst, upd_at, init_zero, init_succ, init_nil, Nat.reduceLT, Nat.reduceEqDiff, reduceIte, abuiltin, Option.map_some, Option.map_none, orElse_some, apure_add, List.map_cons, List.map_nil, List.all_cons, List.all_nil, lit2, lit1, lit0, List.isEmpty_nil, Bool.and_self, Bool.and_true, Bool.true_and, Bool.false_and, Bool.and_false, Bool.not_true, Bool.not_false, Bool.or_true, Bool.true_or, Bool.false_or, Bool.or_false, Bool.false_eq_true, if_true, if_false, List.length_map, beq_self_eq_true, und3, und4, und5, und9, eqlV9_int, neqV9_int, eqlV9_bool, neqV9_bool, eqlV9_str, neqV9_str, ↓aop_eqlV9, ↓aop_neqV9, ↓afloat_eqlV9, ↓afloat_neqV9, apure_eqlV9, apure_neqV9, eqlW, neqW, eqlI64, neqI64, aload_sealed, adU, adE, ldI', ldU', ldL', ldS_pol, ldS_bud, ldF_p0, ldF_p1, ldF_p2, ldF_b0, ldF_b1, ldF_b2, stI', stU', stT', stL, polLen, budLen, layP, layB, layB0, layB1, layB2, List.length_nil, List.length_cons, List.length_append, Nat.reduceAdd, Nat.reduceLeDiff, List.set_cons_zero, List.set_cons_succ, and_self, true_and, Nat.le_refl, apure_max, apure_min, maxV, minV, finish, ares, aresL, ares1_tmp, ares1_cell, aresC_adr, aextract, bxEn, alEn, ldEn, stEn, faEn0, faEn1, faEn2, faEn3, faEn4, bxRn, alRn, ldRn, stRn, faRn0, faRn1, faRn2, faRn3, faRn4, ldS_en, ldF_n0, ldF_n1, ldF_n2, ldF_n3, ldF_n4, enLen, layN, layN0, layN1, layN2, layN3, layN4, stTx, ldT', Ent.v, Ent.cs, ent0, cbRead, cbMore, cbRdE, cbHld, l1, l2, h1, h2, acodePN, aopsPN, apan, h3, finishP]
    exact ⟨_, rfl⟩
end

theorem wrWhaE : E.wr 31 = false := by kernel_rfl
section
variable {N : Nat} {X : Mem} {l r : List UInt8} {p q : Nat} {ro ro' : Bool} {e e' : TypeId} {en : Ent}
theorem whaC_okE (hN : 8 ≤ N) (hp : X[p]? = some (.row ro e [tx l])) (hq : X[q]? = some (.row ro' e' [fnRE])) (h : rdE l = some (en, [])) : ainv E (RQ (N + 7)) 31 [plc9 p 0, plc9 q 0] X = some (en.v, X) := by
  obtain ⟨m', h1⟩ := cwa_ok hN (sealed_get hp) (sealed_get hq) h
  rw [← ap_nil] at h1
  exact ainv_seal rfl wrWhaE rfl (runQ_1 h1)
theorem whaC_noE (hN : 8 ≤ N) (hp : X[p]? = some (.row ro e [tx l])) (hq : X[q]? = some (.row ro' e' [fnRE])) (h : ∀ en, rdE l ≠ some (en, [])) :
    ainv E (RQ (N + 7)) 31 [plc9 p 0, plc9 q 0] X = none ∧ ainvP E (RP (N + 7)) 31 [plc9 p 0, plc9 q 0] X = some (ref9 4, X) := by
  have key : abody E (RQ (N + 6)) (N + 7) 31 [plc9 p 0, plc9 q 0] (ap (X.map sealed) []) = none ∧ ∃ m', abodyP E (RQ (N + 6)) (RP (N + 6)) (N + 7) 31 [plc9 p 0, plc9 q 0] (ap (X.map sealed) []) = some (ref9 4, m') := by
    cases hr : rdE l with
    | none => exact cwa_none hN (sealed_get hp) (sealed_get hq) hr
    | some y =>
      obtain ⟨en, r⟩ := y
      exact cwa_more hN (fun hh => h en (by rw [hr, hh])) (sealed_get hp) (sealed_get hq) hr
  rw [← ap_nil] at key
  obtain ⟨k1, m', k2⟩ := key
  exact ⟨ainv_sealN rfl wrWhaE (runQ_no k1 (abodyD_none Tryd.func31 bodycwa (by kernel_rfl))), ainvP_seal rfl wrWhaE rfl (runQ_2 k2)⟩
end


section
variable {self sp : Self} {nf : Nat} {m X : Mem} {B : Blk} {l : List UInt8} {e : Int}
theorem cdd_none : abodyS E self nf 43 [adr m 1 0] (ap m [B, .row false 26 (erC e)]) .none = some (ap m [B, .row false 26 (erC e)], .none) := by
  have hq : eqlV9 E.P 20 (.tmp 4) (.const .nilIface) .nilIface .nilIface = some (.bool true) := by kernel_rfl
  have h1 : ∃ F, acodeSN E self nf (match Tryd.f43.body with | some c => c | none => .skip) (lst (init [adr m 1 0]) 12) (ap m [B, .row false 26 (erC e)]) .none = some (.normal, lst F 12, ap m [B, .row false 26 (erC e)], .none) := by
    rw [bodycdd]
    simp only [ecdd_0, ecdd_1, ecdd_2, ecdd_3, ecdd_4, ecdd_5, ecdd_6, ecdd_7, lcdd_0, lcdd_1, lcdd_2, lcdd_3, lcdd_4, lcdd_5, lcdd_6, lcdd_7, agd_none, gdAt, gdV_bool, gdV_undef, Tryd.f43, List.append_eq, List.cons_append, List.nil_append, apure_call1, apure_call2, apure_call3, bft, btf, acodeN, List.getElem?_toArray, List.getElem?_cons_zero, List.getElem?_cons_succ, aopsN, adrawT, cls, astep, aop, afloat, ev, nth_lst, get_lst, aput, setAt_lst, upd_at, init_zero, init_succ, init_nil, Nat.reduceLT, Nat.reduceEqDiff, reduceIte, abuiltin, Option.map_some, Option.map_none, orElse_some, apure_add, List.map_cons, List.map_nil, List.all_cons, List.all_nil, lit2, lit1, lit0, List.isEmpty_nil, Bool.and_self, Bool.and_true, Bool.true_and, Bool.false_and, Bool.and_false, Bool.not_true, Bool.not_false, Bool.or_true, Bool.true_or, Bool.false_or, Bool.or_false, Bool.false_eq_true, if_true, if_false, List.length_map, beq_self_eq_true, und3, und4, und5, und9, eqlV9_int, neqV9_int, eqlV9_bool, neqV9_bool, eqlV9_str, neqV9_str, ↓aop_eqlV9, ↓aop_neqV9, ↓afloat_eqlV9, ↓afloat_neqV9, apure_eqlV9, apure_neqV9, eqlW, neqW, eqlI64, neqI64, aload_sealed, adU, adE, ldI', ldU', ldL', ldS_pol, ldS_bud, ldF_p0, ldF_p1, ldF_p2, ldF_b0, ldF_b1, ldF_b2, stI', stU', stT', stL, polLen, budLen, layP, layB, layB0, layB1, layB2, List.length_nil, List.length_cons, List.length_append, Nat.reduceAdd, Nat.reduceLeDiff, List.set_cons_zero, List.set_cons_succ, and_self, true_and, Nat.le_refl, apure_max, apure_min, maxV, minV, finish, ares, aresL, ares1_tmp, ares1_cell, aresC_adr, aextract, bxEn, alEn, ldEn, stEn, faEn0, faEn1, faEn2, faEn3, faEn4, bxRn, alRn, ldRn, stRn, faRn0, faRn1, faRn2, faRn3, faRn4, ldS_en, ldF_n0, ldF_n1, ldF_n2, ldF_n3, ldF_n4, enLen, layN, layN0, layN1, layN2, layN3, layN4, stTx, ldT', Ent.v, Ent.cs, ent0, acodeSN, aopsSN, isRec, hq]
    exact ⟨_, rfl⟩
  obtain ⟨F, h1⟩ := h1
  rw [bodycdd] at h1
  exact abodyS_eqF (by kernel_rfl) Tryd.func43 bodycdd (by kernel_rfl) (Nat.le_of_ble_eq_true rfl) h1 (.inl rfl) rfl
theorem cdd_live {e0 : Int} : ∃ R, abodyS E self nf 43 [adr m 1 0] (ap m [B, .row false 26 (erC e0)]) (.live (ref9 e)) = some (ap m [B, .row false 26 (erC e), R], .done) := by
  have hq : eqlV9 E.P 20 (.tmp 4) (.const .nilIface) (ref9 e) .nilIface = some (.bool false) := by kernel_rfl
  have h1 : ∃ F R, acodeSN E self nf (match Tryd.f43.body with | some c => c | none => .skip) (lst (init [adr m 1 0]) 12) (ap m [B, .row false 26 (erC e0)]) (.live (ref9 e)) = some (.normal, lst F 12, ap m [B, .row false 26 (erC e), R], .done) := by
    rw [bodycdd]
    simp only [ecdd_0, ecdd_1, ecdd_2, ecdd_3, ecdd_4, ecdd_5, ecdd_6, ecdd_7, lcdd_0, lcdd_1, lcdd_2, lcdd_3, lcdd_4, lcdd_5, lcdd_6, lcdd_7, agd_none, gdAt, gdV_bool, gdV_undef, Tryd.f43, List.append_eq, List.cons_append, List.nil_append, apure_call1, apure_call2, apure_call3, bft, btf, acodeN, List.getElem?_toArray, List.getElem?_cons_zero, List.getElem?_cons_succ, aopsN, adrawT, cls, astep, aop, afloat, ev, nth_lst, get_lst, aput, setAt_lst, upd_at, init_zero, init_succ, init_nil, Nat.reduceLT, Nat.reduceEqDiff, reduceIte, abuiltin, Option.map_some, Option.map_none, orElse_some, apure_add, List.map_cons, List.map_nil, List.all_cons, List.all_nil, lit2, lit1, lit0, List.isEmpty_nil, Bool.and_self, Bool.and_true, Bool.true_and, Bool.false_and, Bool.and_false, Bool.not_true, Bool.not_false, Bool.or_true, Bool.true_or, Bool.false_or, Bool.or_false, Bool.false_eq_true, if_true, if_false, List.length_map, beq_self_eq_true, und3, und4, und5, und9, eqlV9_int, neqV9_int, eqlV9_bool, neqV9_bool, eqlV9_str, neqV9_str, ↓aop_eqlV9, ↓aop_neqV9, ↓afloat_eqlV9, ↓afloat_neqV9, apure_eqlV9, apure_neqV9, eqlW, neqW, eqlI64, neqI64, aload_sealed, adU, adE, ldI', ldU', ldL', ldS_pol, ldS_bud, ldF_p0, ldF_p1, ldF_p2, ldF_b0, ldF_b1, ldF_b2, stI', stU', stT', stL, polLen, budLen, layP, layB, layB0, layB1, layB2, List.length_nil, List.length_cons, List.length_append, Nat.reduceAdd, Nat.reduceLeDiff, List.set_cons_zero, List.set_cons_succ, and_self, true_and, Nat.le_refl, apure_max, apure_min, maxV, minV, finish, ares, aresL, ares1_tmp, ares1_cell, aresC_adr, aextract, bxEn, alEn, ldEn, stEn, faEn0, faEn1, faEn2, faEn3, faEn4, bxRn, alRn, ldRn, stRn, faRn0, faRn1, faRn2, faRn3, faRn4, ldS_en, ldF_n0, ldF_n1, ldF_n2, ldF_n3, ldF_n4, enLen, layN, layN0, layN1, layN2, layN3, layN4, stTx, ldT', Ent.v, Ent.cs, ent0, acodeSN, aopsSN, isRec, hq, apure_ta, taRef, alRf, stRf, stE', ldE', ldF_e, erLen, layE, faRf]
    exact ⟨_, _, rfl⟩
  obtain ⟨F, R, h1⟩ := h1
  rw [bodycdd] at h1
  exact ⟨R, abodyS_eqF (by kernel_rfl) Tryd.func43 bodycdd (by kernel_rfl) (Nat.le_of_ble_eq_true rfl) h1 (.inl rfl) rfl⟩
end

/-- What is done behind the door. -/
def fnWE (p q : Nat) : Value := .func (.func 31) ⟨[]⟩ ⟨[plc9 p 0, plc9 q 0]⟩
section
variable {self sp : Self} {nf : Nat} {m : Mem} {l : List UInt8} {p q : Nat} {e : Int} {en : Ent}
theorem cdo_no : abody E self nf 30 [fnWE p q] (ap m []) = none := by
  rw [abody_eqF (by kernel_rfl) Tryd.func30 bodycdo (by kernel_rfl) (Nat.le_of_ble_eq_true rfl)]
  rw [show Tryd.f30.ntmps = 7 from rfl]
  simp only [ecdo_0, ecdo_1, ecdo_2, lcdo_0, lcdo_1, lcdo_2, agd_none, gdAt, gdV_bool, gdV_undef, Tryd.f30, List.append_eq, List.cons_append, List.nil_append, apure_call1, apure_call2, apure_call3, bft, btf, acodeN, List.getElem?_toArray, List.getElem?_cons_zero, List.getElem?_cons_succ, aopsN, adrawT, cls, astep, aop, afloat, ev, nth_lst, get_lst, aput, setAt_lst, upd_at, init_zero, init_succ, init_nil, Nat.reduceLT, Nat.reduceEqDiff, reduceIte, abuiltin, Option.map_some, Option.map_none, orElse_some, apure_add, List.map_cons, List.map_nil, List.all_cons, List.all_nil, lit2, lit1, lit0, List.isEmpty_nil, Bool.and_self, Bool.and_true, Bool.true_and, Bool.false_and, Bool.and_false, Bool.not_true, Bool.not_false, Bool.or_true, Bool.true_or, Bool.false_or, Bool.or_false, Bool.false_eq_true, if_true, if_false, List.length_map, beq_self_eq_true, und3, und4, und5, und9, eqlV9_int, neqV9_int, eqlV9_bool, neqV9_bool, eqlV9_str, neqV9_str, ↓aop_eqlV9, ↓aop_neqV9, ↓afloat_eqlV9, ↓afloat_neqV9, apure_eqlV9, apure_neqV9, eqlW, neqW, eqlI64, neqI64, aload_sealed, adU, adE, ldI', ldU', ldL', ldS_pol, ldS_bud, ldF_p0, ldF_p1, ldF_p2, ldF_b0, ldF_b1, ldF_b2, stI', stU', stT', stL, polLen, budLen, layP, layB, layB0, layB1, layB2, List.length_nil, List.length_cons, List.length_append, Nat.reduceAdd, Nat.reduceLeDiff, List.set_cons_zero, List.set_cons_succ, and_self, true_and, Nat.le_refl, apure_max, apure_min, maxV, minV, finish, ares, aresL, ares1_tmp, ares1_cell, aresC_adr, aextract, bxEn, alEn, ldEn, stEn, faEn0, faEn1, faEn2, faEn3, faEn4, bxRn, alRn, ldRn, stRn, faRn0, faRn1, faRn2, faRn3, faRn4, ldS_en, ldF_n0, ldF_n1, ldF_n2, ldF_n3, ldF_n4, enLen, layN, layN0, layN1, layN2, layN3, layN4, stTx, ldT', Ent.v, Ent.cs, ent0, alE, apure_deferF, litF1, List.isEmpty_cons]
theorem cdo_ok (hw : ∀ L, ainv E self 31 [plc9 p 0, plc9 q 0] (ap m L) = some (en.v, ap m L)) :
    abodyD E self sp nf 30 [fnWE p q] (ap m []) = some (.tuple ⟨[en.v, .int .i64 0]⟩, ap m [.row false 24 (en.cs), .row false 26 (erC 0)]) := by
  have h1 : ∃ F, acodeDN E self sp nf (match Tryd.f30.body with | some c => c | none => .skip) (lst (init [fnWE p q]) 7) (ap m []) = some (43, [adr m 1 0], none, lst F 7, ap m [.row false 24 (en.cs), .row false 26 (erC 0)]) ∧ F 2 = adr m 0 0 ∧ F 3 = adr m 1 0 := by
    rw [bodycdo]
    unfold fnWE
    simp only [ecdo_0, ecdo_1, ecdo_2, lcdo_0, lcdo_1, lcdo_2, agd_none, gdAt, gdV_bool, gdV_undef, Tryd.f30, List.append_eq, List.cons_append, List.nil_append, apure_call1, apure_call2, apure_call3, bft, btf, acodeN, List.getElem?_toArray, List.getElem?_cons_zero, List.getElem?_cons_succ, aopsN, adrawT, cls, astep, aop, afloat, ev, nth_lst, get_lst, aput, setAt_lst, upd_at, init_zero, init_succ, init_nil, Nat.reduceLT, Nat.reduceEqDiff, reduceIte, abuiltin, Option.map_some, Option.map_none, orElse_some, apure_add, List.map_cons, List.map_nil, List.all_cons, List.all_nil, lit2, lit1, lit0, List.isEmpty_nil, Bool.and_self, Bool.and_true, Bool.true_and, Bool.false_and, Bool.and_false, Bool.not_true, Bool.not_false, Bool.or_true, Bool.true_or, Bool.false_or, Bool.or_false, Bool.false_eq_true, if_true, if_false, List.length_map, beq_self_eq_true, und3, und4, und5, und9, eqlV9_int, neqV9_int, eqlV9_bool, neqV9_bool, eqlV9_str, neqV9_str, ↓aop_eqlV9, ↓aop_neqV9, ↓afloat_eqlV9, ↓afloat_neqV9, apure_eqlV9, apure_neqV9, eqlW, neqW, eqlI64, neqI64, aload_sealed, adU, adE, ldI', ldU', ldL', ldS_pol, ldS_bud, ldF_p0, ldF_p1, ldF_p2, ldF_b0, ldF_b1, ldF_b2, stI', stU', stT', stL, polLen, budLen, layP, layB, layB0, layB1, layB2, List.length_nil, List.length_cons, List.length_append, Nat.reduceAdd, Nat.reduceLeDiff, List.set_cons_zero, List.set_cons_succ, and_self, true_and, Nat.le_refl, apure_max, apure_min, maxV, minV, finish, ares, aresL, ares1_tmp, ares1_cell, aresC_adr, aextract, bxEn, alEn, ldEn, stEn, faEn0, faEn1, faEn2, faEn3, faEn4, bxRn, alRn, ldRn, stRn, faRn0, faRn1, faRn2, faRn3, faRn4, ldS_en, ldF_n0, ldF_n1, ldF_n2, ldF_n3, ldF_n4, enLen, layN, layN0, layN1, layN2, layN3, layN4, stTx, ldT', Ent.v, Ent.cs, ent0, acodeDN, aopsDN, alE, apure_deferF, litF1, cbDodE, cbWhaE, List.isEmpty_cons, List.append_nil, hw, stE', erLen, layE]
    exact ⟨_, rfl, by simp only [upd_at, Nat.reduceEqDiff, reduceIte], by simp only [upd_at, Nat.reduceEqDiff, reduceIte]⟩
  obtain ⟨F, h1, f2, f3⟩ := h1
  rw [bodycdo] at h1
  exact abodyD_eqF (by kernel_rfl) Tryd.func30 bodycdo (by kernel_rfl) (Nat.le_of_ble_eq_true rfl) h1 cdd_none (.inl rfl) (by
    simp only [Tryd.f30, List.append_eq, List.cons_append, List.nil_append, apure_call1, apure_call2, apure_call3, bft, btf, acodeN, List.getElem?_toArray, List.getElem?_cons_zero, List.getElem?_cons_succ, aopsN, adrawT, cls, astep, aop, afloat, ev, nth_lst, get_lst, aput, setAt_lst, upd_at, init_zero, init_succ, init_nil, Nat.reduceLT, Nat.reduceEqDiff, reduceIte, abuiltin, Option.map_some, Option.map_none, orElse_some, apure_add, List.map_cons, List.map_nil, List.all_cons, List.all_nil, lit2, lit1, lit0, List.isEmpty_nil, Bool.and_self, Bool.and_true, Bool.true_and, Bool.false_and, Bool.and_false, Bool.not_true, Bool.not_false, Bool.or_true, Bool.true_or, Bool.false_or, Bool.or_false, Bool.false_eq_true, if_true, if_false, List.length_map, beq_self_eq_true, und3, und4, und5, und9, eqlV9_int, neqV9_int, eqlV9_bool, neqV9_bool, eqlV9_str, neqV9_str, ↓aop_eqlV9, ↓aop_neqV9, ↓afloat_eqlV9, ↓afloat_neqV9, apure_eqlV9, apure_neqV9, eqlW, neqW, eqlI64, neqI64, aload_sealed, adU, adE, ldI', ldU', ldL', ldS_pol, ldS_bud, ldF_p0, ldF_p1, ldF_p2, ldF_b0, ldF_b1, ldF_b2, stI', stU', stT', stL, polLen, budLen, layP, layB, layB0, layB1, layB2, List.length_nil, List.length_cons, List.length_append, Nat.reduceAdd, Nat.reduceLeDiff, List.set_cons_zero, List.set_cons_succ, and_self, true_and, Nat.le_refl, apure_max, apure_min, maxV, minV, finish, ares, aresL, ares1_tmp, ares1_cell, aresC_adr, aextract, bxEn, alEn, ldEn, stEn, faEn0, faEn1, faEn2, faEn3, faEn4, bxRn, alRn, ldRn, stRn, faRn0, faRn1, faRn2, faRn3, faRn4, ldS_en, ldF_n0, ldF_n1, ldF_n2, ldF_n3, ldF_n4, enLen, layN, layN0, layN1, layN2, layN3, layN4, stTx, ldT', Ent.v, Ent.cs, ent0, f2, f3, ldE', ldF_e])
theorem cdo_pan (hw : ∀ L, ainv E self 31 [plc9 p 0, plc9 q 0] (ap m L) = none) (hp : ∀ L, ainvP E sp 31 [plc9 p 0, plc9 q 0] (ap m L) = some (ref9 e, ap m L)) :
    ∃ m', abodyD E self sp nf 30 [fnWE p q] (ap m []) = some (.tuple ⟨[ent0.v, .int .i64 e]⟩, m') := by
  have h1 : ∃ F, acodeDN E self sp nf (match Tryd.f30.body with | some c => c | none => .skip) (lst (init [fnWE p q]) 7) (ap m []) = some (43, [adr m 1 0], some (ref9 e), lst F 7, ap m [.row false 24 (entC 0 0 0 [] []), .row false 26 (erC 0)]) ∧ F 2 = adr m 0 0 ∧ F 3 = adr m 1 0 := by
    rw [bodycdo]
    unfold fnWE
    simp only [ecdo_0, ecdo_1, ecdo_2, lcdo_0, lcdo_1, lcdo_2, agd_none, gdAt, gdV_bool, gdV_undef, Tryd.f30, List.append_eq, List.cons_append, List.nil_append, apure_call1, apure_call2, apure_call3, bft, btf, acodeN, List.getElem?_toArray, List.getElem?_cons_zero, List.getElem?_cons_succ, aopsN, adrawT, cls, astep, aop, afloat, ev, nth_lst, get_lst, aput, setAt_lst, upd_at, init_zero, init_succ, init_nil, Nat.reduceLT, Nat.reduceEqDiff, reduceIte, abuiltin, Option.map_some, Option.map_none, orElse_some, apure_add, List.map_cons, List.map_nil, List.all_cons, List.all_nil, lit2, lit1, lit0, List.isEmpty_nil, Bool.and_self, Bool.and_true, Bool.true_and, Bool.false_and, Bool.and_false, Bool.not_true, Bool.not_false, Bool.or_true, Bool.true_or, Bool.false_or, Bool.or_false, Bool.false_eq_true, if_true, if_false, List.length_map, beq_self_eq_true, und3, und4, und5, und9, eqlV9_int, neqV9_int, eqlV9_bool, neqV9_bool, eqlV9_str, neqV9_str, ↓aop_eqlV9, ↓aop_neqV9, ↓afloat_eqlV9, ↓afloat_neqV9, apure_eqlV9, apure_neqV9, eqlW, neqW, eqlI64, neqI64, aload_sealed, adU, adE, ldI', ldU', ldL', ldS_pol, ldS_bud, ldF_p0, ldF_p1, ldF_p2, ldF_b0, ldF_b1, ldF_b2, stI', stU', stT', stL, polLen, budLen, layP, layB, layB0, layB1, layB2, List.length_nil, List.length_cons, List.length_append, Nat.reduceAdd, Nat.reduceLeDiff, List.set_cons_zero, List.set_cons_succ, and_self, true_and, Nat.le_refl, apure_max, apure_min, maxV, minV, finish, ares, aresL, ares1_tmp, ares1_cell, aresC_adr, aextract, bxEn, alEn, ldEn, stEn, faEn0, faEn1, faEn2, faEn3, faEn4, bxRn, alRn, ldRn, stRn, faRn0, faRn1, faRn2, faRn3, faRn4, ldS_en, ldF_n0, ldF_n1, ldF_n2, ldF_n3, ldF_n4, enLen, layN, layN0, layN1, layN2, layN3, layN4, stTx, ldT', Ent.v, Ent.cs, ent0, acodeDN, aopsDN, acodePN, aopsPN, apan, alE, apure_deferF, litF1, cbDodE, cbWhaE, List.isEmpty_cons, List.append_nil, hw, hp, stE', erLen, layE]
    exact ⟨_, rfl, by simp only [upd_at, Nat.reduceEqDiff, reduceIte], by simp only [upd_at, Nat.reduceEqDiff, reduceIte]⟩
  obtain ⟨F, h1, f2, f3⟩ := h1
  rw [bodycdo] at h1
  obtain ⟨R, h2⟩ := cdd_live (self := self) (nf := nf) (m := m) (B := .row false 24 (entC 0 0 0 [] [])) (e := e) (e0 := 0)
  exact ⟨_, abodyD_eqF (by kernel_rfl) Tryd.func30 bodycdo (by kernel_rfl) (Nat.le_of_ble_eq_true rfl) h1 h2 (.inr rfl) (by
    simp only [Tryd.f30, List.append_eq, List.cons_append, List.nil_append, apure_call1, apure_call2, apure_call3, bft, btf, acodeN, List.getElem?_toArray, List.getElem?_cons_zero, List.getElem?_cons_succ, aopsN, adrawT, cls, astep, aop, afloat, ev, nth_lst, get_lst, aput, setAt_lst, upd_at, init_zero, init_succ, init_nil, Nat.reduceLT, Nat.reduceEqDiff, reduceIte, abuiltin, Option.map_some, Option.map_none, orElse_some, apure_add, List.map_cons, List.map_nil, List.all_cons, List.all_nil, lit2, lit1, lit0, List.isEmpty_nil, Bool.and_self, Bool.and_true, Bool.true_and, Bool.false_and, Bool.and_false, Bool.not_true, Bool.not_false, Bool.or_true, Bool.true_or, Bool.false_or, Bool.or_false, Bool.false_eq_true, if_true, if_false, List.length_map, beq_self_eq_true, und3, und4, und5, und9, eqlV9_int, neqV9_int, eqlV9_bool, neqV9_bool, eqlV9_str, neqV9_str, ↓aop_eqlV9, ↓aop_neqV9, ↓afloat_eqlV9, ↓afloat_neqV9, apure_eqlV9, apure_neqV9, eqlW, neqW, eqlI64, neqI64, aload_sealed, adU, adE, ldI', ldU', ldL', ldS_pol, ldS_bud, ldF_p0, ldF_p1, ldF_p2, ldF_b0, ldF_b1, ldF_b2, stI', stU', stT', stL, polLen, budLen, layP, layB, layB0, layB1, layB2, List.length_nil, List.length_cons, List.length_append, Nat.reduceAdd, Nat.reduceLeDiff, List.set_cons_zero, List.set_cons_succ, and_self, true_and, Nat.le_refl, apure_max, apure_min, maxV, minV, finish, ares, aresL, ares1_tmp, ares1_cell, aresC_adr, aextract, bxEn, alEn, ldEn, stEn, faEn0, faEn1, faEn2, faEn3, faEn4, bxRn, alRn, ldRn, stRn, faRn0, faRn1, faRn2, faRn3, faRn4, ldS_en, ldF_n0, ldF_n1, ldF_n2, ldF_n3, ldF_n4, enLen, layN, layN0, layN1, layN2, layN3, layN4, stTx, ldT', Ent.v, Ent.cs, ent0, f2, f3, ldE', ldF_e]
    rfl)⟩
end

theorem wrDorE : E.wr 30 = false := by kernel_rfl
section
variable {N : Nat} {X : Mem} {l r : List UInt8} {p q : Nat} {ro ro' : Bool} {e e' : TypeId} {en : Ent}
theorem door_okE (hN : 8 ≤ N) (hp : X[p]? = some (.row ro e [tx l])) (hq : X[q]? = some (.row ro' e' [fnRE])) (h : rdE l = some (en, [])) : ainv E (RQ (N + 8)) 30 [fnWE p q] X = some (.tuple ⟨[en.v, .int .i64 0]⟩, X) := by
  have hd := cdo_ok (self := RQ (N + 7)) (sp := RP (N + 7)) (nf := N + 8) (m := X.map sealed) (p := p) (q := q) (fun L => whaC_okE hN (ap_old9 (sealed_get hp)) (ap_old9 (sealed_get hq)) h)
  have hn := cdo_no (self := RQ (N + 7)) (nf := N + 8) (m := X.map sealed) (p := p) (q := q)
  rw [← ap_nil] at hd hn
  exact ainv_seal rfl wrDorE rfl (runQ_door hn hd)
theorem door_noE (hN : 8 ≤ N) (hp : X[p]? = some (.row ro e [tx l])) (hq : X[q]? = some (.row ro' e' [fnRE])) (h : ∀ en, rdE l ≠ some (en, [])) : ainv E (RQ (N + 8)) 30 [fnWE p q] X = some (.tuple ⟨[ent0.v, .int .i64 4]⟩, X) := by
  obtain ⟨m', hd⟩ := cdo_pan (self := RQ (N + 7)) (sp := RP (N + 7)) (nf := N + 8) (m := X.map sealed) (p := p) (q := q) (e := 4) (fun L => (whaC_noE hN (ap_old9 (sealed_get hp)) (ap_old9 (sealed_get hq)) h).1) (fun L => (whaC_noE hN (ap_old9 (sealed_get hp)) (ap_old9 (sealed_get hq)) h).2)
  have hn := cdo_no (self := RQ (N + 7)) (nf := N + 8) (m := X.map sealed) (p := p) (q := q)
  rw [← ap_nil] at hd hn
  exact ainv_seal rfl wrDorE rfl (runQ_door hn hd)
end

theorem bxTE (m : Mem) (L : List Blk) (l : List UInt8) : abox E.P 9 (tx l) (ap m L) = some (adr m L.length 0, ap m (L ++ [.row false 9 [tx l]])) := abox_L (by kernel_rfl) rfl m L
theorem bxFE (m : Mem) (L : List Blk) : abox E.P 60 fnRE (ap m L) = some (adr m L.length 0, ap m (L ++ [.row false 60 [fnRE]])) := abox_L (by kernel_rfl) rfl m L
/-- What a text is: a budget, or none. -/
def parsedE (l : List UInt8) : Ent × Int := match rdE l with
  | some (en, []) => (en, 0)
  | _ => (ent0, 4)
section
variable {N : Nat} {m : Mem} {l : List UInt8}
theorem cwo_body (hN : 8 ≤ N) : ∃ m', abody E (RQ (N + 8)) (N + 9) 22 [tx l, fnRE] (ap m []) = some (.tuple ⟨[(parsedE l).1.v, .int .i64 (parsedE l).2]⟩, m') := by
  rw [abody_eqF (by kernel_rfl) Tryd.func22 bodycwo (by kernel_rfl) (Nat.le_of_ble_eq_true rfl)]
  rw [show Tryd.f22.ntmps = 10 from rfl]
  have hd : ainv E (RQ (N + 8)) 30 [.func (.func 31) ⟨[]⟩ ⟨[adr m 0 0, adr m 1 0]⟩] (ap m [.row false 9 [tx l], .row false 60 [fnRE], .row false 24 (entC 0 0 0 [] [])]) = some (.tuple ⟨[(parsedE l).1.v, .int .i64 (parsedE l).2]⟩, ap m [.row false 9 [tx l], .row false 60 [fnRE], .row false 24 (entC 0 0 0 [] [])]) := by
    have hp := ap_get m [.row false 9 [tx l], .row false 60 [fnRE], .row false 24 (entC 0 0 0 [] [])] 0
    have hq := ap_get m [.row false 9 [tx l], .row false 60 [fnRE], .row false 24 (entC 0 0 0 [] [])] 1
    by_cases h : ∃ en, rdE l = some (en, [])
    · obtain ⟨en, h⟩ := h
      have e1 : parsedE l = (en, 0) := by unfold parsedE; rw [h]
      rw [e1]
      exact door_okE hN hp hq h
    · have h' : ∀ en, rdE l ≠ some (en, []) := fun en hh => h ⟨en, hh⟩
      have e1 : parsedE l = (ent0, 4) := by
        unfold parsedE
        split
        · rename_i en hh
          exact absurd hh (h' en)
        · rfl
      rw [e1]
      exact door_noE hN hp hq h'
  generalize parsedE l = y at *
  obtain ⟨en, e⟩ := y
  generalize RQ (N + 8) = slf at *
  simp only [ecwo_0, ecwo_1, lcwo_0, lcwo_1, agd_none, gdAt, gdV_bool, gdV_undef, Tryd.f22, List.append_eq, List.cons_append, List.nil_append, apure_call1, apure_call2, apure_call3, bft, btf, acodeN, List.getElem?_toArray, List.getElem?_cons_zero, List.getElem?_cons_succ, aopsN, adrawT, cls, astep, aop, afloat, ev, nth_lst, get_lst, aput, setAt_lst, upd_at, init_zero, init_succ, init_nil, Nat.reduceLT, Nat.reduceEqDiff, reduceIte, abuiltin, Option.map_some, Option.map_none, orElse_some, apure_add, List.map_cons, List.map_nil, List.all_cons, List.all_nil, lit2, lit1, lit0, List.isEmpty_nil, Bool.and_self, Bool.and_true, Bool.true_and, Bool.false_and, Bool.and_false, Bool.not_true, Bool.not_false, Bool.or_true, Bool.true_or, Bool.false_or, Bool.or_false, Bool.false_eq_true, if_true, if_false, List.length_map, beq_self_eq_true, und3, und4, und5, und9, eqlV9_int, neqV9_int, eqlV9_bool, neqV9_bool, eqlV9_str, neqV9_str, ↓aop_eqlV9, ↓aop_neqV9, ↓afloat_eqlV9, ↓afloat_neqV9, apure_eqlV9, apure_neqV9, eqlW, neqW, eqlI64, neqI64, aload_sealed, adU, adE, ldI', ldU', ldL', ldS_pol, ldS_bud, ldF_p0, ldF_p1, ldF_p2, ldF_b0, ldF_b1, ldF_b2, stI', stU', stT', stL, polLen, budLen, layP, layB, layB0, layB1, layB2, List.length_nil, List.length_cons, List.length_append, Nat.reduceAdd, Nat.reduceLeDiff, List.set_cons_zero, List.set_cons_succ, and_self, true_and, Nat.le_refl, apure_max, apure_min, maxV, minV, finish, ares, aresL, ares1_tmp, ares1_cell, aresC_adr, aextract, bxEn, alEn, ldEn, stEn, faEn0, faEn1, faEn2, faEn3, faEn4, bxRn, alRn, ldRn, stRn, faRn0, faRn1, faRn2, faRn3, faRn4, ldS_en, ldF_n0, ldF_n1, ldF_n2, ldF_n3, ldF_n4, enLen, layN, layN0, layN1, layN2, layN3, layN4, stTx, ldT', Ent.v, Ent.cs, ent0, bxTE, bxFE, cbDorE, hd]
  exact ⟨_, rfl⟩
end

section
variable {N : Nat} {m : Mem} {l : List UInt8}
theorem pa_bodyE (hN : 8 ≤ N) : ∃ m', abody E (RQ (N + 9)) (N + 10) 8 [tx l] (ap m []) = some (.tuple ⟨[(parsedE l).1.v, .int .i64 (parsedE l).2]⟩, m') := by
  rw [abody_eqF (by kernel_rfl) Tryd.func8 bodycpa (by kernel_rfl) (Nat.le_of_ble_eq_true rfl)]
  rw [show Tryd.f8.ntmps = 8 from rfl]
  have hw : ∀ M, ainv E (RQ (N + 9)) 22 [tx l, .func (.func 23) #[] #[]] M = some (.tuple ⟨[(parsedE l).1.v, .int .i64 (parsedE l).2]⟩, M) :=
    fun M => (ans9 (n := N + 8) (args := [tx l, fnRE]) rfl rfl rfl (fun m => cwo_body hN)) M
  generalize parsedE l = y at *
  obtain ⟨en, e⟩ := y
  generalize RQ (N + 9) = slf at *
  simp only [ecpa_0, ecpa_1, lcpa_0, lcpa_1, agd_none, gdAt, gdV_bool, gdV_undef, Tryd.f8, List.append_eq, List.cons_append, List.nil_append, apure_call1, apure_call2, apure_call3, bft, btf, acodeN, List.getElem?_toArray, List.getElem?_cons_zero, List.getElem?_cons_succ, aopsN, adrawT, cls, astep, aop, afloat, ev, nth_lst, get_lst, aput, setAt_lst, upd_at, init_zero, init_succ, init_nil, Nat.reduceLT, Nat.reduceEqDiff, reduceIte, abuiltin, Option.map_some, Option.map_none, orElse_some, apure_add, List.map_cons, List.map_nil, List.all_cons, List.all_nil, lit2, lit1, lit0, List.isEmpty_nil, Bool.and_self, Bool.and_true, Bool.true_and, Bool.false_and, Bool.and_false, Bool.not_true, Bool.not_false, Bool.or_true, Bool.true_or, Bool.false_or, Bool.or_false, Bool.false_eq_true, if_true, if_false, List.length_map, beq_self_eq_true, und3, und4, und5, und9, eqlV9_int, neqV9_int, eqlV9_bool, neqV9_bool, eqlV9_str, neqV9_str, ↓aop_eqlV9, ↓aop_neqV9, ↓afloat_eqlV9, ↓afloat_neqV9, apure_eqlV9, apure_neqV9, eqlW, neqW, eqlI64, neqI64, aload_sealed, adU, adE, ldI', ldU', ldL', ldS_pol, ldS_bud, ldF_p0, ldF_p1, ldF_p2, ldF_b0, ldF_b1, ldF_b2, stI', stU', stT', stL, polLen, budLen, layP, layB, layB0, layB1, layB2, List.length_nil, List.length_cons, List.length_append, Nat.reduceAdd, Nat.reduceLeDiff, List.set_cons_zero, List.set_cons_succ, and_self, true_and, Nat.le_refl, apure_max, apure_min, maxV, minV, finish, ares, aresL, ares1_tmp, ares1_cell, aresC_adr, aextract, bxEn, alEn, ldEn, stEn, faEn0, faEn1, faEn2, faEn3, faEn4, bxRn, alRn, ldRn, stRn, faRn0, faRn1, faRn2, faRn3, faRn4, ldS_en, ldF_n0, ldF_n1, ldF_n2, ldF_n3, ldF_n4, enLen, layN, layN0, layN1, layN2, layN3, layN4, stTx, ldT', Ent.v, Ent.cs, ent0, cbWhoE, hw]
  exact ⟨_, rfl⟩
theorem pa_callE (hN : 8 ≤ N) : AnsB (RQ (N + 10)) 8 [tx l] (.tuple ⟨[(parsedE l).1.v, .int .i64 (parsedE l).2]⟩) := ans9 rfl rfl rfl fun m => pa_bodyE hN
end


end Go.Am.Seat

/-
  A door; a whole text; a budget's text read (own work).
-/
set_option linter.unusedSimpArgs false
set_option linter.unusedVariables false
namespace Go.Am.Seat
open Go.Proofs Go.Am
set_option maxRecDepth 100000

section
variable {self sp : Self} {nf : Nat} {m : Mem} {l : List UInt8} {p q : Nat} {a b e : Int} {c : Bool}
end

section
variable {N : Nat} {X : Mem} {l r : List UInt8} {p q : Nat} {ro ro' : Bool} {e e' : TypeId} {a b : Nat} {c : Bool}
end

theorem bxT (m : Mem) (L : List Blk) (l : List UInt8) : abox E.P 9 (tx l) (ap m L) = some (adr m L.length 0, ap m (L ++ [.row false 9 [tx l]])) := abox_L (by kernel_rfl) rfl m L
/-- What a text is: a budget, or none. -/
def parsed (l : List UInt8) : Nat × Nat × Bool × Int := match rd9 l with
  | some (a, b, c, []) => (a, b, c, 0)
  | _ => (0, 0, false, 4)
section
variable {N : Nat} {m : Mem} {l : List UInt8}
end
end Go.Am.Seat

/-
  A number's eight bytes as a text (own work).
-/
set_option linter.unusedSimpArgs false
set_option linter.unusedVariables false
namespace Go.Am.Seat
open Go.Proofs Go.Am
set_option maxRecDepth 100000

/-- The lowest i bytes of a number, the highest first. -/
def lowB (n : Nat) : Nat → List UInt8
  | 0 => []
  | i + 1 => UInt8.ofNat (n / 256 ^ i % 256) :: lowB n i
theorem lowB_len (n : Nat) : ∀ i, (lowB n i).length = i
  | 0 => rfl
  | i + 1 => by rw [lowB, List.length_cons, lowB_len n i]
def be8 (n : Nat) : List UInt8 := lowB n 8
theorem be8_len (n : Nat) : (be8 n).length = 8 := lowB_len n 8

theorem nb_cons_at (l : List UInt8) : ∀ n0 : Nat, l.foldl (fun n x => n * 256 + x.toNat) n0 = n0 * 256 ^ l.length + nb l := by
  induction l with
  | nil => intro n0; simp [nb]
  | cons x l ih =>
    intro n0
    have h2 : nb (x :: l) = x.toNat * 256 ^ l.length + nb l := by
      show List.foldl (fun n x => n * 256 + x.toNat) (0 * 256 + x.toNat) l = _
      rw [Nat.zero_mul, Nat.zero_add]
      exact ih x.toNat
    rw [List.foldl_cons, ih, h2, List.length_cons, Nat.pow_succ, Nat.add_mul, ← Nat.add_assoc, Nat.mul_assoc, Nat.mul_comm 256]
theorem nb_cons (x : UInt8) (l : List UInt8) : nb (x :: l) = x.toNat * 256 ^ l.length + nb l := by
  show List.foldl (fun n x => n * 256 + x.toNat) (0 * 256 + x.toNat) l = _
  rw [Nat.zero_mul, Nat.zero_add]
  exact nb_cons_at l x.toNat
theorem u8_of (k : Nat) : (UInt8.ofNat (k % 256)).toNat = k % 256 := by
  rw [UInt8.toNat_ofNat']
  omega
theorem nb_lowB (n : Nat) : ∀ i, nb (lowB n i) = n % 256 ^ i
  | 0 => by rw [lowB, nb_nil, Nat.pow_zero, Nat.mod_one]
  | i + 1 => by
    rw [lowB, nb_cons, nb_lowB n i, lowB_len, u8_of, Nat.pow_succ, Nat.mod_mul, Nat.mul_comm, Nat.add_comm]
theorem nb_be8 {n : Nat} (h : n < 18446744073709551616) : nb (be8 n) = n := by
  unfold be8
  rw [nb_lowB]
  exact Nat.mod_eq_of_lt h
theorem lowB_add (x n : Nat) {j : Nat} : ∀ i, i ≤ j → lowB (x * 256 ^ j + n) i = lowB n i
  | 0, _ => rfl
  | i + 1, h => by
    rw [lowB, lowB, lowB_add x n i (by omega)]
    congr 2
    have e : x * 256 ^ j = 256 ^ i * (256 * (x * 256 ^ (j - i - 1))) := by
      rw [show j = i + (1 + (j - i - 1)) by omega, Nat.pow_add, Nat.pow_add, Nat.pow_one, show i + (1 + (j - i - 1)) - i - 1 = j - i - 1 by omega]
      ac_rfl
    rw [e, Nat.mul_add_div (Nat.pow_pos (by decide)), Nat.mul_add_mod]
theorem lowB_nb : ∀ l : List UInt8, lowB (nb l) l.length = l
  | [] => rfl
  | x :: l => by
    rw [nb_cons, List.length_cons, lowB, lowB_add _ _ _ (Nat.le_refl _), lowB_nb l]
    congr 1
    have h1 := nb_lt l
    have h2 := x.toNat_lt
    rw [Nat.mul_comm, Nat.mul_add_div (Nat.pow_pos (by decide)), Nat.div_eq_of_lt h1, Nat.add_zero, Nat.mod_eq_of_lt (by omega), UInt8.ofNat_toNat]
theorem be8_nb {l : List UInt8} (h : l.length = 8) : be8 (nb l) = l := by
  have := lowB_nb l
  rwa [h] at this

/-- Letters as cells. -/
def lts (l : List UInt8) : List Value := l.map fun x => .int .u8 ((x.toNat : Nat) : Int)
theorem bytesOf_lts : ∀ l : List UInt8, bytesOf (lts l) = some l
  | [] => rfl
  | x :: l => by
    show (match bytesOf (lts l) with | some bs => some (UInt8.ofNat ((x.toNat : Nat) : Int).toNat :: bs) | none => none) = _
    rw [bytesOf_lts l, Int.toNat_natCast, UInt8.ofNat_toNat]

def row8 (n i : Nat) : List Value := List.replicate (8 - i) (.int .u8 0) ++ lts (lowB n i)
theorem row8_len {n i : Nat} (h : i ≤ 8) : (row8 n i).length = 8 := by
  unfold row8 lts
  rw [List.length_append, List.length_replicate, List.length_map, lowB_len]
  omega
theorem row8_set {n i : Nat} (h : i < 8) : (row8 n i).set (7 - i) (.int .u8 ((n / 256 ^ i % 256 : Nat) : Int)) = row8 n (i + 1) := by
  unfold row8
  rw [show 8 - i = (7 - i) + 1 by omega, show 8 - (i + 1) = 7 - i by omega, List.replicate_succ', List.append_assoc, List.set_append_right _ _ (by rw [List.length_replicate]; exact Nat.le_refl _), List.length_replicate, Nat.sub_self]
  congr 1
  show Value.int .u8 ((n / 256 ^ i % 256 : Nat) : Int) :: lts (lowB n i) = lts (lowB n (i + 1))
  rw [lowB]
  show _ = Value.int .u8 (((UInt8.ofNat (n / 256 ^ i % 256)).toNat : Nat) : Int) :: lts (lowB n i)
  rw [u8_of]

theorem shrB {n i : Nat} (h : i < 8) : abin .shr .u64 ((n : Nat) : Int) .i64 ((8 * i : Nat) : Int) = some (.int .u64 ((n / 256 ^ i : Nat) : Int)) := by
  unfold abin
  rw [if_neg (by omega), Int.toNat_natCast, show min (8 * i) IntKind.u64.bits = 8 * i from Nat.min_eq_left (by show 8 * i ≤ 64; omega), Int.fdiv_eq_ediv_of_nonneg _ (Int.natCast_nonneg _), ← Int.natCast_ediv, Nat.pow_mul]
  rfl
theorem cv64 (x : Nat) : aconv E.P 22 5 (.int .u64 ((x : Nat) : Int)) = some (.int .u8 ((x % 256 : Nat) : Int)) := by
  have h1 : aconv E.P 22 5 (.int .u64 ((x : Nat) : Int)) = some (.int .u8 (wrapF .u8 ((x : Nat) : Int))) := by kernel_rfl
  rw [h1]
  congr 2
theorem mulI (a b : Int) : abin .mul .i64 a .i64 b = some (.int .i64 (wrapF .i64 (a * b))) := by kernel_rfl
theorem und8 : E.P.underlying 63 = some (.array 8 5) := Tryd.underlying63
theorem ix8 {m : Mem} {j : Nat} (h : j < 8) : aindexAddr E.P 63 (adr m 0 0) (.int .i64 (j : Nat)) = some (adr m 0 j) := by
  obtain ⟨i, hi, hs⟩ : ∃ i, E.P.info? 5 = some i ∧ i.size = 1 := Option.map_eq_some_iff.1 (by kernel_rfl : (E.P.info? 5).map (·.size) = some 1)
  unfold aindexAddr adr
  simp only [und8, hi, hs]
  rw [if_pos ⟨by omega, by omega⟩, Int.toNat_natCast, Nat.mul_one, Nat.zero_add]
theorem st8 {m : Mem} {n i : Nat} (h : i < 8) : astore E.P 5 (adr m 0 (7 - i)) (.int .u8 ((n / 256 ^ i % 256 : Nat) : Int)) (ap m [.row false 63 (row8 n i)]) = some (ap m [.row false 63 (row8 n (i + 1))]) := by
  rw [astore_L (n := 1) (l := [.int .u8 ((n / 256 ^ i % 256 : Nat) : Int)]) (by kernel_rfl) rfl, stL_1]
  simp only [List.getElem?_cons_zero]
  rw [if_pos (by rw [row8_len (by omega)]; omega), row8_set h, List.set_cons_zero]

noncomputable def slV (P : Program) (T : List Value) (m : Mem) (t : TypeId) (o : Oper) (v : Value) : Option (Value × Mem) := match v with
  | .pointer (some a) => (aslice P t (.pointer (some a)) none none m).map (·, m)
  | _ => aop P T m o
theorem aop_slAll {P : Program} {T : List Value} {m : Mem} {d : Option Tmp} {t : TypeId} {x : Operand} {ty : TypeId} {pos : String} {af : Array Edge} {g : Option (Nat × Bool)} : aop P T m { dst := d, op := .slice t x none none none, type := ty, pos := pos, after := af, guard := g } = slV P T m t { dst := d, op := .slice t x none none none, type := ty, pos := pos, after := af, guard := g } (ev T x) := by
  cases h : ev T x with
  | pointer a =>
    cases a with
    | none => rfl
    | some a =>
      unfold aop slV
      simp only [h]
      rfl
  | _ => rfl
theorem slV_adr {P : Program} {T : List Value} {m m' : Mem} {t : TypeId} {o : Oper} {k q : Nat} : slV P T m t o (adr m' k q) = (aslice P t (adr m' k q) none none m).map (·, m) := rfl
theorem sl8 {m M : Mem} : aslice E.P 63 (adr m 0 0) none none M = some (.slice (some ⟨m.length + 0, 0, none⟩) 8 8) := by
  obtain ⟨i, hi, hs⟩ : ∃ i, E.P.info? 5 = some i ∧ i.size = 1 := Option.map_eq_some_iff.1 (by kernel_rfl : (E.P.info? 5).map (·.size) = some 1)
  unfold aslice adr
  simp only [und8, hi]
  rw [show abounds 8 8 none none = some (0, 8) from rfl]
  simp only [hs]
  rfl
theorem undB8 : E.P.underlying 56 = some (.slice 5) := Tryd.underlying56
theorem acv8 {a : Addr} : aconv E.P 56 9 (.slice (some a) 8 8) = none := rfl
theorem acb8 {m : Mem} {n : Nat} : aconvB E.P 56 9 (.slice (some ⟨m.length + 0, 0, none⟩) 8 8) (ap m [.row false 63 (row8 n 8)]) = some (tx (be8 n), ap m [.row false 63 (row8 n 8)]) := by
  have hl : look (ap m [.row false 63 (row8 n 8)]) (m.length + 0) = some (false, 63, row8 n 8) := look_row (ap_get m _ 0)
  have e1 : row8 n 8 = lts (be8 n) := rfl
  have h8 : (row8 n 8).length = 8 := row8_len (Nat.le_refl 8)
  unfold aconvB
  simp only [undB8, und9, und5, asrc, hl]
  rw [if_pos (by rw [h8]; omega), List.drop_zero, List.take_of_length_le (by rw [h8]; omega), e1]
  simp only [bytesOf_lts]
  rfl

section
variable {self : Self} {nf : Nat} {m : Mem} {F : Nat → Value} {i n : Nat}
theorem pei_it (h0 : F 0 = .int .u64 (n : Nat)) (h3 : F 3 = adr m 0 0) (h5 : F 5 = .int .i64 (i : Nat)) (hi : i < 8) :
    ∃ F', acodeN E self nf lppei_0 (lst F 19) (ap m [.row false 63 (row8 n i)]) = some (.normal, lst F' 19, ap m [.row false 63 (row8 n (i + 1))]) ∧ F' 0 = .int .u64 (n : Nat) ∧ F' 3 = adr m 0 0 ∧ F' 5 = .int .i64 ((i + 1 : Nat) : Int) := by
  have d1 : decide (((i : Nat) : Int) < 8) = true := decide_eq_true (by omega)
  have e1 : wrapF .i64 (7 - ((i : Nat) : Int)) = ((7 - i : Nat) : Int) := by simp only [wrapF]; omega
  have e2 : wrapF .i64 (8 * ((i : Nat) : Int)) = ((8 * i : Nat) : Int) := by simp only [wrapF]; omega
  have e3 := shrB (n := n) hi
  have e4 := cv64 (n / 256 ^ i)
  have e5 := ix8 (m := m) (j := 7 - i) (by omega)
  have e6 := st8 (m := m) (n := n) hi
  have e7 : wrapF .i64 (((i : Nat) : Int) + 1) = ((i + 1 : Nat) : Int) := by simp only [wrapF]; omega
  simp only [lppei_0_eq, epei_0, epei_1, epei_2, epei_3, epei_4, epei_5, epei_6, epei_7, lpei_0, lpei_1, lpei_2, lpei_3, lpei_4, lpei_5, lpei_6, lpei_7, agd_none, gdAt, gdV_bool, gdV_undef, Tryd.f18, List.append_eq, List.cons_append, List.nil_append, apure_call1, apure_call2, apure_call3, bft, btf, acodeN, List.getElem?_toArray, List.getElem?_cons_zero, List.getElem?_cons_succ, aopsN, adrawT, cls, astep, aop, afloat, ev, nth_lst, get_lst, aput, setAt_lst, upd_at, init_zero, init_succ, init_nil, Nat.reduceLT, Nat.reduceEqDiff, reduceIte, abuiltin, Option.map_some, Option.map_none, orElse_some, apure_add, List.map_cons, List.map_nil, List.all_cons, List.all_nil, lit2, lit1, lit0, List.isEmpty_nil, Bool.and_self, Bool.and_true, Bool.true_and, Bool.false_and, Bool.and_false, Bool.not_true, Bool.not_false, Bool.or_true, Bool.true_or, Bool.false_or, Bool.or_false, Bool.false_eq_true, if_true, if_false, List.length_map, beq_self_eq_true, und3, und4, und5, und9, eqlV9_int, neqV9_int, eqlV9_bool, neqV9_bool, eqlV9_str, neqV9_str, ↓aop_eqlV9, ↓aop_neqV9, ↓afloat_eqlV9, ↓afloat_neqV9, apure_eqlV9, apure_neqV9, eqlW, neqW, eqlI64, neqI64, aload_sealed, adU, adE, ldI', ldU', ldL', ldS_pol, ldS_bud, ldF_p0, ldF_p1, ldF_p2, ldF_b0, ldF_b1, ldF_b2, stI', stU', stT', stL, polLen, budLen, layP, layB, layB0, layB1, layB2, List.length_nil, List.length_cons, List.length_append, Nat.reduceAdd, Nat.reduceLeDiff, List.set_cons_zero, List.set_cons_succ, and_self, true_and, Nat.le_refl, apure_max, apure_min, maxV, minV, finish, ares, aresL, ares1_tmp, ares1_cell, aresC_adr, aextract, h0, h3, h5, lssI, subI, mulI, addI, d1, e1, e2, e3, e4, e5, e6, e7]
  exact ⟨_, rfl, by simp only [upd_at, Nat.reduceEqDiff, reduceIte, h0], by simp only [upd_at, Nat.reduceEqDiff, reduceIte, h3], by simp only [upd_at, Nat.reduceEqDiff, reduceIte]⟩
theorem pei_end (h3 : F 3 = adr m 0 0) (h5 : F 5 = .int .i64 8) {M : Mem} : ∃ F', acodeN E self nf lppei_0 (lst F 19) M = some (.exit 0, lst F' 19, M) ∧ F' 3 = adr m 0 0 := by
  have d1 : decide ((8 : Int) < 8) = false := by decide
  simp only [lppei_0_eq, epei_0, epei_1, epei_2, epei_3, epei_4, epei_5, epei_6, epei_7, lpei_0, lpei_1, lpei_2, lpei_3, lpei_4, lpei_5, lpei_6, lpei_7, agd_none, gdAt, gdV_bool, gdV_undef, Tryd.f18, List.append_eq, List.cons_append, List.nil_append, apure_call1, apure_call2, apure_call3, bft, btf, acodeN, List.getElem?_toArray, List.getElem?_cons_zero, List.getElem?_cons_succ, aopsN, adrawT, cls, astep, aop, afloat, ev, nth_lst, get_lst, aput, setAt_lst, upd_at, init_zero, init_succ, init_nil, Nat.reduceLT, Nat.reduceEqDiff, reduceIte, abuiltin, Option.map_some, Option.map_none, orElse_some, apure_add, List.map_cons, List.map_nil, List.all_cons, List.all_nil, lit2, lit1, lit0, List.isEmpty_nil, Bool.and_self, Bool.and_true, Bool.true_and, Bool.false_and, Bool.and_false, Bool.not_true, Bool.not_false, Bool.or_true, Bool.true_or, Bool.false_or, Bool.or_false, Bool.false_eq_true, if_true, if_false, List.length_map, beq_self_eq_true, und3, und4, und5, und9, eqlV9_int, neqV9_int, eqlV9_bool, neqV9_bool, eqlV9_str, neqV9_str, ↓aop_eqlV9, ↓aop_neqV9, ↓afloat_eqlV9, ↓afloat_neqV9, apure_eqlV9, apure_neqV9, eqlW, neqW, eqlI64, neqI64, aload_sealed, adU, adE, ldI', ldU', ldL', ldS_pol, ldS_bud, ldF_p0, ldF_p1, ldF_p2, ldF_b0, ldF_b1, ldF_b2, stI', stU', stT', stL, polLen, budLen, layP, layB, layB0, layB1, layB2, List.length_nil, List.length_cons, List.length_append, Nat.reduceAdd, Nat.reduceLeDiff, List.set_cons_zero, List.set_cons_succ, and_self, true_and, Nat.le_refl, apure_max, apure_min, maxV, minV, finish, ares, aresL, ares1_tmp, ares1_cell, aresC_adr, aextract, h5, lssI, d1]
  exact ⟨_, rfl, by simp only [upd_at, Nat.reduceEqDiff, reduceIte, h3]⟩
theorem al8 (m : Mem) (n : Nat) : aalloc E.P 63 (ap m []) = some (adr m 0 0, ap m [.row false 63 (row8 n 0)]) := aalloc_L (z := .agg ⟨row8 n 0⟩) (by kernel_rfl) rfl rfl m []
theorem pei_body (hnf : 8 < nf) : ∃ m', abody E self nf 18 [.int .u64 (n : Nat)] (ap m []) = some (tx (be8 n), m') := by
  rw [abody_eqF (by kernel_rfl) Tryd.func18 bodypei (by kernel_rfl) (Nat.le_of_ble_eq_true rfl)]
  rw [show Tryd.f18.ntmps = 19 from rfl]
  have h := aloop_inv (body := acodeN E self nf lppei_0) (N := 8) (I := fun i T m' => m' = ap m [.row false 63 (row8 n i)] ∧ ∃ F, T = lst F 19 ∧ F 0 = .int .u64 (n : Nat) ∧ F 3 = adr m 0 0 ∧ F 5 = .int .i64 (i : Nat))
    (Q := fun e T m' => e = .exit 0 ∧ m' = ap m [.row false 63 (row8 n 8)] ∧ ∃ F, T = lst F 19 ∧ F 3 = adr m 0 0) (fun i T m' hi hI => by
      obtain ⟨rfl, F, rfl, h0, h3, h5⟩ := hI
      by_cases hlt : i < 8
      · left
        obtain ⟨F', hr, g0, g3, g5⟩ := pei_it (self := self) (nf := nf) (m := m) h0 h3 h5 hlt
        exact ⟨_, _, hr, hlt, rfl, F', rfl, g0, g3, g5⟩
      · right
        have hie : i = 8 := by omega
        subst hie
        obtain ⟨F', hr, g3⟩ := pei_end (self := self) (nf := nf) (m := m) (M := ap m [.row false 63 (row8 n 8)]) h3 h5
        exact ⟨_, _, _, hr, by simp, rfl, rfl, F', rfl, g3⟩)
  obtain ⟨e, T', m', hr, rfl, rfl, F', rfl, g3⟩ := h 8 0 nf (lst (upd (upd (upd (init [.int .u64 (n : Nat)]) 2 (.string ⟨#[]⟩)) 3 (adr m 0 0)) 5 (.int .i64 0)) 19) (ap m [.row false 63 (row8 n 0)]) (by omega) (by omega) ⟨rfl, _, rfl, rfl, rfl, rfl⟩
  have a8 := al8 m n
  simp only [epei_0, epei_1, epei_2, epei_3, epei_4, epei_5, epei_6, epei_7, lpei_0, lpei_1, lpei_2, lpei_3, lpei_4, lpei_5, lpei_6, lpei_7, agd_none, gdAt, gdV_bool, gdV_undef, Tryd.f18, List.append_eq, List.cons_append, List.nil_append, apure_call1, apure_call2, apure_call3, bft, btf, acodeN, List.getElem?_toArray, List.getElem?_cons_zero, List.getElem?_cons_succ, aopsN, adrawT, cls, astep, aop, afloat, ev, nth_lst, get_lst, aput, setAt_lst, upd_at, init_zero, init_succ, init_nil, Nat.reduceLT, Nat.reduceEqDiff, reduceIte, abuiltin, Option.map_some, Option.map_none, orElse_some, apure_add, List.map_cons, List.map_nil, List.all_cons, List.all_nil, lit2, lit1, lit0, List.isEmpty_nil, Bool.and_self, Bool.and_true, Bool.true_and, Bool.false_and, Bool.and_false, Bool.not_true, Bool.not_false, Bool.or_true, Bool.true_or, Bool.false_or, Bool.or_false, Bool.false_eq_true, if_true, if_false, List.length_map, beq_self_eq_true, und3, und4, und5, und9, eqlV9_int, neqV9_int, eqlV9_bool, neqV9_bool, eqlV9_str, neqV9_str, ↓aop_eqlV9, ↓aop_neqV9, ↓afloat_eqlV9, ↓afloat_neqV9, apure_eqlV9, apure_neqV9, eqlW, neqW, eqlI64, neqI64, aload_sealed, adU, adE, ldI', ldU', ldL', ldS_pol, ldS_bud, ldF_p0, ldF_p1, ldF_p2, ldF_b0, ldF_b1, ldF_b2, stI', stU', stT', stL, polLen, budLen, layP, layB, layB0, layB1, layB2, List.length_nil, List.length_cons, List.length_append, Nat.reduceAdd, Nat.reduceLeDiff, List.set_cons_zero, List.set_cons_succ, and_self, true_and, Nat.le_refl, apure_max, apure_min, maxV, minV, finish, ares, aresL, ares1_tmp, ares1_cell, aresC_adr, aextract, a8, hr, g3, ↓aop_slAll, slV_adr, sl8, acv8, acb8, apure_convert, isAddr]
  exact ⟨_, rfl⟩
end
section
variable {N n : Nat}
theorem eight_call (hN : 8 ≤ N) : AnsB (RQ (N + 1)) 18 [.int .u64 (n : Nat)] (tx (be8 n)) := ans9 rfl rfl rfl fun m => pei_body (by omega)
end
end Go.Am.Seat

/-
  The document's numbers as bytes, and back (own work).
-/
set_option linter.unusedSimpArgs false
set_option linter.unusedVariables false
namespace Go.Am.Seat
open Go.Proofs Go.Am
set_option maxRecDepth 100000

theorem tx_appE (a b : List UInt8) : (⟨a.toArray⟩ : ByteArray) ++ ⟨b.toArray⟩ = ⟨(a ++ b).toArray⟩ := by
  apply ByteArray.ext
  rw [ByteArray.data_append]
  simp
def sl9 (m : Mem) (k n : Nat) : Value := .slice (some ⟨m.length + k, 0, none⟩) n n
theorem undBs : E.P.underlying 56 = some (.slice 5) := Tryd.underlying56
theorem bs1 (m : Mem) (L : List Blk) (c : Int) : abuildSlice E.P 56 1 [(0, .int .u8 c)] (ap m L) = some (sl9 m L.length 1, ap m (L ++ [.row false 5 [.int .u8 c]])) := by
  have h : ∀ M : Mem, abuildSlice E.P 56 1 [(0, .int .u8 c)] M = some (.slice (some ⟨M.length, 0, none⟩) 1 1, M ++ [.row false 5 [.int .u8 c]]) := fun M => by kernel_rfl
  rw [h, ap_len, ap_app]
  rfl
theorem bs2 (m : Mem) (L : List Blk) (c d : Int) : abuildSlice E.P 56 2 [(0, .int .u8 c), (1, .int .u8 d)] (ap m L) = some (sl9 m L.length 2, ap m (L ++ [.row false 5 [.int .u8 c, .int .u8 d]])) := by
  have h : ∀ M : Mem, abuildSlice E.P 56 2 [(0, .int .u8 c), (1, .int .u8 d)] M = some (.slice (some ⟨M.length, 0, none⟩) 2 2, M ++ [.row false 5 [.int .u8 c, .int .u8 d]]) := fun M => by kernel_rfl
  rw [h, ap_len, ap_app]
  rfl
theorem acvS {m : Mem} {k n : Nat} : aconv E.P 56 9 (sl9 m k n) = none := rfl
theorem isA_sl {m : Mem} {k n : Nat} : isAddr (sl9 m k n) = true := rfl
theorem acbS {m : Mem} {L : List Blk} {k n : Nat} {ro : Bool} {e : TypeId} {l : List UInt8} (hk : L[k]? = some (.row ro e (lts l))) (hn : l.length = n) : aconvB E.P 56 9 (sl9 m k n) (ap m L) = some (tx l, ap m L) := by
  have hl : look (ap m L) (m.length + k) = some (ro, e, lts l) := look_row (by rw [ap_get]; exact hk)
  have h8 : (lts l).length = n := by unfold lts; rw [List.length_map, hn]
  unfold aconvB sl9
  simp only [undBs, und9, und5, asrc, hl]
  rw [if_pos (by rw [h8]; omega), List.drop_zero, List.take_of_length_le (by rw [h8]; omega)]
  simp only [bytesOf_lts]
  rfl
theorem lts1 (x : Nat) (h : x < 256) : [Value.int .u8 ((x : Nat) : Int)] = lts [UInt8.ofNat x] := by
  unfold lts
  rw [List.map_cons, List.map_nil, UInt8.toNat_ofNat', Nat.mod_eq_of_lt (by omega)]
theorem lts2 (x y : Nat) (h : x < 256) (h' : y < 256) : [Value.int .u8 ((x : Nat) : Int), .int .u8 ((y : Nat) : Int)] = lts [UInt8.ofNat x, UInt8.ofNat y] := by
  unfold lts
  rw [List.map_cons, List.map_cons, List.map_nil, UInt8.toNat_ofNat', UInt8.toNat_ofNat', Nat.mod_eq_of_lt (show x < 2 ^ 8 by omega), Nat.mod_eq_of_lt (show y < 2 ^ 8 by omega)]
theorem remB (n : Nat) : abin .rem .u64 ((n : Nat) : Int) .u64 256 = some (.int .u64 ((n % 256 : Nat) : Int)) := by
  have h : abin .rem .u64 ((n : Nat) : Int) .u64 256 = some (.int .u64 (((n : Nat) : Int).tmod 256)) := by kernel_rfl
  rw [h, Int.tmod_eq_emod_of_nonneg (by omega)]
  rfl
theorem quoB (n : Nat) (h : n < 18446744073709551616) : abin .quo .u64 ((n : Nat) : Int) .u64 256 = some (.int .u64 ((n / 256 : Nat) : Int)) := by
  have h1 := quoW (t := (n : Nat)) (b := 256) (by omega) (by omega) (by omega)
  rw [h1]
  rfl

section
variable {self : Self} {nf : Nat} {m : Mem} {F : Nat → Value} {i n : Nat}
theorem rnm_it (h0 : F 0 = .int .u64 ((n / 256 ^ i : Nat) : Int)) (h3 : F 3 = tx (lowB n i)) (h4 : F 4 = .int .i64 (i : Nat)) (hi : i < 8) (hn : n < 18446744073709551616) :
    ∃ F' m', acodeN E self nf lprnm_0 (lst F 19) (ap m []) = some (.normal, lst F' 19, m') ∧ F' 0 = .int .u64 ((n / 256 ^ (i + 1) : Nat) : Int) ∧ F' 3 = tx (lowB n (i + 1)) ∧ F' 4 = .int .i64 ((i + 1 : Nat) : Int) := by
  have d1 : decide (((i : Nat) : Int) < 8) = true := decide_eq_true (by omega)
  have e1 := remB (n / 256 ^ i)
  have e2 := cv64 (n / 256 ^ i % 256)
  rw [Nat.mod_mod] at e2
  have e3 := quoB (n / 256 ^ i) (Nat.lt_of_le_of_lt (Nat.div_le_self _ _) hn)
  have e4 : wrapF .i64 (((i : Nat) : Int) + 1) = ((i + 1 : Nat) : Int) := by simp only [wrapF]; omega
  have hb := bs1 m [] ((n / 256 ^ i % 256 : Nat) : Int)
  have hc := acbS (m := m) (L := [.row false 5 [.int .u8 ((n / 256 ^ i % 256 : Nat) : Int)]]) (k := 0) (n := 1) (l := [UInt8.ofNat (n / 256 ^ i % 256)]) (ro := false) (e := 5) (by rw [lts1 _ (Nat.mod_lt _ (by decide))]; rfl) rfl
  have hle : (0 + 1 + i ≤ 9223372036854775807) = True := eq_true (by omega)
  rw [Nat.div_div_eq_div_mul, ← Nat.pow_succ] at e3
  simp only [List.length_nil, List.nil_append] at hb
  simp only [lprnm_0_eq, ernm_0, ernm_1, ernm_2, ernm_3, ernm_4, ernm_5, ernm_6, ernm_7, lrnm_0, lrnm_1, lrnm_2, lrnm_3, lrnm_4, lrnm_5, lrnm_6, lrnm_7, agd_none, gdAt, gdV_bool, gdV_undef, Tryd.f20, List.append_eq, List.cons_append, List.nil_append, apure_call1, apure_call2, apure_call3, bft, btf, acodeN, List.getElem?_toArray, List.getElem?_cons_zero, List.getElem?_cons_succ, aopsN, adrawT, cls, astep, aop, afloat, ev, nth_lst, get_lst, aput, setAt_lst, upd_at, init_zero, init_succ, init_nil, Nat.reduceLT, Nat.reduceEqDiff, reduceIte, abuiltin, Option.map_some, Option.map_none, orElse_some, apure_add, List.map_cons, List.map_nil, List.all_cons, List.all_nil, lit2, lit1, lit0, List.isEmpty_nil, Bool.and_self, Bool.and_true, Bool.true_and, Bool.false_and, Bool.and_false, Bool.not_true, Bool.not_false, Bool.or_true, Bool.true_or, Bool.false_or, Bool.or_false, Bool.false_eq_true, if_true, if_false, List.length_map, beq_self_eq_true, und3, und4, und5, und9, eqlV9_int, neqV9_int, eqlV9_bool, neqV9_bool, eqlV9_str, neqV9_str, ↓aop_eqlV9, ↓aop_neqV9, ↓afloat_eqlV9, ↓afloat_neqV9, apure_eqlV9, apure_neqV9, eqlW, neqW, eqlI64, neqI64, aload_sealed, adU, adE, ldI', ldU', ldL', ldS_pol, ldS_bud, ldF_p0, ldF_p1, ldF_p2, ldF_b0, ldF_b1, ldF_b2, stI', stU', stT', stL, polLen, budLen, layP, layB, layB0, layB1, layB2, List.length_nil, List.length_cons, List.length_append, Nat.reduceAdd, Nat.reduceLeDiff, List.set_cons_zero, List.set_cons_succ, and_self, true_and, Nat.le_refl, apure_max, apure_min, maxV, minV, finish, ares, aresL, ares1_tmp, ares1_cell, aresC_adr, aextract, h0, h3, h4, lssI, addI, d1, e1, e2, e3, e4, hb, acvS, isA_sl, hc, apure_convert, tx, tx_size, lowB_len, List.length_cons, List.length_nil, hle, if_true, tx_appE]
  exact ⟨_, _, rfl, by simp only [upd_at, Nat.reduceEqDiff, reduceIte], by simp only [upd_at, Nat.reduceEqDiff, reduceIte, lowB, List.cons_append, List.nil_append], by simp only [upd_at, Nat.reduceEqDiff, reduceIte]⟩
theorem rnm_end {M : Mem} (h4 : F 4 = .int .i64 8) : ∃ F', acodeN E self nf lprnm_0 (lst F 19) M = some (.exit 0, lst F' 19, M) ∧ F' 3 = F 3 := by
  have d1 : decide ((8 : Int) < 8) = false := by decide
  simp only [lprnm_0_eq, ernm_0, ernm_1, ernm_2, ernm_3, ernm_4, ernm_5, ernm_6, ernm_7, lrnm_0, lrnm_1, lrnm_2, lrnm_3, lrnm_4, lrnm_5, lrnm_6, lrnm_7, agd_none, gdAt, gdV_bool, gdV_undef, Tryd.f20, List.append_eq, List.cons_append, List.nil_append, apure_call1, apure_call2, apure_call3, bft, btf, acodeN, List.getElem?_toArray, List.getElem?_cons_zero, List.getElem?_cons_succ, aopsN, adrawT, cls, astep, aop, afloat, ev, nth_lst, get_lst, aput, setAt_lst, upd_at, init_zero, init_succ, init_nil, Nat.reduceLT, Nat.reduceEqDiff, reduceIte, abuiltin, Option.map_some, Option.map_none, orElse_some, apure_add, List.map_cons, List.map_nil, List.all_cons, List.all_nil, lit2, lit1, lit0, List.isEmpty_nil, Bool.and_self, Bool.and_true, Bool.true_and, Bool.false_and, Bool.and_false, Bool.not_true, Bool.not_false, Bool.or_true, Bool.true_or, Bool.false_or, Bool.or_false, Bool.false_eq_true, if_true, if_false, List.length_map, beq_self_eq_true, und3, und4, und5, und9, eqlV9_int, neqV9_int, eqlV9_bool, neqV9_bool, eqlV9_str, neqV9_str, ↓aop_eqlV9, ↓aop_neqV9, ↓afloat_eqlV9, ↓afloat_neqV9, apure_eqlV9, apure_neqV9, eqlW, neqW, eqlI64, neqI64, aload_sealed, adU, adE, ldI', ldU', ldL', ldS_pol, ldS_bud, ldF_p0, ldF_p1, ldF_p2, ldF_b0, ldF_b1, ldF_b2, stI', stU', stT', stL, polLen, budLen, layP, layB, layB0, layB1, layB2, List.length_nil, List.length_cons, List.length_append, Nat.reduceAdd, Nat.reduceLeDiff, List.set_cons_zero, List.set_cons_succ, and_self, true_and, Nat.le_refl, apure_max, apure_min, maxV, minV, finish, ares, aresL, ares1_tmp, ares1_cell, aresC_adr, aextract, h4, lssI, d1]
  exact ⟨_, rfl, by simp only [upd_at, Nat.reduceEqDiff, reduceIte]⟩
theorem rnm_body (hn : n < 18446744073709551616) (hnf : 8 < nf) : ∃ m', abody E self nf 20 [.int .u64 (n : Nat)] (ap m []) = some (tx (be8 n), m') := by
  rw [abody_eqF (by kernel_rfl) Tryd.func20 bodyrnm (by kernel_rfl) (Nat.le_of_ble_eq_true rfl)]
  rw [show Tryd.f20.ntmps = 19 from rfl]
  have h := aloop_inv (body := acodeN E self nf lprnm_0) (N := 8) (I := fun i T m' => ∃ F, T = lst F 19 ∧ F 0 = .int .u64 ((n / 256 ^ i : Nat) : Int) ∧ F 3 = tx (lowB n i) ∧ F 4 = .int .i64 (i : Nat))
    (Q := fun e T m' => e = .exit 0 ∧ ∃ F, T = lst F 19 ∧ F 3 = tx (be8 n)) (fun i T m' hi hI => by
      obtain ⟨F, rfl, h0, h3, h4⟩ := hI
      by_cases hlt : i < 8
      · left
        obtain ⟨F', m2, hr, g0, g3, g4⟩ := rnm_it (self := self) (nf := nf) (m := m') h0 h3 h4 hlt hn
        rw [← ap_nil] at hr
        exact ⟨_, _, hr, hlt, F', rfl, g0, g3, g4⟩
      · right
        have hie : i = 8 := by omega
        subst hie
        obtain ⟨F', hr, g3⟩ := rnm_end (self := self) (nf := nf) (M := m') h4
        exact ⟨_, _, _, hr, by simp, rfl, F', rfl, by rw [g3, h3]; rfl⟩)
  obtain ⟨e, T', m', hr, rfl, F', rfl, g3⟩ := h 8 0 nf (lst (upd (upd (upd (init [.int .u64 (n : Nat)]) 2 (.string ⟨#[]⟩)) 3 (.string ⟨#[]⟩)) 4 (.int .i64 0)) 19) (ap m []) (by omega) (by omega) ⟨_, rfl, by rw [Nat.pow_zero, Nat.div_one]; rfl, rfl, rfl⟩
  simp only [ernm_0, ernm_1, ernm_2, ernm_3, ernm_4, ernm_5, ernm_6, ernm_7, lrnm_0, lrnm_1, lrnm_2, lrnm_3, lrnm_4, lrnm_5, lrnm_6, lrnm_7, agd_none, gdAt, gdV_bool, gdV_undef, Tryd.f20, List.append_eq, List.cons_append, List.nil_append, apure_call1, apure_call2, apure_call3, bft, btf, acodeN, List.getElem?_toArray, List.getElem?_cons_zero, List.getElem?_cons_succ, aopsN, adrawT, cls, astep, aop, afloat, ev, nth_lst, get_lst, aput, setAt_lst, upd_at, init_zero, init_succ, init_nil, Nat.reduceLT, Nat.reduceEqDiff, reduceIte, abuiltin, Option.map_some, Option.map_none, orElse_some, apure_add, List.map_cons, List.map_nil, List.all_cons, List.all_nil, lit2, lit1, lit0, List.isEmpty_nil, Bool.and_self, Bool.and_true, Bool.true_and, Bool.false_and, Bool.and_false, Bool.not_true, Bool.not_false, Bool.or_true, Bool.true_or, Bool.false_or, Bool.or_false, Bool.false_eq_true, if_true, if_false, List.length_map, beq_self_eq_true, und3, und4, und5, und9, eqlV9_int, neqV9_int, eqlV9_bool, neqV9_bool, eqlV9_str, neqV9_str, ↓aop_eqlV9, ↓aop_neqV9, ↓afloat_eqlV9, ↓afloat_neqV9, apure_eqlV9, apure_neqV9, eqlW, neqW, eqlI64, neqI64, aload_sealed, adU, adE, ldI', ldU', ldL', ldS_pol, ldS_bud, ldF_p0, ldF_p1, ldF_p2, ldF_b0, ldF_b1, ldF_b2, stI', stU', stT', stL, polLen, budLen, layP, layB, layB0, layB1, layB2, List.length_nil, List.length_cons, List.length_append, Nat.reduceAdd, Nat.reduceLeDiff, List.set_cons_zero, List.set_cons_succ, and_self, true_and, Nat.le_refl, apure_max, apure_min, maxV, minV, finish, ares, aresL, ares1_tmp, ares1_cell, aresC_adr, aextract, hr, g3]
  exact ⟨_, rfl⟩
theorem quo256 {k : Nat} (h : k < 65536) : abin .quo .i64 ((k : Nat) : Int) .i64 256 = some (.int .i64 ((k / 256 : Nat) : Int)) := by
  have h1 : abin .quo .i64 ((k : Nat) : Int) .i64 256 = some (.int .i64 (wrapF .i64 (((k : Nat) : Int).tdiv 256))) := by kernel_rfl
  rw [h1, Int.tdiv_eq_ediv_of_nonneg (by omega)]
  congr 2
  simp only [wrapF]
  omega
theorem cvi8 (x : Nat) : aconv E.P 3 5 (.int .i64 ((x : Nat) : Int)) = some (.int .u8 ((x % 256 : Nat) : Int)) := by
  have h1 : aconv E.P 3 5 (.int .i64 ((x : Nat) : Int)) = some (.int .u8 (wrapF .u8 ((x : Nat) : Int))) := by kernel_rfl
  rw [h1]
  congr 2
theorem rtw_body {k : Nat} (hk : k < 65536) : ∃ m', abody E self nf 21 [.int .i64 (k : Nat)] (ap m []) = some (tx (lowB k 2), m') := by
  rw [abody_eqF (by kernel_rfl) Tryd.func21 bodyrtw (by kernel_rfl) (Nat.le_of_ble_eq_true rfl)]
  rw [show Tryd.f21.ntmps = 10 from rfl]
  have e1 := quo256 hk
  have e2 := cvi8 (k / 256)
  have e3 := cvi8 k
  have hb := bs2 m [] ((k / 256 % 256 : Nat) : Int) ((k % 256 : Nat) : Int)
  have hc := acbS (m := m) (L := [.row false 5 [.int .u8 ((k / 256 % 256 : Nat) : Int), .int .u8 ((k % 256 : Nat) : Int)]]) (k := 0) (n := 2) (l := [UInt8.ofNat (k / 256 % 256), UInt8.ofNat (k % 256)]) (ro := false) (e := 5) (by rw [lts2 _ _ (Nat.mod_lt _ (by decide)) (Nat.mod_lt _ (by decide))]; rfl) rfl
  simp only [List.length_nil, List.nil_append] at hb
  have e4 : lowB k 2 = [UInt8.ofNat (k / 256 % 256), UInt8.ofNat (k % 256)] := by simp [lowB]
  rw [e4]
  simp only [ertw_0, ertw_1, lrtw_0, lrtw_1, agd_none, gdAt, gdV_bool, gdV_undef, Tryd.f21, List.append_eq, List.cons_append, List.nil_append, apure_call1, apure_call2, apure_call3, bft, btf, acodeN, List.getElem?_toArray, List.getElem?_cons_zero, List.getElem?_cons_succ, aopsN, adrawT, cls, astep, aop, afloat, ev, nth_lst, get_lst, aput, setAt_lst, upd_at, init_zero, init_succ, init_nil, Nat.reduceLT, Nat.reduceEqDiff, reduceIte, abuiltin, Option.map_some, Option.map_none, orElse_some, apure_add, List.map_cons, List.map_nil, List.all_cons, List.all_nil, lit2, lit1, lit0, List.isEmpty_nil, Bool.and_self, Bool.and_true, Bool.true_and, Bool.false_and, Bool.and_false, Bool.not_true, Bool.not_false, Bool.or_true, Bool.true_or, Bool.false_or, Bool.or_false, Bool.false_eq_true, if_true, if_false, List.length_map, beq_self_eq_true, und3, und4, und5, und9, eqlV9_int, neqV9_int, eqlV9_bool, neqV9_bool, eqlV9_str, neqV9_str, ↓aop_eqlV9, ↓aop_neqV9, ↓afloat_eqlV9, ↓afloat_neqV9, apure_eqlV9, apure_neqV9, eqlW, neqW, eqlI64, neqI64, aload_sealed, adU, adE, ldI', ldU', ldL', ldS_pol, ldS_bud, ldF_p0, ldF_p1, ldF_p2, ldF_b0, ldF_b1, ldF_b2, stI', stU', stT', stL, polLen, budLen, layP, layB, layB0, layB1, layB2, List.length_nil, List.length_cons, List.length_append, Nat.reduceAdd, Nat.reduceLeDiff, List.set_cons_zero, List.set_cons_succ, and_self, true_and, Nat.le_refl, apure_max, apure_min, maxV, minV, finish, ares, aresL, ares1_tmp, ares1_cell, aresC_adr, aextract, e1, e2, e3, hb, acvS, isA_sl, hc, apure_convert]
  exact ⟨_, rfl⟩
end
section
variable {N n : Nat}
theorem num17_call (hN : 8 ≤ N) (hn : n < 18446744073709551616) : AnsB (RQ (N + 1)) 20 [.int .u64 (n : Nat)] (tx (be8 n)) := ans9 rfl rfl rfl fun m => rnm_body hn (by omega)
theorem two_call (hn : n < 65536) : AnsB (RQ (N + 1)) 21 [.int .i64 (n : Nat)] (tx (lowB n 2)) := ans9 rfl rfl rfl fun m => rtw_body hn
end
end Go.Am.Seat

/-
  The document's text of an entry (own work).
-/
set_option linter.unusedSimpArgs false
set_option linter.unusedVariables false
namespace Go.Am.Seat
open Go.Proofs Go.Am
set_option maxRecDepth 100000

theorem cbNm : callableB E.P 20 = true := by kernel_rfl
theorem cbTw : callableB E.P 21 = true := by kernel_rfl
theorem wrNm : E.wr 20 = false := by kernel_rfl
theorem wrTw : E.wr 21 = false := by kernel_rfl
theorem adStE : addrT E.P 4 9 = false := by kernel_rfl
/-- An entry's bytes. -/
def entB (a b k : Nat) (s t : List UInt8) : List UInt8 := be8 a ++ be8 b ++ [UInt8.ofNat k] ++ lowB s.length 2 ++ s ++ lowB t.length 2 ++ t
/-- What a text of an entry is. -/
def textE (a b : Nat) (c : Int) (s t : List UInt8) : List UInt8 := if ckE c s t = 0 then entB a b c.toNat s t else []

def blwV (v : Value) (B : Nat) : Bool := match v with
  | .pointer (some a) => decide (a.block < B)
  | _ => false
theorem belowB_ld {T : List Value} {B : Nat} {d : Option Tmp} {t : TypeId} {x : Operand} {ty : TypeId} {pos : String} {af : Array Edge} {g : Option (Nat × Bool)} : belowB T B { dst := d, op := .load t x, type := ty, pos := pos, after := af, guard := g } = blwV (ev T x) B := rfl
theorem belowB_call {T : List Value} {B : Nat} {d : Option Tmp} {c : Call} {ty : TypeId} {pos : String} {af : Array Edge} {g : Option (Nat × Bool)} : belowB T B { dst := d, op := .call c, type := ty, pos := pos, after := af, guard := g } = false := rfl
theorem blwV_adr {m : Mem} {k o B : Nat} : blwV (adr m k o) B = decide (m.length + k < B) := rfl
theorem alenU {l : List UInt8} : alen E.P 9 (.string ⟨l.toArray⟩) = some (.int .i64 (l.length : Nat)) := alenT (l := l)
theorem acbSe {m : Mem} {L : List Blk} {k n : Nat} {ro : Bool} {e : TypeId} {l : List UInt8} (hk : L[k]? = some (.row ro e (lts l))) (hn : l.length = n) : aconvB E.P 56 9 (sl9 m k n) ((ap m L).map sealed) = some (tx l, (ap m L).map sealed) := by
  have hl : look ((ap m L).map sealed) (m.length + k) = some (true, e, lts l) := look_row (sealed_get (by rw [ap_get]; exact hk))
  have h8 : (lts l).length = n := by unfold lts; rw [List.length_map, hn]
  unfold aconvB sl9
  simp only [undBs, und9, und5, asrc, hl]
  rw [if_pos (by rw [h8]; omega), List.drop_zero, List.take_of_length_le (by rw [h8]; omega)]
  simp only [bytesOf_lts]
  rfl
theorem capsLitF (f : Fn) : capsLit (.func f #[] #[]) = true := rfl

section
variable {self : Self} {nf : Nat} {m : Mem} {a b k : Nat} {c : Int} {s t : List UInt8}
theorem rtx_bad (h : ckE c s t ≠ 0) : ∃ m', abody E self nf 7 [entV (a : Nat) (b : Nat) c s t] (ap m []) = some (.tuple ⟨[tx [], .int .i64 (ckE c s t)]⟩, m') := by
  rw [abody_eqF (by kernel_rfl) Tryd.func7 bodyrtx (by kernel_rfl) (Nat.le_of_ble_eq_true rfl)]
  rw [show Tryd.f7.ntmps = 51 from rfl]
  unfold ckE at h ⊢
  generalize h1 : decide (c < 1) = d1 at h ⊢
  generalize h2 : decide (c > 11) = d2 at h ⊢
  generalize h3 : decide (((s.length : Nat) : Int) > 64) = d3 at h ⊢
  generalize h4 : decide (((t.length : Nat) : Int) > 255) = d4 at h ⊢
  cases d1 with
  | true => simp only [↓drtx_5, ↓srtx_5, ertx_0, ertx_1, ertx_2, ertx_3, ertx_4, ertx_5, lrtx_0, lrtx_1, lrtx_2, lrtx_3, lrtx_4, lrtx_5, grtx_1_3, grtx_3_4, agd_none, gdAt, gdV_bool, gdV_undef, Tryd.f7, List.append_eq, List.cons_append, List.nil_append, apure_call1, apure_call2, apure_call3, bft, btf, acodeN, List.getElem?_toArray, List.getElem?_cons_zero, List.getElem?_cons_succ, aopsN, adrawT, cls, astep, aop, afloat, ev, nth_lst, get_lst, aput, setAt_lst, upd_at, init_zero, init_succ, init_nil, Nat.reduceLT, Nat.reduceEqDiff, reduceIte, abuiltin, Option.map_some, Option.map_none, orElse_some, apure_add, List.map_cons, List.map_nil, List.all_cons, List.all_nil, lit2, lit1, lit0, List.isEmpty_nil, Bool.and_self, Bool.and_true, Bool.true_and, Bool.false_and, Bool.and_false, Bool.not_true, Bool.not_false, Bool.or_true, Bool.true_or, Bool.false_or, Bool.or_false, Bool.false_eq_true, if_true, if_false, List.length_map, beq_self_eq_true, und3, und4, und5, und9, eqlV9_int, neqV9_int, eqlV9_bool, neqV9_bool, eqlV9_str, neqV9_str, ↓aop_eqlV9, ↓aop_neqV9, ↓afloat_eqlV9, ↓afloat_neqV9, apure_eqlV9, apure_neqV9, eqlW, neqW, eqlI64, neqI64, aload_sealed, adU, adE, ldI', ldU', ldL', ldS_pol, ldS_bud, ldF_p0, ldF_p1, ldF_p2, ldF_b0, ldF_b1, ldF_b2, stI', stU', stT', stL, polLen, budLen, layP, layB, layB0, layB1, layB2, List.length_nil, List.length_cons, List.length_append, Nat.reduceAdd, Nat.reduceLeDiff, List.set_cons_zero, List.set_cons_succ, and_self, true_and, Nat.le_refl, apure_max, apure_min, maxV, minV, finish, ares, aresL, ares1_tmp, ares1_cell, aresC_adr, aextract, bxEn, alEn, ldEn, stEn, faEn0, faEn1, faEn2, faEn3, faEn4, bxRn, alRn, ldRn, stRn, faRn0, faRn1, faRn2, faRn3, faRn4, ldS_en, ldF_n0, ldF_n1, ldF_n2, ldF_n3, ldF_n4, enLen, layN, layN0, layN1, layN2, layN3, layN4, stTx, ldT', alenT, lssI, gtrI, h1, h2, h3, h4]; exact ⟨_, rfl⟩
  | false =>
    cases d2 with
    | true => simp only [↓drtx_5, ↓srtx_5, ertx_0, ertx_1, ertx_2, ertx_3, ertx_4, ertx_5, lrtx_0, lrtx_1, lrtx_2, lrtx_3, lrtx_4, lrtx_5, grtx_1_3, grtx_3_4, agd_none, gdAt, gdV_bool, gdV_undef, Tryd.f7, List.append_eq, List.cons_append, List.nil_append, apure_call1, apure_call2, apure_call3, bft, btf, acodeN, List.getElem?_toArray, List.getElem?_cons_zero, List.getElem?_cons_succ, aopsN, adrawT, cls, astep, aop, afloat, ev, nth_lst, get_lst, aput, setAt_lst, upd_at, init_zero, init_succ, init_nil, Nat.reduceLT, Nat.reduceEqDiff, reduceIte, abuiltin, Option.map_some, Option.map_none, orElse_some, apure_add, List.map_cons, List.map_nil, List.all_cons, List.all_nil, lit2, lit1, lit0, List.isEmpty_nil, Bool.and_self, Bool.and_true, Bool.true_and, Bool.false_and, Bool.and_false, Bool.not_true, Bool.not_false, Bool.or_true, Bool.true_or, Bool.false_or, Bool.or_false, Bool.false_eq_true, if_true, if_false, List.length_map, beq_self_eq_true, und3, und4, und5, und9, eqlV9_int, neqV9_int, eqlV9_bool, neqV9_bool, eqlV9_str, neqV9_str, ↓aop_eqlV9, ↓aop_neqV9, ↓afloat_eqlV9, ↓afloat_neqV9, apure_eqlV9, apure_neqV9, eqlW, neqW, eqlI64, neqI64, aload_sealed, adU, adE, ldI', ldU', ldL', ldS_pol, ldS_bud, ldF_p0, ldF_p1, ldF_p2, ldF_b0, ldF_b1, ldF_b2, stI', stU', stT', stL, polLen, budLen, layP, layB, layB0, layB1, layB2, List.length_nil, List.length_cons, List.length_append, Nat.reduceAdd, Nat.reduceLeDiff, List.set_cons_zero, List.set_cons_succ, and_self, true_and, Nat.le_refl, apure_max, apure_min, maxV, minV, finish, ares, aresL, ares1_tmp, ares1_cell, aresC_adr, aextract, bxEn, alEn, ldEn, stEn, faEn0, faEn1, faEn2, faEn3, faEn4, bxRn, alRn, ldRn, stRn, faRn0, faRn1, faRn2, faRn3, faRn4, ldS_en, ldF_n0, ldF_n1, ldF_n2, ldF_n3, ldF_n4, enLen, layN, layN0, layN1, layN2, layN3, layN4, stTx, ldT', alenT, lssI, gtrI, h1, h2, h3, h4]; exact ⟨_, rfl⟩
    | false =>
      cases d3 with
      | true => simp only [↓drtx_5, ↓srtx_5, ertx_0, ertx_1, ertx_2, ertx_3, ertx_4, ertx_5, lrtx_0, lrtx_1, lrtx_2, lrtx_3, lrtx_4, lrtx_5, grtx_1_3, grtx_3_4, agd_none, gdAt, gdV_bool, gdV_undef, Tryd.f7, List.append_eq, List.cons_append, List.nil_append, apure_call1, apure_call2, apure_call3, bft, btf, acodeN, List.getElem?_toArray, List.getElem?_cons_zero, List.getElem?_cons_succ, aopsN, adrawT, cls, astep, aop, afloat, ev, nth_lst, get_lst, aput, setAt_lst, upd_at, init_zero, init_succ, init_nil, Nat.reduceLT, Nat.reduceEqDiff, reduceIte, abuiltin, Option.map_some, Option.map_none, orElse_some, apure_add, List.map_cons, List.map_nil, List.all_cons, List.all_nil, lit2, lit1, lit0, List.isEmpty_nil, Bool.and_self, Bool.and_true, Bool.true_and, Bool.false_and, Bool.and_false, Bool.not_true, Bool.not_false, Bool.or_true, Bool.true_or, Bool.false_or, Bool.or_false, Bool.false_eq_true, if_true, if_false, List.length_map, beq_self_eq_true, und3, und4, und5, und9, eqlV9_int, neqV9_int, eqlV9_bool, neqV9_bool, eqlV9_str, neqV9_str, ↓aop_eqlV9, ↓aop_neqV9, ↓afloat_eqlV9, ↓afloat_neqV9, apure_eqlV9, apure_neqV9, eqlW, neqW, eqlI64, neqI64, aload_sealed, adU, adE, ldI', ldU', ldL', ldS_pol, ldS_bud, ldF_p0, ldF_p1, ldF_p2, ldF_b0, ldF_b1, ldF_b2, stI', stU', stT', stL, polLen, budLen, layP, layB, layB0, layB1, layB2, List.length_nil, List.length_cons, List.length_append, Nat.reduceAdd, Nat.reduceLeDiff, List.set_cons_zero, List.set_cons_succ, and_self, true_and, Nat.le_refl, apure_max, apure_min, maxV, minV, finish, ares, aresL, ares1_tmp, ares1_cell, aresC_adr, aextract, bxEn, alEn, ldEn, stEn, faEn0, faEn1, faEn2, faEn3, faEn4, bxRn, alRn, ldRn, stRn, faRn0, faRn1, faRn2, faRn3, faRn4, ldS_en, ldF_n0, ldF_n1, ldF_n2, ldF_n3, ldF_n4, enLen, layN, layN0, layN1, layN2, layN3, layN4, stTx, ldT', alenT, lssI, gtrI, h1, h2, h3, h4]; exact ⟨_, rfl⟩
      | false =>
        cases d4 with
        | true => simp only [↓drtx_5, ↓srtx_5, ertx_0, ertx_1, ertx_2, ertx_3, ertx_4, ertx_5, lrtx_0, lrtx_1, lrtx_2, lrtx_3, lrtx_4, lrtx_5, grtx_1_3, grtx_3_4, agd_none, gdAt, gdV_bool, gdV_undef, Tryd.f7, List.append_eq, List.cons_append, List.nil_append, apure_call1, apure_call2, apure_call3, bft, btf, acodeN, List.getElem?_toArray, List.getElem?_cons_zero, List.getElem?_cons_succ, aopsN, adrawT, cls, astep, aop, afloat, ev, nth_lst, get_lst, aput, setAt_lst, upd_at, init_zero, init_succ, init_nil, Nat.reduceLT, Nat.reduceEqDiff, reduceIte, abuiltin, Option.map_some, Option.map_none, orElse_some, apure_add, List.map_cons, List.map_nil, List.all_cons, List.all_nil, lit2, lit1, lit0, List.isEmpty_nil, Bool.and_self, Bool.and_true, Bool.true_and, Bool.false_and, Bool.and_false, Bool.not_true, Bool.not_false, Bool.or_true, Bool.true_or, Bool.false_or, Bool.or_false, Bool.false_eq_true, if_true, if_false, List.length_map, beq_self_eq_true, und3, und4, und5, und9, eqlV9_int, neqV9_int, eqlV9_bool, neqV9_bool, eqlV9_str, neqV9_str, ↓aop_eqlV9, ↓aop_neqV9, ↓afloat_eqlV9, ↓afloat_neqV9, apure_eqlV9, apure_neqV9, eqlW, neqW, eqlI64, neqI64, aload_sealed, adU, adE, ldI', ldU', ldL', ldS_pol, ldS_bud, ldF_p0, ldF_p1, ldF_p2, ldF_b0, ldF_b1, ldF_b2, stI', stU', stT', stL, polLen, budLen, layP, layB, layB0, layB1, layB2, List.length_nil, List.length_cons, List.length_append, Nat.reduceAdd, Nat.reduceLeDiff, List.set_cons_zero, List.set_cons_succ, and_self, true_and, Nat.le_refl, apure_max, apure_min, maxV, minV, finish, ares, aresL, ares1_tmp, ares1_cell, aresC_adr, aextract, bxEn, alEn, ldEn, stEn, faEn0, faEn1, faEn2, faEn3, faEn4, bxRn, alRn, ldRn, stRn, faRn0, faRn1, faRn2, faRn3, faRn4, ldS_en, ldF_n0, ldF_n1, ldF_n2, ldF_n3, ldF_n4, enLen, layN, layN0, layN1, layN2, layN3, layN4, stTx, ldT', alenT, lssI, gtrI, h1, h2, h3, h4]; exact ⟨_, rfl⟩
        | false => exact absurd rfl h
theorem ckE_zero (h : ckE c s t = 0) : 1 ≤ c ∧ c ≤ 11 ∧ s.length ≤ 64 ∧ t.length ≤ 255 := by
  unfold ckE at h
  split at h
  · cases h
  · split at h
    · cases h
    · rename_i h1 h2
      simp only [Bool.or_eq_true, decide_eq_true_eq, not_or] at h1 h2
      omega
theorem rtx_ok (hG : E.G ≤ m.length) (hk : k < 256) (h : ckE (k : Nat) s t = 0) (hn : ∀ n M, n < 18446744073709551616 → ainv E self 20 [.int .u64 (n : Nat)] M = some (tx (be8 n), M)) (hw : ∀ n M, n < 65536 → ainv E self 21 [.int .i64 (n : Nat)] M = some (tx (lowB n 2), M)) (ha : a < 18446744073709551616) (hb : b < 18446744073709551616) :
    ∃ m', abody E self nf 7 [entV (a : Nat) (b : Nat) (k : Nat) s t] (ap m []) = some (.tuple ⟨[tx (entB a b k s t), .int .i64 0]⟩, m') := by
  rw [abody_eqF (by kernel_rfl) Tryd.func7 bodyrtx (by kernel_rfl) (Nat.le_of_ble_eq_true rfl)]
  rw [show Tryd.f7.ntmps = 51 from rfl]
  obtain ⟨k1, k2, k3, k4⟩ := ckE_zero h
  have d1 : decide (((k : Nat) : Int) < 1) = false := decide_eq_false (by omega)
  have d2 : decide (((k : Nat) : Int) > 11) = false := decide_eq_false (by omega)
  have d3 : decide (((s.length : Nat) : Int) > 64) = false := decide_eq_false (by omega)
  have d4 : decide (((t.length : Nat) : Int) > 255) = false := decide_eq_false (by omega)
  have q1 := fun M => hn a M ha
  have q2 := fun M => hn b M hb
  have q3 := fun M => hw s.length M (by omega)
  have q4 := fun M => hw t.length M (by omega)
  have e2 := cvi8 k
  rw [Nat.mod_eq_of_lt hk] at e2
  have hGL : ∀ L, decide (E.G ≤ (ap m L).length) = true := fun L => decide_eq_true (by rw [ap_len]; omega)
  have hB : ∀ x : Blk, decide (m.length + 0 < (ap m [x]).length) = true := fun x => decide_eq_true (by rw [ap_len, List.length_singleton]; omega)
  have hb1 := bs1 m [.row false 31 (entC (a : Nat) (b : Nat) (k : Nat) s t)] (k : Nat)
  have hc := acbSe (m := m) (L := [.row false 31 (entC (a : Nat) (b : Nat) (k : Nat) s t), .row false 5 [.int .u8 (k : Nat)]]) (k := 1) (n := 1) (l := [UInt8.ofNat k]) (ro := false) (e := 5) (by rw [lts1 _ hk]; rfl) rfl
  simp only [List.length_cons, List.length_nil, List.cons_append, List.nil_append, Nat.reduceAdd] at hb1
  have g4 : (19 + s.length ≤ 9223372036854775807) = True := eq_true (by omega)
  have g5 : (19 + s.length + 2 ≤ 9223372036854775807) = True := eq_true (by omega)
  have g6 : (19 + s.length + 2 + t.length ≤ 9223372036854775807) = True := eq_true (by omega)
  simp only [↓drtx_5, ↓srtx_5, ertx_0, ertx_1, ertx_2, ertx_3, ertx_4, ertx_5, lrtx_0, lrtx_1, lrtx_2, lrtx_3, lrtx_4, lrtx_5, grtx_1_3, grtx_3_4, agd_none, gdAt, gdV_bool, gdV_undef, Tryd.f7, List.append_eq, List.cons_append, List.nil_append, apure_call1, apure_call2, apure_call3, bft, btf, acodeN, List.getElem?_toArray, List.getElem?_cons_zero, List.getElem?_cons_succ, aopsN, adrawT, cls, astep, aop, afloat, ev, nth_lst, get_lst, aput, setAt_lst, upd_at, init_zero, init_succ, init_nil, Nat.reduceLT, Nat.reduceEqDiff, reduceIte, abuiltin, Option.map_some, Option.map_none, orElse_some, apure_add, List.map_cons, List.map_nil, List.all_cons, List.all_nil, lit2, lit1, lit0, List.isEmpty_nil, Bool.and_self, Bool.and_true, Bool.true_and, Bool.false_and, Bool.and_false, Bool.not_true, Bool.not_false, Bool.or_true, Bool.true_or, Bool.false_or, Bool.or_false, Bool.false_eq_true, if_true, if_false, List.length_map, beq_self_eq_true, und3, und4, und5, und9, eqlV9_int, neqV9_int, eqlV9_bool, neqV9_bool, eqlV9_str, neqV9_str, ↓aop_eqlV9, ↓aop_neqV9, ↓afloat_eqlV9, ↓afloat_neqV9, apure_eqlV9, apure_neqV9, eqlW, neqW, eqlI64, neqI64, aload_sealed, adU, adE, ldI', ldU', ldL', ldS_pol, ldS_bud, ldF_p0, ldF_p1, ldF_p2, ldF_b0, ldF_b1, ldF_b2, stI', stU', stT', stL, polLen, budLen, layP, layB, layB0, layB1, layB2, List.length_nil, List.length_cons, List.length_append, Nat.reduceAdd, Nat.reduceLeDiff, List.set_cons_zero, List.set_cons_succ, and_self, true_and, Nat.le_refl, apure_max, apure_min, maxV, minV, finish, ares, aresL, ares1_tmp, ares1_cell, aresC_adr, aextract, bxEn, alEn, ldEn, stEn, faEn0, faEn1, faEn2, faEn3, faEn4, bxRn, alRn, ldRn, stRn, faRn0, faRn1, faRn2, faRn3, faRn4, ldS_en, ldF_n0, ldF_n1, ldF_n2, ldF_n3, ldF_n4, enLen, layN, layN0, layN1, layN2, layN3, layN4, stTx, ldT', alenT, lssI, gtrI, d1, d2, d3, d4, cbNm, cbTw, wrNm, wrTw, adStE, q1, q2, q3, q4, e2, laterOk, earlyOk, ↓belowB_ld, ↓belowB_call, blwV_adr, isCall, capsLitF, sparesB, hGL, hB, tx_lit, hb1, acvS, isA_sl, hc, apure_convert, undBs, alenU, tx, tx_size, tx_appE, be8_len, lowB_len, List.length_append, if_true, g4, g5, g6]
  exact ⟨_, rfl⟩
end
end Go.Am.Seat
