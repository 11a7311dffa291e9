/-
  Texts of my own, put together: BU2, BU3, BU4, BU5, BU6, BT1.
-/
import Derived.Test.YtalilffocbkfnaaGrBudgetTexts12
import Derived.Test.YtalilffocbkfnaaGrBudgetTexts11
/-
  The budget's smallest calls: windows, later ticks, what a policy may be (own work).
-/
set_option linter.unusedSimpArgs false
set_option linter.unusedVariables false
namespace Go.Am.Seat
open Go.Proofs Go.Am
set_option maxRecDepth 100000

theorem apure_max {P : Program} {T : List Value} {ts : Array TypeId} {x y : Operand} {ty : TypeId} {pos : String} {af : Array Edge} {g : Option (Nat × Bool)} {d : Option Tmp} : apure P T { dst := d, op := .call { callee := .builtin .max, args := #[x, y], argTypes := ts }, type := ty, pos := pos, after := af, guard := g } = match ev T x with
    | .int k a => (match ev T y with
      | .int _ c => some (.int k (max a c))
      | _ => apureC P T { dst := d, op := .call { callee := .builtin .max, args := #[x, y], argTypes := ts }, type := ty, pos := pos, after := af, guard := g })
    | _ => apureC P T { dst := d, op := .call { callee := .builtin .max, args := #[x, y], argTypes := ts }, type := ty, pos := pos, after := af, guard := g } := by
  cases hx : ev T x with
  | int k a =>
    cases hy : ev T y with
    | int k' c =>
      have h : max a c = if c > a then c else a := by omega
      simp only [apure, Op.operands, Call.operands, Array.toList_append, List.nil_append, List.all_cons, List.all_nil, hx, hy, lit2, lit1, lit0, Bool.and_self, if_true, execOp, resolve, List.map_toArray, List.map_cons, List.map_nil, h]
      rfl
    | _ => rfl
  | _ => rfl
theorem apure_min {P : Program} {T : List Value} {ts : Array TypeId} {x y : Operand} {ty : TypeId} {pos : String} {af : Array Edge} {g : Option (Nat × Bool)} {d : Option Tmp} : apure P T { dst := d, op := .call { callee := .builtin .min, args := #[x, y], argTypes := ts }, type := ty, pos := pos, after := af, guard := g } = match ev T x with
    | .int k a => (match ev T y with
      | .int _ c => some (.int k (min a c))
      | _ => apureC P T { dst := d, op := .call { callee := .builtin .min, args := #[x, y], argTypes := ts }, type := ty, pos := pos, after := af, guard := g })
    | _ => apureC P T { dst := d, op := .call { callee := .builtin .min, args := #[x, y], argTypes := ts }, type := ty, pos := pos, after := af, guard := g } := by
  cases hx : ev T x with
  | int k a =>
    cases hy : ev T y with
    | int k' c =>
      have h : min a c = if c < a then c else a := by omega
      simp only [apure, Op.operands, Call.operands, Array.toList_append, List.nil_append, List.all_cons, List.all_nil, hx, hy, lit2, lit1, lit0, Bool.and_self, if_true, execOp, resolve, List.map_toArray, List.map_cons, List.map_nil, h]
      rfl
    | _ => rfl
  | _ => rfl
theorem cbWi : callableB E.P 16 = true := by kernel_rfl
theorem cbAt : callableB E.P 10 = true := by kernel_rfl
theorem cbSp : callableB E.P 12 = true := by kernel_rfl
theorem cbLt : callableB E.P 14 = true := by kernel_rfl
theorem cbFr : callableB E.P 18 = true := by kernel_rfl
theorem cbBk : callableB E.P 19 = true := by kernel_rfl
theorem cbCk : callableB E.P 9 = true := by kernel_rfl
theorem cbRa : callableB E.P 11 = true := by kernel_rfl
theorem cbRs : callableB E.P 13 = true := by kernel_rfl
theorem cbRl : callableB E.P 15 = true := by kernel_rfl
theorem cbRb : callableB E.P 20 = true := by kernel_rfl
theorem cbMay : callableB E.P 8 = true := by kernel_rfl
theorem cbLk : callableB E.P 23 = true := by kernel_rfl
theorem cbLo : callableB E.P 24 = true := by kernel_rfl
theorem cbRe : callableB E.P 25 = true := by kernel_rfl
theorem cbSg : callableB E.P 17 = true := by kernel_rfl
theorem cbAw : callableB E.P 7 = true := by kernel_rfl
theorem ares1_tmp {P : Program} {T : List Value} {m : Mem} {t : Nat} : ares1 P T m (.tmp t) = some (nth T t) := rfl
noncomputable def aresC (P : Program) (t : TypeId) (v : Value) (m : Mem) : Option Value := match v with
  | .pointer (some ad) => aload P t (.pointer (some ad)) m
  | _ => none
theorem ares1_cell {P : Program} {T : List Value} {m : Mem} {a t : Nat} : ares1 P T m (.cell a t) = aresC P t (nth T a) m := rfl
theorem aresC_adr {P : Program} {t : TypeId} {m m' : Mem} {k o : Nat} : aresC P t (adr m k o) m' = aload P t (adr m k o) m' := rfl
theorem aload_sealed {P : Program} {t : TypeId} {v : Value} {m : Mem} : aload P t v (m.map sealed) = aload P t v m := by
  have h : ∀ b : Nat, (look (m.map sealed) b).map (·.2.2) = (look m b).map (·.2.2) := fun b => by
    unfold look
    rw [List.getElem?_map]
    cases hb : m[b]? with
    | none => rfl
    | some x => cases x <;> rfl
  unfold aload
  cases v with
  | pointer a =>
    cases a with
    | none => rfl
    | some a =>
      obtain ⟨b, o, x⟩ := a
      cases x with
      | some _ => rfl
      | none =>
        have h' := h b
        simp only
        cases h1 : look m b with
        | none =>
          rw [h1] at h'
          cases h2 : look (m.map sealed) b with
          | none => rfl
          | some r => rw [h2] at h'; cases h'
        | some q =>
          rw [h1] at h'
          cases h2 : look (m.map sealed) b with
          | none => rw [h2] at h'; cases h'
          | some r =>
            rw [h2] at h'
            obtain ⟨a1, a2, cs⟩ := q
            obtain ⟨b1, b2, ds⟩ := r
            simp only [Option.map_some, Option.some.injEq] at h'
            subst h'
            rfl
  | _ => rfl
theorem adB : addrT E.P 4 26 = false := by kernel_rfl
theorem adBr : addrT E.P 4 34 = false := by kernel_rfl
theorem adU : addrT E.P 4 22 = false := by kernel_rfl
theorem adE : addrT E.P 4 30 = false := by kernel_rfl
theorem wrWi : E.wr 16 = false := by kernel_rfl
theorem wrLt : E.wr 14 = false := by kernel_rfl
theorem wrFr : E.wr 18 = false := by kernel_rfl
theorem wrBk : E.wr 19 = false := by kernel_rfl
theorem wrCk : E.wr 9 = false := by kernel_rfl
theorem wrRl : E.wr 15 = false := by kernel_rfl
theorem wrRb : E.wr 20 = false := by kernel_rfl
theorem maxV {P : Program} {ts : Array TypeId} {ty : TypeId} {k : IntKind} {x y : Int} : apC2 P .max ts ty (.int k x) (.int k y) = some (.int k (max x y)) := by
  unfold apC2
  rw [apure_max]
  rfl
theorem minV {P : Program} {ts : Array TypeId} {ty : TypeId} {k : IntKind} {x y : Int} : apC2 P .min ts ty (.int k x) (.int k y) = some (.int k (min x y)) := by
  unfold apC2
  rw [apure_min]
  rfl
theorem quoW {t b : Int} (h0 : 0 ≤ t) (h1 : t < 18446744073709551616) (hb : 1 ≤ b) : abin .quo .u64 t .u64 b = some (.int .u64 (t / b)) := by
  have h2 : 0 ≤ t / b := Int.ediv_nonneg h0 (by omega)
  have h3 : t / b ≤ t := Int.ediv_le_self _ h0
  have hq : abin .quo .u64 t .u64 b = some (.int .u64 (wrapF .u64 (t.tdiv b))) := by
    unfold abin
    simp only [ne_eq, true_and]
    rw [if_pos (by omega)]
  rw [hq, Int.tdiv_eq_ediv_of_nonneg h0]
  congr 2
  simp only [wrapF]
  omega
theorem addW (a b : Int) : abin .add .u64 a .u64 b = some (.int .u64 (wrapF .u64 (a + b))) := by kernel_rfl
theorem subW (a b : Int) : abin .sub .u64 a .u64 b = some (.int .u64 (wrapF .u64 (a - b))) := by kernel_rfl
theorem addI (a b : Int) : abin .add .i64 a .i64 b = some (.int .i64 (wrapF .i64 (a + b))) := by kernel_rfl
theorem subI (a b : Int) : abin .sub .i64 a .i64 b = some (.int .i64 (wrapF .i64 (a - b))) := by kernel_rfl
theorem lssW (a b : Int) : abin .lss .u64 a .u64 b = some (.bool (decide (a < b))) := by kernel_rfl
theorem gtrW (a b : Int) : abin .gtr .u64 a .u64 b = some (.bool (decide (a > b))) := by kernel_rfl
theorem geqW (a b : Int) : abin .geq .u64 a .u64 b = some (.bool (decide (a ≥ b))) := by kernel_rfl
theorem neqW (a b : Int) : abin .neq .u64 a .u64 b = some (.bool (a != b)) := by kernel_rfl
theorem eqlW (a b : Int) : abin .eql .u64 a .u64 b = some (.bool (a == b)) := by kernel_rfl
theorem lssI (a b : Int) : abin .lss .i64 a .i64 b = some (.bool (decide (a < b))) := by kernel_rfl
theorem leqI (a b : Int) : abin .leq .i64 a .i64 b = some (.bool (decide (a ≤ b))) := by kernel_rfl
theorem gtrI (a b : Int) : abin .gtr .i64 a .i64 b = some (.bool (decide (a > b))) := by kernel_rfl
theorem geqI (a b : Int) : abin .geq .i64 a .i64 b = some (.bool (decide (a ≥ b))) := by kernel_rfl
theorem neqI64 (a b : Int) : abin .neq .i64 a .i64 b = some (.bool (a != b)) := by kernel_rfl
theorem eqlI64 (a b : Int) : abin .eql .i64 a .i64 b = some (.bool (a == b)) := by kernel_rfl

section
variable (m : Mem) (L : List Blk) (k o : Nat) (a b c x y : Int) (d z : Bool)
theorem stP' : astore E.P 24 (adr m k 0) (pol a b c) (ap m L) = stL 3 m L k 0 (polC a b c) := astore_L (by kernel_rfl) rfl m L k 0
theorem stB' : astore E.P 26 (adr m k 0) (bud a b d) (ap m L) = stL 3 m L k 0 (budC a b d) := astore_L (by kernel_rfl) rfl m L k 0
theorem stPr' : astore E.P 28 (adr m k 0) (pol a b c) (ap m L) = stL 3 m L k 0 (polC a b c) := astore_L (by kernel_rfl) rfl m L k 0
theorem stBr' : astore E.P 34 (adr m k 0) (bud a b d) (ap m L) = stL 3 m L k 0 (budC a b d) := astore_L (by kernel_rfl) rfl m L k 0
theorem stI' : astore E.P 3 (adr m k o) (.int .i64 a) (ap m L) = stL 1 m L k o [.int .i64 a] := astore_L (by kernel_rfl) rfl m L k o
theorem stU' : astore E.P 22 (adr m k o) (.int .u64 a) (ap m L) = stL 1 m L k o [.int .u64 a] := astore_L (by kernel_rfl) rfl m L k o
theorem stT' : astore E.P 4 (adr m k o) (.bool d) (ap m L) = stL 1 m L k o [.bool d] := astore_L (by kernel_rfl) rfl m L k o
theorem polLen : (polC a b c).length = 3 := rfl
theorem budLen : (budC a b d).length = 3 := rfl
theorem layP (w : Int) : lay (polC a b c) 0 (polC x y w) = polC x y w := rfl
theorem layB : lay (budC a b d) 0 (budC x y z) = budC x y z := rfl
theorem layB0 : lay (budC a b d) 0 [.int .i64 x] = budC x b d := rfl
theorem layB1 : lay (budC a b d) 1 [.int .u64 x] = budC a x d := rfl
theorem layB2 : lay (budC a b d) 2 [.bool z] = budC a b z := rfl
theorem faP0 : afieldAddr E.P 24 (adr m k 0) 0 = some (adr m k 0) := by unfold adr; kernel_rfl
theorem faP1 : afieldAddr E.P 24 (adr m k 0) 1 = some (adr m k 1) := by unfold adr; kernel_rfl
theorem faP2 : afieldAddr E.P 24 (adr m k 0) 2 = some (adr m k 2) := by unfold adr; kernel_rfl
theorem faB0 : afieldAddr E.P 26 (adr m k 0) 0 = some (adr m k 0) := by unfold adr; kernel_rfl
theorem faB1 : afieldAddr E.P 26 (adr m k 0) 1 = some (adr m k 1) := by unfold adr; kernel_rfl
theorem faB2 : afieldAddr E.P 26 (adr m k 0) 2 = some (adr m k 2) := by unfold adr; kernel_rfl
theorem faPr0 : afieldAddr E.P 28 (adr m k 0) 0 = some (adr m k 0) := by unfold adr; kernel_rfl
theorem faPr1 : afieldAddr E.P 28 (adr m k 0) 1 = some (adr m k 1) := by unfold adr; kernel_rfl
theorem faPr2 : afieldAddr E.P 28 (adr m k 0) 2 = some (adr m k 2) := by unfold adr; kernel_rfl
theorem faBr0 : afieldAddr E.P 34 (adr m k 0) 0 = some (adr m k 0) := by unfold adr; kernel_rfl
theorem faBr1 : afieldAddr E.P 34 (adr m k 0) 1 = some (adr m k 1) := by unfold adr; kernel_rfl
theorem faBr2 : afieldAddr E.P 34 (adr m k 0) 2 = some (adr m k 2) := by unfold adr; kernel_rfl
end

section
variable {self : Self} {nf : Nat} {m : Mem} {a b c t n : Int} {left win : Int} {lk : Bool}
theorem wi_body (hb : 1 ≤ b) (h0 : 0 ≤ t) (h1 : t < 18446744073709551616) : abody E self nf 16 [pol a b c, .int .u64 t] (ap m []) = some (.int .u64 (t / b), ap m [.row false 24 (polC a b c)]) := by
  rw [abody_eqF (by kernel_rfl) Try.func16 bodybwi (by kernel_rfl) (Nat.le_of_ble_eq_true rfl)]
  rw [show Try.f16.ntmps = 10 from rfl]
  have e1 : max b 1 = b := by omega
  have e2 := quoW h0 h1 hb
  simp only [ebwi_0, ebwi_1, lbwi_0, lbwi_1, agd_none, gdAt, gdV_bool, gdV_undef, Try.f16, List.append_eq, List.cons_append, List.nil_append, apure_call1, apure_call2, apure_call3, bft, btf, acodeN, List.getElem?_toArray, List.getElem?_cons_zero, List.getElem?_cons_succ, aopsN, adrawT, cls, astep, aop, afloat, ev, nth_lst, get_lst, aput, setAt_lst, upd_at, init_zero, init_succ, init_nil, Nat.reduceLT, Nat.reduceEqDiff, reduceIte, abuiltin, alen, Option.map_some, Option.map_none, orElse_some, apure_add, apure_eql, apure_neq, List.map_cons, List.map_nil, List.all_cons, List.all_nil, lit2, lit1, lit0, List.isEmpty_nil, Bool.and_self, Bool.and_true, Bool.true_and, Bool.false_and, Bool.and_false, Bool.not_true, Bool.not_false, Bool.or_true, Bool.true_or, Bool.false_or, Bool.or_false, Bool.false_eq_true, if_true, if_false, List.length_map, beq_self_eq_true, und3, und4, und5, und9, aload_sealed, adB, adBr, adU, adE, wrWi, wrLt, wrFr, wrBk, wrCk, wrRl, wrRb, cbWi, cbAt, cbSp, cbLt, cbFr, cbBk, cbCk, cbRa, cbRs, cbRl, cbRb, cbMay, cbLk, cbLo, cbRe, cbSg, cbAw, bxP, bxB, bxPr, bxBr, alP, alB, alPr, alBr, ldP', ldB', ldPr', ldBr', ldI', ldU', ldL', ldS_pol, ldS_bud, ldF_p0, ldF_p1, ldF_p2, ldF_b0, ldF_b1, ldF_b2, stP', stB', stPr', stBr', stI', stU', stT', stL, polLen, budLen, layP, layB, layB0, layB1, layB2, faP0, faP1, faP2, faB0, faB1, faB2, faPr0, faPr1, faPr2, faBr0, faBr1, faBr2, List.length_nil, List.length_cons, List.length_append, Nat.reduceAdd, Nat.reduceLeDiff, List.set_cons_zero, List.set_cons_succ, and_self, true_and, Nat.le_refl, apure_max, apure_min, maxV, minV, finish, ares, aresL, ares1_tmp, ares1_cell, aresC_adr, aextract, e1, e2]
end
end Go.Am.Seat

/-
  The budget's calls over what they call (own work).
-/
set_option linter.unusedSimpArgs false
set_option linter.unusedVariables false
namespace Go.Am.Seat
open Go.Proofs Go.Am
set_option maxRecDepth 100000

/-- A call whose answer leads nowhere. -/
def AnsB (self : Self) (f : FuncId) (args : List Value) (v : Value) : Prop := ∀ M : Mem, ainv E self f args M = some (v, M)

section
variable {self : Self} {nf : Nat} {m : Mem} {a b c t n l w : Int} {k : Bool}
theorem at_body (hW : AnsB self 16 [pol a b c, .int .u64 t] (.int .u64 w)) :
    ∃ m', abody E self nf 10 [pol a b c, bud l n k, .int .u64 t] (ap m []) = some (.tuple ⟨[bud (if w ≤ n then l else max l a) (max n w) k, .bool (decide (n < w))]⟩, m') := by
  rw [abody_eqF (by kernel_rfl) Try.func10 bodybat (by kernel_rfl) (Nat.le_of_ble_eq_true rfl)]
  rw [show Try.f10.ntmps = 26 from rfl]
  have hW' := fun M => hW M
  by_cases h : w ≤ n
  · have d1 : decide (n ≥ w) = true := decide_eq_true h
    have d2 : decide (n < w) = false := decide_eq_false (by omega)
    rw [if_pos h, d2, show max n w = n by omega]
    simp only [ebat_0, ebat_1, ebat_2, ebat_3, ebat_4, ebat_5, ebat_6, lbat_0, lbat_1, lbat_2, lbat_3, lbat_4, lbat_5, lbat_6, agd_none, gdAt, gdV_bool, gdV_undef, Try.f10, List.append_eq, List.cons_append, List.nil_append, apure_call1, apure_call2, apure_call3, bft, btf, acodeN, List.getElem?_toArray, List.getElem?_cons_zero, List.getElem?_cons_succ, aopsN, adrawT, cls, astep, aop, afloat, ev, nth_lst, get_lst, aput, setAt_lst, upd_at, init_zero, init_succ, init_nil, Nat.reduceLT, Nat.reduceEqDiff, reduceIte, abuiltin, alen, Option.map_some, Option.map_none, orElse_some, apure_add, apure_eql, apure_neq, List.map_cons, List.map_nil, List.all_cons, List.all_nil, lit2, lit1, lit0, List.isEmpty_nil, Bool.and_self, Bool.and_true, Bool.true_and, Bool.false_and, Bool.and_false, Bool.not_true, Bool.not_false, Bool.or_true, Bool.true_or, Bool.false_or, Bool.or_false, Bool.false_eq_true, if_true, if_false, List.length_map, beq_self_eq_true, und3, und4, und5, und9, aload_sealed, adB, adBr, adU, adE, wrWi, wrLt, wrFr, wrBk, wrCk, wrRl, wrRb, cbWi, cbAt, cbSp, cbLt, cbFr, cbBk, cbCk, cbRa, cbRs, cbRl, cbRb, cbMay, cbLk, cbLo, cbRe, cbSg, cbAw, bxP, bxB, bxPr, bxBr, alP, alB, alPr, alBr, ldP', ldB', ldPr', ldBr', ldI', ldU', ldL', ldS_pol, ldS_bud, ldF_p0, ldF_p1, ldF_p2, ldF_b0, ldF_b1, ldF_b2, stP', stB', stPr', stBr', stI', stU', stT', stL, polLen, budLen, layP, layB, layB0, layB1, layB2, faP0, faP1, faP2, faB0, faB1, faB2, faPr0, faPr1, faPr2, faBr0, faBr1, faBr2, List.length_nil, List.length_cons, List.length_append, Nat.reduceAdd, Nat.reduceLeDiff, List.set_cons_zero, List.set_cons_succ, and_self, true_and, Nat.le_refl, apure_max, apure_min, maxV, minV, finish, ares, aresL, ares1_tmp, ares1_cell, aresC_adr, aextract, hW', geqW, d1]
    exact ⟨_, rfl⟩
  · have d1 : decide (n ≥ w) = false := decide_eq_false h
    have d2 : decide (n < w) = true := decide_eq_true (by omega)
    rw [if_neg h, d2, show max n w = w by omega]
    simp only [ebat_0, ebat_1, ebat_2, ebat_3, ebat_4, ebat_5, ebat_6, lbat_0, lbat_1, lbat_2, lbat_3, lbat_4, lbat_5, lbat_6, agd_none, gdAt, gdV_bool, gdV_undef, Try.f10, List.append_eq, List.cons_append, List.nil_append, apure_call1, apure_call2, apure_call3, bft, btf, acodeN, List.getElem?_toArray, List.getElem?_cons_zero, List.getElem?_cons_succ, aopsN, adrawT, cls, astep, aop, afloat, ev, nth_lst, get_lst, aput, setAt_lst, upd_at, init_zero, init_succ, init_nil, Nat.reduceLT, Nat.reduceEqDiff, reduceIte, abuiltin, alen, Option.map_some, Option.map_none, orElse_some, apure_add, apure_eql, apure_neq, List.map_cons, List.map_nil, List.all_cons, List.all_nil, lit2, lit1, lit0, List.isEmpty_nil, Bool.and_self, Bool.and_true, Bool.true_and, Bool.false_and, Bool.and_false, Bool.not_true, Bool.not_false, Bool.or_true, Bool.true_or, Bool.false_or, Bool.or_false, Bool.false_eq_true, if_true, if_false, List.length_map, beq_self_eq_true, und3, und4, und5, und9, aload_sealed, adB, adBr, adU, adE, wrWi, wrLt, wrFr, wrBk, wrCk, wrRl, wrRb, cbWi, cbAt, cbSp, cbLt, cbFr, cbBk, cbCk, cbRa, cbRs, cbRl, cbRb, cbMay, cbLk, cbLo, cbRe, cbSg, cbAw, bxP, bxB, bxPr, bxBr, alP, alB, alPr, alBr, ldP', ldB', ldPr', ldBr', ldI', ldU', ldL', ldS_pol, ldS_bud, ldF_p0, ldF_p1, ldF_p2, ldF_b0, ldF_b1, ldF_b2, stP', stB', stPr', stBr', stI', stU', stT', stL, polLen, budLen, layP, layB, layB0, layB1, layB2, faP0, faP1, faP2, faB0, faB1, faB2, faPr0, faPr1, faPr2, faBr0, faBr1, faBr2, List.length_nil, List.length_cons, List.length_append, Nat.reduceAdd, Nat.reduceLeDiff, List.set_cons_zero, List.set_cons_succ, and_self, true_and, Nat.le_refl, apure_max, apure_min, maxV, minV, finish, ares, aresL, ares1_tmp, ares1_cell, aresC_adr, aextract, hW', geqW, d1]
    exact ⟨_, rfl⟩
end
end Go.Am.Seat

/-
  The budget's calls over what they call: the rest (own work).
-/
set_option linter.unusedSimpArgs false
set_option linter.unusedVariables false
namespace Go.Am.Seat
open Go.Proofs Go.Am
set_option maxRecDepth 100000

noncomputable def apB2 (P : Program) (t ty : TypeId) (a b : Value) : Option Value := apure P [a, b] { dst := none, op := .build t #[(0, .tmp 0), (1, .tmp 1)], type := ty, pos := "", after := #[], guard := none }
theorem apure_build2 {P : Program} {T : List Value} {t ty : TypeId} {a b : Nat} {pos : String} {af : Array Edge} {gu : Option (Nat × Bool)} {dd : Option Tmp} :
    apure P T { dst := dd, op := .build t #[(0, .tmp a), (1, .tmp b)], type := ty, pos := pos, after := af, guard := gu } = apB2 P t ty (nth T a) (nth T b) := by
  unfold apB2 apure
  simp [Op.operands, execOp, ev, nth_zero, nth_succ]
theorem buildB (a b : Int) : apB2 E.P 26 26 (.int .i64 a) (.int .u64 b) = some (bud a b false) := by kernel_rfl

section
variable {self : Self} {nf : Nat} {m : Mem} {a b c t n l w l1 n1 : Int} {k z : Bool}
theorem lt_body (h0 : 0 ≤ t) (h1 : t < 18446744073709551616) (h2 : 0 ≤ n) (h3 : n < 18446744073709551616) : ∃ m', abody E self nf 14 [.int .u64 t, .int .u64 n] (ap m []) = some (.int .u64 (min (t + n) 18446744073709551615), m') := by
  rw [abody_eqF (by kernel_rfl) Try.func14 bodyblt (by kernel_rfl) (Nat.le_of_ble_eq_true rfl)]
  rw [show Try.f14.ntmps = 11 from rfl]
  have e1 : wrapF .u64 (18446744073709551615 - t) = 18446744073709551615 - t := by simp only [wrapF]; omega
  have e2 : wrapF .u64 (t + min n (18446744073709551615 - t)) = min (t + n) 18446744073709551615 := by simp only [wrapF]; omega
  simp only [eblt_0, eblt_1, lblt_0, lblt_1, agd_none, gdAt, gdV_bool, gdV_undef, Try.f14, List.append_eq, List.cons_append, List.nil_append, apure_call1, apure_call2, apure_call3, bft, btf, acodeN, List.getElem?_toArray, List.getElem?_cons_zero, List.getElem?_cons_succ, aopsN, adrawT, cls, astep, aop, afloat, ev, nth_lst, get_lst, aput, setAt_lst, upd_at, init_zero, init_succ, init_nil, Nat.reduceLT, Nat.reduceEqDiff, reduceIte, abuiltin, alen, Option.map_some, Option.map_none, orElse_some, apure_add, apure_eql, apure_neq, List.map_cons, List.map_nil, List.all_cons, List.all_nil, lit2, lit1, lit0, List.isEmpty_nil, Bool.and_self, Bool.and_true, Bool.true_and, Bool.false_and, Bool.and_false, Bool.not_true, Bool.not_false, Bool.or_true, Bool.true_or, Bool.false_or, Bool.or_false, Bool.false_eq_true, if_true, if_false, List.length_map, beq_self_eq_true, und3, und4, und5, und9, aload_sealed, adB, adBr, adU, adE, wrWi, wrLt, wrFr, wrBk, wrCk, wrRl, wrRb, cbWi, cbAt, cbSp, cbLt, cbFr, cbBk, cbCk, cbRa, cbRs, cbRl, cbRb, cbMay, cbLk, cbLo, cbRe, cbSg, cbAw, bxP, bxB, bxPr, bxBr, alP, alB, alPr, alBr, ldP', ldB', ldPr', ldBr', ldI', ldU', ldL', ldS_pol, ldS_bud, ldF_p0, ldF_p1, ldF_p2, ldF_b0, ldF_b1, ldF_b2, stP', stB', stPr', stBr', stI', stU', stT', stL, polLen, budLen, layP, layB, layB0, layB1, layB2, faP0, faP1, faP2, faB0, faB1, faB2, faPr0, faPr1, faPr2, faBr0, faBr1, faBr2, List.length_nil, List.length_cons, List.length_append, Nat.reduceAdd, Nat.reduceLeDiff, List.set_cons_zero, List.set_cons_succ, and_self, true_and, Nat.le_refl, apure_max, apure_min, maxV, minV, finish, ares, aresL, ares1_tmp, ares1_cell, aresC_adr, aextract, subW, addW, e1, e2]
  exact ⟨_, rfl⟩
theorem rl_body (h0 : 0 ≤ t) (h1 : t < 18446744073709551616) (h2 : 0 ≤ n) (h3 : n < 18446744073709551616) : ∃ m', abody E self nf 15 [.int .u64 t, .int .u64 n] (ap m []) = some (.int .u64 (min (t + n) 18446744073709551615), m') := by
  rw [abody_eqF (by kernel_rfl) Try.func15 bodybrl (by kernel_rfl) (Nat.le_of_ble_eq_true rfl)]
  rw [show Try.f15.ntmps = 13 from rfl]
  by_cases h : t + n < 18446744073709551616
  · have e1 : wrapF .u64 (t + n) = t + n := by simp only [wrapF]; omega
    have d1 : decide (t + n < t) = false := decide_eq_false (by omega)
    rw [show min (t + n) 18446744073709551615 = t + n by omega]
    simp only [ebrl_0, ebrl_1, ebrl_2, ebrl_3, lbrl_0, lbrl_1, lbrl_2, lbrl_3, agd_none, gdAt, gdV_bool, gdV_undef, Try.f15, List.append_eq, List.cons_append, List.nil_append, apure_call1, apure_call2, apure_call3, bft, btf, acodeN, List.getElem?_toArray, List.getElem?_cons_zero, List.getElem?_cons_succ, aopsN, adrawT, cls, astep, aop, afloat, ev, nth_lst, get_lst, aput, setAt_lst, upd_at, init_zero, init_succ, init_nil, Nat.reduceLT, Nat.reduceEqDiff, reduceIte, abuiltin, alen, Option.map_some, Option.map_none, orElse_some, apure_add, apure_eql, apure_neq, List.map_cons, List.map_nil, List.all_cons, List.all_nil, lit2, lit1, lit0, List.isEmpty_nil, Bool.and_self, Bool.and_true, Bool.true_and, Bool.false_and, Bool.and_false, Bool.not_true, Bool.not_false, Bool.or_true, Bool.true_or, Bool.false_or, Bool.or_false, Bool.false_eq_true, if_true, if_false, List.length_map, beq_self_eq_true, und3, und4, und5, und9, aload_sealed, adB, adBr, adU, adE, wrWi, wrLt, wrFr, wrBk, wrCk, wrRl, wrRb, cbWi, cbAt, cbSp, cbLt, cbFr, cbBk, cbCk, cbRa, cbRs, cbRl, cbRb, cbMay, cbLk, cbLo, cbRe, cbSg, cbAw, bxP, bxB, bxPr, bxBr, alP, alB, alPr, alBr, ldP', ldB', ldPr', ldBr', ldI', ldU', ldL', ldS_pol, ldS_bud, ldF_p0, ldF_p1, ldF_p2, ldF_b0, ldF_b1, ldF_b2, stP', stB', stPr', stBr', stI', stU', stT', stL, polLen, budLen, layP, layB, layB0, layB1, layB2, faP0, faP1, faP2, faB0, faB1, faB2, faPr0, faPr1, faPr2, faBr0, faBr1, faBr2, List.length_nil, List.length_cons, List.length_append, Nat.reduceAdd, Nat.reduceLeDiff, List.set_cons_zero, List.set_cons_succ, and_self, true_and, Nat.le_refl, apure_max, apure_min, maxV, minV, finish, ares, aresL, ares1_tmp, ares1_cell, aresC_adr, aextract, addW, lssW, e1, d1]
    exact ⟨_, rfl⟩
  · have d1 : decide (wrapF .u64 (t + n) < t) = true := decide_eq_true (by simp only [wrapF]; omega)
    rw [show min (t + n) 18446744073709551615 = 18446744073709551615 by omega]
    simp only [ebrl_0, ebrl_1, ebrl_2, ebrl_3, lbrl_0, lbrl_1, lbrl_2, lbrl_3, agd_none, gdAt, gdV_bool, gdV_undef, Try.f15, List.append_eq, List.cons_append, List.nil_append, apure_call1, apure_call2, apure_call3, bft, btf, acodeN, List.getElem?_toArray, List.getElem?_cons_zero, List.getElem?_cons_succ, aopsN, adrawT, cls, astep, aop, afloat, ev, nth_lst, get_lst, aput, setAt_lst, upd_at, init_zero, init_succ, init_nil, Nat.reduceLT, Nat.reduceEqDiff, reduceIte, abuiltin, alen, Option.map_some, Option.map_none, orElse_some, apure_add, apure_eql, apure_neq, List.map_cons, List.map_nil, List.all_cons, List.all_nil, lit2, lit1, lit0, List.isEmpty_nil, Bool.and_self, Bool.and_true, Bool.true_and, Bool.false_and, Bool.and_false, Bool.not_true, Bool.not_false, Bool.or_true, Bool.true_or, Bool.false_or, Bool.or_false, Bool.false_eq_true, if_true, if_false, List.length_map, beq_self_eq_true, und3, und4, und5, und9, aload_sealed, adB, adBr, adU, adE, wrWi, wrLt, wrFr, wrBk, wrCk, wrRl, wrRb, cbWi, cbAt, cbSp, cbLt, cbFr, cbBk, cbCk, cbRa, cbRs, cbRl, cbRb, cbMay, cbLk, cbLo, cbRe, cbSg, cbAw, bxP, bxB, bxPr, bxBr, alP, alB, alPr, alBr, ldP', ldB', ldPr', ldBr', ldI', ldU', ldL', ldS_pol, ldS_bud, ldF_p0, ldF_p1, ldF_p2, ldF_b0, ldF_b1, ldF_b2, stP', stB', stPr', stBr', stI', stU', stT', stL, polLen, budLen, layP, layB, layB0, layB1, layB2, faP0, faP1, faP2, faB0, faB1, faB2, faPr0, faPr1, faPr2, faBr0, faBr1, faBr2, List.length_nil, List.length_cons, List.length_append, Nat.reduceAdd, Nat.reduceLeDiff, List.set_cons_zero, List.set_cons_succ, and_self, true_and, Nat.le_refl, apure_max, apure_min, maxV, minV, finish, ares, aresL, ares1_tmp, ares1_cell, aresC_adr, aextract, addW, lssW, d1]
    exact ⟨_, rfl⟩
theorem ck_body : ∃ m', abody E self nf 9 [pol a b c] (ap m []) = some (.int .i64 (if decide (a < 1) || (decide (a > 1000) || (decide (b < 1) || (decide (c < 0) || decide (c > a)))) then 2 else 0), m') := by
  rw [abody_eqF (by kernel_rfl) Try.func9 bodybck (by kernel_rfl) (Nat.le_of_ble_eq_true rfl)]
  rw [show Try.f9.ntmps = 28 from rfl]
  generalize h1 : decide (a < 1) = d1
  generalize h2 : decide (a > 1000) = d2
  generalize h3 : decide (b < 1) = d3
  generalize h4 : decide (c < 0) = d4
  generalize h5 : decide (c > a) = d5
  cases d1 with
  | true => simp only [ebck_0, ebck_1, ebck_2, ebck_3, lbck_0, lbck_1, lbck_2, lbck_3, gbck_1_13, gbck_1_18, gbck_1_3, gbck_1_8, agd_none, gdAt, gdV_bool, gdV_undef, Try.f9, List.append_eq, List.cons_append, List.nil_append, apure_call1, apure_call2, apure_call3, bft, btf, acodeN, List.getElem?_toArray, List.getElem?_cons_zero, List.getElem?_cons_succ, aopsN, adrawT, cls, astep, aop, afloat, ev, nth_lst, get_lst, aput, setAt_lst, upd_at, init_zero, init_succ, init_nil, Nat.reduceLT, Nat.reduceEqDiff, reduceIte, abuiltin, alen, Option.map_some, Option.map_none, orElse_some, apure_add, apure_eql, apure_neq, List.map_cons, List.map_nil, List.all_cons, List.all_nil, lit2, lit1, lit0, List.isEmpty_nil, Bool.and_self, Bool.and_true, Bool.true_and, Bool.false_and, Bool.and_false, Bool.not_true, Bool.not_false, Bool.or_true, Bool.true_or, Bool.false_or, Bool.or_false, Bool.false_eq_true, if_true, if_false, List.length_map, beq_self_eq_true, und3, und4, und5, und9, aload_sealed, adB, adBr, adU, adE, wrWi, wrLt, wrFr, wrBk, wrCk, wrRl, wrRb, cbWi, cbAt, cbSp, cbLt, cbFr, cbBk, cbCk, cbRa, cbRs, cbRl, cbRb, cbMay, cbLk, cbLo, cbRe, cbSg, cbAw, bxP, bxB, bxPr, bxBr, alP, alB, alPr, alBr, ldP', ldB', ldPr', ldBr', ldI', ldU', ldL', ldS_pol, ldS_bud, ldF_p0, ldF_p1, ldF_p2, ldF_b0, ldF_b1, ldF_b2, stP', stB', stPr', stBr', stI', stU', stT', stL, polLen, budLen, layP, layB, layB0, layB1, layB2, faP0, faP1, faP2, faB0, faB1, faB2, faPr0, faPr1, faPr2, faBr0, faBr1, faBr2, List.length_nil, List.length_cons, List.length_append, Nat.reduceAdd, Nat.reduceLeDiff, List.set_cons_zero, List.set_cons_succ, and_self, true_and, Nat.le_refl, apure_max, apure_min, maxV, minV, finish, ares, aresL, ares1_tmp, ares1_cell, aresC_adr, aextract, lssI, gtrI, lssW, h1, h2, h3, h4, h5]; exact ⟨_, rfl⟩
  | false =>
    cases d2 with
    | true => simp only [ebck_0, ebck_1, ebck_2, ebck_3, lbck_0, lbck_1, lbck_2, lbck_3, gbck_1_13, gbck_1_18, gbck_1_3, gbck_1_8, agd_none, gdAt, gdV_bool, gdV_undef, Try.f9, List.append_eq, List.cons_append, List.nil_append, apure_call1, apure_call2, apure_call3, bft, btf, acodeN, List.getElem?_toArray, List.getElem?_cons_zero, List.getElem?_cons_succ, aopsN, adrawT, cls, astep, aop, afloat, ev, nth_lst, get_lst, aput, setAt_lst, upd_at, init_zero, init_succ, init_nil, Nat.reduceLT, Nat.reduceEqDiff, reduceIte, abuiltin, alen, Option.map_some, Option.map_none, orElse_some, apure_add, apure_eql, apure_neq, List.map_cons, List.map_nil, List.all_cons, List.all_nil, lit2, lit1, lit0, List.isEmpty_nil, Bool.and_self, Bool.and_true, Bool.true_and, Bool.false_and, Bool.and_false, Bool.not_true, Bool.not_false, Bool.or_true, Bool.true_or, Bool.false_or, Bool.or_false, Bool.false_eq_true, if_true, if_false, List.length_map, beq_self_eq_true, und3, und4, und5, und9, aload_sealed, adB, adBr, adU, adE, wrWi, wrLt, wrFr, wrBk, wrCk, wrRl, wrRb, cbWi, cbAt, cbSp, cbLt, cbFr, cbBk, cbCk, cbRa, cbRs, cbRl, cbRb, cbMay, cbLk, cbLo, cbRe, cbSg, cbAw, bxP, bxB, bxPr, bxBr, alP, alB, alPr, alBr, ldP', ldB', ldPr', ldBr', ldI', ldU', ldL', ldS_pol, ldS_bud, ldF_p0, ldF_p1, ldF_p2, ldF_b0, ldF_b1, ldF_b2, stP', stB', stPr', stBr', stI', stU', stT', stL, polLen, budLen, layP, layB, layB0, layB1, layB2, faP0, faP1, faP2, faB0, faB1, faB2, faPr0, faPr1, faPr2, faBr0, faBr1, faBr2, List.length_nil, List.length_cons, List.length_append, Nat.reduceAdd, Nat.reduceLeDiff, List.set_cons_zero, List.set_cons_succ, and_self, true_and, Nat.le_refl, apure_max, apure_min, maxV, minV, finish, ares, aresL, ares1_tmp, ares1_cell, aresC_adr, aextract, lssI, gtrI, lssW, h1, h2, h3, h4, h5]; exact ⟨_, rfl⟩
    | false =>
      cases d3 with
      | true => simp only [ebck_0, ebck_1, ebck_2, ebck_3, lbck_0, lbck_1, lbck_2, lbck_3, gbck_1_13, gbck_1_18, gbck_1_3, gbck_1_8, agd_none, gdAt, gdV_bool, gdV_undef, Try.f9, List.append_eq, List.cons_append, List.nil_append, apure_call1, apure_call2, apure_call3, bft, btf, acodeN, List.getElem?_toArray, List.getElem?_cons_zero, List.getElem?_cons_succ, aopsN, adrawT, cls, astep, aop, afloat, ev, nth_lst, get_lst, aput, setAt_lst, upd_at, init_zero, init_succ, init_nil, Nat.reduceLT, Nat.reduceEqDiff, reduceIte, abuiltin, alen, Option.map_some, Option.map_none, orElse_some, apure_add, apure_eql, apure_neq, List.map_cons, List.map_nil, List.all_cons, List.all_nil, lit2, lit1, lit0, List.isEmpty_nil, Bool.and_self, Bool.and_true, Bool.true_and, Bool.false_and, Bool.and_false, Bool.not_true, Bool.not_false, Bool.or_true, Bool.true_or, Bool.false_or, Bool.or_false, Bool.false_eq_true, if_true, if_false, List.length_map, beq_self_eq_true, und3, und4, und5, und9, aload_sealed, adB, adBr, adU, adE, wrWi, wrLt, wrFr, wrBk, wrCk, wrRl, wrRb, cbWi, cbAt, cbSp, cbLt, cbFr, cbBk, cbCk, cbRa, cbRs, cbRl, cbRb, cbMay, cbLk, cbLo, cbRe, cbSg, cbAw, bxP, bxB, bxPr, bxBr, alP, alB, alPr, alBr, ldP', ldB', ldPr', ldBr', ldI', ldU', ldL', ldS_pol, ldS_bud, ldF_p0, ldF_p1, ldF_p2, ldF_b0, ldF_b1, ldF_b2, stP', stB', stPr', stBr', stI', stU', stT', stL, polLen, budLen, layP, layB, layB0, layB1, layB2, faP0, faP1, faP2, faB0, faB1, faB2, faPr0, faPr1, faPr2, faBr0, faBr1, faBr2, List.length_nil, List.length_cons, List.length_append, Nat.reduceAdd, Nat.reduceLeDiff, List.set_cons_zero, List.set_cons_succ, and_self, true_and, Nat.le_refl, apure_max, apure_min, maxV, minV, finish, ares, aresL, ares1_tmp, ares1_cell, aresC_adr, aextract, lssI, gtrI, lssW, h1, h2, h3, h4, h5]; exact ⟨_, rfl⟩
      | false =>
        cases d4 with
        | true => simp only [ebck_0, ebck_1, ebck_2, ebck_3, lbck_0, lbck_1, lbck_2, lbck_3, gbck_1_13, gbck_1_18, gbck_1_3, gbck_1_8, agd_none, gdAt, gdV_bool, gdV_undef, Try.f9, List.append_eq, List.cons_append, List.nil_append, apure_call1, apure_call2, apure_call3, bft, btf, acodeN, List.getElem?_toArray, List.getElem?_cons_zero, List.getElem?_cons_succ, aopsN, adrawT, cls, astep, aop, afloat, ev, nth_lst, get_lst, aput, setAt_lst, upd_at, init_zero, init_succ, init_nil, Nat.reduceLT, Nat.reduceEqDiff, reduceIte, abuiltin, alen, Option.map_some, Option.map_none, orElse_some, apure_add, apure_eql, apure_neq, List.map_cons, List.map_nil, List.all_cons, List.all_nil, lit2, lit1, lit0, List.isEmpty_nil, Bool.and_self, Bool.and_true, Bool.true_and, Bool.false_and, Bool.and_false, Bool.not_true, Bool.not_false, Bool.or_true, Bool.true_or, Bool.false_or, Bool.or_false, Bool.false_eq_true, if_true, if_false, List.length_map, beq_self_eq_true, und3, und4, und5, und9, aload_sealed, adB, adBr, adU, adE, wrWi, wrLt, wrFr, wrBk, wrCk, wrRl, wrRb, cbWi, cbAt, cbSp, cbLt, cbFr, cbBk, cbCk, cbRa, cbRs, cbRl, cbRb, cbMay, cbLk, cbLo, cbRe, cbSg, cbAw, bxP, bxB, bxPr, bxBr, alP, alB, alPr, alBr, ldP', ldB', ldPr', ldBr', ldI', ldU', ldL', ldS_pol, ldS_bud, ldF_p0, ldF_p1, ldF_p2, ldF_b0, ldF_b1, ldF_b2, stP', stB', stPr', stBr', stI', stU', stT', stL, polLen, budLen, layP, layB, layB0, layB1, layB2, faP0, faP1, faP2, faB0, faB1, faB2, faPr0, faPr1, faPr2, faBr0, faBr1, faBr2, List.length_nil, List.length_cons, List.length_append, Nat.reduceAdd, Nat.reduceLeDiff, List.set_cons_zero, List.set_cons_succ, and_self, true_and, Nat.le_refl, apure_max, apure_min, maxV, minV, finish, ares, aresL, ares1_tmp, ares1_cell, aresC_adr, aextract, lssI, gtrI, lssW, h1, h2, h3, h4, h5]; exact ⟨_, rfl⟩
        | false => cases d5 <;> (simp only [ebck_0, ebck_1, ebck_2, ebck_3, lbck_0, lbck_1, lbck_2, lbck_3, gbck_1_13, gbck_1_18, gbck_1_3, gbck_1_8, agd_none, gdAt, gdV_bool, gdV_undef, Try.f9, List.append_eq, List.cons_append, List.nil_append, apure_call1, apure_call2, apure_call3, bft, btf, acodeN, List.getElem?_toArray, List.getElem?_cons_zero, List.getElem?_cons_succ, aopsN, adrawT, cls, astep, aop, afloat, ev, nth_lst, get_lst, aput, setAt_lst, upd_at, init_zero, init_succ, init_nil, Nat.reduceLT, Nat.reduceEqDiff, reduceIte, abuiltin, alen, Option.map_some, Option.map_none, orElse_some, apure_add, apure_eql, apure_neq, List.map_cons, List.map_nil, List.all_cons, List.all_nil, lit2, lit1, lit0, List.isEmpty_nil, Bool.and_self, Bool.and_true, Bool.true_and, Bool.false_and, Bool.and_false, Bool.not_true, Bool.not_false, Bool.or_true, Bool.true_or, Bool.false_or, Bool.or_false, Bool.false_eq_true, if_true, if_false, List.length_map, beq_self_eq_true, und3, und4, und5, und9, aload_sealed, adB, adBr, adU, adE, wrWi, wrLt, wrFr, wrBk, wrCk, wrRl, wrRb, cbWi, cbAt, cbSp, cbLt, cbFr, cbBk, cbCk, cbRa, cbRs, cbRl, cbRb, cbMay, cbLk, cbLo, cbRe, cbSg, cbAw, bxP, bxB, bxPr, bxBr, alP, alB, alPr, alBr, ldP', ldB', ldPr', ldBr', ldI', ldU', ldL', ldS_pol, ldS_bud, ldF_p0, ldF_p1, ldF_p2, ldF_b0, ldF_b1, ldF_b2, stP', stB', stPr', stBr', stI', stU', stT', stL, polLen, budLen, layP, layB, layB0, layB1, layB2, faP0, faP1, faP2, faB0, faB1, faB2, faPr0, faPr1, faPr2, faBr0, faBr1, faBr2, List.length_nil, List.length_cons, List.length_append, Nat.reduceAdd, Nat.reduceLeDiff, List.set_cons_zero, List.set_cons_succ, and_self, true_and, Nat.le_refl, apure_max, apure_min, maxV, minV, finish, ares, aresL, ares1_tmp, ares1_cell, aresC_adr, aextract, lssI, gtrI, lssW, h1, h2, h3, h4, h5]; exact ⟨_, rfl⟩)
theorem sp_body (hA : AnsB self 10 [pol a b c, bud l n k, .int .u64 t] (.tuple ⟨[bud l1 n1 k, .bool z]⟩)) (hl : l1 < 9223372036854775808) :
    ∃ m', abody E self nf 12 [pol a b c, bud l n k, .int .u64 t] (ap m []) = some (.tuple ⟨[bud (if k || decide (l1 < 1) then l1 else l1 - 1) n1 k, .int .i64 (if k || decide (l1 < 1) then 20 else 0)]⟩, m') := by
  rw [abody_eqF (by kernel_rfl) Try.func12 bodybsp (by kernel_rfl) (Nat.le_of_ble_eq_true rfl)]
  rw [show Try.f12.ntmps = 28 from rfl]
  have hA' := fun M => hA M
  cases k with
  | true => simp only [ebsp_0, ebsp_1, ebsp_2, ebsp_3, ebsp_4, ebsp_5, lbsp_0, lbsp_1, lbsp_2, lbsp_3, lbsp_4, lbsp_5, gbsp_2_2, agd_none, gdAt, gdV_bool, gdV_undef, Try.f12, List.append_eq, List.cons_append, List.nil_append, apure_call1, apure_call2, apure_call3, bft, btf, acodeN, List.getElem?_toArray, List.getElem?_cons_zero, List.getElem?_cons_succ, aopsN, adrawT, cls, astep, aop, afloat, ev, nth_lst, get_lst, aput, setAt_lst, upd_at, init_zero, init_succ, init_nil, Nat.reduceLT, Nat.reduceEqDiff, reduceIte, abuiltin, alen, Option.map_some, Option.map_none, orElse_some, apure_add, apure_eql, apure_neq, List.map_cons, List.map_nil, List.all_cons, List.all_nil, lit2, lit1, lit0, List.isEmpty_nil, Bool.and_self, Bool.and_true, Bool.true_and, Bool.false_and, Bool.and_false, Bool.not_true, Bool.not_false, Bool.or_true, Bool.true_or, Bool.false_or, Bool.or_false, Bool.false_eq_true, if_true, if_false, List.length_map, beq_self_eq_true, und3, und4, und5, und9, aload_sealed, adB, adBr, adU, adE, wrWi, wrLt, wrFr, wrBk, wrCk, wrRl, wrRb, cbWi, cbAt, cbSp, cbLt, cbFr, cbBk, cbCk, cbRa, cbRs, cbRl, cbRb, cbMay, cbLk, cbLo, cbRe, cbSg, cbAw, bxP, bxB, bxPr, bxBr, alP, alB, alPr, alBr, ldP', ldB', ldPr', ldBr', ldI', ldU', ldL', ldS_pol, ldS_bud, ldF_p0, ldF_p1, ldF_p2, ldF_b0, ldF_b1, ldF_b2, stP', stB', stPr', stBr', stI', stU', stT', stL, polLen, budLen, layP, layB, layB0, layB1, layB2, faP0, faP1, faP2, faB0, faB1, faB2, faPr0, faPr1, faPr2, faBr0, faBr1, faBr2, List.length_nil, List.length_cons, List.length_append, Nat.reduceAdd, Nat.reduceLeDiff, List.set_cons_zero, List.set_cons_succ, and_self, true_and, Nat.le_refl, apure_max, apure_min, maxV, minV, finish, ares, aresL, ares1_tmp, ares1_cell, aresC_adr, aextract, hA']; exact ⟨_, rfl⟩
  | false =>
    by_cases h : l1 < 1
    · have d1 : decide (l1 < 1) = true := decide_eq_true h
      simp only [ebsp_0, ebsp_1, ebsp_2, ebsp_3, ebsp_4, ebsp_5, lbsp_0, lbsp_1, lbsp_2, lbsp_3, lbsp_4, lbsp_5, gbsp_2_2, agd_none, gdAt, gdV_bool, gdV_undef, Try.f12, List.append_eq, List.cons_append, List.nil_append, apure_call1, apure_call2, apure_call3, bft, btf, acodeN, List.getElem?_toArray, List.getElem?_cons_zero, List.getElem?_cons_succ, aopsN, adrawT, cls, astep, aop, afloat, ev, nth_lst, get_lst, aput, setAt_lst, upd_at, init_zero, init_succ, init_nil, Nat.reduceLT, Nat.reduceEqDiff, reduceIte, abuiltin, alen, Option.map_some, Option.map_none, orElse_some, apure_add, apure_eql, apure_neq, List.map_cons, List.map_nil, List.all_cons, List.all_nil, lit2, lit1, lit0, List.isEmpty_nil, Bool.and_self, Bool.and_true, Bool.true_and, Bool.false_and, Bool.and_false, Bool.not_true, Bool.not_false, Bool.or_true, Bool.true_or, Bool.false_or, Bool.or_false, Bool.false_eq_true, if_true, if_false, List.length_map, beq_self_eq_true, und3, und4, und5, und9, aload_sealed, adB, adBr, adU, adE, wrWi, wrLt, wrFr, wrBk, wrCk, wrRl, wrRb, cbWi, cbAt, cbSp, cbLt, cbFr, cbBk, cbCk, cbRa, cbRs, cbRl, cbRb, cbMay, cbLk, cbLo, cbRe, cbSg, cbAw, bxP, bxB, bxPr, bxBr, alP, alB, alPr, alBr, ldP', ldB', ldPr', ldBr', ldI', ldU', ldL', ldS_pol, ldS_bud, ldF_p0, ldF_p1, ldF_p2, ldF_b0, ldF_b1, ldF_b2, stP', stB', stPr', stBr', stI', stU', stT', stL, polLen, budLen, layP, layB, layB0, layB1, layB2, faP0, faP1, faP2, faB0, faB1, faB2, faPr0, faPr1, faPr2, faBr0, faBr1, faBr2, List.length_nil, List.length_cons, List.length_append, Nat.reduceAdd, Nat.reduceLeDiff, List.set_cons_zero, List.set_cons_succ, and_self, true_and, Nat.le_refl, apure_max, apure_min, maxV, minV, finish, ares, aresL, ares1_tmp, ares1_cell, aresC_adr, aextract, hA', lssI, d1]
      exact ⟨_, rfl⟩
    · have d1 : decide (l1 < 1) = false := decide_eq_false h
      have e1 : wrapF .i64 (l1 - 1) = l1 - 1 := by simp only [wrapF]; omega
      simp only [ebsp_0, ebsp_1, ebsp_2, ebsp_3, ebsp_4, ebsp_5, lbsp_0, lbsp_1, lbsp_2, lbsp_3, lbsp_4, lbsp_5, gbsp_2_2, agd_none, gdAt, gdV_bool, gdV_undef, Try.f12, List.append_eq, List.cons_append, List.nil_append, apure_call1, apure_call2, apure_call3, bft, btf, acodeN, List.getElem?_toArray, List.getElem?_cons_zero, List.getElem?_cons_succ, aopsN, adrawT, cls, astep, aop, afloat, ev, nth_lst, get_lst, aput, setAt_lst, upd_at, init_zero, init_succ, init_nil, Nat.reduceLT, Nat.reduceEqDiff, reduceIte, abuiltin, alen, Option.map_some, Option.map_none, orElse_some, apure_add, apure_eql, apure_neq, List.map_cons, List.map_nil, List.all_cons, List.all_nil, lit2, lit1, lit0, List.isEmpty_nil, Bool.and_self, Bool.and_true, Bool.true_and, Bool.false_and, Bool.and_false, Bool.not_true, Bool.not_false, Bool.or_true, Bool.true_or, Bool.false_or, Bool.or_false, Bool.false_eq_true, if_true, if_false, List.length_map, beq_self_eq_true, und3, und4, und5, und9, aload_sealed, adB, adBr, adU, adE, wrWi, wrLt, wrFr, wrBk, wrCk, wrRl, wrRb, cbWi, cbAt, cbSp, cbLt, cbFr, cbBk, cbCk, cbRa, cbRs, cbRl, cbRb, cbMay, cbLk, cbLo, cbRe, cbSg, cbAw, bxP, bxB, bxPr, bxBr, alP, alB, alPr, alBr, ldP', ldB', ldPr', ldBr', ldI', ldU', ldL', ldS_pol, ldS_bud, ldF_p0, ldF_p1, ldF_p2, ldF_b0, ldF_b1, ldF_b2, stP', stB', stPr', stBr', stI', stU', stT', stL, polLen, budLen, layP, layB, layB0, layB1, layB2, faP0, faP1, faP2, faB0, faB1, faB2, faPr0, faPr1, faPr2, faBr0, faBr1, faBr2, List.length_nil, List.length_cons, List.length_append, Nat.reduceAdd, Nat.reduceLeDiff, List.set_cons_zero, List.set_cons_succ, and_self, true_and, Nat.le_refl, apure_max, apure_min, maxV, minV, finish, ares, aresL, ares1_tmp, ares1_cell, aresC_adr, aextract, hA', lssI, subI, d1, e1]
      exact ⟨_, rfl⟩
theorem fr_body (hW : AnsB self 16 [pol a b c, .int .u64 t] (.int .u64 w)) :
    ∃ m', abody E self nf 18 [pol a b c, .int .u64 t] (ap m []) = some (bud a w false, m') := by
  rw [abody_eqF (by kernel_rfl) Try.func18 bodybfr (by kernel_rfl) (Nat.le_of_ble_eq_true rfl)]
  rw [show Try.f18.ntmps = 11 from rfl]
  have hW' := fun M => hW M
  simp only [↓dbfr_1, ↓sbfr_1, ebfr_0, ebfr_1, lbfr_0, lbfr_1, agd_none, gdAt, gdV_bool, gdV_undef, Try.f18, List.append_eq, List.cons_append, List.nil_append, apure_call1, apure_call2, apure_call3, bft, btf, acodeN, List.getElem?_toArray, List.getElem?_cons_zero, List.getElem?_cons_succ, aopsN, adrawT, cls, astep, aop, afloat, ev, nth_lst, get_lst, aput, setAt_lst, upd_at, init_zero, init_succ, init_nil, Nat.reduceLT, Nat.reduceEqDiff, reduceIte, abuiltin, alen, Option.map_some, Option.map_none, orElse_some, apure_add, apure_eql, apure_neq, List.map_cons, List.map_nil, List.all_cons, List.all_nil, lit2, lit1, lit0, List.isEmpty_nil, Bool.and_self, Bool.and_true, Bool.true_and, Bool.false_and, Bool.and_false, Bool.not_true, Bool.not_false, Bool.or_true, Bool.true_or, Bool.false_or, Bool.or_false, Bool.false_eq_true, if_true, if_false, List.length_map, beq_self_eq_true, und3, und4, und5, und9, aload_sealed, adB, adBr, adU, adE, wrWi, wrLt, wrFr, wrBk, wrCk, wrRl, wrRb, cbWi, cbAt, cbSp, cbLt, cbFr, cbBk, cbCk, cbRa, cbRs, cbRl, cbRb, cbMay, cbLk, cbLo, cbRe, cbSg, cbAw, bxP, bxB, bxPr, bxBr, alP, alB, alPr, alBr, ldP', ldB', ldPr', ldBr', ldI', ldU', ldL', ldS_pol, ldS_bud, ldF_p0, ldF_p1, ldF_p2, ldF_b0, ldF_b1, ldF_b2, stP', stB', stPr', stBr', stI', stU', stT', stL, polLen, budLen, layP, layB, layB0, layB1, layB2, faP0, faP1, faP2, faB0, faB1, faB2, faPr0, faPr1, faPr2, faBr0, faBr1, faBr2, List.length_nil, List.length_cons, List.length_append, Nat.reduceAdd, Nat.reduceLeDiff, List.set_cons_zero, List.set_cons_succ, and_self, true_and, Nat.le_refl, apure_max, apure_min, maxV, minV, finish, ares, aresL, ares1_tmp, ares1_cell, aresC_adr, aextract, hW', apure_build2, buildB]
  exact ⟨_, rfl⟩
theorem b1_body (h1 : l + c < 9223372036854775808) (h2 : -9223372036854775808 ≤ l + c) :
    ∃ m', abody E self nf 19 [pol a b c, bud l n k] (ap m []) = some (bud (if l < a then min (l + c) a else l) n k, m') := by
  rw [abody_eqF (by kernel_rfl) Try.func19 bodybb1 (by kernel_rfl) (Nat.le_of_ble_eq_true rfl)]
  rw [show Try.f19.ntmps = 20 from rfl]
  by_cases h : l < a
  · have d1 : decide (l < a) = true := decide_eq_true h
    have e1 : wrapF .i64 (l + c) = l + c := by simp only [wrapF]; omega
    rw [if_pos h]
    simp only [ebb1_0, ebb1_1, ebb1_2, ebb1_3, lbb1_0, lbb1_1, lbb1_2, lbb1_3, agd_none, gdAt, gdV_bool, gdV_undef, Try.f19, List.append_eq, List.cons_append, List.nil_append, apure_call1, apure_call2, apure_call3, bft, btf, acodeN, List.getElem?_toArray, List.getElem?_cons_zero, List.getElem?_cons_succ, aopsN, adrawT, cls, astep, aop, afloat, ev, nth_lst, get_lst, aput, setAt_lst, upd_at, init_zero, init_succ, init_nil, Nat.reduceLT, Nat.reduceEqDiff, reduceIte, abuiltin, alen, Option.map_some, Option.map_none, orElse_some, apure_add, apure_eql, apure_neq, List.map_cons, List.map_nil, List.all_cons, List.all_nil, lit2, lit1, lit0, List.isEmpty_nil, Bool.and_self, Bool.and_true, Bool.true_and, Bool.false_and, Bool.and_false, Bool.not_true, Bool.not_false, Bool.or_true, Bool.true_or, Bool.false_or, Bool.or_false, Bool.false_eq_true, if_true, if_false, List.length_map, beq_self_eq_true, und3, und4, und5, und9, aload_sealed, adB, adBr, adU, adE, wrWi, wrLt, wrFr, wrBk, wrCk, wrRl, wrRb, cbWi, cbAt, cbSp, cbLt, cbFr, cbBk, cbCk, cbRa, cbRs, cbRl, cbRb, cbMay, cbLk, cbLo, cbRe, cbSg, cbAw, bxP, bxB, bxPr, bxBr, alP, alB, alPr, alBr, ldP', ldB', ldPr', ldBr', ldI', ldU', ldL', ldS_pol, ldS_bud, ldF_p0, ldF_p1, ldF_p2, ldF_b0, ldF_b1, ldF_b2, stP', stB', stPr', stBr', stI', stU', stT', stL, polLen, budLen, layP, layB, layB0, layB1, layB2, faP0, faP1, faP2, faB0, faB1, faB2, faPr0, faPr1, faPr2, faBr0, faBr1, faBr2, List.length_nil, List.length_cons, List.length_append, Nat.reduceAdd, Nat.reduceLeDiff, List.set_cons_zero, List.set_cons_succ, and_self, true_and, Nat.le_refl, apure_max, apure_min, maxV, minV, finish, ares, aresL, ares1_tmp, ares1_cell, aresC_adr, aextract, lssI, addI, d1, e1]
    exact ⟨_, rfl⟩
  · have d1 : decide (l < a) = false := decide_eq_false h
    rw [if_neg h]
    simp only [ebb1_0, ebb1_1, ebb1_2, ebb1_3, lbb1_0, lbb1_1, lbb1_2, lbb1_3, agd_none, gdAt, gdV_bool, gdV_undef, Try.f19, List.append_eq, List.cons_append, List.nil_append, apure_call1, apure_call2, apure_call3, bft, btf, acodeN, List.getElem?_toArray, List.getElem?_cons_zero, List.getElem?_cons_succ, aopsN, adrawT, cls, astep, aop, afloat, ev, nth_lst, get_lst, aput, setAt_lst, upd_at, init_zero, init_succ, init_nil, Nat.reduceLT, Nat.reduceEqDiff, reduceIte, abuiltin, alen, Option.map_some, Option.map_none, orElse_some, apure_add, apure_eql, apure_neq, List.map_cons, List.map_nil, List.all_cons, List.all_nil, lit2, lit1, lit0, List.isEmpty_nil, Bool.and_self, Bool.and_true, Bool.true_and, Bool.false_and, Bool.and_false, Bool.not_true, Bool.not_false, Bool.or_true, Bool.true_or, Bool.false_or, Bool.or_false, Bool.false_eq_true, if_true, if_false, List.length_map, beq_self_eq_true, und3, und4, und5, und9, aload_sealed, adB, adBr, adU, adE, wrWi, wrLt, wrFr, wrBk, wrCk, wrRl, wrRb, cbWi, cbAt, cbSp, cbLt, cbFr, cbBk, cbCk, cbRa, cbRs, cbRl, cbRb, cbMay, cbLk, cbLo, cbRe, cbSg, cbAw, bxP, bxB, bxPr, bxBr, alP, alB, alPr, alBr, ldP', ldB', ldPr', ldBr', ldI', ldU', ldL', ldS_pol, ldS_bud, ldF_p0, ldF_p1, ldF_p2, ldF_b0, ldF_b1, ldF_b2, stP', stB', stPr', stBr', stI', stU', stT', stL, polLen, budLen, layP, layB, layB0, layB1, layB2, faP0, faP1, faP2, faB0, faB1, faB2, faPr0, faPr1, faPr2, faBr0, faBr1, faBr2, List.length_nil, List.length_cons, List.length_append, Nat.reduceAdd, Nat.reduceLeDiff, List.set_cons_zero, List.set_cons_succ, and_self, true_and, Nat.le_refl, apure_max, apure_min, maxV, minV, finish, ares, aresL, ares1_tmp, ares1_cell, aresC_adr, aextract, lssI, addI, d1]
    exact ⟨_, rfl⟩
end
end Go.Am.Seat

/-
  Equality of budgets (own work).
-/
set_option linter.unusedSimpArgs false
set_option linter.unusedVariables false
namespace Go.Am.Seat
open Go.Proofs Go.Am
set_option maxRecDepth 100000

theorem pv_undB {t : TypeId} {d : TypeDesc} (h : E.P.underlying t = some d) : pv E.P (underlying t) = some d := by
  unfold underlying
  rw [pv_bind (a := E.P) rfl, h]
  rfl
theorem pv_eqI {d : Nat} {t : TypeId} {k k' : IntKind} (h : E.P.underlying t = some (.int k')) (a b : Int) : pv E.P (Op.equalIn (d + 1) t (.int k a) (.int k b)) = some (a == b) := by
  unfold Op.equalIn
  rw [pv_bind (pv_undB h)]
  simp only [if_true]
  rfl
theorem pv_eqBl {d : Nat} {t : TypeId} (h : E.P.underlying t = some .bool) (a b : Bool) : pv E.P (Op.equalIn (d + 1) t (.bool a) (.bool b)) = some (a == b) := by
  unfold Op.equalIn
  rw [pv_bind (pv_undB h)]
  rfl
theorem pv_blk {t : TypeId} {u v : Array Value} {x y : Value} {o d : Nat} {q : Bool} (hx : pv E.P (part t u o) = some x) (hy : pv E.P (part t v o) = some y) (he : pv E.P (Op.equalIn d t x y) = some q) : pv E.P (do
    let a ← part t u o
    let b ← part t v o
    let c ← Op.equalIn d t a b
    if (!c) = true then pure (ForInStep.done (some false, ())) else pure (ForInStep.yield ((none : Option Bool), ()))) = some (if q then ForInStep.yield (none, ()) else ForInStep.done (some false, ())) := by
  rw [pv_bind hx, pv_bind hy, pv_bind he]
  cases q <;> rfl
section
variable {a b a' b' : Int} {c c' : Bool} {q1 q2 q3 : Bool}
theorem pv_three {t : TypeId} (hu : E.P.underlying t = E.P.underlying 26) (hs : E.P.stoodInHeld t = false) : pv E.P (Op.equal t (bud a b c) (bud a' b' c')) = some (a == a' && (b == b' && c == c')) := by
  have h1 : pv E.P (Op.equalIn 9999 3 (.int .i64 a) (.int .i64 a')) = some (a == a') := pv_eqI Try.underlying3 a a'
  have h2 : pv E.P (Op.equalIn 9999 22 (.int .u64 b) (.int .u64 b')) = some (b == b') := pv_eqI Try.underlying22 b b'
  have h3 : pv E.P (Op.equalIn 9999 4 (.bool c) (.bool c')) = some (c == c') := pv_eqBl Try.underlying4 c c'
  generalize (a == a') = q1 at *
  generalize (b == b') = q2 at *
  generalize (c == c') = q3 at *
  unfold Op.equal Op.maxDepth
  rw [show (10000 : Nat) = 9999 + 1 from rfl]
  unfold Op.equalIn bud
  rw [pv_bind (pv_undB (hu.trans Try.underlying26))]
  simp only
  rw [pv_bind (a := E.P) rfl]
  rw [hs]
  simp only [Bool.false_eq_true, if_false]
  rw [← Array.forIn_toList]
  simp only [List.forIn_cons, List.forIn_nil, ne_eq, String.reduceEq, not_false_eq_true, if_true]
  rw [pv_bind (a := (if q1 && (q2 && q3) then (none : Option Bool) else some false, ())) ?_]
  · cases q1 <;> cases q2 <;> cases q3 <;> rfl
  · rw [pv_bind (pv_blk (x := .int .i64 a) (y := .int .i64 a') (by kernel_rfl) (by kernel_rfl) h1)]
    cases q1 with
    | false => rfl
    | true =>
      simp only [if_true, Bool.true_and]
      rw [pv_bind (pv_blk (x := .int .u64 b) (y := .int .u64 b') (by kernel_rfl) (by kernel_rfl) h2)]
      cases q2 with
      | false => rfl
      | true =>
        simp only [if_true, Bool.true_and]
        rw [pv_bind (pv_blk (x := .bool c) (y := .bool c') (by kernel_rfl) (by kernel_rfl) h3)]
        cases q3 <;> rfl
end

/-- Equality of two values, whatever temporaries they come from. -/
noncomputable def eqlV9 (P : Program) (s : TypeId) (x y : Operand) (u v : Value) : Option Value :=
  if lit2 u && (lit2 v && true) then
    match pv P ((eqGuard .eql s x y u v >>= fun _ => binOp .eql s u v) >>= fun r => pure (Next.value r)) with
    | some (.value r) => if lit2 r then some r else none
    | _ => none
  else none
noncomputable def neqV9 (P : Program) (s : TypeId) (x y : Operand) (u v : Value) : Option Value :=
  if lit2 u && (lit2 v && true) then
    match pv P ((eqGuard .neq s x y u v >>= fun _ => binOp .neq s u v) >>= fun r => pure (Next.value r)) with
    | some (.value r) => if lit2 r then some r else none
    | _ => none
  else none
theorem eqlV9_int {P : Program} {s : TypeId} {x y : Operand} {k : IntKind} {a b : Int} : eqlV9 P s x y (.int k a) (.int k b) = some (.bool (a == b)) := by
  unfold eqlV9
  simp only [lit2, lit1, lit0, Bool.and_self, if_true, eqGuard, binOp, ne_eq, not_true, if_false, Op.intCmp]
  rfl
theorem neqV9_int {P : Program} {s : TypeId} {x y : Operand} {k : IntKind} {a b : Int} : neqV9 P s x y (.int k a) (.int k b) = some (.bool (a != b)) := by
  unfold neqV9
  simp only [lit2, lit1, lit0, Bool.and_self, if_true, eqGuard, binOp, ne_eq, not_true, if_false, Op.intCmp]
  rfl
theorem eqlV9_bool {x y : Operand} {p q : Bool} : eqlV9 E.P 4 x y (.bool p) (.bool q) = some (.bool (p == q)) := rfl
theorem neqV9_bool {x y : Operand} {p q : Bool} : neqV9 E.P 4 x y (.bool p) (.bool q) = some (.bool !(p == q)) := rfl
theorem eqlV9_str {P : Program} {s : TypeId} {x y : Operand} {a c : ByteArray} : eqlV9 P s x y (.string a) (.string c) = some (.bool (a.toList == c.toList)) := rfl
theorem neqV9_str {P : Program} {s : TypeId} {x y : Operand} {a c : ByteArray} : neqV9 P s x y (.string a) (.string c) = some (.bool !(a.toList == c.toList)) := rfl

section
variable {P : Program} {T : List Value} {m : Mem} {d : Option Tmp} {s t ty : TypeId} {x y : Operand} {pos : String} {af : Array Edge} {g : Option (Nat × Bool)}
theorem apure_eqlV9 : apure P T { dst := d, op := .binOp .eql s x y t, type := ty, pos := pos, after := af, guard := g } = eqlV9 P s x y (ev T x) (ev T y) := by
  unfold apure eqlV9
  simp only [Op.operands, List.all_cons, List.all_nil, execOp]
  rfl
theorem apure_neqV9 : apure P T { dst := d, op := .binOp .neq s x y t, type := ty, pos := pos, after := af, guard := g } = neqV9 P s x y (ev T x) (ev T y) := by
  unfold apure neqV9
  simp only [Op.operands, List.all_cons, List.all_nil, execOp]
  rfl
theorem aop_eqlV9 : aop P T m { dst := d, op := .binOp .eql s x y t, type := ty, pos := pos, after := af, guard := g } = (eqlV9 P s x y (ev T x) (ev T y)).map (·, m) := by
  have hp := apure_eqlV9 (P := P) (T := T) (d := d) (s := s) (t := t) (ty := ty) (x := x) (y := y) (pos := pos) (af := af) (g := g)
  unfold aop
  simp only
  cases hx : ev T x with
  | int k a =>
    cases hy : ev T y with
    | int k' b =>
      simp only
      by_cases hk : k = k'
      · subst hk
        rw [eqlV9_int]
        have : abin .eql k a k b = some (.bool (a == b)) := by unfold abin; simp only [if_true]
        rw [this]
        rfl
      · have : abin .eql k a k' b = none := by unfold abin; simp only [hk, if_false]
        rw [this]
        simp only
        rw [hp, hx, hy]
    | _ => simp only; rw [hp, hx, hy]
  | _ => simp only; rw [hp, hx]
theorem aop_neqV9 : aop P T m { dst := d, op := .binOp .neq s x y t, type := ty, pos := pos, after := af, guard := g } = (neqV9 P s x y (ev T x) (ev T y)).map (·, m) := by
  have hp := apure_neqV9 (P := P) (T := T) (d := d) (s := s) (t := t) (ty := ty) (x := x) (y := y) (pos := pos) (af := af) (g := g)
  unfold aop
  simp only
  cases hx : ev T x with
  | int k a =>
    cases hy : ev T y with
    | int k' b =>
      simp only
      by_cases hk : k = k'
      · subst hk
        rw [neqV9_int]
        have : abin .neq k a k b = some (.bool (a != b)) := by unfold abin; simp only [if_true]
        rw [this]
        rfl
      · have : abin .neq k a k' b = none := by unfold abin; simp only [hk, if_false]
        rw [this]
        simp only
        rw [hp, hx, hy]
    | _ => simp only; rw [hp, hx, hy]
  | _ => simp only; rw [hp, hx]
noncomputable def afloatZ (P : Program) (T : List Value) (o : Oper) : Option Value := afloat P T o
theorem afloat_eqlV9 : afloat P T { dst := d, op := .binOp .eql s x y t, type := ty, pos := pos, after := af, guard := g } = match eqlV9 P s x y (ev T x) (ev T y) with
    | some v => some v
    | none => afloatZ P T { dst := d, op := .binOp .eql s x y t, type := ty, pos := pos, after := af, guard := g } := by
  cases he : eqlV9 P s x y (ev T x) (ev T y) with
  | none => rfl
  | some v =>
    have hp := (apure_eqlV9 (P := P) (T := T) (d := d) (s := s) (t := t) (ty := ty) (x := x) (y := y) (pos := pos) (af := af) (g := g)).trans he
    unfold afloat
    simp only [hp]
    cases hx : ev T x with
    | int k a =>
      cases hy : ev T y with
      | int k' b =>
        simp only
        by_cases hk : k = k'
        · subst hk
          rw [hx, hy, eqlV9_int] at he
          cases he
          have : abin .eql k a k b = some (.bool (a == b)) := by unfold abin; simp only [if_true]
          rw [this]
        · have : abin .eql k a k' b = none := by unfold abin; simp only [hk, if_false]
          rw [this]
      | _ => rfl
    | _ => rfl
theorem afloat_neqV9 : afloat P T { dst := d, op := .binOp .neq s x y t, type := ty, pos := pos, after := af, guard := g } = match neqV9 P s x y (ev T x) (ev T y) with
    | some v => some v
    | none => afloatZ P T { dst := d, op := .binOp .neq s x y t, type := ty, pos := pos, after := af, guard := g } := by
  cases he : neqV9 P s x y (ev T x) (ev T y) with
  | none => rfl
  | some v =>
    have hp := (apure_neqV9 (P := P) (T := T) (d := d) (s := s) (t := t) (ty := ty) (x := x) (y := y) (pos := pos) (af := af) (g := g)).trans he
    unfold afloat
    simp only [hp]
    cases hx : ev T x with
    | int k a =>
      cases hy : ev T y with
      | int k' b =>
        simp only
        by_cases hk : k = k'
        · subst hk
          rw [hx, hy, neqV9_int] at he
          cases he
          have : abin .neq k a k b = some (.bool (a != b)) := by unfold abin; simp only [if_true]
          rw [this]
        · have : abin .neq k a k' b = none := by unfold abin; simp only [hk, if_false]
          rw [this]
      | _ => rfl
    | _ => rfl
end
section
variable {x y : Operand} {a b a' b' : Int} {c c' : Bool}
theorem bud_lit : lit2 (bud a b c) = true := rfl
theorem eqV9_any {t : TypeId} (hu : E.P.underlying t = E.P.underlying 26) (hs : E.P.stoodInHeld t = false) (hq : E.P.eqGuardType E.P.depth t = false) :
    eqlV9 E.P t x y (bud a b c) (bud a' b' c') = some (.bool (a == a' && (b == b' && c == c'))) ∧ neqV9 E.P t x y (bud a b c) (bud a' b' c') = some (.bool !(a == a' && (b == b' && c == c'))) := by
  have h := pv_three (a := a) (b := b) (c := c) (a' := a') (b' := b') (c' := c') hu hs
  have hg : ∀ op, pv E.P (eqGuard op t x y (bud a b c) (bud a' b' c')) = some () := by
    intro op
    unfold eqGuard bud
    cases op <;> first | rfl | (simp only [Bool.not_true, Bool.false_eq_true, if_false]; rw [pv_bind (a := E.P) rfl, pv_bind (a := E.P) rfl, hq]; rfl)
  constructor
  · have hb : pv E.P (binOp .eql t (bud a b c) (bud a' b' c')) = some (.bool (a == a' && (b == b' && c == c'))) := by
      show pv E.P (Op.equal t (bud a b c) (bud a' b' c') >>= fun c => pure (Value.bool c)) = _
      rw [pv_bind h]
      rfl
    unfold eqlV9
    rw [bud_lit, bud_lit]
    simp only [Bool.and_self, if_true]
    rw [pv_bind (a := Value.bool (a == a' && (b == b' && c == c'))) (by rw [pv_bind (hg _), hb])]
    rfl
  · have hb : pv E.P (binOp .neq t (bud a b c) (bud a' b' c')) = some (.bool !(a == a' && (b == b' && c == c'))) := by
      show pv E.P (Op.equal t (bud a b c) (bud a' b' c') >>= fun c => pure (Value.bool !c)) = _
      rw [pv_bind h]
      rfl
    unfold neqV9
    rw [bud_lit, bud_lit]
    simp only [Bool.and_self, if_true]
    rw [pv_bind (a := Value.bool !(a == a' && (b == b' && c == c'))) (by rw [pv_bind (hg _), hb])]
    rfl
theorem eqlB : eqlV9 E.P 26 x y (bud a b c) (bud a' b' c') = some (.bool (a == a' && (b == b' && c == c'))) := (eqV9_any rfl (by kernel_rfl) (by kernel_rfl)).1
theorem neqB : neqV9 E.P 26 x y (bud a b c) (bud a' b' c') = some (.bool !(a == a' && (b == b' && c == c'))) := (eqV9_any rfl (by kernel_rfl) (by kernel_rfl)).2
theorem eqlBr : eqlV9 E.P 34 x y (bud a b c) (bud a' b' c') = some (.bool (a == a' && (b == b' && c == c'))) := (eqV9_any (by kernel_rfl) (by kernel_rfl) (by kernel_rfl)).1
theorem neqBr : neqV9 E.P 34 x y (bud a b c) (bud a' b' c') = some (.bool !(a == a' && (b == b' && c == c'))) := (eqV9_any (by kernel_rfl) (by kernel_rfl) (by kernel_rfl)).2
end
end Go.Am.Seat

/-
  The budget's calls at each level; BudgetLater (own work).
-/
set_option linter.unusedSimpArgs false
set_option linter.unusedVariables false
namespace Go.Am.Seat
open Go.Proofs Go.Am
set_option maxRecDepth 100000

/-- The machine's answers, so many calls deep. -/
noncomputable abbrev RQ (n : Nat) : Self := (runQ E mem0 [] n).1

theorem runQ_body9 {M : Mem} {n : Nat} {f : FuncId} {args : List Value} {m : Mem} {r : Value × Mem} (h : abody E (runQ E M [] n).1 (n + 1) f args m = some r) : (runQ E M [] (n + 1)).1 f args m = some r := by
  simp only [runQ, hasF, Bool.false_and, h]
theorem ainv_lit9 {self : Self} {g : FuncId} {args : List Value} {m m1 : Mem} {v : Value} (ha : args.all lit2 = true) (hf : E.fast g = none) (h : self g args ((m.take E.G).map onlyTab) = some (v, m1)) (hv : lit2 v = true) : ainv E self g args m = some (v, m) := by
  unfold ainv
  rw [if_pos ha, hf, h]
  simp only
  unfold acoll
  rw [if_pos hv]
theorem ans9 {n : Nat} {f : FuncId} {args : List Value} {v : Value} (ha : args.all lit2 = true) (hf : E.fast f = none) (hv : lit2 v = true) (h : ∀ m, ∃ m', abody E (RQ n) (n + 1) f args (ap m []) = some (v, m')) : AnsB (RQ (n + 1)) f args v := by
  intro M
  obtain ⟨m', h1⟩ := h ((M.take E.G).map onlyTab)
  rw [← ap_nil] at h1
  exact ainv_lit9 ha hf (runQ_body9 h1) hv

/-- What is left behind a look at a tick of window w. -/
def atL (a l n w : Int) : Int := if w ≤ n then l else max l a

section
variable {N : Nat} {a b c t n l u : Int} {k : Bool}
theorem qWi (hb : 1 ≤ b) (h0 : 0 ≤ t) (h1 : t < 18446744073709551616) : AnsB (RQ (N + 1)) 16 [pol a b c, .int .u64 t] (.int .u64 (t / b)) :=
  ans9 rfl rfl rfl fun m => ⟨_, wi_body hb h0 h1⟩
theorem qLt (h0 : 0 ≤ t) (h1 : t < 18446744073709551616) (h2 : 0 ≤ n) (h3 : n < 18446744073709551616) : AnsB (RQ (N + 1)) 14 [.int .u64 t, .int .u64 n] (.int .u64 (min (t + n) 18446744073709551615)) :=
  ans9 rfl rfl rfl fun m => lt_body h0 h1 h2 h3
theorem qRl (h0 : 0 ≤ t) (h1 : t < 18446744073709551616) (h2 : 0 ≤ n) (h3 : n < 18446744073709551616) : AnsB (RQ (N + 1)) 15 [.int .u64 t, .int .u64 n] (.int .u64 (min (t + n) 18446744073709551615)) :=
  ans9 rfl rfl rfl fun m => rl_body h0 h1 h2 h3
theorem qCk : AnsB (RQ (N + 1)) 9 [pol a b c] (.int .i64 (if decide (a < 1) || (decide (a > 1000) || (decide (b < 1) || (decide (c < 0) || decide (c > a)))) then 2 else 0)) :=
  ans9 rfl rfl rfl fun m => ck_body
theorem qAt (hb : 1 ≤ b) (h0 : 0 ≤ t) (h1 : t < 18446744073709551616) : AnsB (RQ (N + 2)) 10 [pol a b c, bud l n k, .int .u64 t] (.tuple ⟨[bud (atL a l n (t / b)) (max n (t / b)) k, .bool (decide (n < t / b))]⟩) :=
  ans9 rfl rfl rfl fun m => at_body (qWi (N := N) hb h0 h1)
theorem qFr (hb : 1 ≤ b) (h0 : 0 ≤ t) (h1 : t < 18446744073709551616) : AnsB (RQ (N + 2)) 18 [pol a b c, .int .u64 t] (bud a (t / b) false) :=
  ans9 rfl rfl rfl fun m => fr_body (qWi (N := N) hb h0 h1)
theorem qSp (hb : 1 ≤ b) (h0 : 0 ≤ t) (h1 : t < 18446744073709551616) (hl : atL a l n (t / b) < 9223372036854775808) : AnsB (RQ (N + 3)) 12 [pol a b c, bud l n k, .int .u64 t] (.tuple ⟨[bud (if k || decide (atL a l n (t / b) < 1) then atL a l n (t / b) else atL a l n (t / b) - 1) (max n (t / b)) k, .int .i64 (if k || decide (atL a l n (t / b) < 1) then 20 else 0)]⟩) :=
  ans9 rfl rfl rfl fun m => sp_body (qAt (N := N) hb h0 h1) hl
theorem qBk (h1 : l + c < 9223372036854775808) (h2 : -9223372036854775808 ≤ l + c) : AnsB (RQ (N + 1)) 19 [pol a b c, bud l n k] (bud (if l < a then min (l + c) a else l) n k) :=
  ans9 rfl rfl rfl fun m => b1_body h1 h2
end

theorem awake9 : isTrue ((RQ 2000) 7 [] mem0) = true := by kernel_rfl
theorem take9 (L : List Blk) : ((ap mem0 L).take E.G).map onlyTab = mem0 := by
  unfold ap
  rw [List.take_append_of_le_length (Nat.le_of_ble_eq_true (by kernel_rfl))]
  rfl
theorem awk (L : List Blk) : ainv E (RQ 2000) 7 [] (ap mem0 L) = some (.bool true, ap mem0 L) := by
  have h := awake9
  unfold isTrue at h
  split at h
  · rename_i m1 h1
    exact ainv_lit9 rfl rfl (by rw [take9]; exact h1) rfl
  · cases h

/-- May a policy be? -/
def may (a b c : Int) : Bool := !(decide (a < 1) || (decide (a > 1000) || (decide (b < 1) || (decide (c < 0) || decide (c > a)))))

/-- What the laws ask of their calls. -/
structure BudCalls (slf : Self) : Prop where
  aw : ∀ L, ainv E slf 7 [] (ap mem0 L) = some (.bool true, ap mem0 L)
  ck : ∀ a b c, AnsB slf 9 [pol a b c] (.int .i64 (if may a b c then 0 else 2))
  wi : ∀ {a b c t : Int}, 1 ≤ b → 0 ≤ t → t < 18446744073709551616 → AnsB slf 16 [pol a b c, .int .u64 t] (.int .u64 (t / b))
  lt : ∀ {t n : Int}, 0 ≤ t → t < 18446744073709551616 → 0 ≤ n → n < 18446744073709551616 → AnsB slf 14 [.int .u64 t, .int .u64 n] (.int .u64 (min (t + n) 18446744073709551615))
  at' : ∀ {a b c t l n : Int} {k : Bool}, 1 ≤ b → 0 ≤ t → t < 18446744073709551616 → AnsB slf 10 [pol a b c, bud l n k, .int .u64 t] (.tuple ⟨[bud (atL a l n (t / b)) (max n (t / b)) k, .bool (decide (n < t / b))]⟩)
  fr : ∀ {a b c t : Int}, 1 ≤ b → 0 ≤ t → t < 18446744073709551616 → AnsB slf 18 [pol a b c, .int .u64 t] (bud a (t / b) false)
  sp : ∀ {a b c t l n : Int} {k : Bool}, 1 ≤ b → 0 ≤ t → t < 18446744073709551616 → atL a l n (t / b) < 9223372036854775808 → AnsB slf 12 [pol a b c, bud l n k, .int .u64 t] (.tuple ⟨[bud (if k || decide (atL a l n (t / b) < 1) then atL a l n (t / b) else atL a l n (t / b) - 1) (max n (t / b)) k, .int .i64 (if k || decide (atL a l n (t / b) < 1) then 20 else 0)]⟩)
  bk : ∀ {a b c l n : Int} {k : Bool}, l + c < 9223372036854775808 → -9223372036854775808 ≤ l + c → AnsB slf 19 [pol a b c, bud l n k] (bud (if l < a then min (l + c) a else l) n k)

theorem budCalls : BudCalls (RQ 2000) where
  aw := awk
  ck := fun a b c => by
    have h := qCk (N := 1999) (a := a) (b := b) (c := c)
    unfold may
    generalize (decide (a < 1) || (decide (a > 1000) || (decide (b < 1) || (decide (c < 0) || decide (c > a))))) = bad at *
    cases bad <;> exact h
  wi := fun hb h0 h1 => qWi (N := 1999) hb h0 h1
  lt := fun h0 h1 h2 h3 => qLt (N := 1999) h0 h1 h2 h3
  at' := fun hb h0 h1 => qAt (N := 1998) hb h0 h1
  fr := fun hb h0 h1 => qFr (N := 1998) hb h0 h1
  sp := fun hb h0 h1 h2 => qSp (N := 1997) hb h0 h1 h2
  bk := fun h1 h2 => qBk (N := 1999) h1 h2

theorem may_b {a b c : Int} (h : may a b c = true) : 1 ≤ a ∧ a ≤ 1000 ∧ 1 ≤ b ∧ 0 ≤ c ∧ c ≤ a := by
  simp only [may, Bool.not_eq_true', Bool.or_eq_false_iff, decide_eq_false_iff_not] at h
  omega

end Go.Am.Seat

/-
  What must be so: a call that panics or doesn't (own work).
-/
set_option linter.unusedSimpArgs false
set_option linter.unusedVariables false
namespace Go.Am.Seat
open Go.Proofs Go.Am
set_option maxRecDepth 100000

/-- What panics, so many calls deep. -/
noncomputable abbrev RP (n : Nat) : Self := (runQ E mem0 [] n).2

/-- A refusal. -/
def ref9 (e : Int) : Value := .iface 73 (.agg ⟨[.int .i64 e]⟩)
noncomputable def apB1s (P : Program) (t ty : TypeId) (a : Value) : Option Value := apure P [a] { dst := none, op := .build t #[(0, .tmp 0)], type := ty, pos := "", after := #[], guard := none }
theorem apure_build1s {P : Program} {T : List Value} {t ty : TypeId} {a : Nat} {pos : String} {af : Array Edge} {gu : Option (Nat × Bool)} {dd : Option Tmp} :
    apure P T { dst := dd, op := .build t #[(0, .tmp a)], type := ty, pos := pos, after := af, guard := gu } = apB1s P t ty (nth T a) := by
  unfold apB1s apure
  simp [Op.operands, execOp, ev, nth_zero, nth_succ]
theorem buildRef (e : Int) : apB1s E.P 73 73 (.int .i64 e) = some (.agg ⟨[.int .i64 e]⟩) := by kernel_rfl
noncomputable def apMI (P : Program) (t ty : TypeId) (a : Value) : Option Value := apure P [a] { dst := none, op := .makeInterface t (.tmp 0), type := ty, pos := "", after := #[], guard := none }
theorem apure_mkI {P : Program} {T : List Value} {t ty : TypeId} {a : Nat} {pos : String} {af : Array Edge} {gu : Option (Nat × Bool)} {dd : Option Tmp} :
    apure P T { dst := dd, op := .makeInterface t (.tmp a), type := ty, pos := pos, after := af, guard := gu } = apMI P t ty (nth T a) := by
  unfold apMI apure
  simp [Op.operands, execOp, ev, nth_zero, nth_succ]
theorem mkRef (ty : TypeId) (e : Int) : apMI E.P 73 ty (.agg ⟨[.int .i64 e]⟩) = some (ref9 e) := by kernel_rfl
theorem apure_panic {P : Program} {T : List Value} {ty : TypeId} {x : Operand} {pos : String} {af : Array Edge} {gu : Option (Nat × Bool)} {dd : Option Tmp} :
    apure P T { dst := dd, op := .panic x, type := ty, pos := pos, after := af, guard := gu } = none := by
  unfold apure
  split
  · cases hx : ev T x <;> simp only [execOp, hx] <;> rfl
  · rfl

section
variable {self sp : Self} {nf : Nat} {m : Mem} {e : Int} {L : List Blk} {k : Nat} {s : ByteArray}
theorem hld_true : abody E self nf 35 [.bool true, .int .i64 e] (ap m []) = some (.tuple ⟨[]⟩, ap m []) := by
  rw [abody_eqF (by kernel_rfl) Try.func35 bodyhld (by kernel_rfl) (Nat.le_of_ble_eq_true rfl)]
  rw [show Try.f35.ntmps = 9 from rfl]
  simp only [ehld_0, ehld_1, lhld_0, lhld_1, agd_none, gdAt, gdV_bool, gdV_undef, Try.f35, List.append_eq, List.cons_append, List.nil_append, apure_call1, apure_call2, apure_call3, bft, btf, acodeN, List.getElem?_toArray, List.getElem?_cons_zero, List.getElem?_cons_succ, aopsN, adrawT, cls, astep, aop, afloat, ev, nth_lst, get_lst, aput, setAt_lst, upd_at, init_zero, init_succ, init_nil, Nat.reduceLT, Nat.reduceEqDiff, reduceIte, abuiltin, alen, Option.map_some, Option.map_none, orElse_some, apure_add, List.map_cons, List.map_nil, List.all_cons, List.all_nil, lit2, lit1, lit0, List.isEmpty_nil, Bool.and_self, Bool.and_true, Bool.true_and, Bool.false_and, Bool.and_false, Bool.not_true, Bool.not_false, Bool.or_true, Bool.true_or, Bool.false_or, Bool.or_false, Bool.false_eq_true, if_true, if_false, List.length_map, beq_self_eq_true, und3, und4, und5, und9, eqlV9_int, neqV9_int, eqlV9_bool, neqV9_bool, eqlV9_str, neqV9_str, eqlB, neqB, eqlBr, neqBr, ↓aop_eqlV9, ↓aop_neqV9, ↓afloat_eqlV9, ↓afloat_neqV9, apure_eqlV9, apure_neqV9, eqlW, neqW, eqlI64, neqI64, aload_sealed, adB, adBr, adU, adE, wrWi, wrLt, wrFr, wrBk, wrCk, wrRl, wrRb, cbWi, cbAt, cbSp, cbLt, cbFr, cbBk, cbCk, cbRa, cbRs, cbRl, cbRb, cbMay, cbLk, cbLo, cbRe, cbSg, cbAw, bxP, bxB, bxPr, bxBr, alP, alB, alPr, alBr, ldP', ldB', ldPr', ldBr', ldI', ldU', ldL', ldS_pol, ldS_bud, ldF_p0, ldF_p1, ldF_p2, ldF_b0, ldF_b1, ldF_b2, stP', stB', stPr', stBr', stI', stU', stT', stL, polLen, budLen, layP, layB, layB0, layB1, layB2, faP0, faP1, faP2, faB0, faB1, faB2, faPr0, faPr1, faPr2, faBr0, faBr1, faBr2, List.length_nil, List.length_cons, List.length_append, Nat.reduceAdd, Nat.reduceLeDiff, List.set_cons_zero, List.set_cons_succ, and_self, true_and, Nat.le_refl, apure_max, apure_min, maxV, minV, finish, ares, aresL, ares1_tmp, ares1_cell, aresC_adr, aextract]
theorem hld_no : abody E self nf 35 [.bool false, .int .i64 e] (ap m []) = none := by
  rw [abody_eqF (by kernel_rfl) Try.func35 bodyhld (by kernel_rfl) (Nat.le_of_ble_eq_true rfl)]
  rw [show Try.f35.ntmps = 9 from rfl]
  simp only [ehld_0, ehld_1, lhld_0, lhld_1, agd_none, gdAt, gdV_bool, gdV_undef, Try.f35, List.append_eq, List.cons_append, List.nil_append, apure_call1, apure_call2, apure_call3, bft, btf, acodeN, List.getElem?_toArray, List.getElem?_cons_zero, List.getElem?_cons_succ, aopsN, adrawT, cls, astep, aop, afloat, ev, nth_lst, get_lst, aput, setAt_lst, upd_at, init_zero, init_succ, init_nil, Nat.reduceLT, Nat.reduceEqDiff, reduceIte, abuiltin, alen, Option.map_some, Option.map_none, orElse_some, apure_add, List.map_cons, List.map_nil, List.all_cons, List.all_nil, lit2, lit1, lit0, List.isEmpty_nil, Bool.and_self, Bool.and_true, Bool.true_and, Bool.false_and, Bool.and_false, Bool.not_true, Bool.not_false, Bool.or_true, Bool.true_or, Bool.false_or, Bool.or_false, Bool.false_eq_true, if_true, if_false, List.length_map, beq_self_eq_true, und3, und4, und5, und9, eqlV9_int, neqV9_int, eqlV9_bool, neqV9_bool, eqlV9_str, neqV9_str, eqlB, neqB, eqlBr, neqBr, ↓aop_eqlV9, ↓aop_neqV9, ↓afloat_eqlV9, ↓afloat_neqV9, apure_eqlV9, apure_neqV9, eqlW, neqW, eqlI64, neqI64, aload_sealed, adB, adBr, adU, adE, wrWi, wrLt, wrFr, wrBk, wrCk, wrRl, wrRb, cbWi, cbAt, cbSp, cbLt, cbFr, cbBk, cbCk, cbRa, cbRs, cbRl, cbRb, cbMay, cbLk, cbLo, cbRe, cbSg, cbAw, bxP, bxB, bxPr, bxBr, alP, alB, alPr, alBr, ldP', ldB', ldPr', ldBr', ldI', ldU', ldL', ldS_pol, ldS_bud, ldF_p0, ldF_p1, ldF_p2, ldF_b0, ldF_b1, ldF_b2, stP', stB', stPr', stBr', stI', stU', stT', stL, polLen, budLen, layP, layB, layB0, layB1, layB2, faP0, faP1, faP2, faB0, faB1, faB2, faPr0, faPr1, faPr2, faBr0, faBr1, faBr2, List.length_nil, List.length_cons, List.length_append, Nat.reduceAdd, Nat.reduceLeDiff, List.set_cons_zero, List.set_cons_succ, and_self, true_and, Nat.le_refl, apure_max, apure_min, maxV, minV, finish, ares, aresL, ares1_tmp, ares1_cell, aresC_adr, aextract, apure_build1s, buildRef, apure_mkI, mkRef, apure_panic]
theorem hld_pan : abodyP E self sp nf 35 [.bool false, .int .i64 e] (ap m []) = some (ref9 e, ap m []) := by
  rw [abodyP_eqF (by kernel_rfl) Try.func35 bodyhld (by kernel_rfl) (Nat.le_of_ble_eq_true rfl)]
  rw [show Try.f35.ntmps = 9 from rfl]
  simp only [ehld_0, ehld_1, lhld_0, lhld_1, agd_none, gdAt, gdV_bool, gdV_undef, Try.f35, List.append_eq, List.cons_append, List.nil_append, apure_call1, apure_call2, apure_call3, bft, btf, acodeN, List.getElem?_toArray, List.getElem?_cons_zero, List.getElem?_cons_succ, aopsN, adrawT, cls, astep, aop, afloat, ev, nth_lst, get_lst, aput, setAt_lst, upd_at, init_zero, init_succ, init_nil, Nat.reduceLT, Nat.reduceEqDiff, reduceIte, abuiltin, alen, Option.map_some, Option.map_none, orElse_some, apure_add, List.map_cons, List.map_nil, List.all_cons, List.all_nil, lit2, lit1, lit0, List.isEmpty_nil, Bool.and_self, Bool.and_true, Bool.true_and, Bool.false_and, Bool.and_false, Bool.not_true, Bool.not_false, Bool.or_true, Bool.true_or, Bool.false_or, Bool.or_false, Bool.false_eq_true, if_true, if_false, List.length_map, beq_self_eq_true, und3, und4, und5, und9, eqlV9_int, neqV9_int, eqlV9_bool, neqV9_bool, eqlV9_str, neqV9_str, eqlB, neqB, eqlBr, neqBr, ↓aop_eqlV9, ↓aop_neqV9, ↓afloat_eqlV9, ↓afloat_neqV9, apure_eqlV9, apure_neqV9, eqlW, neqW, eqlI64, neqI64, aload_sealed, adB, adBr, adU, adE, wrWi, wrLt, wrFr, wrBk, wrCk, wrRl, wrRb, cbWi, cbAt, cbSp, cbLt, cbFr, cbBk, cbCk, cbRa, cbRs, cbRl, cbRb, cbMay, cbLk, cbLo, cbRe, cbSg, cbAw, bxP, bxB, bxPr, bxBr, alP, alB, alPr, alBr, ldP', ldB', ldPr', ldBr', ldI', ldU', ldL', ldS_pol, ldS_bud, ldF_p0, ldF_p1, ldF_p2, ldF_b0, ldF_b1, ldF_b2, stP', stB', stPr', stBr', stI', stU', stT', stL, polLen, budLen, layP, layB, layB0, layB1, layB2, faP0, faP1, faP2, faB0, faB1, faB2, faPr0, faPr1, faPr2, faBr0, faBr1, faBr2, List.length_nil, List.length_cons, List.length_append, Nat.reduceAdd, Nat.reduceLeDiff, List.set_cons_zero, List.set_cons_succ, and_self, true_and, Nat.le_refl, apure_max, apure_min, maxV, minV, finish, ares, aresL, ares1_tmp, ares1_cell, aresC_adr, aextract, apure_build1s, buildRef, apure_mkI, mkRef, apure_panic, acodePN, aopsPN, apan, finishP]
  rfl
end

theorem none9 {n : Nat} {f : FuncId} {fn : Func} {c : Code} {args : List Value} (hf : E.P.funcs[f]? = some fn) (hc : fn.body = some c) (hd : noDef c = true) (ha : args.all lit2 = true) (hq : E.fast f = none) (h : ∀ m, abody E (RQ n) (n + 1) f args (ap m []) = none) (M : Mem) : ainv E (RQ (n + 1)) f args M = none := by
  have h1 : RQ (n + 1) f args ((M.take E.G).map onlyTab) = none := runQ_no (by rw [ap_nil ((M.take E.G).map onlyTab)]; exact h _) (abodyD_none hf hc hd)
  unfold ainv
  rw [if_pos ha, hq, h1]
theorem pan9 {n : Nat} {f : FuncId} {args : List Value} {v : Value} (ha : args.all lit2 = true) (hv : lit2 v = true) (h : ∀ m, ∃ m', abodyP E (RQ n) (RP n) (n + 1) f args (ap m []) = some (v, m')) (M : Mem) : ainvP E (RP (n + 1)) f args M = some (v, M) := by
  obtain ⟨m', h0⟩ := h ((M.take E.G).map onlyTab)
  rw [← ap_nil] at h0
  have h1 : RP (n + 1) f args ((M.take E.G).map onlyTab) = some (v, m') := runQ_2 h0
  unfold ainvP
  rw [if_pos ha, h1]
  simp only
  unfold acoll
  rw [if_pos hv]
theorem ainv_w {self : Self} {g : FuncId} {args : List Value} {m : Mem} (ha : args.all lit2 = false) (hw : E.wr g = true) : ainv E self g args m = self g args m := by
  unfold ainv
  rw [if_neg (by rw [ha]; exact Bool.false_ne_true), if_pos hw]
theorem ainvP_w {sp : Self} {g : FuncId} {args : List Value} {m : Mem} (ha : args.all lit2 = false) (hw : E.wr g = true) : ainvP E sp g args m = sp g args m := by
  unfold ainvP
  rw [if_neg (by rw [ha]; exact Bool.false_ne_true), if_pos hw]

section
variable {N : Nat} {e : Int} (M : Mem)
theorem hold_T : ainv E (RQ (N + 1)) 35 [.bool true, .int .i64 e] M = some (.tuple ⟨[]⟩, M) := ans9 rfl rfl rfl (fun m => ⟨_, hld_true⟩) M
theorem hold_N : ainv E (RQ (N + 1)) 35 [.bool false, .int .i64 e] M = none := none9 Try.func35 bodyhld (by kernel_rfl) rfl rfl (fun m => hld_no) M
theorem hold_P : ainvP E (RP (N + 1)) 35 [.bool false, .int .i64 e] M = some (ref9 e, M) := pan9 rfl rfl (fun m => ⟨_, hld_pan⟩) M
end

/-- What of a text isn't read yet, in a row. -/
def rdC (s : ByteArray) : List Value := [.string s]
noncomputable def ncV (E : Env) (self : Self) (T : List Value) (m : Mem) (o : Oper) (v : Value) : Option (Value × Mem) := match v with
  | .pointer (some a) => some (.pointer (some a), m)
  | _ => astep E self T m o
theorem astep_nilCheck {E : Env} {self : Self} {T : List Value} {m : Mem} {d : Option Tmp} {x : Operand} {ty : TypeId} {pos : String} {af : Array Edge} {g : Option (Nat × Bool)} : astep E self T m { dst := d, op := .nilCheck x, type := ty, pos := pos, after := af, guard := g } = ncV E self T m { dst := d, op := .nilCheck x, type := ty, pos := pos, after := af, guard := g } (ev T x) := by
  cases h : ev T x with
  | pointer a =>
    cases a with
    | none => rfl
    | some a =>
      unfold astep ncV
      simp only [h, aop]
  | _ => rfl
theorem ncV_adr {E : Env} {self : Self} {T : List Value} {m m' : Mem} {o : Oper} {k q : Nat} : ncV E self T m o (adr m' k q) = some (adr m' k q, m) := rfl
section
variable (m : Mem) (L : List Blk) (k : Nat) (s : ByteArray)
theorem ldT' (o : Nat) : aload E.P 9 (adr m k o) (ap m L) = ldF o L[k]? := aload_F Try.underlying9 rfl m L k o
theorem ldF_rd {ro : Bool} {e : TypeId} : ldF 0 (some (.row ro e (rdC s))) = some (.string s) := rfl
theorem faR : afieldAddr E.P 75 (adr m k 0) 0 = some (adr m k 0) := by unfold adr; kernel_rfl
theorem stT1 (h : L[k]? = some (.row false 75 (rdC s))) (u : ByteArray) : astore E.P 9 (adr m k 0) (.string u) (ap m L) = some (ap m (L.set k (.row false 75 (rdC u)))) := by
  rw [astore_L (n := 1) (l := [.string u]) (by kernel_rfl) rfl, stL_1]
  simp only [h]
  rfl
theorem adr_lit : lit2 (adr m k 0) = false := rfl
end
theorem cbHld : callableB E.P 35 = true := by kernel_rfl

section
variable {self sp : Self} {nf : Nat} {m : Mem} {L : List Blk} {k n : Nat} {s : ByteArray}
theorem sliceHi_ok (h : n ≤ s.size) : sliceHi s ((n : Nat) : Int) = some (.string (s.extract 0 n)) := if_pos ⟨by omega, by omega⟩
theorem sliceLo_ok (h : n ≤ s.size) : sliceLo s ((n : Nat) : Int) = some (.string (s.extract n s.size)) := if_pos ⟨by omega, by omega⟩
theorem rta_ok (hT : ∀ e M, ainv E self 35 [.bool true, .int .i64 e] M = some (.tuple ⟨[]⟩, M)) (hk : L[k]? = some (.row false 75 (rdC s))) (hn : n ≤ s.size) :
    abody E self nf 42 [adr m k 0, .int .i64 (n : Nat)] (ap m L) = some (.string (s.extract 0 n), ap m (L.set k (.row false 75 (rdC (s.extract n s.size))))) := by
  rw [abody_eqF (by kernel_rfl) Try.func42 bodyrta (by kernel_rfl) (Nat.le_of_ble_eq_true rfl)]
  rw [show Try.f42.ntmps = 30 from rfl]
  have d1 : decide (((n : Nat) : Int) ≤ ((s.data.toList.length : Nat) : Int)) = true := decide_eq_true (show ((n : Nat) : Int) ≤ ((s.size : Nat) : Int) by omega)
  have h1 := sliceHi_ok hn
  have h2 := sliceLo_ok hn
  have st := stT1 m L k s hk (s.extract n s.size)
  simp only [erta_0, erta_1, erta_2, erta_3, erta_4, lrta_0, lrta_1, lrta_2, lrta_3, lrta_4, agd_none, gdAt, gdV_bool, gdV_undef, Try.f42, List.append_eq, List.cons_append, List.nil_append, apure_call1, apure_call2, apure_call3, bft, btf, acodeN, List.getElem?_toArray, List.getElem?_cons_zero, List.getElem?_cons_succ, aopsN, adrawT, cls, astep, aop, afloat, ev, nth_lst, get_lst, aput, setAt_lst, upd_at, init_zero, init_succ, init_nil, Nat.reduceLT, Nat.reduceEqDiff, reduceIte, abuiltin, alen, Option.map_some, Option.map_none, orElse_some, apure_add, List.map_cons, List.map_nil, List.all_cons, List.all_nil, lit2, lit1, lit0, List.isEmpty_nil, Bool.and_self, Bool.and_true, Bool.true_and, Bool.false_and, Bool.and_false, Bool.not_true, Bool.not_false, Bool.or_true, Bool.true_or, Bool.false_or, Bool.or_false, Bool.false_eq_true, if_true, if_false, List.length_map, beq_self_eq_true, und3, und4, und5, und9, eqlV9_int, neqV9_int, eqlV9_bool, neqV9_bool, eqlV9_str, neqV9_str, eqlB, neqB, eqlBr, neqBr, ↓aop_eqlV9, ↓aop_neqV9, ↓afloat_eqlV9, ↓afloat_neqV9, apure_eqlV9, apure_neqV9, eqlW, neqW, eqlI64, neqI64, aload_sealed, adB, adBr, adU, adE, wrWi, wrLt, wrFr, wrBk, wrCk, wrRl, wrRb, cbWi, cbAt, cbSp, cbLt, cbFr, cbBk, cbCk, cbRa, cbRs, cbRl, cbRb, cbMay, cbLk, cbLo, cbRe, cbSg, cbAw, bxP, bxB, bxPr, bxBr, alP, alB, alPr, alBr, ldP', ldB', ldPr', ldBr', ldI', ldU', ldL', ldS_pol, ldS_bud, ldF_p0, ldF_p1, ldF_p2, ldF_b0, ldF_b1, ldF_b2, stP', stB', stPr', stBr', stI', stU', stT', stL, polLen, budLen, layP, layB, layB0, layB1, layB2, faP0, faP1, faP2, faB0, faB1, faB2, faPr0, faPr1, faPr2, faBr0, faBr1, faBr2, List.length_nil, List.length_cons, List.length_append, Nat.reduceAdd, Nat.reduceLeDiff, List.set_cons_zero, List.set_cons_succ, and_self, true_and, Nat.le_refl, apure_max, apure_min, maxV, minV, finish, ares, aresL, ares1_tmp, ares1_cell, aresC_adr, aextract, ↓astep_nilCheck, ncV_adr, faR, ldT', hk, ldF_rd, leqI, d1, cbHld, hT, apure_slice0 und9, apure_slice1 und9, h1, h2, st]
theorem rta_noa (hN : ∀ e M, ainv E self 35 [.bool false, .int .i64 e] M = none) (hk : L[k]? = some (.row false 75 (rdC s))) (hn : s.size < n) :
    abody E self nf 42 [adr m k 0, .int .i64 (n : Nat)] (ap m L) = none := by
  rw [abody_eqF (by kernel_rfl) Try.func42 bodyrta (by kernel_rfl) (Nat.le_of_ble_eq_true rfl)]
  rw [show Try.f42.ntmps = 30 from rfl]
  have d1 : decide (((n : Nat) : Int) ≤ ((s.data.toList.length : Nat) : Int)) = false := decide_eq_false (show ¬ ((n : Nat) : Int) ≤ ((s.size : Nat) : Int) by omega)
  simp only [erta_0, erta_1, erta_2, erta_3, erta_4, lrta_0, lrta_1, lrta_2, lrta_3, lrta_4, agd_none, gdAt, gdV_bool, gdV_undef, Try.f42, List.append_eq, List.cons_append, List.nil_append, apure_call1, apure_call2, apure_call3, bft, btf, acodeN, List.getElem?_toArray, List.getElem?_cons_zero, List.getElem?_cons_succ, aopsN, adrawT, cls, astep, aop, afloat, ev, nth_lst, get_lst, aput, setAt_lst, upd_at, init_zero, init_succ, init_nil, Nat.reduceLT, Nat.reduceEqDiff, reduceIte, abuiltin, alen, Option.map_some, Option.map_none, orElse_some, apure_add, List.map_cons, List.map_nil, List.all_cons, List.all_nil, lit2, lit1, lit0, List.isEmpty_nil, Bool.and_self, Bool.and_true, Bool.true_and, Bool.false_and, Bool.and_false, Bool.not_true, Bool.not_false, Bool.or_true, Bool.true_or, Bool.false_or, Bool.or_false, Bool.false_eq_true, if_true, if_false, List.length_map, beq_self_eq_true, und3, und4, und5, und9, eqlV9_int, neqV9_int, eqlV9_bool, neqV9_bool, eqlV9_str, neqV9_str, eqlB, neqB, eqlBr, neqBr, ↓aop_eqlV9, ↓aop_neqV9, ↓afloat_eqlV9, ↓afloat_neqV9, apure_eqlV9, apure_neqV9, eqlW, neqW, eqlI64, neqI64, aload_sealed, adB, adBr, adU, adE, wrWi, wrLt, wrFr, wrBk, wrCk, wrRl, wrRb, cbWi, cbAt, cbSp, cbLt, cbFr, cbBk, cbCk, cbRa, cbRs, cbRl, cbRb, cbMay, cbLk, cbLo, cbRe, cbSg, cbAw, bxP, bxB, bxPr, bxBr, alP, alB, alPr, alBr, ldP', ldB', ldPr', ldBr', ldI', ldU', ldL', ldS_pol, ldS_bud, ldF_p0, ldF_p1, ldF_p2, ldF_b0, ldF_b1, ldF_b2, stP', stB', stPr', stBr', stI', stU', stT', stL, polLen, budLen, layP, layB, layB0, layB1, layB2, faP0, faP1, faP2, faB0, faB1, faB2, faPr0, faPr1, faPr2, faBr0, faBr1, faBr2, List.length_nil, List.length_cons, List.length_append, Nat.reduceAdd, Nat.reduceLeDiff, List.set_cons_zero, List.set_cons_succ, and_self, true_and, Nat.le_refl, apure_max, apure_min, maxV, minV, finish, ares, aresL, ares1_tmp, ares1_cell, aresC_adr, aextract, ↓astep_nilCheck, ncV_adr, faR, ldT', hk, ldF_rd, leqI, d1, cbHld, hN]
theorem rta_pan (hN : ∀ e M, ainv E self 35 [.bool false, .int .i64 e] M = none) (hP : ∀ e M, ainvP E sp 35 [.bool false, .int .i64 e] M = some (ref9 e, M)) (hk : L[k]? = some (.row false 75 (rdC s))) (hn : s.size < n) :
    abodyP E self sp nf 42 [adr m k 0, .int .i64 (n : Nat)] (ap m L) = some (ref9 4, ap m L) := by
  rw [abodyP_eqF (by kernel_rfl) Try.func42 bodyrta (by kernel_rfl) (Nat.le_of_ble_eq_true rfl)]
  rw [show Try.f42.ntmps = 30 from rfl]
  have d1 : decide (((n : Nat) : Int) ≤ ((s.data.toList.length : Nat) : Int)) = false := decide_eq_false (show ¬ ((n : Nat) : Int) ≤ ((s.size : Nat) : Int) by omega)
  simp only [erta_0, erta_1, erta_2, erta_3, erta_4, lrta_0, lrta_1, lrta_2, lrta_3, lrta_4, agd_none, gdAt, gdV_bool, gdV_undef, Try.f42, List.append_eq, List.cons_append, List.nil_append, apure_call1, apure_call2, apure_call3, bft, btf, acodeN, List.getElem?_toArray, List.getElem?_cons_zero, List.getElem?_cons_succ, aopsN, adrawT, cls, astep, aop, afloat, ev, nth_lst, get_lst, aput, setAt_lst, upd_at, init_zero, init_succ, init_nil, Nat.reduceLT, Nat.reduceEqDiff, reduceIte, abuiltin, alen, Option.map_some, Option.map_none, orElse_some, apure_add, List.map_cons, List.map_nil, List.all_cons, List.all_nil, lit2, lit1, lit0, List.isEmpty_nil, Bool.and_self, Bool.and_true, Bool.true_and, Bool.false_and, Bool.and_false, Bool.not_true, Bool.not_false, Bool.or_true, Bool.true_or, Bool.false_or, Bool.or_false, Bool.false_eq_true, if_true, if_false, List.length_map, beq_self_eq_true, und3, und4, und5, und9, eqlV9_int, neqV9_int, eqlV9_bool, neqV9_bool, eqlV9_str, neqV9_str, eqlB, neqB, eqlBr, neqBr, ↓aop_eqlV9, ↓aop_neqV9, ↓afloat_eqlV9, ↓afloat_neqV9, apure_eqlV9, apure_neqV9, eqlW, neqW, eqlI64, neqI64, aload_sealed, adB, adBr, adU, adE, wrWi, wrLt, wrFr, wrBk, wrCk, wrRl, wrRb, cbWi, cbAt, cbSp, cbLt, cbFr, cbBk, cbCk, cbRa, cbRs, cbRl, cbRb, cbMay, cbLk, cbLo, cbRe, cbSg, cbAw, bxP, bxB, bxPr, bxBr, alP, alB, alPr, alBr, ldP', ldB', ldPr', ldBr', ldI', ldU', ldL', ldS_pol, ldS_bud, ldF_p0, ldF_p1, ldF_p2, ldF_b0, ldF_b1, ldF_b2, stP', stB', stPr', stBr', stI', stU', stT', stL, polLen, budLen, layP, layB, layB0, layB1, layB2, faP0, faP1, faP2, faB0, faB1, faB2, faPr0, faPr1, faPr2, faBr0, faBr1, faBr2, List.length_nil, List.length_cons, List.length_append, Nat.reduceAdd, Nat.reduceLeDiff, List.set_cons_zero, List.set_cons_succ, and_self, true_and, Nat.le_refl, apure_max, apure_min, maxV, minV, finish, ares, aresL, ares1_tmp, ares1_cell, aresC_adr, aextract, ↓astep_nilCheck, ncV_adr, faR, ldT', hk, ldF_rd, leqI, d1, cbHld, hN, acodePN, aopsPN, apan, hP, finishP]
end

/-- A text of so many bytes. -/
def tx (l : List UInt8) : Value := .string ⟨l.toArray⟩
def rdR (l : List UInt8) : Blk := .row false 75 [tx l]
theorem ext_list (l : List UInt8) (a b : Nat) : (⟨l.toArray⟩ : ByteArray).extract a b = ⟨((l.drop a).take (b - a)).toArray⟩ := by
  apply ByteArray.ext
  rw [ByteArray.data_extract]
  apply Array.ext'
  simp [List.extract_eq_take_drop]
theorem tx_size (l : List UInt8) : (⟨l.toArray⟩ : ByteArray).size = l.length := rfl
section
variable {N : Nat} {m : Mem} {L : List Blk} {k n : Nat} {l : List UInt8}
theorem wrTk : E.wr 42 = true := by kernel_rfl
theorem tk_ok (hk : L[k]? = some (rdR l)) (hn : n ≤ l.length) : ainv E (RQ (N + 2)) 42 [adr m k 0, .int .i64 (n : Nat)] (ap m L) = some (tx (l.take n), ap m (L.set k (rdR (l.drop n)))) := by
  rw [ainv_w rfl wrTk]
  have h := rta_ok (self := RQ (N + 1)) (nf := N + 2) (m := m) (fun e M => hold_T M) hk (show n ≤ (⟨l.toArray⟩ : ByteArray).size from hn)
  rw [ext_list, ext_list, tx_size, List.drop_zero, Nat.sub_zero, List.take_of_length_le (l := l.drop n) (by rw [List.length_drop]; exact Nat.le_refl _)] at h
  exact runQ_1 h
theorem tk_no (hk : L[k]? = some (rdR l)) (hn : l.length < n) : ainv E (RQ (N + 2)) 42 [adr m k 0, .int .i64 (n : Nat)] (ap m L) = none := by
  rw [ainv_w rfl wrTk]
  exact runQ_no (rta_noa (fun e M => hold_N M) hk hn) (abodyD_none Try.func42 bodyrta (by kernel_rfl))
theorem tk_pan (hk : L[k]? = some (rdR l)) (hn : l.length < n) : ainvP E (RP (N + 2)) 42 [adr m k 0, .int .i64 (n : Nat)] (ap m L) = some (ref9 4, ap m L) := by
  rw [ainvP_w rfl wrTk]
  exact runQ_2 (rta_pan (fun e M => hold_N M) (fun e M => hold_P M) hk hn)
end
end Go.Am.Seat
