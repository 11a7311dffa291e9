/-
  The law ShaCounts on the abstract machine (own work).
-/
import Derived.Test.YtakmoehldgijiaaDoorAmY
set_option linter.unusedSimpArgs false
set_option linter.unusedVariables false
namespace Go.Am.Seat
open Go.Proofs Go.Am
set_option maxRecDepth 100000

def max2I (a b : Int) : Int := if b > a then b else a
def max4I (a b c d : Int) : Int := max2I (max2I (max2I a b) c) d
theorem p19 (v0 v1 v2 v3 v4 v5 v6 v7 v8 v9 v10 v11 v13 v15 v17 v19 v20 v21 v22 v23 v24 v25 v26 v27 v28 v29 v30 v31 v32 v33 v34 v35 v36 v37 v38 v39 v40 v41 v42 v43 v44 v45 v46 v47 v48 v49 v50 v51 v52 v53 v54 v55 v56 : Value) (a b c d : Int) (pos : String) (af : Array Edge) (g : Option (Nat × Bool)) : apure E.P [v0, v1, v2, v3, v4, v5, v6, v7, v8, v9, v10, v11, .int .i64 a, v13, .int .i64 b, v15, .int .i64 c, v17, .int .i64 d, v19, v20, v21, v22, v23, v24, v25, v26, v27, v28, v29, v30, v31, v32, v33, v34, v35, v36, v37, v38, v39, v40, v41, v42, v43, v44, v45, v46, v47, v48, v49, v50, v51, v52, v53, v54, v55, v56] { dst := some 19, op := .call { callee := .builtin .max, args := #[.tmp 12, .tmp 14, .tmp 16, .tmp 18], argTypes := #[3, 3, 3, 3] }, type := 3, pos := pos, after := af, guard := g } = some (.int .i64 (max4I a b c d)) := by kernel_rfl
theorem p29 (v0 v1 v2 v3 v4 v5 v6 v7 v8 v9 v10 v11 v12 v13 v14 v15 v16 v17 v18 v19 v20 v21 v22 v23 v25 v26 v27 v29 v30 v31 v32 v33 v34 v35 v36 v37 v38 v39 v40 v41 v42 v43 v44 v45 v46 v47 v48 v49 v50 v51 v52 v53 v54 v55 v56 : Value) (s t : ByteArray) (pos : String) (af : Array Edge) (g : Option (Nat × Bool)) : apure E.P [v0, v1, v2, v3, v4, v5, v6, v7, v8, v9, v10, v11, v12, v13, v14, v15, v16, v17, v18, v19, v20, v21, v22, v23, .string s, v25, v26, v27, .string t, v29, v30, v31, v32, v33, v34, v35, v36, v37, v38, v39, v40, v41, v42, v43, v44, v45, v46, v47, v48, v49, v50, v51, v52, v53, v54, v55, v56] { dst := some 29, op := .binOp .eql 9 (.tmp 24) (.tmp 28) 9, type := 4, pos := pos, after := af, guard := g } = some (.bool (s.toList == t.toList)) := by kernel_rfl
theorem p32 (v0 v1 v2 v3 v4 v5 v6 v7 v8 v9 v10 v11 v12 v13 v14 v15 v16 v17 v18 v19 v20 v21 v22 v23 v24 v25 v26 v27 v28 v29 v32 v33 v34 v35 v36 v37 v38 v39 v40 v41 v42 v43 v44 v45 v46 v47 v48 v49 v50 v51 v52 v53 v54 v55 v56 : Value) (s t : ByteArray) (pos : String) (af : Array Edge) (g : Option (Nat × Bool)) : apure E.P [v0, v1, v2, v3, v4, v5, v6, v7, v8, v9, v10, v11, v12, v13, v14, v15, v16, v17, v18, v19, v20, v21, v22, v23, v24, v25, v26, v27, v28, v29, .string s, .string t, v32, v33, v34, v35, v36, v37, v38, v39, v40, v41, v42, v43, v44, v45, v46, v47, v48, v49, v50, v51, v52, v53, v54, v55, v56] { dst := some 32, op := .binOp .eql 9 (.tmp 30) (.tmp 31) 9, type := 4, pos := pos, after := af, guard := g } = some (.bool (s.toList == t.toList)) := by kernel_rfl
theorem p36 (v0 v1 v2 v3 v4 v5 v6 v7 v8 v9 v10 v11 v12 v13 v14 v15 v16 v17 v18 v19 v20 v21 v22 v23 v24 v25 v26 v27 v28 v29 v30 v31 v32 v33 v36 v37 v38 v39 v40 v41 v42 v43 v44 v45 v46 v47 v48 v49 v50 v51 v52 v53 v54 v55 v56 : Value) (s t : ByteArray) (pos : String) (af : Array Edge) (g : Option (Nat × Bool)) : apure E.P [v0, v1, v2, v3, v4, v5, v6, v7, v8, v9, v10, v11, v12, v13, v14, v15, v16, v17, v18, v19, v20, v21, v22, v23, v24, v25, v26, v27, v28, v29, v30, v31, v32, v33, .string s, .string t, v36, v37, v38, v39, v40, v41, v42, v43, v44, v45, v46, v47, v48, v49, v50, v51, v52, v53, v54, v55, v56] { dst := some 36, op := .binOp .eql 9 (.tmp 34) (.tmp 35) 9, type := 4, pos := pos, after := af, guard := g } = some (.bool (s.toList == t.toList)) := by kernel_rfl
theorem p38 (v0 v1 v2 v3 v4 v5 v6 v7 v8 v9 v10 v11 v12 v13 v14 v15 v16 v17 v18 v19 v20 v21 v22 v23 v24 v25 v26 v27 v28 v30 v31 v32 v33 v34 v35 v36 v38 v39 v40 v41 v42 v43 v44 v45 v46 v47 v48 v49 v50 v51 v52 v53 v54 v55 v56 : Value) (s t : Bool) (pos : String) (af : Array Edge) (g : Option (Nat × Bool)) : apure E.P [v0, v1, v2, v3, v4, v5, v6, v7, v8, v9, v10, v11, v12, v13, v14, v15, v16, v17, v18, v19, v20, v21, v22, v23, v24, v25, v26, v27, v28, .bool s, v30, v31, v32, v33, v34, v35, v36, .bool t, v38, v39, v40, v41, v42, v43, v44, v45, v46, v47, v48, v49, v50, v51, v52, v53, v54, v55, v56] { dst := some 38, op := .binOp .eql 4 (.tmp 29) (.tmp 37) 4, type := 4, pos := pos, after := af, guard := g } = some (.bool (s == t)) := by kernel_rfl

theorem build2 (a b : ByteArray) (m : Mem) : abuildSlice E.P 91 2 [(0, .string a), (1, .string b)] m = some (.slice (some ⟨m.length, 0, none⟩) 2 2, m ++ [.row false 9 [.string a, .string b]]) := by kernel_rfl
theorem build3 (a b c : ByteArray) (m : Mem) : abuildSlice E.P 91 3 [(0, .string a), (1, .string b), (2, .string c)] m = some (.slice (some ⟨m.length, 0, none⟩) 3 3, m ++ [.row false 9 [.string a, .string b, .string c]]) := by kernel_rfl
theorem call36 : callableB E.P 36 = true := by kernel_rfl
theorem call40 : callableB E.P 40 = true := by kernel_rfl
theorem gtr64 (a b : Int) : abin .gtr .i64 a .i64 b = some (.bool (decide (a > b))) := by kernel_rfl
theorem add64' (a b : Int) : abin .add .i64 a .i64 b = some (.int .i64 (wrapF .i64 (a + b))) := by kernel_rfl
theorem eql64 (a b : Int) : abin .eql .i64 a .i64 b = some (.bool (a == b)) := by kernel_rfl
abbrev lenI (s : ByteArray) : Int := ((s.data.toList.length : Nat) : Int)

section
variable {self : Self} {nf : Nat} {m : Mem} {a b c d X1 X2 X3 : ByteArray}

theorem long9 (hw : ainv E self 36 [] m = some (.bool true, m)) (hbig : decide (max4I (lenI a) (lenI b) (lenI c) (lenI d) > 500) = true) :
    ∃ m', abody E self nf 9 [.string a, .string b, .string c, .string d] m = some (.bool true, m') := by
  rw [abody_eqN (by kernel_rfl) Tryd.func9 rfl (by kernel_rfl)]
  rw [show ([Value.string a, .string b, .string c, .string d] ++ List.replicate (Tryd.f9.ntmps - [Value.string a, .string b, .string c, .string d].length) undef) = [.string a, .string b, .string c, .string d, undef, undef, undef, undef, undef, undef, undef, undef, undef, undef, undef, undef, undef, undef, undef, undef, undef, undef, undef, undef, undef, undef, undef, undef, undef, undef, undef, undef, undef, undef, undef, undef, undef, undef, undef, undef, undef, undef, undef, undef, undef, undef, undef, undef, undef, undef, undef, undef, undef, undef, undef, undef, undef] from rfl]
  simp only [acodeN, aopsN, agd, astep, aop, ev, nth_zero, nth_succ, aput, setAt_zero, setAt_succ, Option.map_some, call36, hw, List.map_nil, List.isEmpty_nil, Bool.and_self, if_true, Bool.not_true, abuiltin, alen, show E.P.underlying 9 = some .string from Tryd.underlying9, p19, gtr64, hbig]
  exact ⟨_, rfl⟩


noncomputable def ops5 : Array Oper := match Tryd.f9.body with
  | some (.seq _ (.seq _ (.seq _ (.seq (.region _ o _) _)))) => o
  | _ => #[]

def gdAt (T : List Value) (d : Nat) (want : Bool) : Option Bool := match T[d]? with
  | some (Value.bool b) => some (b == want)
  | some (Value.chan (some _)) => none
  | _ => some false

theorem agd_at {ops : Array Oper} {j d : Nat} {want : Bool} (h : (ops[j]?).map (·.dst) = some (some d)) {T : List Value} {dd : Option Tmp} {op : Op} {ty : TypeId} {pos : String} {af : Array Edge} :
    agd ops T { dst := dd, op := op, type := ty, pos := pos, after := af, guard := some (j, want) } = gdAt T d want := by
  obtain ⟨o, h1, h2⟩ := Option.map_eq_some_iff.1 h
  simp only [agd, h1, h2, gdAt]
  rfl
theorem agd12 {T : List Value} {dd : Option Tmp} {op : Op} {ty : TypeId} {pos : String} {af : Array Edge} : agd ops5 T { dst := dd, op := op, type := ty, pos := pos, after := af, guard := some (12, true) } = gdAt T 33 true := agd_at (by kernel_rfl)
theorem agd18 {T : List Value} {dd : Option Tmp} {op : Op} {ty : TypeId} {pos : String} {af : Array Edge} : agd ops5 T { dst := dd, op := op, type := ty, pos := pos, after := af, guard := some (18, true) } = gdAt T 39 true := agd_at (by kernel_rfl)
theorem agd0 {T : List Value} {dd : Option Tmp} {op : Op} {ty : TypeId} {pos : String} {af : Array Edge} : agd ops5 T { dst := dd, op := op, type := ty, pos := pos, after := af, guard := none } = some true := by kernel_rfl

noncomputable def lA : List Oper := ops5.toList.take 9
noncomputable def lB : List Oper := (ops5.toList.drop 9).take 9
noncomputable def lC : List Oper := ops5.toList.drop 18

theorem aopsN_append {E : Env} {self : Self} {ops : Array Oper} : ∀ (l1 l2 : List Oper) (T : List Value) (m : Mem) (T1 : List Value) (m1 : Mem), aopsN E self ops l1 T m = some (T1, m1) → aopsN E self ops (l1 ++ l2) T m = aopsN E self ops l2 T1 m1
  | [], l2, T, m, T1, m1, h => by
    simp only [aopsN, Option.some.injEq, Prod.mk.injEq] at h
    obtain ⟨rfl, rfl⟩ := h
    rfl
  | o :: l1, l2, T, m, T1, m1, h => by
    rw [List.cons_append]
    rw [aopsN] at h ⊢
    cases hg : agd ops T o with
    | none => rw [hg] at h; cases h
    | some g =>
      cases g with
      | false => rw [hg] at h; exact aopsN_append l1 l2 _ _ _ _ h
      | true =>
        rw [hg] at h
        cases hs : astep E self T m o with
        | none => simp only [hs] at h; cases h
        | some r =>
          obtain ⟨v, m2⟩ := r
          simp only [hs] at h ⊢
          exact aopsN_append l1 l2 _ _ _ _ h

theorem chunkA (t4 t5 t6 t7 t8 t9 t10 t11 t12 t13 t14 t15 t16 t17 t18 t19 t20 t21 t22 t23 t24 t25 t26 t27 t28 t29 t30 t31 t32 t33 t34 t35 t36 t37 t38 t39 t40 t41 t42 t43 t44 t45 t46 t47 t48 t49 t50 t51 t52 t53 t54 t55 t56 : Value) (h1 : ainv E self 40 [.slice (some ⟨m.length, 0, none⟩) 2 2] (m ++ [.row false 9 [.string a, .string b]]) = some (.string X1, m ++ [.row false 9 [.string a, .string b]])) (h2 : ainv E self 40 [.slice (some ⟨(m ++ [Blk.row false 9 [.string a, .string b]]).length, 0, none⟩) 2 2] (m ++ [.row false 9 [.string a, .string b]] ++ [.row false 9 [.string c, .string d]]) = some (.string X2, m ++ [.row false 9 [.string a, .string b]] ++ [.row false 9 [.string c, .string d]])) :
    aopsN E self ops5 lA [.string a, .string b, .string c, .string d, t4, t5, t6, t7, t8, t9, t10, t11, t12, t13, t14, t15, t16, t17, t18, t19, t20, t21, t22, t23, t24, t25, t26, t27, t28, t29, t30, t31, t32, t33, t34, t35, t36, t37, t38, t39, t40, t41, t42, t43, t44, t45, t46, t47, t48, t49, t50, t51, t52, t53, t54, t55, t56] m = some ([.string a, .string b, .string c, .string d, t4, t5, t6, t7, t8, t9, t10, t11, t12, t13, t14, t15, t16, t17, t18, t19, t20, .string a, .string b, .slice (some ⟨m.length, 0, none⟩) 2 2, .string X1, .string c, .string d, .slice (some ⟨(m ++ [Blk.row false 9 [.string a, .string b]]).length, 0, none⟩) 2 2, .string X2, .bool (X1.toList == X2.toList), t30, t31, t32, t33, t34, t35, t36, t37, t38, t39, t40, t41, t42, t43, t44, t45, t46, t47, t48, t49, t50, t51, t52, t53, t54, t55, t56], m ++ [.row false 9 [.string a, .string b]] ++ [.row false 9 [.string c, .string d]]) := by
  have hl : lA = lA := rfl
  conv at hl => rhs; simp only [lA, ops5, Tryd.f9, List.take]
  rw [hl]
  simp only [aopsN, agd0, astep, aop, ev, nth_zero, nth_succ, aput, setAt_zero, setAt_succ, Option.map_some, List.map_cons, List.map_nil, List.isEmpty_nil, Bool.and_self, if_true, call40, build2, h1, h2, p29]

theorem chunkBt (t4 t5 t6 t7 t8 t9 t10 t11 t12 t13 t14 t15 t16 t17 t18 t19 t20 t21 t22 t23 t24 t25 t26 t27 t28 t30 t31 t32 t33 t34 t35 t36 t37 t38 t39 t40 t41 t42 t43 t44 t45 t46 t47 t48 t49 t50 t51 t52 t53 t54 t55 t56 : Value) (e : Bool) (hac : (a.toList == c.toList) = true) :
    aopsN E self ops5 lB [.string a, .string b, .string c, .string d, t4, t5, t6, t7, t8, t9, t10, t11, t12, t13, t14, t15, t16, t17, t18, t19, t20, t21, t22, t23, t24, t25, t26, t27, t28, .bool e, t30, t31, t32, t33, t34, t35, t36, t37, t38, t39, t40, t41, t42, t43, t44, t45, t46, t47, t48, t49, t50, t51, t52, t53, t54, t55, t56] m = some ([.string a, .string b, .string c, .string d, t4, t5, t6, t7, t8, t9, t10, t11, t12, t13, t14, t15, t16, t17, t18, t19, t20, t21, t22, t23, t24, t25, t26, t27, t28, .bool e, .string a, .string c, .bool true, .bool true, .string b, .string d, .bool (b.toList == d.toList), .bool (b.toList == d.toList), .bool (e == (b.toList == d.toList)), t39, t40, t41, t42, t43, t44, t45, t46, t47, t48, t49, t50, t51, t52, t53, t54, t55, t56], m) := by
  have hl : lB = lB := rfl
  conv at hl => rhs; simp only [lB, ops5, Tryd.f9, List.take, List.drop]
  rw [hl]
  simp only [aopsN, agd0, agd12, gdAt, astep, aop, ev, nth_zero, nth_succ, aput, setAt_zero, setAt_succ, Option.map_some, if_true, p32, p36, p38, hac, List.getElem?_cons_succ, List.getElem?_cons_zero, beq_self_eq_true]

theorem chunkBf (t4 t5 t6 t7 t8 t9 t10 t11 t12 t13 t14 t15 t16 t17 t18 t19 t20 t21 t22 t23 t24 t25 t26 t27 t28 t30 t31 t32 t33 t34 t35 t36 t37 t38 t39 t40 t41 t42 t43 t44 t45 t46 t47 t48 t49 t50 t51 t52 t53 t54 t55 t56 : Value) (e : Bool) (hac : (a.toList == c.toList) = false) :
    aopsN E self ops5 lB [.string a, .string b, .string c, .string d, t4, t5, t6, t7, t8, t9, t10, t11, t12, t13, t14, t15, t16, t17, t18, t19, t20, t21, t22, t23, t24, t25, t26, t27, t28, .bool e, t30, t31, t32, t33, t34, t35, t36, t37, t38, t39, t40, t41, t42, t43, t44, t45, t46, t47, t48, t49, t50, t51, t52, t53, t54, t55, t56] m = some ([.string a, .string b, .string c, .string d, t4, t5, t6, t7, t8, t9, t10, t11, t12, t13, t14, t15, t16, t17, t18, t19, t20, t21, t22, t23, t24, t25, t26, t27, t28, .bool e, .string a, .string c, .bool false, .bool false, undef, undef, undef, .bool false, .bool (e == false), t39, t40, t41, t42, t43, t44, t45, t46, t47, t48, t49, t50, t51, t52, t53, t54, t55, t56], m) := by
  have hl : lB = lB := rfl
  conv at hl => rhs; simp only [lB, ops5, Tryd.f9, List.take, List.drop]
  rw [hl]
  simp only [aopsN, agd0, agd12, gdAt, astep, aop, ev, nth_zero, nth_succ, aput, setAt_zero, setAt_succ, Option.map_some, if_true, p32, p36, p38, hac, List.getElem?_cons_succ, List.getElem?_cons_zero, Bool.false_beq, Bool.not_true, Bool.false_eq_true, if_false]

theorem chunkC (t4 t5 t6 t7 t8 t9 t10 t11 t12 t13 t14 t15 t16 t17 t18 t19 t20 t21 t22 t23 t24 t25 t26 t27 t28 t29 t30 t31 t32 t33 t34 t35 t36 t37 t39 t40 t41 t42 t43 t44 t45 t46 t47 t48 t49 t50 t51 t52 t53 t54 t55 t56 : Value) (h3 : ainv E self 40 [.slice (some ⟨m.length, 0, none⟩) 3 3] (m ++ [.row false 9 [.string a, .string b, .string c]]) = some (.string X3, m ++ [.row false 9 [.string a, .string b, .string c]]))
    (e2 : (lenI X3 == wrapF .i64 (wrapF .i64 (wrapF .i64 (lenI a + lenI b) + lenI c) + 6)) = true) :
    ∃ T', aopsN E self ops5 lC [.string a, .string b, .string c, .string d, t4, t5, t6, t7, t8, t9, t10, t11, t12, t13, t14, t15, t16, t17, t18, t19, t20, t21, t22, t23, t24, t25, t26, t27, t28, t29, t30, t31, t32, t33, t34, t35, t36, t37, .bool true, t39, t40, t41, t42, t43, t44, t45, t46, t47, t48, t49, t50, t51, t52, t53, t54, t55, t56] m = some (T', m ++ [.row false 9 [.string a, .string b, .string c]]) ∧ nth T' 8 = .bool true := by
  have hl : lC = lC := rfl
  conv at hl => rhs; simp only [lC, ops5, Tryd.f9, List.drop]
  rw [hl]
  simp (maxSteps := 1000000) only [aopsN, agd0, agd18, gdAt, astep, aop, ev, nth_zero, nth_succ, aput, setAt_zero, setAt_succ, Option.map_some, List.map_cons, List.map_nil, List.isEmpty_nil, Bool.and_self, if_true, call40, build3, h3, abuiltin, alen, show E.P.underlying 9 = some .string from Tryd.underlying9, add64', eql64, e2, List.getElem?_cons_succ, List.getElem?_cons_zero, beq_self_eq_true]
  exact ⟨_, rfl, rfl⟩

noncomputable def c90 : Code := match Tryd.f9.body with
  | some (.seq c _) => c
  | _ => .skip
noncomputable def c91 : Code := match Tryd.f9.body with
  | some (.seq _ (.seq c _)) => c
  | _ => .skip
noncomputable def c92 : Code := match Tryd.f9.body with
  | some (.seq _ (.seq _ (.seq c _))) => c
  | _ => .skip
theorem body9 : Tryd.f9.body = some (.seq c90 (.seq c91 (.seq c92 (.seq (.region 5 ops5 false) .ret)))) := rfl
theorem ops5_eq : ops5.toList = lA ++ (lB ++ lC) := by kernel_rfl

theorem pre9 (hw : ainv E self 36 [] m = some (.bool true, m)) (hsmall : decide (max4I (lenI a) (lenI b) (lenI c) (lenI d) > 500) = false) (rest : Code) :
    acodeN E self nf (.seq c90 (.seq c91 (.seq c92 rest))) [.string a, .string b, .string c, .string d, undef, undef, undef, undef, undef, undef, undef, undef, undef, undef, undef, undef, undef, undef, undef, undef, undef, undef, undef, undef, undef, undef, undef, undef, undef, undef, undef, undef, undef, undef, undef, undef, undef, undef, undef, undef, undef, undef, undef, undef, undef, undef, undef, undef, undef, undef, undef, undef, undef, undef, undef, undef, undef] m = acodeN E self nf rest [.string a, .string b, .string c, .string d, undef, undef, undef, undef, .bool false, .bool true, .bool false, .string a, .int .i64 (lenI a), .string b, .int .i64 (lenI b), .string c, .int .i64 (lenI c), .string d, .int .i64 (lenI d), .int .i64 (max4I (lenI a) (lenI b) (lenI c) (lenI d)), .bool false, undef, undef, undef, undef, undef, undef, undef, undef, undef, undef, undef, undef, undef, undef, undef, undef, undef, undef, undef, undef, undef, undef, undef, undef, undef, undef, undef, undef, undef, undef, undef, undef, undef, undef, undef, undef] m := by
  simp only [c90, c91, c92, Tryd.f9, acodeN, aopsN, agd, astep, aop, ev, nth_zero, nth_succ, aput, setAt_zero, setAt_succ, Option.map_some, call36, hw, List.map_nil, List.isEmpty_nil, Bool.and_self, if_true, Bool.not_true, abuiltin, alen, show E.P.underlying 9 = some .string from Tryd.underlying9, p19, gtr64, hsmall]

theorem short9 (hw : ainv E self 36 [] m = some (.bool true, m)) (hsmall : decide (max4I (lenI a) (lenI b) (lenI c) (lenI d) > 500) = false)
    (h1 : ainv E self 40 [.slice (some ⟨m.length, 0, none⟩) 2 2] (m ++ [.row false 9 [.string a, .string b]]) = some (.string X1, m ++ [.row false 9 [.string a, .string b]]))
    (h2 : ainv E self 40 [.slice (some ⟨(m ++ [Blk.row false 9 [.string a, .string b]]).length, 0, none⟩) 2 2] (m ++ [.row false 9 [.string a, .string b]] ++ [.row false 9 [.string c, .string d]]) = some (.string X2, m ++ [.row false 9 [.string a, .string b]] ++ [.row false 9 [.string c, .string d]]))
    (h3 : ainv E self 40 [.slice (some ⟨(m ++ [Blk.row false 9 [.string a, .string b]] ++ [Blk.row false 9 [.string c, .string d]]).length, 0, none⟩) 3 3] (m ++ [.row false 9 [.string a, .string b]] ++ [.row false 9 [.string c, .string d]] ++ [.row false 9 [.string a, .string b, .string c]]) = some (.string X3, m ++ [.row false 9 [.string a, .string b]] ++ [.row false 9 [.string c, .string d]] ++ [.row false 9 [.string a, .string b, .string c]]))
    (e1 : (X1.toList == X2.toList) = ((a.toList == c.toList) && (b.toList == d.toList)))
    (e2 : (lenI X3 == wrapF .i64 (wrapF .i64 (wrapF .i64 (lenI a + lenI b) + lenI c) + 6)) = true) :
    ∃ m', abody E self nf 9 [.string a, .string b, .string c, .string d] m = some (.bool true, m') := by
  rw [abody_eqN (by kernel_rfl) Tryd.func9 body9 (by kernel_rfl)]
  rw [show ([Value.string a, .string b, .string c, .string d] ++ List.replicate (Tryd.f9.ntmps - [Value.string a, .string b, .string c, .string d].length) undef) = [.string a, .string b, .string c, .string d, undef, undef, undef, undef, undef, undef, undef, undef, undef, undef, undef, undef, undef, undef, undef, undef, undef, undef, undef, undef, undef, undef, undef, undef, undef, undef, undef, undef, undef, undef, undef, undef, undef, undef, undef, undef, undef, undef, undef, undef, undef, undef, undef, undef, undef, undef, undef, undef, undef, undef, undef, undef, undef] from rfl]
  rw [pre9 hw hsmall]
  have key : ∃ T' m', aopsN E self ops5 ops5.toList [.string a, .string b, .string c, .string d, undef, undef, undef, undef, .bool false, .bool true, .bool false, .string a, .int .i64 (lenI a), .string b, .int .i64 (lenI b), .string c, .int .i64 (lenI c), .string d, .int .i64 (lenI d), .int .i64 (max4I (lenI a) (lenI b) (lenI c) (lenI d)), .bool false, undef, undef, undef, undef, undef, undef, undef, undef, undef, undef, undef, undef, undef, undef, undef, undef, undef, undef, undef, undef, undef, undef, undef, undef, undef, undef, undef, undef, undef, undef, undef, undef, undef, undef, undef, undef] m = some (T', m') ∧ nth T' 8 = .bool true := by
    rw [ops5_eq, aopsN_append lA _ _ _ _ _ (chunkA _ _ _ _ _ _ _ _ _ _ _ _ _ _ _ _ _ _ _ _ _ _ _ _ _ _ _ _ _ _ _ _ _ _ _ _ _ _ _ _ _ _ _ _ _ _ _ _ _ _ _ _ _ h1 h2), e1]
    cases hac : (a.toList == c.toList) with
    | true =>
      rw [aopsN_append lB _ _ _ _ _ (chunkBt _ _ _ _ _ _ _ _ _ _ _ _ _ _ _ _ _ _ _ _ _ _ _ _ _ _ _ _ _ _ _ _ _ _ _ _ _ _ _ _ _ _ _ _ _ _ _ _ _ _ _ _ _ hac)]
      have hb : ((true && (b.toList == d.toList)) == (b.toList == d.toList)) = true := by simp
      rw [hb]
      obtain ⟨T', hT, h8⟩ := chunkC _ _ _ _ _ _ _ _ _ _ _ _ _ _ _ _ _ _ _ _ _ _ _ _ _ _ _ _ _ _ _ _ _ _ _ _ _ _ _ _ _ _ _ _ _ _ _ _ _ _ _ _ h3 e2
      exact ⟨T', _, hT, h8⟩
    | false =>
      rw [aopsN_append lB _ _ _ _ _ (chunkBf _ _ _ _ _ _ _ _ _ _ _ _ _ _ _ _ _ _ _ _ _ _ _ _ _ _ _ _ _ _ _ _ _ _ _ _ _ _ _ _ _ _ _ _ _ _ _ _ _ _ _ _ _ hac)]
      have hb : ((false && (b.toList == d.toList)) == false) = true := by simp
      rw [hb]
      obtain ⟨T', hT, h8⟩ := chunkC _ _ _ _ _ _ _ _ _ _ _ _ _ _ _ _ _ _ _ _ _ _ _ _ _ _ _ _ _ _ _ _ _ _ _ _ _ _ _ _ _ _ _ _ _ _ _ _ _ _ _ _ h3 e2
      exact ⟨T', _, hT, h8⟩
  obtain ⟨T', m', hT, h8⟩ := key
  refine ⟨m', ?_⟩
  simp only [acodeN, hT, finish, ares]
  rw [show Tryd.f9.results.toList = [.tmp 8] from rfl]
  simp only [aresL, ares1, h8]
  rfl
end
end Go.Am.Seat
