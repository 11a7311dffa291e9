/-
  Texts of my own, put together: BU0, BU1.
-/
import Derived.Test.YtalilffocbkfnaaGrBudgetTexts8
import Derived.Test.YtalilffocbkfnaaGrBudgetTexts9
import Derived.Test.YtalilffocbkfnaaGrBudgetTexts10
/-
  The budget's functions: skeletons (own work).
-/
set_option linter.unusedSimpArgs false
set_option linter.unusedVariables false
namespace Go.Am.Seat
open Go.Proofs Go.Am
set_option maxRecDepth 100000

noncomputable def rbst_0 : Array Oper := match Try.f3.body with
  | some (.seq (.region _ o _) _) => o
  | _ => #[]
noncomputable def lbst_0 : List Oper := match Try.f3.body with
  | some (.seq (.region _ o _) _) => o.toList
  | _ => []
theorem ebst_0 : rbst_0.toList = lbst_0 := rfl
noncomputable def rbst_1 : Array Oper := match Try.f3.body with
  | some (.seq _ (.seq (.seq (.region _ o _) _) _)) => o
  | _ => #[]
noncomputable def lbst_1 : List Oper := match Try.f3.body with
  | some (.seq _ (.seq (.seq (.region _ o _) _) _)) => o.toList
  | _ => []
theorem ebst_1 : rbst_1.toList = lbst_1 := rfl
noncomputable def rbst_2 : Array Oper := match Try.f3.body with
  | some (.seq _ (.seq (.seq _ (.cond _ (.seq (.region _ o _) _) _)) _)) => o
  | _ => #[]
noncomputable def lbst_2 : List Oper := match Try.f3.body with
  | some (.seq _ (.seq (.seq _ (.cond _ (.seq (.region _ o _) _) _)) _)) => o.toList
  | _ => []
theorem ebst_2 : rbst_2.toList = lbst_2 := rfl
noncomputable def rbst_3 : Array Oper := match Try.f3.body with
  | some (.seq _ (.seq _ (.seq (.region _ o _) _))) => o
  | _ => #[]
noncomputable def lbst_3 : List Oper := match Try.f3.body with
  | some (.seq _ (.seq _ (.seq (.region _ o _) _))) => o.toList
  | _ => []
theorem ebst_3 : rbst_3.toList = lbst_3 := rfl
noncomputable def rbst_4 : Array Oper := match Try.f3.body with
  | some (.seq _ (.seq _ (.seq _ (.seq (.seq (.region _ o _) _) _)))) => o
  | _ => #[]
noncomputable def lbst_4 : List Oper := match Try.f3.body with
  | some (.seq _ (.seq _ (.seq _ (.seq (.seq (.region _ o _) _) _)))) => o.toList
  | _ => []
theorem ebst_4 : rbst_4.toList = lbst_4 := rfl
noncomputable def rbst_5 : Array Oper := match Try.f3.body with
  | some (.seq _ (.seq _ (.seq _ (.seq (.seq _ (.cond _ (.seq (.region _ o _) _) _)) _)))) => o
  | _ => #[]
noncomputable def lbst_5 : List Oper := match Try.f3.body with
  | some (.seq _ (.seq _ (.seq _ (.seq (.seq _ (.cond _ (.seq (.region _ o _) _) _)) _)))) => o.toList
  | _ => []
theorem ebst_5 : rbst_5.toList = lbst_5 := rfl
noncomputable def rbst_6 : Array Oper := match Try.f3.body with
  | some (.seq _ (.seq _ (.seq _ (.seq _ (.seq (.region _ o _) _))))) => o
  | _ => #[]
noncomputable def lbst_6 : List Oper := match Try.f3.body with
  | some (.seq _ (.seq _ (.seq _ (.seq _ (.seq (.region _ o _) _))))) => o.toList
  | _ => []
theorem ebst_6 : rbst_6.toList = lbst_6 := rfl
noncomputable def rbst_7 : Array Oper := match Try.f3.body with
  | some (.seq _ (.seq _ (.seq _ (.seq _ (.seq _ (.seq (.region _ o _) _)))))) => o
  | _ => #[]
noncomputable def lbst_7 : List Oper := match Try.f3.body with
  | some (.seq _ (.seq _ (.seq _ (.seq _ (.seq _ (.seq (.region _ o _) _)))))) => o.toList
  | _ => []
theorem ebst_7 : rbst_7.toList = lbst_7 := rfl
noncomputable def rbst_8 : Array Oper := match Try.f3.body with
  | some (.seq _ (.seq _ (.seq _ (.seq _ (.seq _ (.seq _ (.seq (.region _ o _) _))))))) => o
  | _ => #[]
noncomputable def lbst_8 : List Oper := match Try.f3.body with
  | some (.seq _ (.seq _ (.seq _ (.seq _ (.seq _ (.seq _ (.seq (.region _ o _) _))))))) => o.toList
  | _ => []
theorem ebst_8 : rbst_8.toList = lbst_8 := rfl
noncomputable def rbst_9 : Array Oper := match Try.f3.body with
  | some (.seq _ (.seq _ (.seq _ (.seq _ (.seq _ (.seq _ (.seq _ (.seq (.region _ o _) _)))))))) => o
  | _ => #[]
noncomputable def lbst_9 : List Oper := match Try.f3.body with
  | some (.seq _ (.seq _ (.seq _ (.seq _ (.seq _ (.seq _ (.seq _ (.seq (.region _ o _) _)))))))) => o.toList
  | _ => []
theorem ebst_9 : rbst_9.toList = lbst_9 := rfl
noncomputable def rbst_10 : Array Oper := match Try.f3.body with
  | some (.seq _ (.seq _ (.seq _ (.seq _ (.seq _ (.seq _ (.seq _ (.seq _ (.seq (.seq (.region _ o _) _) _))))))))) => o
  | _ => #[]
noncomputable def lbst_10 : List Oper := match Try.f3.body with
  | some (.seq _ (.seq _ (.seq _ (.seq _ (.seq _ (.seq _ (.seq _ (.seq _ (.seq (.seq (.region _ o _) _) _))))))))) => o.toList
  | _ => []
theorem ebst_10 : rbst_10.toList = lbst_10 := rfl
theorem gbst_10_3 {T : List Value} {dd : Option Tmp} {op : Op} {ty : TypeId} {pos : String} {af : Array Edge} {want : Bool} : agd rbst_10 T { dst := dd, op := op, type := ty, pos := pos, after := af, guard := some (3, want) } = gdAt T 64 want := agd_at (by kernel_rfl)
theorem gbst_10_8 {T : List Value} {dd : Option Tmp} {op : Op} {ty : TypeId} {pos : String} {af : Array Edge} {want : Bool} : agd rbst_10 T { dst := dd, op := op, type := ty, pos := pos, after := af, guard := some (8, want) } = gdAt T 69 want := agd_at (by kernel_rfl)
theorem gbst_10_15 {T : List Value} {dd : Option Tmp} {op : Op} {ty : TypeId} {pos : String} {af : Array Edge} {want : Bool} : agd rbst_10 T { dst := dd, op := op, type := ty, pos := pos, after := af, guard := some (15, want) } = gdAt T 76 want := agd_at (by kernel_rfl)
theorem gbst_10_20 {T : List Value} {dd : Option Tmp} {op : Op} {ty : TypeId} {pos : String} {af : Array Edge} {want : Bool} : agd rbst_10 T { dst := dd, op := op, type := ty, pos := pos, after := af, guard := some (20, want) } = gdAt T 81 want := agd_at (by kernel_rfl)
theorem gbst_10_26 {T : List Value} {dd : Option Tmp} {op : Op} {ty : TypeId} {pos : String} {af : Array Edge} {want : Bool} : agd rbst_10 T { dst := dd, op := op, type := ty, pos := pos, after := af, guard := some (26, want) } = gdAt T 87 want := agd_at (by kernel_rfl)
theorem gbst_10_29 {T : List Value} {dd : Option Tmp} {op : Op} {ty : TypeId} {pos : String} {af : Array Edge} {want : Bool} : agd rbst_10 T { dst := dd, op := op, type := ty, pos := pos, after := af, guard := some (29, want) } = gdAt T 90 want := agd_at (by kernel_rfl)
theorem gbst_10_34 {T : List Value} {dd : Option Tmp} {op : Op} {ty : TypeId} {pos : String} {af : Array Edge} {want : Bool} : agd rbst_10 T { dst := dd, op := op, type := ty, pos := pos, after := af, guard := some (34, want) } = gdAt T 95 want := agd_at (by kernel_rfl)
theorem gbst_10_43 {T : List Value} {dd : Option Tmp} {op : Op} {ty : TypeId} {pos : String} {af : Array Edge} {want : Bool} : agd rbst_10 T { dst := dd, op := op, type := ty, pos := pos, after := af, guard := some (43, want) } = gdAt T 104 want := agd_at (by kernel_rfl)
theorem dbst_10 {self : Self} {B : Nat} {T : List Value} {m : Mem} {lb : List (Nat × Nat)} {ls : Bool} : adrawN E self rbst_10 B rbst_10.toList 0 T m lb ls = adrawT E self rbst_10 B rbst_10.toList [(false, false), (false, false), (false, false), (false, false), (false, false), (false, false), (false, false), (false, false), (false, false), (false, false), (false, false), (false, false), (false, false), (false, false), (false, false), (false, false), (false, false), (false, false), (false, false), (false, false), (false, false), (false, false), (false, false), (false, false), (false, false), (false, false), (false, false), (false, false), (false, false), (false, false), (false, false), (false, false), (false, false), (false, false), (false, false), (false, false), (false, false), (false, false), (false, false), (false, false), (false, false), (false, false), (false, false), (false, false), (false, false), (false, false), (false, false), (false, false), (false, false), (false, false), (false, false), (false, false), (false, false)] 0 T m lb ls := adraw_tab (by kernel_rfl)
theorem sbst_10 : E.sr 10 rbst_10 = false := by kernel_rfl
noncomputable def rbst_11 : Array Oper := match Try.f3.body with
  | some (.seq _ (.seq _ (.seq _ (.seq _ (.seq _ (.seq _ (.seq _ (.seq _ (.seq (.seq _ (.cond _ (.seq (.region _ o _) _) _)) _))))))))) => o
  | _ => #[]
noncomputable def lbst_11 : List Oper := match Try.f3.body with
  | some (.seq _ (.seq _ (.seq _ (.seq _ (.seq _ (.seq _ (.seq _ (.seq _ (.seq (.seq _ (.cond _ (.seq (.region _ o _) _) _)) _))))))))) => o.toList
  | _ => []
theorem ebst_11 : rbst_11.toList = lbst_11 := rfl
noncomputable def rbst_12 : Array Oper := match Try.f3.body with
  | some (.seq _ (.seq _ (.seq _ (.seq _ (.seq _ (.seq _ (.seq _ (.seq _ (.seq _ (.seq (.region _ o _) _)))))))))) => o
  | _ => #[]
noncomputable def lbst_12 : List Oper := match Try.f3.body with
  | some (.seq _ (.seq _ (.seq _ (.seq _ (.seq _ (.seq _ (.seq _ (.seq _ (.seq _ (.seq (.region _ o _) _)))))))))) => o.toList
  | _ => []
theorem ebst_12 : rbst_12.toList = lbst_12 := rfl
noncomputable def rbst_13 : Array Oper := match Try.f3.body with
  | some (.seq _ (.seq _ (.seq _ (.seq _ (.seq _ (.seq _ (.seq _ (.seq _ (.seq _ (.seq _ (.seq (.region _ o _) _))))))))))) => o
  | _ => #[]
noncomputable def lbst_13 : List Oper := match Try.f3.body with
  | some (.seq _ (.seq _ (.seq _ (.seq _ (.seq _ (.seq _ (.seq _ (.seq _ (.seq _ (.seq _ (.seq (.region _ o _) _))))))))))) => o.toList
  | _ => []
theorem ebst_13 : rbst_13.toList = lbst_13 := rfl
noncomputable def rbst_14 : Array Oper := match Try.f3.body with
  | some (.seq _ (.seq _ (.seq _ (.seq _ (.seq _ (.seq _ (.seq _ (.seq _ (.seq _ (.seq _ (.seq _ (.seq (.region _ o _) _)))))))))))) => o
  | _ => #[]
noncomputable def lbst_14 : List Oper := match Try.f3.body with
  | some (.seq _ (.seq _ (.seq _ (.seq _ (.seq _ (.seq _ (.seq _ (.seq _ (.seq _ (.seq _ (.seq _ (.seq (.region _ o _) _)))))))))))) => o.toList
  | _ => []
theorem ebst_14 : rbst_14.toList = lbst_14 := rfl
noncomputable def rbst_15 : Array Oper := match Try.f3.body with
  | some (.seq _ (.seq _ (.seq _ (.seq _ (.seq _ (.seq _ (.seq _ (.seq _ (.seq _ (.seq _ (.seq _ (.seq _ (.seq (.region _ o _) _))))))))))))) => o
  | _ => #[]
noncomputable def lbst_15 : List Oper := match Try.f3.body with
  | some (.seq _ (.seq _ (.seq _ (.seq _ (.seq _ (.seq _ (.seq _ (.seq _ (.seq _ (.seq _ (.seq _ (.seq _ (.seq (.region _ o _) _))))))))))))) => o.toList
  | _ => []
theorem ebst_15 : rbst_15.toList = lbst_15 := rfl
noncomputable def rbst_16 : Array Oper := match Try.f3.body with
  | some (.seq _ (.seq _ (.seq _ (.seq _ (.seq _ (.seq _ (.seq _ (.seq _ (.seq _ (.seq _ (.seq _ (.seq _ (.seq _ (.seq (.region _ o _) _)))))))))))))) => o
  | _ => #[]
noncomputable def lbst_16 : List Oper := match Try.f3.body with
  | some (.seq _ (.seq _ (.seq _ (.seq _ (.seq _ (.seq _ (.seq _ (.seq _ (.seq _ (.seq _ (.seq _ (.seq _ (.seq _ (.seq (.region _ o _) _)))))))))))))) => o.toList
  | _ => []
theorem ebst_16 : rbst_16.toList = lbst_16 := rfl
noncomputable def rbst_17 : Array Oper := match Try.f3.body with
  | some (.seq _ (.seq _ (.seq _ (.seq _ (.seq _ (.seq _ (.seq _ (.seq _ (.seq _ (.seq _ (.seq _ (.seq _ (.seq _ (.seq _ (.seq (.region _ o _) _))))))))))))))) => o
  | _ => #[]
noncomputable def lbst_17 : List Oper := match Try.f3.body with
  | some (.seq _ (.seq _ (.seq _ (.seq _ (.seq _ (.seq _ (.seq _ (.seq _ (.seq _ (.seq _ (.seq _ (.seq _ (.seq _ (.seq _ (.seq (.region _ o _) _))))))))))))))) => o.toList
  | _ => []
theorem ebst_17 : rbst_17.toList = lbst_17 := rfl
noncomputable def rbst_18 : Array Oper := match Try.f3.body with
  | some (.seq _ (.seq _ (.seq _ (.seq _ (.seq _ (.seq _ (.seq _ (.seq _ (.seq _ (.seq _ (.seq _ (.seq _ (.seq _ (.seq _ (.seq _ (.seq (.region _ o _) _)))))))))))))))) => o
  | _ => #[]
noncomputable def lbst_18 : List Oper := match Try.f3.body with
  | some (.seq _ (.seq _ (.seq _ (.seq _ (.seq _ (.seq _ (.seq _ (.seq _ (.seq _ (.seq _ (.seq _ (.seq _ (.seq _ (.seq _ (.seq _ (.seq (.region _ o _) _)))))))))))))))) => o.toList
  | _ => []
theorem ebst_18 : rbst_18.toList = lbst_18 := rfl
noncomputable def rbst_19 : Array Oper := match Try.f3.body with
  | some (.seq _ (.seq _ (.seq _ (.seq _ (.seq _ (.seq _ (.seq _ (.seq _ (.seq _ (.seq _ (.seq _ (.seq _ (.seq _ (.seq _ (.seq _ (.seq _ (.seq (.seq (.region _ o _) _) _))))))))))))))))) => o
  | _ => #[]
noncomputable def lbst_19 : List Oper := match Try.f3.body with
  | some (.seq _ (.seq _ (.seq _ (.seq _ (.seq _ (.seq _ (.seq _ (.seq _ (.seq _ (.seq _ (.seq _ (.seq _ (.seq _ (.seq _ (.seq _ (.seq _ (.seq (.seq (.region _ o _) _) _))))))))))))))))) => o.toList
  | _ => []
theorem ebst_19 : rbst_19.toList = lbst_19 := rfl
theorem gbst_19_3 {T : List Value} {dd : Option Tmp} {op : Op} {ty : TypeId} {pos : String} {af : Array Edge} {want : Bool} : agd rbst_19 T { dst := dd, op := op, type := ty, pos := pos, after := af, guard := some (3, want) } = gdAt T 153 want := agd_at (by kernel_rfl)
theorem gbst_19_8 {T : List Value} {dd : Option Tmp} {op : Op} {ty : TypeId} {pos : String} {af : Array Edge} {want : Bool} : agd rbst_19 T { dst := dd, op := op, type := ty, pos := pos, after := af, guard := some (8, want) } = gdAt T 158 want := agd_at (by kernel_rfl)
theorem gbst_19_13 {T : List Value} {dd : Option Tmp} {op : Op} {ty : TypeId} {pos : String} {af : Array Edge} {want : Bool} : agd rbst_19 T { dst := dd, op := op, type := ty, pos := pos, after := af, guard := some (13, want) } = gdAt T 163 want := agd_at (by kernel_rfl)
theorem gbst_19_17 {T : List Value} {dd : Option Tmp} {op : Op} {ty : TypeId} {pos : String} {af : Array Edge} {want : Bool} : agd rbst_19 T { dst := dd, op := op, type := ty, pos := pos, after := af, guard := some (17, want) } = gdAt T 167 want := agd_at (by kernel_rfl)
theorem gbst_19_22 {T : List Value} {dd : Option Tmp} {op : Op} {ty : TypeId} {pos : String} {af : Array Edge} {want : Bool} : agd rbst_19 T { dst := dd, op := op, type := ty, pos := pos, after := af, guard := some (22, want) } = gdAt T 172 want := agd_at (by kernel_rfl)
theorem gbst_19_26 {T : List Value} {dd : Option Tmp} {op : Op} {ty : TypeId} {pos : String} {af : Array Edge} {want : Bool} : agd rbst_19 T { dst := dd, op := op, type := ty, pos := pos, after := af, guard := some (26, want) } = gdAt T 176 want := agd_at (by kernel_rfl)
theorem gbst_19_30 {T : List Value} {dd : Option Tmp} {op : Op} {ty : TypeId} {pos : String} {af : Array Edge} {want : Bool} : agd rbst_19 T { dst := dd, op := op, type := ty, pos := pos, after := af, guard := some (30, want) } = gdAt T 180 want := agd_at (by kernel_rfl)
theorem gbst_19_37 {T : List Value} {dd : Option Tmp} {op : Op} {ty : TypeId} {pos : String} {af : Array Edge} {want : Bool} : agd rbst_19 T { dst := dd, op := op, type := ty, pos := pos, after := af, guard := some (37, want) } = gdAt T 187 want := agd_at (by kernel_rfl)
theorem dbst_19 {self : Self} {B : Nat} {T : List Value} {m : Mem} {lb : List (Nat × Nat)} {ls : Bool} : adrawN E self rbst_19 B rbst_19.toList 0 T m lb ls = adrawT E self rbst_19 B rbst_19.toList [(false, false), (false, false), (false, false), (false, false), (false, false), (false, false), (false, false), (false, false), (false, false), (false, false), (false, false), (false, false), (false, false), (false, false), (false, false), (false, false), (false, false), (false, false), (false, false), (false, false), (false, false), (false, false), (false, false), (false, false), (false, false), (false, false), (false, false), (false, false), (false, false), (false, false), (false, false), (false, false), (false, false), (false, false), (false, false), (false, false), (false, false), (false, false), (false, false), (false, false), (false, false), (false, false), (false, false), (false, false), (false, false), (false, false), (false, false), (false, false)] 0 T m lb ls := adraw_tab (by kernel_rfl)
theorem sbst_19 : E.sr 19 rbst_19 = false := by kernel_rfl
noncomputable def rbst_20 : Array Oper := match Try.f3.body with
  | some (.seq _ (.seq _ (.seq _ (.seq _ (.seq _ (.seq _ (.seq _ (.seq _ (.seq _ (.seq _ (.seq _ (.seq _ (.seq _ (.seq _ (.seq _ (.seq _ (.seq (.seq _ (.cond _ (.seq (.region _ o _) _) _)) _))))))))))))))))) => o
  | _ => #[]
noncomputable def lbst_20 : List Oper := match Try.f3.body with
  | some (.seq _ (.seq _ (.seq _ (.seq _ (.seq _ (.seq _ (.seq _ (.seq _ (.seq _ (.seq _ (.seq _ (.seq _ (.seq _ (.seq _ (.seq _ (.seq _ (.seq (.seq _ (.cond _ (.seq (.region _ o _) _) _)) _))))))))))))))))) => o.toList
  | _ => []
theorem ebst_20 : rbst_20.toList = lbst_20 := rfl
noncomputable def rbst_21 : Array Oper := match Try.f3.body with
  | some (.seq _ (.seq _ (.seq _ (.seq _ (.seq _ (.seq _ (.seq _ (.seq _ (.seq _ (.seq _ (.seq _ (.seq _ (.seq _ (.seq _ (.seq _ (.seq _ (.seq _ (.seq (.seq (.region _ o _) _) _)))))))))))))))))) => o
  | _ => #[]
noncomputable def lbst_21 : List Oper := match Try.f3.body with
  | some (.seq _ (.seq _ (.seq _ (.seq _ (.seq _ (.seq _ (.seq _ (.seq _ (.seq _ (.seq _ (.seq _ (.seq _ (.seq _ (.seq _ (.seq _ (.seq _ (.seq _ (.seq (.seq (.region _ o _) _) _)))))))))))))))))) => o.toList
  | _ => []
theorem ebst_21 : rbst_21.toList = lbst_21 := rfl
theorem gbst_21_3 {T : List Value} {dd : Option Tmp} {op : Op} {ty : TypeId} {pos : String} {af : Array Edge} {want : Bool} : agd rbst_21 T { dst := dd, op := op, type := ty, pos := pos, after := af, guard := some (3, want) } = gdAt T 201 want := agd_at (by kernel_rfl)
theorem gbst_21_8 {T : List Value} {dd : Option Tmp} {op : Op} {ty : TypeId} {pos : String} {af : Array Edge} {want : Bool} : agd rbst_21 T { dst := dd, op := op, type := ty, pos := pos, after := af, guard := some (8, want) } = gdAt T 206 want := agd_at (by kernel_rfl)
noncomputable def rbst_22 : Array Oper := match Try.f3.body with
  | some (.seq _ (.seq _ (.seq _ (.seq _ (.seq _ (.seq _ (.seq _ (.seq _ (.seq _ (.seq _ (.seq _ (.seq _ (.seq _ (.seq _ (.seq _ (.seq _ (.seq _ (.seq (.seq _ (.cond _ (.seq (.region _ o _) _) _)) _)))))))))))))))))) => o
  | _ => #[]
noncomputable def lbst_22 : List Oper := match Try.f3.body with
  | some (.seq _ (.seq _ (.seq _ (.seq _ (.seq _ (.seq _ (.seq _ (.seq _ (.seq _ (.seq _ (.seq _ (.seq _ (.seq _ (.seq _ (.seq _ (.seq _ (.seq _ (.seq (.seq _ (.cond _ (.seq (.region _ o _) _) _)) _)))))))))))))))))) => o.toList
  | _ => []
theorem ebst_22 : rbst_22.toList = lbst_22 := rfl
noncomputable def rbst_23 : Array Oper := match Try.f3.body with
  | some (.seq _ (.seq _ (.seq _ (.seq _ (.seq _ (.seq _ (.seq _ (.seq _ (.seq _ (.seq _ (.seq _ (.seq _ (.seq _ (.seq _ (.seq _ (.seq _ (.seq _ (.seq _ (.seq (.region _ o _) _))))))))))))))))))) => o
  | _ => #[]
noncomputable def lbst_23 : List Oper := match Try.f3.body with
  | some (.seq _ (.seq _ (.seq _ (.seq _ (.seq _ (.seq _ (.seq _ (.seq _ (.seq _ (.seq _ (.seq _ (.seq _ (.seq _ (.seq _ (.seq _ (.seq _ (.seq _ (.seq _ (.seq (.region _ o _) _))))))))))))))))))) => o.toList
  | _ => []
theorem ebst_23 : rbst_23.toList = lbst_23 := rfl
theorem dbst_23 {self : Self} {B : Nat} {T : List Value} {m : Mem} {lb : List (Nat × Nat)} {ls : Bool} : adrawN E self rbst_23 B rbst_23.toList 0 T m lb ls = adrawT E self rbst_23 B rbst_23.toList [(false, false), (false, false), (false, false), (false, false), (false, false), (false, false), (false, false), (false, false)] 0 T m lb ls := adraw_tab (by kernel_rfl)
theorem sbst_23 : E.sr 23 rbst_23 = false := by kernel_rfl
theorem bodybst : Try.f3.body = some (.seq (.region 0 rbst_0 false) (.seq (.seq (.region 1 rbst_1 false) (.cond (.tmp 28) (.seq (.region 2 rbst_2 false) .ret) .skip)) (.seq (.region 3 rbst_3 false) (.seq (.seq (.region 4 rbst_4 false) (.cond (.tmp 32) (.seq (.region 5 rbst_5 false) .ret) .skip)) (.seq (.region 6 rbst_6 false) (.seq (.region 7 rbst_7 false) (.seq (.region 8 rbst_8 false) (.seq (.region 9 rbst_9 false) (.seq (.seq (.region 10 rbst_10 true) (.cond (.tmp 113) (.seq (.region 11 rbst_11 false) .ret) .skip)) (.seq (.region 12 rbst_12 false) (.seq (.region 13 rbst_13 false) (.seq (.region 14 rbst_14 false) (.seq (.region 15 rbst_15 false) (.seq (.region 16 rbst_16 false) (.seq (.region 17 rbst_17 false) (.seq (.region 18 rbst_18 false) (.seq (.seq (.region 19 rbst_19 true) (.cond (.tmp 197) (.seq (.region 20 rbst_20 false) .ret) .skip)) (.seq (.seq (.region 21 rbst_21 false) (.cond (.tmp 210) (.seq (.region 22 rbst_22 false) .ret) .skip)) (.seq (.region 23 rbst_23 true) .ret))))))))))))))))))) := rfl
-- ntmps 218
noncomputable def rbho_0 : Array Oper := match Try.f5.body with
  | some (.seq (.region _ o _) _) => o
  | _ => #[]
noncomputable def lbho_0 : List Oper := match Try.f5.body with
  | some (.seq (.region _ o _) _) => o.toList
  | _ => []
theorem ebho_0 : rbho_0.toList = lbho_0 := rfl
noncomputable def rbho_1 : Array Oper := match Try.f5.body with
  | some (.seq _ (.seq (.seq (.region _ o _) _) _)) => o
  | _ => #[]
noncomputable def lbho_1 : List Oper := match Try.f5.body with
  | some (.seq _ (.seq (.seq (.region _ o _) _) _)) => o.toList
  | _ => []
theorem ebho_1 : rbho_1.toList = lbho_1 := rfl
noncomputable def rbho_2 : Array Oper := match Try.f5.body with
  | some (.seq _ (.seq (.seq _ (.cond _ (.seq (.region _ o _) _) _)) _)) => o
  | _ => #[]
noncomputable def lbho_2 : List Oper := match Try.f5.body with
  | some (.seq _ (.seq (.seq _ (.cond _ (.seq (.region _ o _) _) _)) _)) => o.toList
  | _ => []
theorem ebho_2 : rbho_2.toList = lbho_2 := rfl
noncomputable def rbho_3 : Array Oper := match Try.f5.body with
  | some (.seq _ (.seq _ (.seq (.seq (.region _ o _) _) _))) => o
  | _ => #[]
noncomputable def lbho_3 : List Oper := match Try.f5.body with
  | some (.seq _ (.seq _ (.seq (.seq (.region _ o _) _) _))) => o.toList
  | _ => []
theorem ebho_3 : rbho_3.toList = lbho_3 := rfl
theorem gbho_3_3 {T : List Value} {dd : Option Tmp} {op : Op} {ty : TypeId} {pos : String} {af : Array Edge} {want : Bool} : agd rbho_3 T { dst := dd, op := op, type := ty, pos := pos, after := af, guard := some (3, want) } = gdAt T 21 want := agd_at (by kernel_rfl)
noncomputable def rbho_4 : Array Oper := match Try.f5.body with
  | some (.seq _ (.seq _ (.seq (.seq _ (.cond _ (.seq (.region _ o _) _) _)) _))) => o
  | _ => #[]
noncomputable def lbho_4 : List Oper := match Try.f5.body with
  | some (.seq _ (.seq _ (.seq (.seq _ (.cond _ (.seq (.region _ o _) _) _)) _))) => o.toList
  | _ => []
theorem ebho_4 : rbho_4.toList = lbho_4 := rfl
noncomputable def rbho_5 : Array Oper := match Try.f5.body with
  | some (.seq _ (.seq _ (.seq _ (.seq (.region _ o _) _)))) => o
  | _ => #[]
noncomputable def lbho_5 : List Oper := match Try.f5.body with
  | some (.seq _ (.seq _ (.seq _ (.seq (.region _ o _) _)))) => o.toList
  | _ => []
theorem ebho_5 : rbho_5.toList = lbho_5 := rfl
noncomputable def rbho_6 : Array Oper := match Try.f5.body with
  | some (.seq _ (.seq _ (.seq _ (.seq _ (.seq (.region _ o _) _))))) => o
  | _ => #[]
noncomputable def lbho_6 : List Oper := match Try.f5.body with
  | some (.seq _ (.seq _ (.seq _ (.seq _ (.seq (.region _ o _) _))))) => o.toList
  | _ => []
theorem ebho_6 : rbho_6.toList = lbho_6 := rfl
noncomputable def rbho_7 : Array Oper := match Try.f5.body with
  | some (.seq _ (.seq _ (.seq _ (.seq _ (.seq _ (.seq (.seq (.region _ o _) _) _)))))) => o
  | _ => #[]
noncomputable def lbho_7 : List Oper := match Try.f5.body with
  | some (.seq _ (.seq _ (.seq _ (.seq _ (.seq _ (.seq (.seq (.region _ o _) _) _)))))) => o.toList
  | _ => []
theorem ebho_7 : rbho_7.toList = lbho_7 := rfl
noncomputable def lpbho_0 : Code := match Try.f5.body with
  | some (.seq _ (.seq _ (.seq _ (.seq _ (.seq _ (.seq (.seq _ (.block _ (.loop c))) _)))))) => c
  | _ => .skip
noncomputable def rbho_8 : Array Oper := match Try.f5.body with
  | some (.seq _ (.seq _ (.seq _ (.seq _ (.seq _ (.seq (.seq _ (.block _ (.loop (.seq (.region _ o _) _)))) _)))))) => o
  | _ => #[]
noncomputable def lbho_8 : List Oper := match Try.f5.body with
  | some (.seq _ (.seq _ (.seq _ (.seq _ (.seq _ (.seq (.seq _ (.block _ (.loop (.seq (.region _ o _) _)))) _)))))) => o.toList
  | _ => []
theorem ebho_8 : rbho_8.toList = lbho_8 := rfl
noncomputable def rbho_9 : Array Oper := match Try.f5.body with
  | some (.seq _ (.seq _ (.seq _ (.seq _ (.seq _ (.seq (.seq _ (.block _ (.loop (.seq _ (.seq _ (.seq (.block _ (.seq (.region _ o _) _)) _)))))) _)))))) => o
  | _ => #[]
noncomputable def lbho_9 : List Oper := match Try.f5.body with
  | some (.seq _ (.seq _ (.seq _ (.seq _ (.seq _ (.seq (.seq _ (.block _ (.loop (.seq _ (.seq _ (.seq (.block _ (.seq (.region _ o _) _)) _)))))) _)))))) => o.toList
  | _ => []
theorem ebho_9 : rbho_9.toList = lbho_9 := rfl
noncomputable def rbho_10 : Array Oper := match Try.f5.body with
  | some (.seq _ (.seq _ (.seq _ (.seq _ (.seq _ (.seq (.seq _ (.block _ (.loop (.seq _ (.seq _ (.seq (.block _ (.seq _ (.seq (.region _ o _) _))) _)))))) _)))))) => o
  | _ => #[]
noncomputable def lbho_10 : List Oper := match Try.f5.body with
  | some (.seq _ (.seq _ (.seq _ (.seq _ (.seq _ (.seq (.seq _ (.block _ (.loop (.seq _ (.seq _ (.seq (.block _ (.seq _ (.seq (.region _ o _) _))) _)))))) _)))))) => o.toList
  | _ => []
theorem ebho_10 : rbho_10.toList = lbho_10 := rfl
noncomputable def rbho_11 : Array Oper := match Try.f5.body with
  | some (.seq _ (.seq _ (.seq _ (.seq _ (.seq _ (.seq (.seq _ (.block _ (.loop (.seq _ (.seq _ (.seq (.block _ (.seq _ (.seq _ (.seq (.seq (.region _ o _) _) _)))) _)))))) _)))))) => o
  | _ => #[]
noncomputable def lbho_11 : List Oper := match Try.f5.body with
  | some (.seq _ (.seq _ (.seq _ (.seq _ (.seq _ (.seq (.seq _ (.block _ (.loop (.seq _ (.seq _ (.seq (.block _ (.seq _ (.seq _ (.seq (.seq (.region _ o _) _) _)))) _)))))) _)))))) => o.toList
  | _ => []
theorem ebho_11 : rbho_11.toList = lbho_11 := rfl
noncomputable def rbho_12 : Array Oper := match Try.f5.body with
  | some (.seq _ (.seq _ (.seq _ (.seq _ (.seq _ (.seq (.seq _ (.block _ (.loop (.seq _ (.seq _ (.seq (.block _ (.seq _ (.seq _ (.seq (.seq _ (.cond _ (.seq (.region _ o _) _) _)) _)))) _)))))) _)))))) => o
  | _ => #[]
noncomputable def lbho_12 : List Oper := match Try.f5.body with
  | some (.seq _ (.seq _ (.seq _ (.seq _ (.seq _ (.seq (.seq _ (.block _ (.loop (.seq _ (.seq _ (.seq (.block _ (.seq _ (.seq _ (.seq (.seq _ (.cond _ (.seq (.region _ o _) _) _)) _)))) _)))))) _)))))) => o.toList
  | _ => []
theorem ebho_12 : rbho_12.toList = lbho_12 := rfl
noncomputable def rbho_13 : Array Oper := match Try.f5.body with
  | some (.seq _ (.seq _ (.seq _ (.seq _ (.seq _ (.seq (.seq _ (.block _ (.loop (.seq _ (.seq _ (.seq (.block _ (.seq _ (.seq _ (.seq (.seq _ (.cond _ (.seq _ (.region _ o _)) _)) _)))) _)))))) _)))))) => o
  | _ => #[]
noncomputable def lbho_13 : List Oper := match Try.f5.body with
  | some (.seq _ (.seq _ (.seq _ (.seq _ (.seq _ (.seq (.seq _ (.block _ (.loop (.seq _ (.seq _ (.seq (.block _ (.seq _ (.seq _ (.seq (.seq _ (.cond _ (.seq _ (.region _ o _)) _)) _)))) _)))))) _)))))) => o.toList
  | _ => []
theorem ebho_13 : rbho_13.toList = lbho_13 := rfl
noncomputable def rbho_14 : Array Oper := match Try.f5.body with
  | some (.seq _ (.seq _ (.seq _ (.seq _ (.seq _ (.seq (.seq _ (.block _ (.loop (.seq _ (.seq _ (.seq (.block _ (.seq _ (.seq _ (.seq _ (.seq (.seq (.region _ o _) _) _))))) _)))))) _)))))) => o
  | _ => #[]
noncomputable def lbho_14 : List Oper := match Try.f5.body with
  | some (.seq _ (.seq _ (.seq _ (.seq _ (.seq _ (.seq (.seq _ (.block _ (.loop (.seq _ (.seq _ (.seq (.block _ (.seq _ (.seq _ (.seq _ (.seq (.seq (.region _ o _) _) _))))) _)))))) _)))))) => o.toList
  | _ => []
theorem ebho_14 : rbho_14.toList = lbho_14 := rfl
noncomputable def rbho_15 : Array Oper := match Try.f5.body with
  | some (.seq _ (.seq _ (.seq _ (.seq _ (.seq _ (.seq (.seq _ (.block _ (.loop (.seq _ (.seq _ (.seq (.block _ (.seq _ (.seq _ (.seq _ (.seq (.seq _ (.cond _ (.seq (.region _ o _) _) _)) _))))) _)))))) _)))))) => o
  | _ => #[]
noncomputable def lbho_15 : List Oper := match Try.f5.body with
  | some (.seq _ (.seq _ (.seq _ (.seq _ (.seq _ (.seq (.seq _ (.block _ (.loop (.seq _ (.seq _ (.seq (.block _ (.seq _ (.seq _ (.seq _ (.seq (.seq _ (.cond _ (.seq (.region _ o _) _) _)) _))))) _)))))) _)))))) => o.toList
  | _ => []
theorem ebho_15 : rbho_15.toList = lbho_15 := rfl
noncomputable def rbho_16 : Array Oper := match Try.f5.body with
  | some (.seq _ (.seq _ (.seq _ (.seq _ (.seq _ (.seq (.seq _ (.block _ (.loop (.seq _ (.seq _ (.seq (.block _ (.seq _ (.seq _ (.seq _ (.seq (.seq _ (.cond _ (.seq _ (.seq (.region _ o _) _)) _)) _))))) _)))))) _)))))) => o
  | _ => #[]
noncomputable def lbho_16 : List Oper := match Try.f5.body with
  | some (.seq _ (.seq _ (.seq _ (.seq _ (.seq _ (.seq (.seq _ (.block _ (.loop (.seq _ (.seq _ (.seq (.block _ (.seq _ (.seq _ (.seq _ (.seq (.seq _ (.cond _ (.seq _ (.seq (.region _ o _) _)) _)) _))))) _)))))) _)))))) => o.toList
  | _ => []
theorem ebho_16 : rbho_16.toList = lbho_16 := rfl
noncomputable def rbho_17 : Array Oper := match Try.f5.body with
  | some (.seq _ (.seq _ (.seq _ (.seq _ (.seq _ (.seq (.seq _ (.block _ (.loop (.seq _ (.seq _ (.seq (.block _ (.seq _ (.seq _ (.seq _ (.seq (.seq _ (.cond _ (.seq _ (.seq _ (.seq (.region _ o _) _))) _)) _))))) _)))))) _)))))) => o
  | _ => #[]
noncomputable def lbho_17 : List Oper := match Try.f5.body with
  | some (.seq _ (.seq _ (.seq _ (.seq _ (.seq _ (.seq (.seq _ (.block _ (.loop (.seq _ (.seq _ (.seq (.block _ (.seq _ (.seq _ (.seq _ (.seq (.seq _ (.cond _ (.seq _ (.seq _ (.seq (.region _ o _) _))) _)) _))))) _)))))) _)))))) => o.toList
  | _ => []
theorem ebho_17 : rbho_17.toList = lbho_17 := rfl
noncomputable def rbho_18 : Array Oper := match Try.f5.body with
  | some (.seq _ (.seq _ (.seq _ (.seq _ (.seq _ (.seq (.seq _ (.block _ (.loop (.seq _ (.seq _ (.seq (.block _ (.seq _ (.seq _ (.seq _ (.seq _ (.seq (.region _ o _) _)))))) _)))))) _)))))) => o
  | _ => #[]
noncomputable def lbho_18 : List Oper := match Try.f5.body with
  | some (.seq _ (.seq _ (.seq _ (.seq _ (.seq _ (.seq (.seq _ (.block _ (.loop (.seq _ (.seq _ (.seq (.block _ (.seq _ (.seq _ (.seq _ (.seq _ (.seq (.region _ o _) _)))))) _)))))) _)))))) => o.toList
  | _ => []
theorem ebho_18 : rbho_18.toList = lbho_18 := rfl
noncomputable def rbho_19 : Array Oper := match Try.f5.body with
  | some (.seq _ (.seq _ (.seq _ (.seq _ (.seq _ (.seq (.seq _ (.block _ (.loop (.seq _ (.seq _ (.seq (.block _ (.seq _ (.seq _ (.seq _ (.seq _ (.seq _ (.seq (.seq (.region _ o _) _) _))))))) _)))))) _)))))) => o
  | _ => #[]
noncomputable def lbho_19 : List Oper := match Try.f5.body with
  | some (.seq _ (.seq _ (.seq _ (.seq _ (.seq _ (.seq (.seq _ (.block _ (.loop (.seq _ (.seq _ (.seq (.block _ (.seq _ (.seq _ (.seq _ (.seq _ (.seq _ (.seq (.seq (.region _ o _) _) _))))))) _)))))) _)))))) => o.toList
  | _ => []
theorem ebho_19 : rbho_19.toList = lbho_19 := rfl
noncomputable def rbho_20 : Array Oper := match Try.f5.body with
  | some (.seq _ (.seq _ (.seq _ (.seq _ (.seq _ (.seq (.seq _ (.block _ (.loop (.seq _ (.seq _ (.seq (.block _ (.seq _ (.seq _ (.seq _ (.seq _ (.seq _ (.seq (.seq _ (.cond _ (.seq (.region _ o _) _) _)) _))))))) _)))))) _)))))) => o
  | _ => #[]
noncomputable def lbho_20 : List Oper := match Try.f5.body with
  | some (.seq _ (.seq _ (.seq _ (.seq _ (.seq _ (.seq (.seq _ (.block _ (.loop (.seq _ (.seq _ (.seq (.block _ (.seq _ (.seq _ (.seq _ (.seq _ (.seq _ (.seq (.seq _ (.cond _ (.seq (.region _ o _) _) _)) _))))))) _)))))) _)))))) => o.toList
  | _ => []
theorem ebho_20 : rbho_20.toList = lbho_20 := rfl
noncomputable def rbho_21 : Array Oper := match Try.f5.body with
  | some (.seq _ (.seq _ (.seq _ (.seq _ (.seq _ (.seq (.seq _ (.block _ (.loop (.seq _ (.seq _ (.seq (.block _ (.seq _ (.seq _ (.seq _ (.seq _ (.seq _ (.seq _ (.seq (.seq (.region _ o _) _) _)))))))) _)))))) _)))))) => o
  | _ => #[]
noncomputable def lbho_21 : List Oper := match Try.f5.body with
  | some (.seq _ (.seq _ (.seq _ (.seq _ (.seq _ (.seq (.seq _ (.block _ (.loop (.seq _ (.seq _ (.seq (.block _ (.seq _ (.seq _ (.seq _ (.seq _ (.seq _ (.seq _ (.seq (.seq (.region _ o _) _) _)))))))) _)))))) _)))))) => o.toList
  | _ => []
theorem ebho_21 : rbho_21.toList = lbho_21 := rfl
noncomputable def rbho_22 : Array Oper := match Try.f5.body with
  | some (.seq _ (.seq _ (.seq _ (.seq _ (.seq _ (.seq (.seq _ (.block _ (.loop (.seq _ (.seq _ (.seq (.block _ (.seq _ (.seq _ (.seq _ (.seq _ (.seq _ (.seq _ (.seq (.seq _ (.cond _ (.region _ o _) _)) _)))))))) _)))))) _)))))) => o
  | _ => #[]
noncomputable def lbho_22 : List Oper := match Try.f5.body with
  | some (.seq _ (.seq _ (.seq _ (.seq _ (.seq _ (.seq (.seq _ (.block _ (.loop (.seq _ (.seq _ (.seq (.block _ (.seq _ (.seq _ (.seq _ (.seq _ (.seq _ (.seq _ (.seq (.seq _ (.cond _ (.region _ o _) _)) _)))))))) _)))))) _)))))) => o.toList
  | _ => []
theorem ebho_22 : rbho_22.toList = lbho_22 := rfl
noncomputable def rbho_23 : Array Oper := match Try.f5.body with
  | some (.seq _ (.seq _ (.seq _ (.seq _ (.seq _ (.seq (.seq _ (.block _ (.loop (.seq _ (.seq _ (.seq (.block _ (.seq _ (.seq _ (.seq _ (.seq _ (.seq _ (.seq _ (.seq _ (.seq (.region _ o _) _))))))))) _)))))) _)))))) => o
  | _ => #[]
noncomputable def lbho_23 : List Oper := match Try.f5.body with
  | some (.seq _ (.seq _ (.seq _ (.seq _ (.seq _ (.seq (.seq _ (.block _ (.loop (.seq _ (.seq _ (.seq (.block _ (.seq _ (.seq _ (.seq _ (.seq _ (.seq _ (.seq _ (.seq _ (.seq (.region _ o _) _))))))))) _)))))) _)))))) => o.toList
  | _ => []
theorem ebho_23 : rbho_23.toList = lbho_23 := rfl
noncomputable def rbho_24 : Array Oper := match Try.f5.body with
  | some (.seq _ (.seq _ (.seq _ (.seq _ (.seq _ (.seq (.seq _ (.block _ (.loop (.seq _ (.seq _ (.seq (.block _ (.seq _ (.seq _ (.seq _ (.seq _ (.seq _ (.seq _ (.seq _ (.seq _ (.seq (.region _ o _) _)))))))))) _)))))) _)))))) => o
  | _ => #[]
noncomputable def lbho_24 : List Oper := match Try.f5.body with
  | some (.seq _ (.seq _ (.seq _ (.seq _ (.seq _ (.seq (.seq _ (.block _ (.loop (.seq _ (.seq _ (.seq (.block _ (.seq _ (.seq _ (.seq _ (.seq _ (.seq _ (.seq _ (.seq _ (.seq _ (.seq (.region _ o _) _)))))))))) _)))))) _)))))) => o.toList
  | _ => []
theorem ebho_24 : rbho_24.toList = lbho_24 := rfl
theorem gbho_24_6 {T : List Value} {dd : Option Tmp} {op : Op} {ty : TypeId} {pos : String} {af : Array Edge} {want : Bool} : agd rbho_24 T { dst := dd, op := op, type := ty, pos := pos, after := af, guard := some (6, want) } = gdAt T 95 want := agd_at (by kernel_rfl)
theorem gbho_24_11 {T : List Value} {dd : Option Tmp} {op : Op} {ty : TypeId} {pos : String} {af : Array Edge} {want : Bool} : agd rbho_24 T { dst := dd, op := op, type := ty, pos := pos, after := af, guard := some (11, want) } = gdAt T 100 want := agd_at (by kernel_rfl)
noncomputable def rbho_25 : Array Oper := match Try.f5.body with
  | some (.seq _ (.seq _ (.seq _ (.seq _ (.seq _ (.seq (.seq _ (.block _ (.loop (.seq _ (.seq _ (.seq (.block _ (.seq _ (.seq _ (.seq _ (.seq _ (.seq _ (.seq _ (.seq _ (.seq _ (.seq _ (.cond _ (.seq (.region _ o _) _) _))))))))))) _)))))) _)))))) => o
  | _ => #[]
noncomputable def lbho_25 : List Oper := match Try.f5.body with
  | some (.seq _ (.seq _ (.seq _ (.seq _ (.seq _ (.seq (.seq _ (.block _ (.loop (.seq _ (.seq _ (.seq (.block _ (.seq _ (.seq _ (.seq _ (.seq _ (.seq _ (.seq _ (.seq _ (.seq _ (.seq _ (.cond _ (.seq (.region _ o _) _) _))))))))))) _)))))) _)))))) => o.toList
  | _ => []
theorem ebho_25 : rbho_25.toList = lbho_25 := rfl
noncomputable def rbho_26 : Array Oper := match Try.f5.body with
  | some (.seq _ (.seq _ (.seq _ (.seq _ (.seq _ (.seq (.seq _ (.block _ (.loop (.seq _ (.seq _ (.seq _ (.region _ o _))))))) _)))))) => o
  | _ => #[]
noncomputable def lbho_26 : List Oper := match Try.f5.body with
  | some (.seq _ (.seq _ (.seq _ (.seq _ (.seq _ (.seq (.seq _ (.block _ (.loop (.seq _ (.seq _ (.seq _ (.region _ o _))))))) _)))))) => o.toList
  | _ => []
theorem ebho_26 : rbho_26.toList = lbho_26 := rfl
theorem lpbho_0_eq : lpbho_0 = (.seq (.region 8 rbho_8 false) (.seq (.cond (.tmp 35) .skip (.exit 0)) (.seq (.block 1 (.seq (.region 9 rbho_9 false) (.seq (.region 10 rbho_10 false) (.seq (.seq (.region 11 rbho_11 false) (.cond (.tmp 47) (.seq (.region 12 rbho_12 false) (.region 13 rbho_13 false)) .skip)) (.seq (.seq (.region 14 rbho_14 false) (.cond (.tmp 59) (.seq (.region 15 rbho_15 false) (.seq (.region 16 rbho_16 false) (.seq (.region 17 rbho_17 false) (.exit 1)))) .skip)) (.seq (.region 18 rbho_18 false) (.seq (.seq (.region 19 rbho_19 false) (.cond (.tmp 83) (.seq (.region 20 rbho_20 false) .ret) .skip)) (.seq (.seq (.region 21 rbho_21 false) (.cond (.tmp 85) (.region 22 rbho_22 false) .skip)) (.seq (.region 23 rbho_23 false) (.seq (.region 24 rbho_24 false) (.cond (.tmp 106) (.seq (.region 25 rbho_25 false) .ret) .skip))))))))))) (.region 26 rbho_26 false)))) := rfl
noncomputable def rbho_27 : Array Oper := match Try.f5.body with
  | some (.seq _ (.seq _ (.seq _ (.seq _ (.seq _ (.seq _ (.seq (.region _ o _) _))))))) => o
  | _ => #[]
noncomputable def lbho_27 : List Oper := match Try.f5.body with
  | some (.seq _ (.seq _ (.seq _ (.seq _ (.seq _ (.seq _ (.seq (.region _ o _) _))))))) => o.toList
  | _ => []
theorem ebho_27 : rbho_27.toList = lbho_27 := rfl
theorem bodybho : Try.f5.body = some (.seq (.region 0 rbho_0 false) (.seq (.seq (.region 1 rbho_1 false) (.cond (.tmp 17) (.seq (.region 2 rbho_2 false) .ret) .skip)) (.seq (.seq (.region 3 rbho_3 false) (.cond (.tmp 25) (.seq (.region 4 rbho_4 false) .ret) .skip)) (.seq (.region 5 rbho_5 false) (.seq (.region 6 rbho_6 false) (.seq (.seq (.region 7 rbho_7 false) (.block 0 (.loop lpbho_0))) (.seq (.region 27 rbho_27 false) .ret))))))) := rfl
-- ntmps 108
noncomputable def rbla_0 : Array Oper := match Try.f6.body with
  | some (.seq (.region _ o _) _) => o
  | _ => #[]
noncomputable def lbla_0 : List Oper := match Try.f6.body with
  | some (.seq (.region _ o _) _) => o.toList
  | _ => []
theorem ebla_0 : rbla_0.toList = lbla_0 := rfl
noncomputable def rbla_1 : Array Oper := match Try.f6.body with
  | some (.seq _ (.seq (.seq (.region _ o _) _) _)) => o
  | _ => #[]
noncomputable def lbla_1 : List Oper := match Try.f6.body with
  | some (.seq _ (.seq (.seq (.region _ o _) _) _)) => o.toList
  | _ => []
theorem ebla_1 : rbla_1.toList = lbla_1 := rfl
noncomputable def rbla_2 : Array Oper := match Try.f6.body with
  | some (.seq _ (.seq (.seq _ (.cond _ (.seq (.region _ o _) _) _)) _)) => o
  | _ => #[]
noncomputable def lbla_2 : List Oper := match Try.f6.body with
  | some (.seq _ (.seq (.seq _ (.cond _ (.seq (.region _ o _) _) _)) _)) => o.toList
  | _ => []
theorem ebla_2 : rbla_2.toList = lbla_2 := rfl
noncomputable def rbla_3 : Array Oper := match Try.f6.body with
  | some (.seq _ (.seq _ (.seq (.seq (.region _ o _) _) _))) => o
  | _ => #[]
noncomputable def lbla_3 : List Oper := match Try.f6.body with
  | some (.seq _ (.seq _ (.seq (.seq (.region _ o _) _) _))) => o.toList
  | _ => []
theorem ebla_3 : rbla_3.toList = lbla_3 := rfl
noncomputable def rbla_4 : Array Oper := match Try.f6.body with
  | some (.seq _ (.seq _ (.seq (.seq _ (.cond _ (.seq (.region _ o _) _) _)) _))) => o
  | _ => #[]
noncomputable def lbla_4 : List Oper := match Try.f6.body with
  | some (.seq _ (.seq _ (.seq (.seq _ (.cond _ (.seq (.region _ o _) _) _)) _))) => o.toList
  | _ => []
theorem ebla_4 : rbla_4.toList = lbla_4 := rfl
noncomputable def rbla_5 : Array Oper := match Try.f6.body with
  | some (.seq _ (.seq _ (.seq _ (.seq (.region _ o _) _)))) => o
  | _ => #[]
noncomputable def lbla_5 : List Oper := match Try.f6.body with
  | some (.seq _ (.seq _ (.seq _ (.seq (.region _ o _) _)))) => o.toList
  | _ => []
theorem ebla_5 : rbla_5.toList = lbla_5 := rfl
noncomputable def rbla_6 : Array Oper := match Try.f6.body with
  | some (.seq _ (.seq _ (.seq _ (.seq _ (.seq (.region _ o _) _))))) => o
  | _ => #[]
noncomputable def lbla_6 : List Oper := match Try.f6.body with
  | some (.seq _ (.seq _ (.seq _ (.seq _ (.seq (.region _ o _) _))))) => o.toList
  | _ => []
theorem ebla_6 : rbla_6.toList = lbla_6 := rfl
noncomputable def rbla_7 : Array Oper := match Try.f6.body with
  | some (.seq _ (.seq _ (.seq _ (.seq _ (.seq _ (.seq (.region _ o _) _)))))) => o
  | _ => #[]
noncomputable def lbla_7 : List Oper := match Try.f6.body with
  | some (.seq _ (.seq _ (.seq _ (.seq _ (.seq _ (.seq (.region _ o _) _)))))) => o.toList
  | _ => []
theorem ebla_7 : rbla_7.toList = lbla_7 := rfl
noncomputable def rbla_8 : Array Oper := match Try.f6.body with
  | some (.seq _ (.seq _ (.seq _ (.seq _ (.seq _ (.seq _ (.seq (.region _ o _) _))))))) => o
  | _ => #[]
noncomputable def lbla_8 : List Oper := match Try.f6.body with
  | some (.seq _ (.seq _ (.seq _ (.seq _ (.seq _ (.seq _ (.seq (.region _ o _) _))))))) => o.toList
  | _ => []
theorem ebla_8 : rbla_8.toList = lbla_8 := rfl
noncomputable def rbla_9 : Array Oper := match Try.f6.body with
  | some (.seq _ (.seq _ (.seq _ (.seq _ (.seq _ (.seq _ (.seq _ (.seq (.region _ o _) _)))))))) => o
  | _ => #[]
noncomputable def lbla_9 : List Oper := match Try.f6.body with
  | some (.seq _ (.seq _ (.seq _ (.seq _ (.seq _ (.seq _ (.seq _ (.seq (.region _ o _) _)))))))) => o.toList
  | _ => []
theorem ebla_9 : rbla_9.toList = lbla_9 := rfl
theorem gbla_9_3 {T : List Value} {dd : Option Tmp} {op : Op} {ty : TypeId} {pos : String} {af : Array Edge} {want : Bool} : agd rbla_9 T { dst := dd, op := op, type := ty, pos := pos, after := af, guard := some (3, want) } = gdAt T 45 want := agd_at (by kernel_rfl)
theorem gbla_9_8 {T : List Value} {dd : Option Tmp} {op : Op} {ty : TypeId} {pos : String} {af : Array Edge} {want : Bool} : agd rbla_9 T { dst := dd, op := op, type := ty, pos := pos, after := af, guard := some (8, want) } = gdAt T 50 want := agd_at (by kernel_rfl)
theorem gbla_9_13 {T : List Value} {dd : Option Tmp} {op : Op} {ty : TypeId} {pos : String} {af : Array Edge} {want : Bool} : agd rbla_9 T { dst := dd, op := op, type := ty, pos := pos, after := af, guard := some (13, want) } = gdAt T 55 want := agd_at (by kernel_rfl)
theorem gbla_9_19 {T : List Value} {dd : Option Tmp} {op : Op} {ty : TypeId} {pos : String} {af : Array Edge} {want : Bool} : agd rbla_9 T { dst := dd, op := op, type := ty, pos := pos, after := af, guard := some (19, want) } = gdAt T 61 want := agd_at (by kernel_rfl)
theorem gbla_9_28 {T : List Value} {dd : Option Tmp} {op : Op} {ty : TypeId} {pos : String} {af : Array Edge} {want : Bool} : agd rbla_9 T { dst := dd, op := op, type := ty, pos := pos, after := af, guard := some (28, want) } = gdAt T 70 want := agd_at (by kernel_rfl)
theorem gbla_9_33 {T : List Value} {dd : Option Tmp} {op : Op} {ty : TypeId} {pos : String} {af : Array Edge} {want : Bool} : agd rbla_9 T { dst := dd, op := op, type := ty, pos := pos, after := af, guard := some (33, want) } = gdAt T 75 want := agd_at (by kernel_rfl)
theorem gbla_9_37 {T : List Value} {dd : Option Tmp} {op : Op} {ty : TypeId} {pos : String} {af : Array Edge} {want : Bool} : agd rbla_9 T { dst := dd, op := op, type := ty, pos := pos, after := af, guard := some (37, want) } = gdAt T 79 want := agd_at (by kernel_rfl)
theorem gbla_9_44 {T : List Value} {dd : Option Tmp} {op : Op} {ty : TypeId} {pos : String} {af : Array Edge} {want : Bool} : agd rbla_9 T { dst := dd, op := op, type := ty, pos := pos, after := af, guard := some (44, want) } = gdAt T 86 want := agd_at (by kernel_rfl)
theorem dbla_9 {self : Self} {B : Nat} {T : List Value} {m : Mem} {lb : List (Nat × Nat)} {ls : Bool} : adrawN E self rbla_9 B rbla_9.toList 0 T m lb ls = adrawT E self rbla_9 B rbla_9.toList [(false, false), (false, false), (false, false), (false, false), (false, false), (false, false), (false, false), (false, false), (false, false), (false, false), (false, false), (false, false), (false, false), (false, false), (false, false), (false, false), (false, false), (false, false), (false, false), (false, false), (false, false), (false, false), (false, false), (false, false), (false, false), (false, false), (false, false), (false, false), (false, false), (false, false), (false, false), (false, false), (false, false), (false, false), (false, false), (false, false), (false, false), (false, false), (false, false), (false, false), (false, false), (false, false), (false, false), (false, false), (false, false), (false, false), (false, false), (false, false), (false, false), (false, false), (false, false), (false, false)] 0 T m lb ls := adraw_tab (by kernel_rfl)
theorem sbla_9 : E.sr 9 rbla_9 = false := by kernel_rfl
theorem bodybla : Try.f6.body = some (.seq (.region 0 rbla_0 false) (.seq (.seq (.region 1 rbla_1 false) (.cond (.tmp 18) (.seq (.region 2 rbla_2 false) .ret) .skip)) (.seq (.seq (.region 3 rbla_3 false) (.cond (.tmp 21) (.seq (.region 4 rbla_4 false) .ret) .skip)) (.seq (.region 5 rbla_5 false) (.seq (.region 6 rbla_6 false) (.seq (.region 7 rbla_7 false) (.seq (.region 8 rbla_8 false) (.seq (.region 9 rbla_9 true) .ret)))))))) := rfl
-- ntmps 93
noncomputable def rbaw_0 : Array Oper := match Try.f7.body with
  | some (.seq (.region _ o _) _) => o
  | _ => #[]
noncomputable def lbaw_0 : List Oper := match Try.f7.body with
  | some (.seq (.region _ o _) _) => o.toList
  | _ => []
theorem ebaw_0 : rbaw_0.toList = lbaw_0 := rfl
noncomputable def rbaw_1 : Array Oper := match Try.f7.body with
  | some (.seq _ (.seq (.region _ o _) _)) => o
  | _ => #[]
noncomputable def lbaw_1 : List Oper := match Try.f7.body with
  | some (.seq _ (.seq (.region _ o _) _)) => o.toList
  | _ => []
theorem ebaw_1 : rbaw_1.toList = lbaw_1 := rfl
noncomputable def rbaw_2 : Array Oper := match Try.f7.body with
  | some (.seq _ (.seq _ (.seq (.region _ o _) _))) => o
  | _ => #[]
noncomputable def lbaw_2 : List Oper := match Try.f7.body with
  | some (.seq _ (.seq _ (.seq (.region _ o _) _))) => o.toList
  | _ => []
theorem ebaw_2 : rbaw_2.toList = lbaw_2 := rfl
noncomputable def rbaw_3 : Array Oper := match Try.f7.body with
  | some (.seq _ (.seq _ (.seq _ (.seq (.region _ o _) _)))) => o
  | _ => #[]
noncomputable def lbaw_3 : List Oper := match Try.f7.body with
  | some (.seq _ (.seq _ (.seq _ (.seq (.region _ o _) _)))) => o.toList
  | _ => []
theorem ebaw_3 : rbaw_3.toList = lbaw_3 := rfl
noncomputable def rbaw_4 : Array Oper := match Try.f7.body with
  | some (.seq _ (.seq _ (.seq _ (.seq _ (.seq (.region _ o _) _))))) => o
  | _ => #[]
noncomputable def lbaw_4 : List Oper := match Try.f7.body with
  | some (.seq _ (.seq _ (.seq _ (.seq _ (.seq (.region _ o _) _))))) => o.toList
  | _ => []
theorem ebaw_4 : rbaw_4.toList = lbaw_4 := rfl
noncomputable def rbaw_5 : Array Oper := match Try.f7.body with
  | some (.seq _ (.seq _ (.seq _ (.seq _ (.seq _ (.seq (.region _ o _) _)))))) => o
  | _ => #[]
noncomputable def lbaw_5 : List Oper := match Try.f7.body with
  | some (.seq _ (.seq _ (.seq _ (.seq _ (.seq _ (.seq (.region _ o _) _)))))) => o.toList
  | _ => []
theorem ebaw_5 : rbaw_5.toList = lbaw_5 := rfl
noncomputable def rbaw_6 : Array Oper := match Try.f7.body with
  | some (.seq _ (.seq _ (.seq _ (.seq _ (.seq _ (.seq _ (.seq (.region _ o _) _))))))) => o
  | _ => #[]
noncomputable def lbaw_6 : List Oper := match Try.f7.body with
  | some (.seq _ (.seq _ (.seq _ (.seq _ (.seq _ (.seq _ (.seq (.region _ o _) _))))))) => o.toList
  | _ => []
theorem ebaw_6 : rbaw_6.toList = lbaw_6 := rfl
noncomputable def rbaw_7 : Array Oper := match Try.f7.body with
  | some (.seq _ (.seq _ (.seq _ (.seq _ (.seq _ (.seq _ (.seq _ (.seq (.region _ o _) _)))))))) => o
  | _ => #[]
noncomputable def lbaw_7 : List Oper := match Try.f7.body with
  | some (.seq _ (.seq _ (.seq _ (.seq _ (.seq _ (.seq _ (.seq _ (.seq (.region _ o _) _)))))))) => o.toList
  | _ => []
theorem ebaw_7 : rbaw_7.toList = lbaw_7 := rfl
theorem gbaw_7_3 {T : List Value} {dd : Option Tmp} {op : Op} {ty : TypeId} {pos : String} {af : Array Edge} {want : Bool} : agd rbaw_7 T { dst := dd, op := op, type := ty, pos := pos, after := af, guard := some (3, want) } = gdAt T 41 want := agd_at (by kernel_rfl)
theorem gbaw_7_7 {T : List Value} {dd : Option Tmp} {op : Op} {ty : TypeId} {pos : String} {af : Array Edge} {want : Bool} : agd rbaw_7 T { dst := dd, op := op, type := ty, pos := pos, after := af, guard := some (7, want) } = gdAt T 45 want := agd_at (by kernel_rfl)
theorem gbaw_7_11 {T : List Value} {dd : Option Tmp} {op : Op} {ty : TypeId} {pos : String} {af : Array Edge} {want : Bool} : agd rbaw_7 T { dst := dd, op := op, type := ty, pos := pos, after := af, guard := some (11, want) } = gdAt T 49 want := agd_at (by kernel_rfl)
theorem gbaw_7_15 {T : List Value} {dd : Option Tmp} {op : Op} {ty : TypeId} {pos : String} {af : Array Edge} {want : Bool} : agd rbaw_7 T { dst := dd, op := op, type := ty, pos := pos, after := af, guard := some (15, want) } = gdAt T 53 want := agd_at (by kernel_rfl)
theorem gbaw_7_19 {T : List Value} {dd : Option Tmp} {op : Op} {ty : TypeId} {pos : String} {af : Array Edge} {want : Bool} : agd rbaw_7 T { dst := dd, op := op, type := ty, pos := pos, after := af, guard := some (19, want) } = gdAt T 57 want := agd_at (by kernel_rfl)
theorem bodybaw : Try.f7.body = some (.seq (.region 0 rbaw_0 false) (.seq (.region 1 rbaw_1 false) (.seq (.region 2 rbaw_2 false) (.seq (.region 3 rbaw_3 false) (.seq (.region 4 rbaw_4 false) (.seq (.region 5 rbaw_5 false) (.seq (.region 6 rbaw_6 false) (.seq (.region 7 rbaw_7 false) .ret)))))))) := rfl
-- ntmps 62
noncomputable def rbma_0 : Array Oper := match Try.f8.body with
  | some (.seq (.region _ o _) _) => o
  | _ => #[]
noncomputable def lbma_0 : List Oper := match Try.f8.body with
  | some (.seq (.region _ o _) _) => o.toList
  | _ => []
theorem ebma_0 : rbma_0.toList = lbma_0 := rfl
noncomputable def rbma_1 : Array Oper := match Try.f8.body with
  | some (.seq _ (.seq (.region _ o _) _)) => o
  | _ => #[]
noncomputable def lbma_1 : List Oper := match Try.f8.body with
  | some (.seq _ (.seq (.region _ o _) _)) => o.toList
  | _ => []
theorem ebma_1 : rbma_1.toList = lbma_1 := rfl
theorem gbma_1_3 {T : List Value} {dd : Option Tmp} {op : Op} {ty : TypeId} {pos : String} {af : Array Edge} {want : Bool} : agd rbma_1 T { dst := dd, op := op, type := ty, pos := pos, after := af, guard := some (3, want) } = gdAt T 6 want := agd_at (by kernel_rfl)
theorem gbma_1_8 {T : List Value} {dd : Option Tmp} {op : Op} {ty : TypeId} {pos : String} {af : Array Edge} {want : Bool} : agd rbma_1 T { dst := dd, op := op, type := ty, pos := pos, after := af, guard := some (8, want) } = gdAt T 11 want := agd_at (by kernel_rfl)
theorem gbma_1_13 {T : List Value} {dd : Option Tmp} {op : Op} {ty : TypeId} {pos : String} {af : Array Edge} {want : Bool} : agd rbma_1 T { dst := dd, op := op, type := ty, pos := pos, after := af, guard := some (13, want) } = gdAt T 16 want := agd_at (by kernel_rfl)
theorem gbma_1_18 {T : List Value} {dd : Option Tmp} {op : Op} {ty : TypeId} {pos : String} {af : Array Edge} {want : Bool} : agd rbma_1 T { dst := dd, op := op, type := ty, pos := pos, after := af, guard := some (18, want) } = gdAt T 21 want := agd_at (by kernel_rfl)
theorem bodybma : Try.f8.body = some (.seq (.region 0 rbma_0 false) (.seq (.region 1 rbma_1 false) .ret)) := rfl
-- ntmps 28
noncomputable def rbck_0 : Array Oper := match Try.f9.body with
  | some (.seq (.region _ o _) _) => o
  | _ => #[]
noncomputable def lbck_0 : List Oper := match Try.f9.body with
  | some (.seq (.region _ o _) _) => o.toList
  | _ => []
theorem ebck_0 : rbck_0.toList = lbck_0 := rfl
noncomputable def rbck_1 : Array Oper := match Try.f9.body with
  | some (.seq _ (.seq (.seq (.region _ o _) _) _)) => o
  | _ => #[]
noncomputable def lbck_1 : List Oper := match Try.f9.body with
  | some (.seq _ (.seq (.seq (.region _ o _) _) _)) => o.toList
  | _ => []
theorem ebck_1 : rbck_1.toList = lbck_1 := rfl
theorem gbck_1_3 {T : List Value} {dd : Option Tmp} {op : Op} {ty : TypeId} {pos : String} {af : Array Edge} {want : Bool} : agd rbck_1 T { dst := dd, op := op, type := ty, pos := pos, after := af, guard := some (3, want) } = gdAt T 6 want := agd_at (by kernel_rfl)
theorem gbck_1_8 {T : List Value} {dd : Option Tmp} {op : Op} {ty : TypeId} {pos : String} {af : Array Edge} {want : Bool} : agd rbck_1 T { dst := dd, op := op, type := ty, pos := pos, after := af, guard := some (8, want) } = gdAt T 11 want := agd_at (by kernel_rfl)
theorem gbck_1_13 {T : List Value} {dd : Option Tmp} {op : Op} {ty : TypeId} {pos : String} {af : Array Edge} {want : Bool} : agd rbck_1 T { dst := dd, op := op, type := ty, pos := pos, after := af, guard := some (13, want) } = gdAt T 16 want := agd_at (by kernel_rfl)
theorem gbck_1_18 {T : List Value} {dd : Option Tmp} {op : Op} {ty : TypeId} {pos : String} {af : Array Edge} {want : Bool} : agd rbck_1 T { dst := dd, op := op, type := ty, pos := pos, after := af, guard := some (18, want) } = gdAt T 21 want := agd_at (by kernel_rfl)
noncomputable def rbck_2 : Array Oper := match Try.f9.body with
  | some (.seq _ (.seq (.seq _ (.cond _ (.seq (.region _ o _) _) _)) _)) => o
  | _ => #[]
noncomputable def lbck_2 : List Oper := match Try.f9.body with
  | some (.seq _ (.seq (.seq _ (.cond _ (.seq (.region _ o _) _) _)) _)) => o.toList
  | _ => []
theorem ebck_2 : rbck_2.toList = lbck_2 := rfl
noncomputable def rbck_3 : Array Oper := match Try.f9.body with
  | some (.seq _ (.seq _ (.seq (.region _ o _) _))) => o
  | _ => #[]
noncomputable def lbck_3 : List Oper := match Try.f9.body with
  | some (.seq _ (.seq _ (.seq (.region _ o _) _))) => o.toList
  | _ => []
theorem ebck_3 : rbck_3.toList = lbck_3 := rfl
theorem bodybck : Try.f9.body = some (.seq (.region 0 rbck_0 false) (.seq (.seq (.region 1 rbck_1 false) (.cond (.tmp 27) (.seq (.region 2 rbck_2 false) .ret) .skip)) (.seq (.region 3 rbck_3 false) .ret))) := rfl
-- ntmps 28
noncomputable def rbat_0 : Array Oper := match Try.f10.body with
  | some (.seq (.region _ o _) _) => o
  | _ => #[]
noncomputable def lbat_0 : List Oper := match Try.f10.body with
  | some (.seq (.region _ o _) _) => o.toList
  | _ => []
theorem ebat_0 : rbat_0.toList = lbat_0 := rfl
noncomputable def rbat_1 : Array Oper := match Try.f10.body with
  | some (.seq _ (.seq (.region _ o _) _)) => o
  | _ => #[]
noncomputable def lbat_1 : List Oper := match Try.f10.body with
  | some (.seq _ (.seq (.region _ o _) _)) => o.toList
  | _ => []
theorem ebat_1 : rbat_1.toList = lbat_1 := rfl
noncomputable def rbat_2 : Array Oper := match Try.f10.body with
  | some (.seq _ (.seq _ (.seq (.seq (.region _ o _) _) _))) => o
  | _ => #[]
noncomputable def lbat_2 : List Oper := match Try.f10.body with
  | some (.seq _ (.seq _ (.seq (.seq (.region _ o _) _) _))) => o.toList
  | _ => []
theorem ebat_2 : rbat_2.toList = lbat_2 := rfl
noncomputable def rbat_3 : Array Oper := match Try.f10.body with
  | some (.seq _ (.seq _ (.seq (.seq _ (.cond _ (.seq (.region _ o _) _) _)) _))) => o
  | _ => #[]
noncomputable def lbat_3 : List Oper := match Try.f10.body with
  | some (.seq _ (.seq _ (.seq (.seq _ (.cond _ (.seq (.region _ o _) _) _)) _))) => o.toList
  | _ => []
theorem ebat_3 : rbat_3.toList = lbat_3 := rfl
noncomputable def rbat_4 : Array Oper := match Try.f10.body with
  | some (.seq _ (.seq _ (.seq _ (.seq (.region _ o _) _)))) => o
  | _ => #[]
noncomputable def lbat_4 : List Oper := match Try.f10.body with
  | some (.seq _ (.seq _ (.seq _ (.seq (.region _ o _) _)))) => o.toList
  | _ => []
theorem ebat_4 : rbat_4.toList = lbat_4 := rfl
noncomputable def rbat_5 : Array Oper := match Try.f10.body with
  | some (.seq _ (.seq _ (.seq _ (.seq _ (.seq (.region _ o _) _))))) => o
  | _ => #[]
noncomputable def lbat_5 : List Oper := match Try.f10.body with
  | some (.seq _ (.seq _ (.seq _ (.seq _ (.seq (.region _ o _) _))))) => o.toList
  | _ => []
theorem ebat_5 : rbat_5.toList = lbat_5 := rfl
noncomputable def rbat_6 : Array Oper := match Try.f10.body with
  | some (.seq _ (.seq _ (.seq _ (.seq _ (.seq _ (.seq (.region _ o _) _)))))) => o
  | _ => #[]
noncomputable def lbat_6 : List Oper := match Try.f10.body with
  | some (.seq _ (.seq _ (.seq _ (.seq _ (.seq _ (.seq (.region _ o _) _)))))) => o.toList
  | _ => []
theorem ebat_6 : rbat_6.toList = lbat_6 := rfl
theorem bodybat : Try.f10.body = some (.seq (.region 0 rbat_0 false) (.seq (.region 1 rbat_1 false) (.seq (.seq (.region 2 rbat_2 false) (.cond (.tmp 15) (.seq (.region 3 rbat_3 false) .ret) .skip)) (.seq (.region 4 rbat_4 false) (.seq (.region 5 rbat_5 false) (.seq (.region 6 rbat_6 false) .ret)))))) := rfl
-- ntmps 26
noncomputable def rbra_0 : Array Oper := match Try.f11.body with
  | some (.seq (.region _ o _) _) => o
  | _ => #[]
noncomputable def lbra_0 : List Oper := match Try.f11.body with
  | some (.seq (.region _ o _) _) => o.toList
  | _ => []
theorem ebra_0 : rbra_0.toList = lbra_0 := rfl
noncomputable def rbra_1 : Array Oper := match Try.f11.body with
  | some (.seq _ (.seq (.region _ o _) _)) => o
  | _ => #[]
noncomputable def lbra_1 : List Oper := match Try.f11.body with
  | some (.seq _ (.seq (.region _ o _) _)) => o.toList
  | _ => []
theorem ebra_1 : rbra_1.toList = lbra_1 := rfl
noncomputable def rbra_2 : Array Oper := match Try.f11.body with
  | some (.seq _ (.seq _ (.seq (.seq (.region _ o _) _) _))) => o
  | _ => #[]
noncomputable def lbra_2 : List Oper := match Try.f11.body with
  | some (.seq _ (.seq _ (.seq (.seq (.region _ o _) _) _))) => o.toList
  | _ => []
theorem ebra_2 : rbra_2.toList = lbra_2 := rfl
noncomputable def rbra_3 : Array Oper := match Try.f11.body with
  | some (.seq _ (.seq _ (.seq (.seq _ (.cond _ (.seq (.region _ o _) _) _)) _))) => o
  | _ => #[]
noncomputable def lbra_3 : List Oper := match Try.f11.body with
  | some (.seq _ (.seq _ (.seq (.seq _ (.cond _ (.seq (.region _ o _) _) _)) _))) => o.toList
  | _ => []
theorem ebra_3 : rbra_3.toList = lbra_3 := rfl
noncomputable def rbra_4 : Array Oper := match Try.f11.body with
  | some (.seq _ (.seq _ (.seq (.seq _ (.cond _ (.seq _ (.seq (.region _ o _) _)) _)) _))) => o
  | _ => #[]
noncomputable def lbra_4 : List Oper := match Try.f11.body with
  | some (.seq _ (.seq _ (.seq (.seq _ (.cond _ (.seq _ (.seq (.region _ o _) _)) _)) _))) => o.toList
  | _ => []
theorem ebra_4 : rbra_4.toList = lbra_4 := rfl
noncomputable def rbra_5 : Array Oper := match Try.f11.body with
  | some (.seq _ (.seq _ (.seq (.seq _ (.cond _ (.seq _ (.seq _ (.cond _ (.region _ o _) _))) _)) _))) => o
  | _ => #[]
noncomputable def lbra_5 : List Oper := match Try.f11.body with
  | some (.seq _ (.seq _ (.seq (.seq _ (.cond _ (.seq _ (.seq _ (.cond _ (.region _ o _) _))) _)) _))) => o.toList
  | _ => []
theorem ebra_5 : rbra_5.toList = lbra_5 := rfl
noncomputable def rbra_6 : Array Oper := match Try.f11.body with
  | some (.seq _ (.seq _ (.seq _ (.seq (.region _ o _) _)))) => o
  | _ => #[]
noncomputable def lbra_6 : List Oper := match Try.f11.body with
  | some (.seq _ (.seq _ (.seq _ (.seq (.region _ o _) _)))) => o.toList
  | _ => []
theorem ebra_6 : rbra_6.toList = lbra_6 := rfl
theorem bodybra : Try.f11.body = some (.seq (.region 0 rbra_0 false) (.seq (.region 1 rbra_1 false) (.seq (.seq (.region 2 rbra_2 false) (.cond (.tmp 15) (.seq (.region 3 rbra_3 false) (.seq (.region 4 rbra_4 false) (.cond (.tmp 22) (.region 5 rbra_5 false) .skip))) .skip)) (.seq (.region 6 rbra_6 false) .ret)))) := rfl
-- ntmps 27
noncomputable def rbsp_0 : Array Oper := match Try.f12.body with
  | some (.seq (.region _ o _) _) => o
  | _ => #[]
noncomputable def lbsp_0 : List Oper := match Try.f12.body with
  | some (.seq (.region _ o _) _) => o.toList
  | _ => []
theorem ebsp_0 : rbsp_0.toList = lbsp_0 := rfl
noncomputable def rbsp_1 : Array Oper := match Try.f12.body with
  | some (.seq _ (.seq (.region _ o _) _)) => o
  | _ => #[]
noncomputable def lbsp_1 : List Oper := match Try.f12.body with
  | some (.seq _ (.seq (.region _ o _) _)) => o.toList
  | _ => []
theorem ebsp_1 : rbsp_1.toList = lbsp_1 := rfl
noncomputable def rbsp_2 : Array Oper := match Try.f12.body with
  | some (.seq _ (.seq _ (.seq (.seq (.region _ o _) _) _))) => o
  | _ => #[]
noncomputable def lbsp_2 : List Oper := match Try.f12.body with
  | some (.seq _ (.seq _ (.seq (.seq (.region _ o _) _) _))) => o.toList
  | _ => []
theorem ebsp_2 : rbsp_2.toList = lbsp_2 := rfl
theorem gbsp_2_2 {T : List Value} {dd : Option Tmp} {op : Op} {ty : TypeId} {pos : String} {af : Array Edge} {want : Bool} : agd rbsp_2 T { dst := dd, op := op, type := ty, pos := pos, after := af, guard := some (2, want) } = gdAt T 17 want := agd_at (by kernel_rfl)
noncomputable def rbsp_3 : Array Oper := match Try.f12.body with
  | some (.seq _ (.seq _ (.seq (.seq _ (.cond _ (.seq (.region _ o _) _) _)) _))) => o
  | _ => #[]
noncomputable def lbsp_3 : List Oper := match Try.f12.body with
  | some (.seq _ (.seq _ (.seq (.seq _ (.cond _ (.seq (.region _ o _) _) _)) _))) => o.toList
  | _ => []
theorem ebsp_3 : rbsp_3.toList = lbsp_3 := rfl
noncomputable def rbsp_4 : Array Oper := match Try.f12.body with
  | some (.seq _ (.seq _ (.seq _ (.seq (.region _ o _) _)))) => o
  | _ => #[]
noncomputable def lbsp_4 : List Oper := match Try.f12.body with
  | some (.seq _ (.seq _ (.seq _ (.seq (.region _ o _) _)))) => o.toList
  | _ => []
theorem ebsp_4 : rbsp_4.toList = lbsp_4 := rfl
noncomputable def rbsp_5 : Array Oper := match Try.f12.body with
  | some (.seq _ (.seq _ (.seq _ (.seq _ (.seq (.region _ o _) _))))) => o
  | _ => #[]
noncomputable def lbsp_5 : List Oper := match Try.f12.body with
  | some (.seq _ (.seq _ (.seq _ (.seq _ (.seq (.region _ o _) _))))) => o.toList
  | _ => []
theorem ebsp_5 : rbsp_5.toList = lbsp_5 := rfl
theorem bodybsp : Try.f12.body = some (.seq (.region 0 rbsp_0 false) (.seq (.region 1 rbsp_1 false) (.seq (.seq (.region 2 rbsp_2 false) (.cond (.tmp 21) (.seq (.region 3 rbsp_3 false) .ret) .skip)) (.seq (.region 4 rbsp_4 false) (.seq (.region 5 rbsp_5 false) .ret))))) := rfl
-- ntmps 28
noncomputable def rbrs_0 : Array Oper := match Try.f13.body with
  | some (.seq (.region _ o _) _) => o
  | _ => #[]
noncomputable def lbrs_0 : List Oper := match Try.f13.body with
  | some (.seq (.region _ o _) _) => o.toList
  | _ => []
theorem ebrs_0 : rbrs_0.toList = lbrs_0 := rfl
noncomputable def rbrs_1 : Array Oper := match Try.f13.body with
  | some (.seq _ (.seq (.region _ o _) _)) => o
  | _ => #[]
noncomputable def lbrs_1 : List Oper := match Try.f13.body with
  | some (.seq _ (.seq (.region _ o _) _)) => o.toList
  | _ => []
theorem ebrs_1 : rbrs_1.toList = lbrs_1 := rfl
noncomputable def rbrs_2 : Array Oper := match Try.f13.body with
  | some (.seq _ (.seq _ (.seq (.seq (.region _ o _) _) _))) => o
  | _ => #[]
noncomputable def lbrs_2 : List Oper := match Try.f13.body with
  | some (.seq _ (.seq _ (.seq (.seq (.region _ o _) _) _))) => o.toList
  | _ => []
theorem ebrs_2 : rbrs_2.toList = lbrs_2 := rfl
theorem gbrs_2_2 {T : List Value} {dd : Option Tmp} {op : Op} {ty : TypeId} {pos : String} {af : Array Edge} {want : Bool} : agd rbrs_2 T { dst := dd, op := op, type := ty, pos := pos, after := af, guard := some (2, want) } = gdAt T 14 want := agd_at (by kernel_rfl)
noncomputable def rbrs_3 : Array Oper := match Try.f13.body with
  | some (.seq _ (.seq _ (.seq (.seq _ (.cond _ (.seq (.region _ o _) _) _)) _))) => o
  | _ => #[]
noncomputable def lbrs_3 : List Oper := match Try.f13.body with
  | some (.seq _ (.seq _ (.seq (.seq _ (.cond _ (.seq (.region _ o _) _) _)) _))) => o.toList
  | _ => []
theorem ebrs_3 : rbrs_3.toList = lbrs_3 := rfl
noncomputable def rbrs_4 : Array Oper := match Try.f13.body with
  | some (.seq _ (.seq _ (.seq _ (.seq (.region _ o _) _)))) => o
  | _ => #[]
noncomputable def lbrs_4 : List Oper := match Try.f13.body with
  | some (.seq _ (.seq _ (.seq _ (.seq (.region _ o _) _)))) => o.toList
  | _ => []
theorem ebrs_4 : rbrs_4.toList = lbrs_4 := rfl
noncomputable def rbrs_5 : Array Oper := match Try.f13.body with
  | some (.seq _ (.seq _ (.seq _ (.seq _ (.seq (.region _ o _) _))))) => o
  | _ => #[]
noncomputable def lbrs_5 : List Oper := match Try.f13.body with
  | some (.seq _ (.seq _ (.seq _ (.seq _ (.seq (.region _ o _) _))))) => o.toList
  | _ => []
theorem ebrs_5 : rbrs_5.toList = lbrs_5 := rfl
theorem bodybrs : Try.f13.body = some (.seq (.region 0 rbrs_0 false) (.seq (.region 1 rbrs_1 false) (.seq (.seq (.region 2 rbrs_2 false) (.cond (.tmp 18) (.seq (.region 3 rbrs_3 false) .ret) .skip)) (.seq (.region 4 rbrs_4 false) (.seq (.region 5 rbrs_5 false) .ret))))) := rfl
-- ntmps 25
noncomputable def rblt_0 : Array Oper := match Try.f14.body with
  | some (.seq (.region _ o _) _) => o
  | _ => #[]
noncomputable def lblt_0 : List Oper := match Try.f14.body with
  | some (.seq (.region _ o _) _) => o.toList
  | _ => []
theorem eblt_0 : rblt_0.toList = lblt_0 := rfl
noncomputable def rblt_1 : Array Oper := match Try.f14.body with
  | some (.seq _ (.seq (.region _ o _) _)) => o
  | _ => #[]
noncomputable def lblt_1 : List Oper := match Try.f14.body with
  | some (.seq _ (.seq (.region _ o _) _)) => o.toList
  | _ => []
theorem eblt_1 : rblt_1.toList = lblt_1 := rfl
theorem bodyblt : Try.f14.body = some (.seq (.region 0 rblt_0 false) (.seq (.region 1 rblt_1 false) .ret)) := rfl
-- ntmps 11
noncomputable def rbrl_0 : Array Oper := match Try.f15.body with
  | some (.seq (.region _ o _) _) => o
  | _ => #[]
noncomputable def lbrl_0 : List Oper := match Try.f15.body with
  | some (.seq (.region _ o _) _) => o.toList
  | _ => []
theorem ebrl_0 : rbrl_0.toList = lbrl_0 := rfl
noncomputable def rbrl_1 : Array Oper := match Try.f15.body with
  | some (.seq _ (.seq (.seq (.region _ o _) _) _)) => o
  | _ => #[]
noncomputable def lbrl_1 : List Oper := match Try.f15.body with
  | some (.seq _ (.seq (.seq (.region _ o _) _) _)) => o.toList
  | _ => []
theorem ebrl_1 : rbrl_1.toList = lbrl_1 := rfl
noncomputable def rbrl_2 : Array Oper := match Try.f15.body with
  | some (.seq _ (.seq (.seq _ (.cond _ (.seq (.region _ o _) _) _)) _)) => o
  | _ => #[]
noncomputable def lbrl_2 : List Oper := match Try.f15.body with
  | some (.seq _ (.seq (.seq _ (.cond _ (.seq (.region _ o _) _) _)) _)) => o.toList
  | _ => []
theorem ebrl_2 : rbrl_2.toList = lbrl_2 := rfl
noncomputable def rbrl_3 : Array Oper := match Try.f15.body with
  | some (.seq _ (.seq _ (.seq (.region _ o _) _))) => o
  | _ => #[]
noncomputable def lbrl_3 : List Oper := match Try.f15.body with
  | some (.seq _ (.seq _ (.seq (.region _ o _) _))) => o.toList
  | _ => []
theorem ebrl_3 : rbrl_3.toList = lbrl_3 := rfl
theorem bodybrl : Try.f15.body = some (.seq (.region 0 rbrl_0 false) (.seq (.seq (.region 1 rbrl_1 false) (.cond (.tmp 9) (.seq (.region 2 rbrl_2 false) .ret) .skip)) (.seq (.region 3 rbrl_3 false) .ret))) := rfl
-- ntmps 13
noncomputable def rbwi_0 : Array Oper := match Try.f16.body with
  | some (.seq (.region _ o _) _) => o
  | _ => #[]
noncomputable def lbwi_0 : List Oper := match Try.f16.body with
  | some (.seq (.region _ o _) _) => o.toList
  | _ => []
theorem ebwi_0 : rbwi_0.toList = lbwi_0 := rfl
noncomputable def rbwi_1 : Array Oper := match Try.f16.body with
  | some (.seq _ (.seq (.region _ o _) _)) => o
  | _ => #[]
noncomputable def lbwi_1 : List Oper := match Try.f16.body with
  | some (.seq _ (.seq (.region _ o _) _)) => o.toList
  | _ => []
theorem ebwi_1 : rbwi_1.toList = lbwi_1 := rfl
theorem bodybwi : Try.f16.body = some (.seq (.region 0 rbwi_0 false) (.seq (.region 1 rbwi_1 false) .ret)) := rfl
-- ntmps 10
noncomputable def rbsg_0 : Array Oper := match Try.f17.body with
  | some (.seq (.region _ o _) _) => o
  | _ => #[]
noncomputable def lbsg_0 : List Oper := match Try.f17.body with
  | some (.seq (.region _ o _) _) => o.toList
  | _ => []
theorem ebsg_0 : rbsg_0.toList = lbsg_0 := rfl
noncomputable def rbsg_1 : Array Oper := match Try.f17.body with
  | some (.seq _ (.seq (.region _ o _) _)) => o
  | _ => #[]
noncomputable def lbsg_1 : List Oper := match Try.f17.body with
  | some (.seq _ (.seq (.region _ o _) _)) => o.toList
  | _ => []
theorem ebsg_1 : rbsg_1.toList = lbsg_1 := rfl
theorem bodybsg : Try.f17.body = some (.seq (.region 0 rbsg_0 false) (.seq (.region 1 rbsg_1 false) .ret)) := rfl
-- ntmps 12
noncomputable def rbfr_0 : Array Oper := match Try.f18.body with
  | some (.seq (.region _ o _) _) => o
  | _ => #[]
noncomputable def lbfr_0 : List Oper := match Try.f18.body with
  | some (.seq (.region _ o _) _) => o.toList
  | _ => []
theorem ebfr_0 : rbfr_0.toList = lbfr_0 := rfl
noncomputable def rbfr_1 : Array Oper := match Try.f18.body with
  | some (.seq _ (.seq (.region _ o _) _)) => o
  | _ => #[]
noncomputable def lbfr_1 : List Oper := match Try.f18.body with
  | some (.seq _ (.seq (.region _ o _) _)) => o.toList
  | _ => []
theorem ebfr_1 : rbfr_1.toList = lbfr_1 := rfl
theorem dbfr_1 {self : Self} {B : Nat} {T : List Value} {m : Mem} {lb : List (Nat × Nat)} {ls : Bool} : adrawN E self rbfr_1 B rbfr_1.toList 0 T m lb ls = adrawT E self rbfr_1 B rbfr_1.toList [(false, false), (false, false), (false, false), (false, false), (false, false), (false, false), (false, false)] 0 T m lb ls := adraw_tab (by kernel_rfl)
theorem sbfr_1 : E.sr 1 rbfr_1 = false := by kernel_rfl
theorem bodybfr : Try.f18.body = some (.seq (.region 0 rbfr_0 false) (.seq (.region 1 rbfr_1 true) .ret)) := rfl
-- ntmps 11
noncomputable def rbb1_0 : Array Oper := match Try.f19.body with
  | some (.seq (.region _ o _) _) => o
  | _ => #[]
noncomputable def lbb1_0 : List Oper := match Try.f19.body with
  | some (.seq (.region _ o _) _) => o.toList
  | _ => []
theorem ebb1_0 : rbb1_0.toList = lbb1_0 := rfl
noncomputable def rbb1_1 : Array Oper := match Try.f19.body with
  | some (.seq _ (.seq (.seq (.region _ o _) _) _)) => o
  | _ => #[]
noncomputable def lbb1_1 : List Oper := match Try.f19.body with
  | some (.seq _ (.seq (.seq (.region _ o _) _) _)) => o.toList
  | _ => []
theorem ebb1_1 : rbb1_1.toList = lbb1_1 := rfl
noncomputable def rbb1_2 : Array Oper := match Try.f19.body with
  | some (.seq _ (.seq (.seq _ (.cond _ (.region _ o _) _)) _)) => o
  | _ => #[]
noncomputable def lbb1_2 : List Oper := match Try.f19.body with
  | some (.seq _ (.seq (.seq _ (.cond _ (.region _ o _) _)) _)) => o.toList
  | _ => []
theorem ebb1_2 : rbb1_2.toList = lbb1_2 := rfl
noncomputable def rbb1_3 : Array Oper := match Try.f19.body with
  | some (.seq _ (.seq _ (.seq (.region _ o _) _))) => o
  | _ => #[]
noncomputable def lbb1_3 : List Oper := match Try.f19.body with
  | some (.seq _ (.seq _ (.seq (.region _ o _) _))) => o.toList
  | _ => []
theorem ebb1_3 : rbb1_3.toList = lbb1_3 := rfl
theorem bodybb1 : Try.f19.body = some (.seq (.region 0 rbb1_0 false) (.seq (.seq (.region 1 rbb1_1 false) (.cond (.tmp 9) (.region 2 rbb1_2 false) .skip)) (.seq (.region 3 rbb1_3 false) .ret))) := rfl
-- ntmps 20
noncomputable def rbrb_0 : Array Oper := match Try.f20.body with
  | some (.seq (.region _ o _) _) => o
  | _ => #[]
noncomputable def lbrb_0 : List Oper := match Try.f20.body with
  | some (.seq (.region _ o _) _) => o.toList
  | _ => []
theorem ebrb_0 : rbrb_0.toList = lbrb_0 := rfl
noncomputable def rbrb_1 : Array Oper := match Try.f20.body with
  | some (.seq _ (.seq (.seq (.region _ o _) _) _)) => o
  | _ => #[]
noncomputable def lbrb_1 : List Oper := match Try.f20.body with
  | some (.seq _ (.seq (.seq (.region _ o _) _) _)) => o.toList
  | _ => []
theorem ebrb_1 : rbrb_1.toList = lbrb_1 := rfl
noncomputable def lpbrb_0 : Code := match Try.f20.body with
  | some (.seq _ (.seq (.seq _ (.block _ (.loop c))) _)) => c
  | _ => .skip
noncomputable def rbrb_2 : Array Oper := match Try.f20.body with
  | some (.seq _ (.seq (.seq _ (.block _ (.loop (.seq (.seq (.region _ o _) _) _)))) _)) => o
  | _ => #[]
noncomputable def lbrb_2 : List Oper := match Try.f20.body with
  | some (.seq _ (.seq (.seq _ (.block _ (.loop (.seq (.seq (.region _ o _) _) _)))) _)) => o.toList
  | _ => []
theorem ebrb_2 : rbrb_2.toList = lbrb_2 := rfl
theorem gbrb_2_4 {T : List Value} {dd : Option Tmp} {op : Op} {ty : TypeId} {pos : String} {af : Array Edge} {want : Bool} : agd rbrb_2 T { dst := dd, op := op, type := ty, pos := pos, after := af, guard := some (4, want) } = gdAt T 10 want := agd_at (by kernel_rfl)
noncomputable def rbrb_4 : Array Oper := match Try.f20.body with
  | some (.seq _ (.seq (.seq _ (.block _ (.loop (.seq _ (.seq (.block _ (.region _ o _)) _))))) _)) => o
  | _ => #[]
noncomputable def lbrb_4 : List Oper := match Try.f20.body with
  | some (.seq _ (.seq (.seq _ (.block _ (.loop (.seq _ (.seq (.block _ (.region _ o _)) _))))) _)) => o.toList
  | _ => []
theorem ebrb_4 : rbrb_4.toList = lbrb_4 := rfl
noncomputable def rbrb_3 : Array Oper := match Try.f20.body with
  | some (.seq _ (.seq (.seq _ (.block _ (.loop (.seq _ (.seq _ (.region _ o _)))))) _)) => o
  | _ => #[]
noncomputable def lbrb_3 : List Oper := match Try.f20.body with
  | some (.seq _ (.seq (.seq _ (.block _ (.loop (.seq _ (.seq _ (.region _ o _)))))) _)) => o.toList
  | _ => []
theorem ebrb_3 : rbrb_3.toList = lbrb_3 := rfl
theorem lpbrb_0_eq : lpbrb_0 = (.seq (.seq (.region 2 rbrb_2 false) (.cond (.tmp 16) .skip (.exit 0))) (.seq (.block 1 (.region 4 rbrb_4 false)) (.region 3 rbrb_3 false))) := rfl
noncomputable def rbrb_5 : Array Oper := match Try.f20.body with
  | some (.seq _ (.seq _ (.seq (.region _ o _) _))) => o
  | _ => #[]
noncomputable def lbrb_5 : List Oper := match Try.f20.body with
  | some (.seq _ (.seq _ (.seq (.region _ o _) _))) => o.toList
  | _ => []
theorem ebrb_5 : rbrb_5.toList = lbrb_5 := rfl
theorem bodybrb : Try.f20.body = some (.seq (.region 0 rbrb_0 false) (.seq (.seq (.region 1 rbrb_1 false) (.block 0 (.loop lpbrb_0))) (.seq (.region 5 rbrb_5 false) .ret))) := rfl
-- ntmps 24
noncomputable def rblk_0 : Array Oper := match Try.f23.body with
  | some (.seq (.region _ o _) _) => o
  | _ => #[]
noncomputable def lblk_0 : List Oper := match Try.f23.body with
  | some (.seq (.region _ o _) _) => o.toList
  | _ => []
theorem eblk_0 : rblk_0.toList = lblk_0 := rfl
noncomputable def rblk_1 : Array Oper := match Try.f23.body with
  | some (.seq _ (.seq (.region _ o _) _)) => o
  | _ => #[]
noncomputable def lblk_1 : List Oper := match Try.f23.body with
  | some (.seq _ (.seq (.region _ o _) _)) => o.toList
  | _ => []
theorem eblk_1 : rblk_1.toList = lblk_1 := rfl
noncomputable def rblk_2 : Array Oper := match Try.f23.body with
  | some (.seq _ (.seq _ (.seq (.region _ o _) _))) => o
  | _ => #[]
noncomputable def lblk_2 : List Oper := match Try.f23.body with
  | some (.seq _ (.seq _ (.seq (.region _ o _) _))) => o.toList
  | _ => []
theorem eblk_2 : rblk_2.toList = lblk_2 := rfl
theorem bodyblk : Try.f23.body = some (.seq (.region 0 rblk_0 false) (.seq (.region 1 rblk_1 false) (.seq (.region 2 rblk_2 false) .ret))) := rfl
-- ntmps 16
noncomputable def rbloc_0 : Array Oper := match Try.f24.body with
  | some (.seq (.region _ o _) _) => o
  | _ => #[]
noncomputable def lbloc_0 : List Oper := match Try.f24.body with
  | some (.seq (.region _ o _) _) => o.toList
  | _ => []
theorem ebloc_0 : rbloc_0.toList = lbloc_0 := rfl
noncomputable def rbloc_1 : Array Oper := match Try.f24.body with
  | some (.seq _ (.seq (.region _ o _) _)) => o
  | _ => #[]
noncomputable def lbloc_1 : List Oper := match Try.f24.body with
  | some (.seq _ (.seq (.region _ o _) _)) => o.toList
  | _ => []
theorem ebloc_1 : rbloc_1.toList = lbloc_1 := rfl
noncomputable def rbloc_2 : Array Oper := match Try.f24.body with
  | some (.seq _ (.seq _ (.seq (.region _ o _) _))) => o
  | _ => #[]
noncomputable def lbloc_2 : List Oper := match Try.f24.body with
  | some (.seq _ (.seq _ (.seq (.region _ o _) _))) => o.toList
  | _ => []
theorem ebloc_2 : rbloc_2.toList = lbloc_2 := rfl
noncomputable def rbloc_3 : Array Oper := match Try.f24.body with
  | some (.seq _ (.seq _ (.seq _ (.seq (.region _ o _) _)))) => o
  | _ => #[]
noncomputable def lbloc_3 : List Oper := match Try.f24.body with
  | some (.seq _ (.seq _ (.seq _ (.seq (.region _ o _) _)))) => o.toList
  | _ => []
theorem ebloc_3 : rbloc_3.toList = lbloc_3 := rfl
theorem bodybloc : Try.f24.body = some (.seq (.region 0 rbloc_0 false) (.seq (.region 1 rbloc_1 false) (.seq (.region 2 rbloc_2 false) (.seq (.region 3 rbloc_3 false) .ret)))) := rfl
-- ntmps 17
noncomputable def rbre_0 : Array Oper := match Try.f25.body with
  | some (.seq (.region _ o _) _) => o
  | _ => #[]
noncomputable def lbre_0 : List Oper := match Try.f25.body with
  | some (.seq (.region _ o _) _) => o.toList
  | _ => []
theorem ebre_0 : rbre_0.toList = lbre_0 := rfl
noncomputable def rbre_1 : Array Oper := match Try.f25.body with
  | some (.seq _ (.seq (.region _ o _) _)) => o
  | _ => #[]
noncomputable def lbre_1 : List Oper := match Try.f25.body with
  | some (.seq _ (.seq (.region _ o _) _)) => o.toList
  | _ => []
theorem ebre_1 : rbre_1.toList = lbre_1 := rfl
theorem bodybre : Try.f25.body = some (.seq (.region 0 rbre_0 false) (.seq (.region 1 rbre_1 false) .ret)) := rfl
-- ntmps 11
end Go.Am.Seat

/-
  Memory behind what was there ahead, row by row; numbers; the budget's smallest calls (own work).
-/
set_option linter.unusedSimpArgs false
set_option linter.unusedVariables false
namespace Go.Am.Seat
open Go.Proofs Go.Am
set_option maxRecDepth 100000

theorem und3 : E.P.underlying 3 = some (.int .i64) := Try.underlying3
theorem und4 : E.P.underlying 4 = some .bool := Try.underlying4
theorem und5 : E.P.underlying 5 = some (.int .u8) := Try.underlying5
theorem und9 : E.P.underlying 9 = some .string := Try.underlying9
/-- What was there ahead, and rows behind it. -/
def ap (m : Mem) (L : List Blk) : Mem := m ++ L
/-- A place in the rows behind what was there ahead. -/
def adr (m : Mem) (k o : Nat) : Value := .pointer (some ⟨m.length + k, o, none⟩)
theorem ap_nil (m : Mem) : m = ap m [] := (List.append_nil m).symm
theorem ap_len (m : Mem) (L : List Blk) : (ap m L).length = m.length + L.length := List.length_append
theorem ap_app (m : Mem) (L : List Blk) (b : Blk) : ap m L ++ [b] = ap m (L ++ [b]) := List.append_assoc ..
theorem ap_get (m : Mem) (L : List Blk) (k : Nat) : (ap m L)[m.length + k]? = L[k]? := by
  unfold ap
  rw [List.getElem?_append_right (by omega), Nat.add_sub_cancel_left]
theorem ap_set (m : Mem) (L : List Blk) (k : Nat) (b : Blk) : (ap m L).set (m.length + k) b = ap m (L.set k b) := by
  unfold ap
  rw [List.set_append_right _ _ (by omega), Nat.add_sub_cancel_left]

def cellsOf : Option Blk → Option (List Value)
  | some (.row _ _ cs) => some cs
  | some (.tab _ cs) => some cs
  | _ => none
theorem look_ap (m : Mem) (L : List Blk) (k : Nat) : (look (ap m L) (m.length + k)).map (·.2.2) = cellsOf L[k]? := by
  unfold look
  rw [ap_get]
  cases h : L[k]? with
  | none => rfl
  | some b => cases b <;> rfl

/-- A whole of n cells. -/
def ldS (n : Nat) (b : Option Blk) : Option Value := match cellsOf b with
  | some cs => if n ≤ cs.length then some (.agg (cs.take n).toArray) else none
  | none => none
/-- A cell. -/
def ldF (o : Nat) (b : Option Blk) : Option Value := match cellsOf b with
  | some cs => cs[o]?
  | none => none
theorem ldS_3 {ro : Bool} {e : TypeId} {a b c : Value} : ldS 3 (some (.row ro e [a, b, c])) = some (.agg ⟨[a, b, c]⟩) := rfl
theorem ldS_2 {ro : Bool} {e : TypeId} {a b : Value} : ldS 2 (some (.row ro e [a, b])) = some (.agg ⟨[a, b]⟩) := rfl
theorem ldF_0 {ro : Bool} {e : TypeId} {a : Value} {l : List Value} : ldF 0 (some (.row ro e (a :: l))) = some a := rfl
theorem ldF_1 {ro : Bool} {e : TypeId} {a b : Value} {l : List Value} : ldF 1 (some (.row ro e (a :: b :: l))) = some b := rfl
theorem ldF_2 {ro : Bool} {e : TypeId} {a b c : Value} {l : List Value} : ldF 2 (some (.row ro e (a :: b :: c :: l))) = some c := rfl

theorem aload_S {t : TypeId} {d : TypeDesc} {n : Nat} (hd : E.P.underlying t = some d) (ha : aggD d = true) (hn : (E.P.info? t).map (·.size) = some n) (m : Mem) (L : List Blk) (k : Nat) : aload E.P t (adr m k 0) (ap m L) = ldS n L[k]? := by
  obtain ⟨i, hi, hs⟩ := Option.map_eq_some_iff.1 hn
  have hl := look_ap m L k
  unfold aload adr ldS
  simp only
  cases hq : look (ap m L) (m.length + k) with
  | none =>
    rw [hq] at hl
    rw [← hl]
    rfl
  | some r =>
    rw [hq] at hl
    obtain ⟨a, b, cs⟩ := r
    rw [← hl, hd]
    simp only [ha, hi, hs, Nat.zero_add, List.drop_zero, Option.map_some]
theorem aload_F {t : TypeId} {d : TypeDesc} (hd : E.P.underlying t = some d) (ha : aggD d = false) (m : Mem) (L : List Blk) (k o : Nat) : aload E.P t (adr m k o) (ap m L) = ldF o L[k]? := by
  have hl := look_ap m L k
  unfold aload adr ldF
  simp only
  cases hq : look (ap m L) (m.length + k) with
  | none =>
    rw [hq] at hl
    rw [← hl]
    rfl
  | some r =>
    rw [hq] at hl
    obtain ⟨a, b, cs⟩ := r
    rw [← hl, hd]
    simp only [ha, Option.map_some]

/-- Cells laid into a row. -/
def stL (n : Nat) (m : Mem) (L : List Blk) (k o : Nat) (l : List Value) : Option Mem := match L[k]? with
  | some (.row false e cs) => if l.length = n ∧ o + l.length ≤ cs.length then some (ap m (L.set k (.row false e (lay cs o l)))) else none
  | _ => none
theorem astore_L {t : TypeId} {n : Nat} (hn : (E.P.info? t).map (·.size) = some n) {u : Value} {l : List Value} (hu : vcells u = some l) (m : Mem) (L : List Blk) (k o : Nat) : astore E.P t (adr m k o) u (ap m L) = stL n m L k o l := by
  obtain ⟨i, hi, hs⟩ := Option.map_eq_some_iff.1 hn
  unfold astore adr stL
  simp only [ap_get]
  cases hq : L[k]? with
  | none => rfl
  | some b =>
    cases b with
    | row ro e cs =>
      cases ro with
      | true => rfl
      | false => simp only [hu, hi, hs, ap_set]
    | _ => rfl
theorem stL_3 {m : Mem} {L : List Blk} {k : Nat} {a b c : Value} : stL 3 m L k 0 [a, b, c] = match L[k]? with
    | some (.row false e [_, _, _]) => some (ap m (L.set k (.row false e [a, b, c])))
    | x => stL 3 m L k 0 [a, b, c] := by
  split
  · rename_i h
    unfold stL
    rw [h]
    rfl
  · rfl
theorem stL_2 {m : Mem} {L : List Blk} {k : Nat} {a b : Value} : stL 2 m L k 0 [a, b] = match L[k]? with
    | some (.row false e [_, _]) => some (ap m (L.set k (.row false e [a, b])))
    | x => stL 2 m L k 0 [a, b] := by
  split
  · rename_i h
    unfold stL
    rw [h]
    rfl
  · rfl
theorem stL_1 {m : Mem} {L : List Blk} {k o : Nat} {a : Value} : stL 1 m L k o [a] = match L[k]? with
    | some (.row false e cs) => if o + 1 ≤ cs.length then some (ap m (L.set k (.row false e (cs.set o a)))) else none
    | _ => none := by
  unfold stL
  cases hq : L[k]? with
  | none => rfl
  | some b =>
    cases b with
    | row ro e cs =>
      cases ro with
      | true => rfl
      | false => simp only [List.length_cons, List.length_nil, Nat.zero_add, true_and, lay]
    | _ => rfl
theorem abox_L {t : TypeId} (hi : (E.P.info? t).isSome = true) {v : Value} {l : List Value} (hv : vcells v = some l) (m : Mem) (L : List Blk) : abox E.P t v (ap m L) = some (adr m L.length 0, ap m (L ++ [.row false t l])) := by
  obtain ⟨i, hi⟩ := Option.isSome_iff_exists.1 hi
  unfold abox adr
  simp only [hi, hv, ap_len, ap_app]
theorem aalloc_L {t : TypeId} {z : Value} {l : List Value} (hi : (E.P.info? t).bind (·.zero) = some z) (hv : vcells z = some l) (hl : l.all lit0 = true) (m : Mem) (L : List Blk) : aalloc E.P t (ap m L) = some (adr m L.length 0, ap m (L ++ [.row false t l])) := by
  cases h : E.P.info? t with
  | none => rw [h] at hi; cases hi
  | some i =>
    rw [h] at hi
    have hz : i.zero = some z := hi
    unfold aalloc adr
    simp only [h, hz, hv, hl, if_true, ap_len, ap_app]

def pol (a b c : Int) : Value := .agg ⟨[.int .i64 a, .int .u64 b, .int .i64 c]⟩
def bud (a b : Int) (c : Bool) : Value := .agg ⟨[.int .i64 a, .int .u64 b, .bool c]⟩
def polC (a b c : Int) : List Value := [.int .i64 a, .int .u64 b, .int .i64 c]
def budC (a b : Int) (c : Bool) : List Value := [.int .i64 a, .int .u64 b, .bool c]

section
variable (m : Mem) (L : List Blk) (k o : Nat) (a b c : Int) (d : Bool)
theorem bxP : abox E.P 24 (pol a b c) (ap m L) = some (adr m L.length 0, ap m (L ++ [.row false 24 (polC a b c)])) := abox_L (by kernel_rfl) rfl m L
theorem bxB : abox E.P 26 (bud a b d) (ap m L) = some (adr m L.length 0, ap m (L ++ [.row false 26 (budC a b d)])) := abox_L (by kernel_rfl) rfl m L
theorem bxPr : abox E.P 28 (pol a b c) (ap m L) = some (adr m L.length 0, ap m (L ++ [.row false 28 (polC a b c)])) := abox_L (by kernel_rfl) rfl m L
theorem bxBr : abox E.P 34 (bud a b d) (ap m L) = some (adr m L.length 0, ap m (L ++ [.row false 34 (budC a b d)])) := abox_L (by kernel_rfl) rfl m L
theorem alP : aalloc E.P 24 (ap m L) = some (adr m L.length 0, ap m (L ++ [.row false 24 (polC 0 0 0)])) := aalloc_L (z := pol 0 0 0) (by kernel_rfl) rfl rfl m L
theorem alB : aalloc E.P 26 (ap m L) = some (adr m L.length 0, ap m (L ++ [.row false 26 (budC 0 0 false)])) := aalloc_L (z := bud 0 0 false) (by kernel_rfl) rfl rfl m L
theorem alPr : aalloc E.P 28 (ap m L) = some (adr m L.length 0, ap m (L ++ [.row false 28 (polC 0 0 0)])) := aalloc_L (z := pol 0 0 0) (by kernel_rfl) rfl rfl m L
theorem alBr : aalloc E.P 34 (ap m L) = some (adr m L.length 0, ap m (L ++ [.row false 34 (budC 0 0 false)])) := aalloc_L (z := bud 0 0 false) (by kernel_rfl) rfl rfl m L
theorem ldP' : aload E.P 24 (adr m k 0) (ap m L) = ldS 3 L[k]? := aload_S Try.underlying24 rfl (by kernel_rfl) m L k
theorem ldB' : aload E.P 26 (adr m k 0) (ap m L) = ldS 3 L[k]? := aload_S Try.underlying26 rfl (by kernel_rfl) m L k
theorem ldPr' : aload E.P 28 (adr m k 0) (ap m L) = ldS 3 L[k]? := aload_S Try.underlying28 rfl (by kernel_rfl) m L k
theorem ldBr' : aload E.P 34 (adr m k 0) (ap m L) = ldS 3 L[k]? := aload_S Try.underlying34 rfl (by kernel_rfl) m L k
theorem ldI' : aload E.P 3 (adr m k o) (ap m L) = ldF o L[k]? := aload_F Try.underlying3 rfl m L k o
theorem ldU' : aload E.P 22 (adr m k o) (ap m L) = ldF o L[k]? := aload_F Try.underlying22 rfl m L k o
theorem ldL' : aload E.P 4 (adr m k o) (ap m L) = ldF o L[k]? := aload_F Try.underlying4 rfl m L k o
theorem ldS_pol {ro : Bool} {e : TypeId} : ldS 3 (some (.row ro e (polC a b c))) = some (pol a b c) := rfl
theorem ldS_bud {ro : Bool} {e : TypeId} : ldS 3 (some (.row ro e (budC a b d))) = some (bud a b d) := rfl
theorem ldF_p0 {ro : Bool} {e : TypeId} : ldF 0 (some (.row ro e (polC a b c))) = some (.int .i64 a) := rfl
theorem ldF_p1 {ro : Bool} {e : TypeId} : ldF 1 (some (.row ro e (polC a b c))) = some (.int .u64 b) := rfl
theorem ldF_p2 {ro : Bool} {e : TypeId} : ldF 2 (some (.row ro e (polC a b c))) = some (.int .i64 c) := rfl
theorem ldF_b0 {ro : Bool} {e : TypeId} : ldF 0 (some (.row ro e (budC a b d))) = some (.int .i64 a) := rfl
theorem ldF_b1 {ro : Bool} {e : TypeId} : ldF 1 (some (.row ro e (budC a b d))) = some (.int .u64 b) := rfl
theorem ldF_b2 {ro : Bool} {e : TypeId} : ldF 2 (some (.row ro e (budC a b d))) = some (.bool d) := rfl
/-- A row's cells, changed. -/
def chg (m : Mem) (L : List Blk) (k : Nat) (f : List Value → Option (List Value)) : Option Mem := match L[k]? with
  | some (.row false e cs) => match f cs with
    | some cs' => some (ap m (L.set k (.row false e cs')))
    | none => none
  | _ => none
def putAll (n : Nat) (l : List Value) (cs : List Value) : Option (List Value) := if cs.length = n then some l else none
def putAt (o : Nat) (v : Value) (cs : List Value) : Option (List Value) := if o + 1 ≤ cs.length then some (cs.set o v) else none
theorem chg_all {l : List Value} (hl : l.length = 3) (h : ∀ e cs, L[k]? = some (.row false e cs) → cs.length = 3) : stL 3 m L k 0 l = chg m L k (putAll 3 l) := by
  unfold stL chg putAll
  cases hq : L[k]? with
  | none => rfl
  | some b =>
    cases b with
    | row ro e cs =>
      cases ro with
      | true => rfl
      | false =>
        have h3 := h e cs hq
        match l, hl, cs, h3 with
        | [x, y, z], _, [p, q, r], _ => rfl
    | _ => rfl
end
end Go.Am.Seat
