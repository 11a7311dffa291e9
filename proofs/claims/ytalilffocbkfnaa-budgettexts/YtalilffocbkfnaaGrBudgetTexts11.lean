/-
  Readers of texts, their parts, doors: skeletons (own work).
-/
import Derived.Test.YtalilffocbkfnaaGrBudgetTexts8
import Derived.Test.YtalilffocbkfnaaGrBudgetTexts9
import Derived.Test.YtalilffocbkfnaaGrBudgetTexts10
set_option linter.unusedSimpArgs false
set_option linter.unusedVariables false
namespace Go.Am.Seat
open Go.Proofs Go.Am
set_option maxRecDepth 100000

noncomputable def rbte_0 : Array Oper := match Try.f4.body with
  | some (.seq (.region _ o _) _) => o
  | _ => #[]
noncomputable def lbte_0 : List Oper := match Try.f4.body with
  | some (.seq (.region _ o _) _) => o.toList
  | _ => []
theorem ebte_0 : rbte_0.toList = lbte_0 := rfl
noncomputable def rbte_1 : Array Oper := match Try.f4.body with
  | some (.seq _ (.seq (.seq (.region _ o _) _) _)) => o
  | _ => #[]
noncomputable def lbte_1 : List Oper := match Try.f4.body with
  | some (.seq _ (.seq (.seq (.region _ o _) _) _)) => o.toList
  | _ => []
theorem ebte_1 : rbte_1.toList = lbte_1 := rfl
noncomputable def rbte_2 : Array Oper := match Try.f4.body with
  | some (.seq _ (.seq (.seq _ (.cond _ (.seq (.region _ o _) _) _)) _)) => o
  | _ => #[]
noncomputable def lbte_2 : List Oper := match Try.f4.body with
  | some (.seq _ (.seq (.seq _ (.cond _ (.seq (.region _ o _) _) _)) _)) => o.toList
  | _ => []
theorem ebte_2 : rbte_2.toList = lbte_2 := rfl
noncomputable def rbte_3 : Array Oper := match Try.f4.body with
  | some (.seq _ (.seq _ (.seq (.seq (.region _ o _) _) _))) => o
  | _ => #[]
noncomputable def lbte_3 : List Oper := match Try.f4.body with
  | some (.seq _ (.seq _ (.seq (.seq (.region _ o _) _) _))) => o.toList
  | _ => []
theorem ebte_3 : rbte_3.toList = lbte_3 := rfl
noncomputable def rbte_4 : Array Oper := match Try.f4.body with
  | some (.seq _ (.seq _ (.seq (.seq _ (.cond _ (.seq (.region _ o _) _) _)) _))) => o
  | _ => #[]
noncomputable def lbte_4 : List Oper := match Try.f4.body with
  | some (.seq _ (.seq _ (.seq (.seq _ (.cond _ (.seq (.region _ o _) _) _)) _))) => o.toList
  | _ => []
theorem ebte_4 : rbte_4.toList = lbte_4 := rfl
noncomputable def rbte_5 : Array Oper := match Try.f4.body with
  | some (.seq _ (.seq _ (.seq _ (.seq (.region _ o _) _)))) => o
  | _ => #[]
noncomputable def lbte_5 : List Oper := match Try.f4.body with
  | some (.seq _ (.seq _ (.seq _ (.seq (.region _ o _) _)))) => o.toList
  | _ => []
theorem ebte_5 : rbte_5.toList = lbte_5 := rfl
noncomputable def rbte_6 : Array Oper := match Try.f4.body with
  | some (.seq _ (.seq _ (.seq _ (.seq _ (.seq (.seq (.region _ o _) _) _))))) => o
  | _ => #[]
noncomputable def lbte_6 : List Oper := match Try.f4.body with
  | some (.seq _ (.seq _ (.seq _ (.seq _ (.seq (.seq (.region _ o _) _) _))))) => o.toList
  | _ => []
theorem ebte_6 : rbte_6.toList = lbte_6 := rfl
theorem gbte_6_2 {T : List Value} {dd : Option Tmp} {op : Op} {ty : TypeId} {pos : String} {af : Array Edge} {want : Bool} : agd rbte_6 T { dst := dd, op := op, type := ty, pos := pos, after := af, guard := some (2, want) } = gdAt T 23 want := agd_at (by kernel_rfl)
theorem gbte_6_8 {T : List Value} {dd : Option Tmp} {op : Op} {ty : TypeId} {pos : String} {af : Array Edge} {want : Bool} : agd rbte_6 T { dst := dd, op := op, type := ty, pos := pos, after := af, guard := some (8, want) } = gdAt T 29 want := agd_at (by kernel_rfl)
theorem gbte_6_11 {T : List Value} {dd : Option Tmp} {op : Op} {ty : TypeId} {pos : String} {af : Array Edge} {want : Bool} : agd rbte_6 T { dst := dd, op := op, type := ty, pos := pos, after := af, guard := some (11, want) } = gdAt T 32 want := agd_at (by kernel_rfl)
theorem gbte_6_14 {T : List Value} {dd : Option Tmp} {op : Op} {ty : TypeId} {pos : String} {af : Array Edge} {want : Bool} : agd rbte_6 T { dst := dd, op := op, type := ty, pos := pos, after := af, guard := some (14, want) } = gdAt T 35 want := agd_at (by kernel_rfl)
noncomputable def rbte_7 : Array Oper := match Try.f4.body with
  | some (.seq _ (.seq _ (.seq _ (.seq _ (.seq (.seq _ (.cond _ (.seq (.region _ o _) _) _)) _))))) => o
  | _ => #[]
noncomputable def lbte_7 : List Oper := match Try.f4.body with
  | some (.seq _ (.seq _ (.seq _ (.seq _ (.seq (.seq _ (.cond _ (.seq (.region _ o _) _) _)) _))))) => o.toList
  | _ => []
theorem ebte_7 : rbte_7.toList = lbte_7 := rfl
noncomputable def rbte_8 : Array Oper := match Try.f4.body with
  | some (.seq _ (.seq _ (.seq _ (.seq _ (.seq _ (.seq (.region _ o _) _)))))) => o
  | _ => #[]
noncomputable def lbte_8 : List Oper := match Try.f4.body with
  | some (.seq _ (.seq _ (.seq _ (.seq _ (.seq _ (.seq (.region _ o _) _)))))) => o.toList
  | _ => []
theorem ebte_8 : rbte_8.toList = lbte_8 := rfl
theorem gbte_8_3 {T : List Value} {dd : Option Tmp} {op : Op} {ty : TypeId} {pos : String} {af : Array Edge} {want : Bool} : agd rbte_8 T { dst := dd, op := op, type := ty, pos := pos, after := af, guard := some (3, want) } = gdAt T 45 want := agd_at (by kernel_rfl)
theorem gbte_8_8 {T : List Value} {dd : Option Tmp} {op : Op} {ty : TypeId} {pos : String} {af : Array Edge} {want : Bool} : agd rbte_8 T { dst := dd, op := op, type := ty, pos := pos, after := af, guard := some (8, want) } = gdAt T 50 want := agd_at (by kernel_rfl)
noncomputable def rbte_9 : Array Oper := match Try.f4.body with
  | some (.seq _ (.seq _ (.seq _ (.seq _ (.seq _ (.seq _ (.seq (.seq (.region _ o _) _) _))))))) => o
  | _ => #[]
noncomputable def lbte_9 : List Oper := match Try.f4.body with
  | some (.seq _ (.seq _ (.seq _ (.seq _ (.seq _ (.seq _ (.seq (.seq (.region _ o _) _) _))))))) => o.toList
  | _ => []
theorem ebte_9 : rbte_9.toList = lbte_9 := rfl
theorem gbte_9_3 {T : List Value} {dd : Option Tmp} {op : Op} {ty : TypeId} {pos : String} {af : Array Edge} {want : Bool} : agd rbte_9 T { dst := dd, op := op, type := ty, pos := pos, after := af, guard := some (3, want) } = gdAt T 58 want := agd_at (by kernel_rfl)
noncomputable def rbte_10 : Array Oper := match Try.f4.body with
  | some (.seq _ (.seq _ (.seq _ (.seq _ (.seq _ (.seq _ (.seq (.seq _ (.cond _ (.seq (.region _ o _) _) _)) _))))))) => o
  | _ => #[]
noncomputable def lbte_10 : List Oper := match Try.f4.body with
  | some (.seq _ (.seq _ (.seq _ (.seq _ (.seq _ (.seq _ (.seq (.seq _ (.cond _ (.seq (.region _ o _) _) _)) _))))))) => o.toList
  | _ => []
theorem ebte_10 : rbte_10.toList = lbte_10 := rfl
noncomputable def rbte_11 : Array Oper := match Try.f4.body with
  | some (.seq _ (.seq _ (.seq _ (.seq _ (.seq _ (.seq _ (.seq _ (.seq (.region _ o _) _)))))))) => o
  | _ => #[]
noncomputable def lbte_11 : List Oper := match Try.f4.body with
  | some (.seq _ (.seq _ (.seq _ (.seq _ (.seq _ (.seq _ (.seq _ (.seq (.region _ o _) _)))))))) => o.toList
  | _ => []
theorem ebte_11 : rbte_11.toList = lbte_11 := rfl
noncomputable def rbte_12 : Array Oper := match Try.f4.body with
  | some (.seq _ (.seq _ (.seq _ (.seq _ (.seq _ (.seq _ (.seq _ (.seq _ (.seq (.region _ o _) _))))))))) => o
  | _ => #[]
noncomputable def lbte_12 : List Oper := match Try.f4.body with
  | some (.seq _ (.seq _ (.seq _ (.seq _ (.seq _ (.seq _ (.seq _ (.seq _ (.seq (.region _ o _) _))))))))) => o.toList
  | _ => []
theorem ebte_12 : rbte_12.toList = lbte_12 := rfl
noncomputable def rbte_13 : Array Oper := match Try.f4.body with
  | some (.seq _ (.seq _ (.seq _ (.seq _ (.seq _ (.seq _ (.seq _ (.seq _ (.seq _ (.seq (.region _ o _) _)))))))))) => o
  | _ => #[]
noncomputable def lbte_13 : List Oper := match Try.f4.body with
  | some (.seq _ (.seq _ (.seq _ (.seq _ (.seq _ (.seq _ (.seq _ (.seq _ (.seq _ (.seq (.region _ o _) _)))))))))) => o.toList
  | _ => []
theorem ebte_13 : rbte_13.toList = lbte_13 := rfl
theorem gbte_13_4 {T : List Value} {dd : Option Tmp} {op : Op} {ty : TypeId} {pos : String} {af : Array Edge} {want : Bool} : agd rbte_13 T { dst := dd, op := op, type := ty, pos := pos, after := af, guard := some (4, want) } = gdAt T 78 want := agd_at (by kernel_rfl)
theorem gbte_13_8 {T : List Value} {dd : Option Tmp} {op : Op} {ty : TypeId} {pos : String} {af : Array Edge} {want : Bool} : agd rbte_13 T { dst := dd, op := op, type := ty, pos := pos, after := af, guard := some (8, want) } = gdAt T 82 want := agd_at (by kernel_rfl)
theorem gbte_13_13 {T : List Value} {dd : Option Tmp} {op : Op} {ty : TypeId} {pos : String} {af : Array Edge} {want : Bool} : agd rbte_13 T { dst := dd, op := op, type := ty, pos := pos, after := af, guard := some (13, want) } = gdAt T 87 want := agd_at (by kernel_rfl)
theorem bodybte : Try.f4.body = some (.seq (.region 0 rbte_0 false) (.seq (.seq (.region 1 rbte_1 false) (.cond (.tmp 12) (.seq (.region 2 rbte_2 false) .ret) .skip)) (.seq (.seq (.region 3 rbte_3 false) (.cond (.tmp 15) (.seq (.region 4 rbte_4 false) .ret) .skip)) (.seq (.region 5 rbte_5 false) (.seq (.seq (.region 6 rbte_6 false) (.cond (.tmp 41) (.seq (.region 7 rbte_7 false) .ret) .skip)) (.seq (.region 8 rbte_8 false) (.seq (.seq (.region 9 rbte_9 false) (.cond (.tmp 62) (.seq (.region 10 rbte_10 false) .ret) .skip)) (.seq (.region 11 rbte_11 false) (.seq (.region 12 rbte_12 false) (.seq (.region 13 rbte_13 false) .ret)))))))))) := rfl
-- ntmps 92
noncomputable def rbpa_0 : Array Oper := match Try.f21.body with
  | some (.seq (.region _ o _) _) => o
  | _ => #[]
noncomputable def lbpa_0 : List Oper := match Try.f21.body with
  | some (.seq (.region _ o _) _) => o.toList
  | _ => []
theorem ebpa_0 : rbpa_0.toList = lbpa_0 := rfl
noncomputable def rbpa_1 : Array Oper := match Try.f21.body with
  | some (.seq _ (.seq (.region _ o _) _)) => o
  | _ => #[]
noncomputable def lbpa_1 : List Oper := match Try.f21.body with
  | some (.seq _ (.seq (.region _ o _) _)) => o.toList
  | _ => []
theorem ebpa_1 : rbpa_1.toList = lbpa_1 := rfl
theorem bodybpa : Try.f21.body = some (.seq (.region 0 rbpa_0 false) (.seq (.region 1 rbpa_1 false) .ret)) := rfl
-- ntmps 8
noncomputable def rbtx_0 : Array Oper := match Try.f22.body with
  | some (.seq (.region _ o _) _) => o
  | _ => #[]
noncomputable def lbtx_0 : List Oper := match Try.f22.body with
  | some (.seq (.region _ o _) _) => o.toList
  | _ => []
theorem ebtx_0 : rbtx_0.toList = lbtx_0 := rfl
noncomputable def rbtx_1 : Array Oper := match Try.f22.body with
  | some (.seq _ (.seq (.region _ o _) _)) => o
  | _ => #[]
noncomputable def lbtx_1 : List Oper := match Try.f22.body with
  | some (.seq _ (.seq (.region _ o _) _)) => o.toList
  | _ => []
theorem ebtx_1 : rbtx_1.toList = lbtx_1 := rfl
theorem dbtx_1 {self : Self} {B : Nat} {T : List Value} {m : Mem} {lb : List (Nat × Nat)} {ls : Bool} : adrawN E self rbtx_1 B rbtx_1.toList 0 T m lb ls = adrawT E self rbtx_1 B rbtx_1.toList [(false, false), (false, false), (false, false), (false, false), (false, false), (false, false), (false, false), (false, false), (false, false), (false, false), (false, false), (false, false)] 0 T m lb ls := adraw_tab (by kernel_rfl)
theorem sbtx_1 : E.sr 1 rbtx_1 = false := by kernel_rfl
theorem bodybtx : Try.f22.body = some (.seq (.region 0 rbtx_0 false) (.seq (.region 1 rbtx_1 true) .ret)) := rfl
-- ntmps 14
noncomputable def rblf_0 : Array Oper := match Try.f29.body with
  | some (.seq (.region _ o _) _) => o
  | _ => #[]
noncomputable def lblf_0 : List Oper := match Try.f29.body with
  | some (.seq (.region _ o _) _) => o.toList
  | _ => []
theorem eblf_0 : rblf_0.toList = lblf_0 := rfl
noncomputable def rblf_1 : Array Oper := match Try.f29.body with
  | some (.seq _ (.seq (.region _ o _) _)) => o
  | _ => #[]
noncomputable def lblf_1 : List Oper := match Try.f29.body with
  | some (.seq _ (.seq (.region _ o _) _)) => o.toList
  | _ => []
theorem eblf_1 : rblf_1.toList = lblf_1 := rfl
theorem bodyblf : Try.f29.body = some (.seq (.region 0 rblf_0 false) (.seq (.region 1 rblf_1 false) .ret)) := rfl
-- ntmps 8
noncomputable def rwho_0 : Array Oper := match Try.f26.body with
  | some (.seq (.region _ o _) _) => o
  | _ => #[]
noncomputable def lwho_0 : List Oper := match Try.f26.body with
  | some (.seq (.region _ o _) _) => o.toList
  | _ => []
theorem ewho_0 : rwho_0.toList = lwho_0 := rfl
noncomputable def rwho_1 : Array Oper := match Try.f26.body with
  | some (.seq _ (.seq (.region _ o _) _)) => o
  | _ => #[]
noncomputable def lwho_1 : List Oper := match Try.f26.body with
  | some (.seq _ (.seq (.region _ o _) _)) => o.toList
  | _ => []
theorem ewho_1 : rwho_1.toList = lwho_1 := rfl
theorem bodywho : Try.f26.body = some (.seq (.region 0 rwho_0 false) (.seq (.region 1 rwho_1 false) .ret)) := rfl
-- ntmps 10
noncomputable def rwha_0 : Array Oper := match Try.f33.body with
  | some (.seq (.region _ o _) _) => o
  | _ => #[]
noncomputable def lwha_0 : List Oper := match Try.f33.body with
  | some (.seq (.region _ o _) _) => o.toList
  | _ => []
theorem ewha_0 : rwha_0.toList = lwha_0 := rfl
noncomputable def rwha_1 : Array Oper := match Try.f33.body with
  | some (.seq _ (.seq (.region _ o _) _)) => o
  | _ => #[]
noncomputable def lwha_1 : List Oper := match Try.f33.body with
  | some (.seq _ (.seq (.region _ o _) _)) => o.toList
  | _ => []
theorem ewha_1 : rwha_1.toList = lwha_1 := rfl
noncomputable def rwha_2 : Array Oper := match Try.f33.body with
  | some (.seq _ (.seq _ (.seq (.region _ o _) _))) => o
  | _ => #[]
noncomputable def lwha_2 : List Oper := match Try.f33.body with
  | some (.seq _ (.seq _ (.seq (.region _ o _) _))) => o.toList
  | _ => []
theorem ewha_2 : rwha_2.toList = lwha_2 := rfl
noncomputable def rwha_3 : Array Oper := match Try.f33.body with
  | some (.seq _ (.seq _ (.seq _ (.seq (.region _ o _) _)))) => o
  | _ => #[]
noncomputable def lwha_3 : List Oper := match Try.f33.body with
  | some (.seq _ (.seq _ (.seq _ (.seq (.region _ o _) _)))) => o.toList
  | _ => []
theorem ewha_3 : rwha_3.toList = lwha_3 := rfl
noncomputable def rwha_4 : Array Oper := match Try.f33.body with
  | some (.seq _ (.seq _ (.seq _ (.seq _ (.seq (.region _ o _) _))))) => o
  | _ => #[]
noncomputable def lwha_4 : List Oper := match Try.f33.body with
  | some (.seq _ (.seq _ (.seq _ (.seq _ (.seq (.region _ o _) _))))) => o.toList
  | _ => []
theorem ewha_4 : rwha_4.toList = lwha_4 := rfl
theorem bodywha : Try.f33.body = some (.seq (.region 0 rwha_0 false) (.seq (.region 1 rwha_1 false) (.seq (.region 2 rwha_2 false) (.seq (.region 3 rwha_3 false) (.seq (.region 4 rwha_4 false) .ret))))) := rfl
-- ntmps 15
noncomputable def rdor_0 : Array Oper := match Try.f32.body with
  | some (.seq (.region _ o _) _) => o
  | _ => #[]
noncomputable def ldor_0 : List Oper := match Try.f32.body with
  | some (.seq (.region _ o _) _) => o.toList
  | _ => []
theorem edor_0 : rdor_0.toList = ldor_0 := rfl
noncomputable def rdor_1 : Array Oper := match Try.f32.body with
  | some (.seq _ (.seq (.region _ o _) _)) => o
  | _ => #[]
noncomputable def ldor_1 : List Oper := match Try.f32.body with
  | some (.seq _ (.seq (.region _ o _) _)) => o.toList
  | _ => []
theorem edor_1 : rdor_1.toList = ldor_1 := rfl
noncomputable def rdor_2 : Array Oper := match Try.f32.body with
  | some (.seq _ (.seq _ (.seq (.region _ o _) _))) => o
  | _ => #[]
noncomputable def ldor_2 : List Oper := match Try.f32.body with
  | some (.seq _ (.seq _ (.seq (.region _ o _) _))) => o.toList
  | _ => []
theorem edor_2 : rdor_2.toList = ldor_2 := rfl
theorem bodydor : Try.f32.body = some (.seq (.region 0 rdor_0 false) (.seq (.region 1 rdor_1 false) (.seq (.region 2 rdor_2 false) .ret))) := rfl
-- ntmps 7
noncomputable def rdod_0 : Array Oper := match Try.f40.body with
  | some (.seq (.region _ o _) _) => o
  | _ => #[]
noncomputable def ldod_0 : List Oper := match Try.f40.body with
  | some (.seq (.region _ o _) _) => o.toList
  | _ => []
theorem edod_0 : rdod_0.toList = ldod_0 := rfl
noncomputable def rdod_3 : Array Oper := match Try.f40.body with
  | some (.seq _ (.block _ (.seq (.region _ o _) _))) => o
  | _ => #[]
noncomputable def ldod_3 : List Oper := match Try.f40.body with
  | some (.seq _ (.block _ (.seq (.region _ o _) _))) => o.toList
  | _ => []
theorem edod_3 : rdod_3.toList = ldod_3 := rfl
noncomputable def rdod_4 : Array Oper := match Try.f40.body with
  | some (.seq _ (.block _ (.seq _ (.cond _ (.region _ o _) _)))) => o
  | _ => #[]
noncomputable def ldod_4 : List Oper := match Try.f40.body with
  | some (.seq _ (.block _ (.seq _ (.cond _ (.region _ o _) _)))) => o.toList
  | _ => []
theorem edod_4 : rdod_4.toList = ldod_4 := rfl
noncomputable def rdod_5 : Array Oper := match Try.f40.body with
  | some (.seq _ (.block _ (.seq _ (.cond _ _ (.seq (.region _ o _) _))))) => o
  | _ => #[]
noncomputable def ldod_5 : List Oper := match Try.f40.body with
  | some (.seq _ (.block _ (.seq _ (.cond _ _ (.seq (.region _ o _) _))))) => o.toList
  | _ => []
theorem edod_5 : rdod_5.toList = ldod_5 := rfl
noncomputable def rdod_6 : Array Oper := match Try.f40.body with
  | some (.seq _ (.block _ (.seq _ (.cond _ _ (.seq _ (.cond _ (.seq (.region _ o _) _) _)))))) => o
  | _ => #[]
noncomputable def ldod_6 : List Oper := match Try.f40.body with
  | some (.seq _ (.block _ (.seq _ (.cond _ _ (.seq _ (.cond _ (.seq (.region _ o _) _) _)))))) => o.toList
  | _ => []
theorem edod_6 : rdod_6.toList = ldod_6 := rfl
noncomputable def rdod_7 : Array Oper := match Try.f40.body with
  | some (.seq _ (.block _ (.seq _ (.cond _ _ (.seq _ (.cond _ (.seq _ (.region _ o _)) _)))))) => o
  | _ => #[]
noncomputable def ldod_7 : List Oper := match Try.f40.body with
  | some (.seq _ (.block _ (.seq _ (.cond _ _ (.seq _ (.cond _ (.seq _ (.region _ o _)) _)))))) => o.toList
  | _ => []
theorem edod_7 : rdod_7.toList = ldod_7 := rfl
noncomputable def rdod_1 : Array Oper := match Try.f40.body with
  | some (.seq _ (.block _ (.seq _ (.cond _ _ (.seq _ (.cond _ _ (.seq (.region _ o _) _))))))) => o
  | _ => #[]
noncomputable def ldod_1 : List Oper := match Try.f40.body with
  | some (.seq _ (.block _ (.seq _ (.cond _ _ (.seq _ (.cond _ _ (.seq (.region _ o _) _))))))) => o.toList
  | _ => []
theorem edod_1 : rdod_1.toList = ldod_1 := rfl
noncomputable def rdod_2 : Array Oper := match Try.f40.body with
  | some (.seq _ (.block _ (.seq _ (.cond _ _ (.seq _ (.cond _ _ (.seq _ (.region _ o _)))))))) => o
  | _ => #[]
noncomputable def ldod_2 : List Oper := match Try.f40.body with
  | some (.seq _ (.block _ (.seq _ (.cond _ _ (.seq _ (.cond _ _ (.seq _ (.region _ o _)))))))) => o.toList
  | _ => []
theorem edod_2 : rdod_2.toList = ldod_2 := rfl
theorem bodydod : Try.f40.body = some (.seq (.region 0 rdod_0 false) (.block 0 (.seq (.region 3 rdod_3 false) (.cond (.tmp 6) (.region 4 rdod_4 false) (.seq (.region 5 rdod_5 false) (.cond (.tmp 8) (.seq (.region 6 rdod_6 false) (.region 7 rdod_7 false)) (.seq (.region 1 rdod_1 false) (.region 2 rdod_2 false)))))))) := rfl
-- ntmps 12
noncomputable def rbrd_0 : Array Oper := match Try.f27.body with
  | some (.seq (.region _ o _) _) => o
  | _ => #[]
noncomputable def lbrd_0 : List Oper := match Try.f27.body with
  | some (.seq (.region _ o _) _) => o.toList
  | _ => []
theorem ebrd_0 : rbrd_0.toList = lbrd_0 := rfl
noncomputable def rbrd_1 : Array Oper := match Try.f27.body with
  | some (.seq _ (.seq (.region _ o _) _)) => o
  | _ => #[]
noncomputable def lbrd_1 : List Oper := match Try.f27.body with
  | some (.seq _ (.seq (.region _ o _) _)) => o.toList
  | _ => []
theorem ebrd_1 : rbrd_1.toList = lbrd_1 := rfl
noncomputable def rbrd_2 : Array Oper := match Try.f27.body with
  | some (.seq _ (.seq _ (.seq (.region _ o _) _))) => o
  | _ => #[]
noncomputable def lbrd_2 : List Oper := match Try.f27.body with
  | some (.seq _ (.seq _ (.seq (.region _ o _) _))) => o.toList
  | _ => []
theorem ebrd_2 : rbrd_2.toList = lbrd_2 := rfl
noncomputable def rbrd_3 : Array Oper := match Try.f27.body with
  | some (.seq _ (.seq _ (.seq _ (.seq (.region _ o _) _)))) => o
  | _ => #[]
noncomputable def lbrd_3 : List Oper := match Try.f27.body with
  | some (.seq _ (.seq _ (.seq _ (.seq (.region _ o _) _)))) => o.toList
  | _ => []
theorem ebrd_3 : rbrd_3.toList = lbrd_3 := rfl
theorem bodybrd : Try.f27.body = some (.seq (.region 0 rbrd_0 false) (.seq (.region 1 rbrd_1 false) (.seq (.region 2 rbrd_2 false) (.seq (.region 3 rbrd_3 false) .ret)))) := rfl
-- ntmps 16
noncomputable def rprr_0 : Array Oper := match Try.f34.body with
  | some (.seq (.region _ o _) _) => o
  | _ => #[]
noncomputable def lprr_0 : List Oper := match Try.f34.body with
  | some (.seq (.region _ o _) _) => o.toList
  | _ => []
theorem eprr_0 : rprr_0.toList = lprr_0 := rfl
noncomputable def rprr_1 : Array Oper := match Try.f34.body with
  | some (.seq _ (.seq (.region _ o _) _)) => o
  | _ => #[]
noncomputable def lprr_1 : List Oper := match Try.f34.body with
  | some (.seq _ (.seq (.region _ o _) _)) => o.toList
  | _ => []
theorem eprr_1 : rprr_1.toList = lprr_1 := rfl
theorem bodyprr : Try.f34.body = some (.seq (.region 0 rprr_0 false) (.seq (.region 1 rprr_1 false) .ret)) := rfl
-- ntmps 6
noncomputable def rhld_0 : Array Oper := match Try.f35.body with
  | some (.seq (.region _ o _) _) => o
  | _ => #[]
noncomputable def lhld_0 : List Oper := match Try.f35.body with
  | some (.seq (.region _ o _) _) => o.toList
  | _ => []
theorem ehld_0 : rhld_0.toList = lhld_0 := rfl
noncomputable def rhld_1 : Array Oper := match Try.f35.body with
  | some (.seq _ (.cond _ (.region _ o _) _)) => o
  | _ => #[]
noncomputable def lhld_1 : List Oper := match Try.f35.body with
  | some (.seq _ (.cond _ (.region _ o _) _)) => o.toList
  | _ => []
theorem ehld_1 : rhld_1.toList = lhld_1 := rfl
theorem bodyhld : Try.f35.body = some (.seq (.region 0 rhld_0 false) (.cond (.tmp 5) (.region 1 rhld_1 false) .skip)) := rfl
-- ntmps 9
noncomputable def rrmo_0 : Array Oper := match Try.f36.body with
  | some (.seq (.region _ o _) _) => o
  | _ => #[]
noncomputable def lrmo_0 : List Oper := match Try.f36.body with
  | some (.seq (.region _ o _) _) => o.toList
  | _ => []
theorem ermo_0 : rrmo_0.toList = lrmo_0 := rfl
noncomputable def rrmo_1 : Array Oper := match Try.f36.body with
  | some (.seq _ (.seq (.region _ o _) _)) => o
  | _ => #[]
noncomputable def lrmo_1 : List Oper := match Try.f36.body with
  | some (.seq _ (.seq (.region _ o _) _)) => o.toList
  | _ => []
theorem ermo_1 : rrmo_1.toList = lrmo_1 := rfl
theorem bodyrmo : Try.f36.body = some (.seq (.region 0 rrmo_0 false) (.seq (.region 1 rrmo_1 false) .ret)) := rfl
-- ntmps 8
noncomputable def rrfo_0 : Array Oper := match Try.f37.body with
  | some (.seq (.region _ o _) _) => o
  | _ => #[]
noncomputable def lrfo_0 : List Oper := match Try.f37.body with
  | some (.seq (.region _ o _) _) => o.toList
  | _ => []
theorem erfo_0 : rrfo_0.toList = lrfo_0 := rfl
noncomputable def rrfo_1 : Array Oper := match Try.f37.body with
  | some (.seq _ (.seq (.region _ o _) _)) => o
  | _ => #[]
noncomputable def lrfo_1 : List Oper := match Try.f37.body with
  | some (.seq _ (.seq (.region _ o _) _)) => o.toList
  | _ => []
theorem erfo_1 : rrfo_1.toList = lrfo_1 := rfl
theorem bodyrfo : Try.f37.body = some (.seq (.region 0 rrfo_0 false) (.seq (.region 1 rrfo_1 false) .ret)) := rfl
-- ntmps 7
noncomputable def rrei_0 : Array Oper := match Try.f38.body with
  | some (.seq (.region _ o _) _) => o
  | _ => #[]
noncomputable def lrei_0 : List Oper := match Try.f38.body with
  | some (.seq (.region _ o _) _) => o.toList
  | _ => []
theorem erei_0 : rrei_0.toList = lrei_0 := rfl
noncomputable def rrei_1 : Array Oper := match Try.f38.body with
  | some (.seq _ (.seq (.region _ o _) _)) => o
  | _ => #[]
noncomputable def lrei_1 : List Oper := match Try.f38.body with
  | some (.seq _ (.seq (.region _ o _) _)) => o.toList
  | _ => []
theorem erei_1 : rrei_1.toList = lrei_1 := rfl
theorem bodyrei : Try.f38.body = some (.seq (.region 0 rrei_0 false) (.seq (.region 1 rrei_1 false) .ret)) := rfl
-- ntmps 6
noncomputable def rrfl_0 : Array Oper := match Try.f39.body with
  | some (.seq (.region _ o _) _) => o
  | _ => #[]
noncomputable def lrfl_0 : List Oper := match Try.f39.body with
  | some (.seq (.region _ o _) _) => o.toList
  | _ => []
theorem erfl_0 : rrfl_0.toList = lrfl_0 := rfl
noncomputable def rrfl_1 : Array Oper := match Try.f39.body with
  | some (.seq _ (.seq (.region _ o _) _)) => o
  | _ => #[]
noncomputable def lrfl_1 : List Oper := match Try.f39.body with
  | some (.seq _ (.seq (.region _ o _) _)) => o.toList
  | _ => []
theorem erfl_1 : rrfl_1.toList = lrfl_1 := rfl
noncomputable def rrfl_2 : Array Oper := match Try.f39.body with
  | some (.seq _ (.seq _ (.seq (.region _ o _) _))) => o
  | _ => #[]
noncomputable def lrfl_2 : List Oper := match Try.f39.body with
  | some (.seq _ (.seq _ (.seq (.region _ o _) _))) => o.toList
  | _ => []
theorem erfl_2 : rrfl_2.toList = lrfl_2 := rfl
noncomputable def rrfl_3 : Array Oper := match Try.f39.body with
  | some (.seq _ (.seq _ (.seq _ (.seq (.region _ o _) _)))) => o
  | _ => #[]
noncomputable def lrfl_3 : List Oper := match Try.f39.body with
  | some (.seq _ (.seq _ (.seq _ (.seq (.region _ o _) _)))) => o.toList
  | _ => []
theorem erfl_3 : rrfl_3.toList = lrfl_3 := rfl
theorem bodyrfl : Try.f39.body = some (.seq (.region 0 rrfl_0 false) (.seq (.region 1 rrfl_1 false) (.seq (.region 2 rrfl_2 false) (.seq (.region 3 rrfl_3 false) .ret)))) := rfl
-- ntmps 11
noncomputable def rrta_0 : Array Oper := match Try.f42.body with
  | some (.seq (.region _ o _) _) => o
  | _ => #[]
noncomputable def lrta_0 : List Oper := match Try.f42.body with
  | some (.seq (.region _ o _) _) => o.toList
  | _ => []
theorem erta_0 : rrta_0.toList = lrta_0 := rfl
noncomputable def rrta_1 : Array Oper := match Try.f42.body with
  | some (.seq _ (.seq (.region _ o _) _)) => o
  | _ => #[]
noncomputable def lrta_1 : List Oper := match Try.f42.body with
  | some (.seq _ (.seq (.region _ o _) _)) => o.toList
  | _ => []
theorem erta_1 : rrta_1.toList = lrta_1 := rfl
noncomputable def rrta_2 : Array Oper := match Try.f42.body with
  | some (.seq _ (.seq _ (.seq (.region _ o _) _))) => o
  | _ => #[]
noncomputable def lrta_2 : List Oper := match Try.f42.body with
  | some (.seq _ (.seq _ (.seq (.region _ o _) _))) => o.toList
  | _ => []
theorem erta_2 : rrta_2.toList = lrta_2 := rfl
noncomputable def rrta_3 : Array Oper := match Try.f42.body with
  | some (.seq _ (.seq _ (.seq _ (.seq (.region _ o _) _)))) => o
  | _ => #[]
noncomputable def lrta_3 : List Oper := match Try.f42.body with
  | some (.seq _ (.seq _ (.seq _ (.seq (.region _ o _) _)))) => o.toList
  | _ => []
theorem erta_3 : rrta_3.toList = lrta_3 := rfl
noncomputable def rrta_4 : Array Oper := match Try.f42.body with
  | some (.seq _ (.seq _ (.seq _ (.seq _ (.seq (.region _ o _) _))))) => o
  | _ => #[]
noncomputable def lrta_4 : List Oper := match Try.f42.body with
  | some (.seq _ (.seq _ (.seq _ (.seq _ (.seq (.region _ o _) _))))) => o.toList
  | _ => []
theorem erta_4 : rrta_4.toList = lrta_4 := rfl
theorem bodyrta : Try.f42.body = some (.seq (.region 0 rrta_0 false) (.seq (.region 1 rrta_1 false) (.seq (.region 2 rrta_2 false) (.seq (.region 3 rrta_3 false) (.seq (.region 4 rrta_4 false) .ret))))) := rfl
-- ntmps 30
noncomputable def rrby_0 : Array Oper := match Try.f43.body with
  | some (.seq (.region _ o _) _) => o
  | _ => #[]
noncomputable def lrby_0 : List Oper := match Try.f43.body with
  | some (.seq (.region _ o _) _) => o.toList
  | _ => []
theorem erby_0 : rrby_0.toList = lrby_0 := rfl
noncomputable def rrby_1 : Array Oper := match Try.f43.body with
  | some (.seq _ (.seq (.region _ o _) _)) => o
  | _ => #[]
noncomputable def lrby_1 : List Oper := match Try.f43.body with
  | some (.seq _ (.seq (.region _ o _) _)) => o.toList
  | _ => []
theorem erby_1 : rrby_1.toList = lrby_1 := rfl
theorem bodyrby : Try.f43.body = some (.seq (.region 0 rrby_0 false) (.seq (.region 1 rrby_1 false) .ret)) := rfl
-- ntmps 6
noncomputable def rpnu_0 : Array Oper := match Try.f41.body with
  | some (.seq (.region _ o _) _) => o
  | _ => #[]
noncomputable def lpnu_0 : List Oper := match Try.f41.body with
  | some (.seq (.region _ o _) _) => o.toList
  | _ => []
theorem epnu_0 : rpnu_0.toList = lpnu_0 := rfl
noncomputable def rpnu_1 : Array Oper := match Try.f41.body with
  | some (.seq _ (.seq (.region _ o _) _)) => o
  | _ => #[]
noncomputable def lpnu_1 : List Oper := match Try.f41.body with
  | some (.seq _ (.seq (.region _ o _) _)) => o.toList
  | _ => []
theorem epnu_1 : rpnu_1.toList = lpnu_1 := rfl
noncomputable def rpnu_2 : Array Oper := match Try.f41.body with
  | some (.seq _ (.seq _ (.seq (.seq (.region _ o _) _) _))) => o
  | _ => #[]
noncomputable def lpnu_2 : List Oper := match Try.f41.body with
  | some (.seq _ (.seq _ (.seq (.seq (.region _ o _) _) _))) => o.toList
  | _ => []
theorem epnu_2 : rpnu_2.toList = lpnu_2 := rfl
noncomputable def lppnu_0 : Code := match Try.f41.body with
  | some (.seq _ (.seq _ (.seq (.seq _ (.block _ (.loop c))) _))) => c
  | _ => .skip
noncomputable def rpnu_3 : Array Oper := match Try.f41.body with
  | some (.seq _ (.seq _ (.seq (.seq _ (.block _ (.loop (.seq (.region _ o _) _)))) _))) => o
  | _ => #[]
noncomputable def lpnu_3 : List Oper := match Try.f41.body with
  | some (.seq _ (.seq _ (.seq (.seq _ (.block _ (.loop (.seq (.region _ o _) _)))) _))) => o.toList
  | _ => []
theorem epnu_3 : rpnu_3.toList = lpnu_3 := rfl
noncomputable def rpnu_4 : Array Oper := match Try.f41.body with
  | some (.seq _ (.seq _ (.seq (.seq _ (.block _ (.loop (.seq _ (.seq _ (.seq (.block _ (.seq (.region _ o _) _)) _)))))) _))) => o
  | _ => #[]
noncomputable def lpnu_4 : List Oper := match Try.f41.body with
  | some (.seq _ (.seq _ (.seq (.seq _ (.block _ (.loop (.seq _ (.seq _ (.seq (.block _ (.seq (.region _ o _) _)) _)))))) _))) => o.toList
  | _ => []
theorem epnu_4 : rpnu_4.toList = lpnu_4 := rfl
noncomputable def rpnu_5 : Array Oper := match Try.f41.body with
  | some (.seq _ (.seq _ (.seq (.seq _ (.block _ (.loop (.seq _ (.seq _ (.seq (.block _ (.seq _ (.region _ o _))) _)))))) _))) => o
  | _ => #[]
noncomputable def lpnu_5 : List Oper := match Try.f41.body with
  | some (.seq _ (.seq _ (.seq (.seq _ (.block _ (.loop (.seq _ (.seq _ (.seq (.block _ (.seq _ (.region _ o _))) _)))))) _))) => o.toList
  | _ => []
theorem epnu_5 : rpnu_5.toList = lpnu_5 := rfl
noncomputable def rpnu_6 : Array Oper := match Try.f41.body with
  | some (.seq _ (.seq _ (.seq (.seq _ (.block _ (.loop (.seq _ (.seq _ (.seq _ (.region _ o _))))))) _))) => o
  | _ => #[]
noncomputable def lpnu_6 : List Oper := match Try.f41.body with
  | some (.seq _ (.seq _ (.seq (.seq _ (.block _ (.loop (.seq _ (.seq _ (.seq _ (.region _ o _))))))) _))) => o.toList
  | _ => []
theorem epnu_6 : rpnu_6.toList = lpnu_6 := rfl
theorem lppnu_0_eq : lppnu_0 = (.seq (.region 3 rpnu_3 false) (.seq (.cond (.tmp 8) .skip (.exit 0)) (.seq (.block 1 (.seq (.region 4 rpnu_4 false) (.region 5 rpnu_5 false))) (.region 6 rpnu_6 false)))) := rfl
noncomputable def rpnu_7 : Array Oper := match Try.f41.body with
  | some (.seq _ (.seq _ (.seq _ (.seq (.region _ o _) _)))) => o
  | _ => #[]
noncomputable def lpnu_7 : List Oper := match Try.f41.body with
  | some (.seq _ (.seq _ (.seq _ (.seq (.region _ o _) _)))) => o.toList
  | _ => []
theorem epnu_7 : rpnu_7.toList = lpnu_7 := rfl
theorem bodypnu : Try.f41.body = some (.seq (.region 0 rpnu_0 false) (.seq (.region 1 rpnu_1 false) (.seq (.seq (.region 2 rpnu_2 false) (.block 0 (.loop lppnu_0))) (.seq (.region 7 rpnu_7 false) .ret)))) := rfl
-- ntmps 19
noncomputable def rpfo_0 : Array Oper := match Try.f28.body with
  | some (.seq (.region _ o _) _) => o
  | _ => #[]
noncomputable def lpfo_0 : List Oper := match Try.f28.body with
  | some (.seq (.region _ o _) _) => o.toList
  | _ => []
theorem epfo_0 : rpfo_0.toList = lpfo_0 := rfl
noncomputable def rpfo_1 : Array Oper := match Try.f28.body with
  | some (.seq _ (.seq (.region _ o _) _)) => o
  | _ => #[]
noncomputable def lpfo_1 : List Oper := match Try.f28.body with
  | some (.seq _ (.seq (.region _ o _) _)) => o.toList
  | _ => []
theorem epfo_1 : rpfo_1.toList = lpfo_1 := rfl
theorem bodypfo : Try.f28.body = some (.seq (.region 0 rpfo_0 false) (.seq (.region 1 rpfo_1 false) .ret)) := rfl
-- ntmps 7
noncomputable def rpei_0 : Array Oper := match Try.f30.body with
  | some (.seq (.region _ o _) _) => o
  | _ => #[]
noncomputable def lpei_0 : List Oper := match Try.f30.body with
  | some (.seq (.region _ o _) _) => o.toList
  | _ => []
theorem epei_0 : rpei_0.toList = lpei_0 := rfl
noncomputable def rpei_1 : Array Oper := match Try.f30.body with
  | some (.seq _ (.seq (.region _ o _) _)) => o
  | _ => #[]
noncomputable def lpei_1 : List Oper := match Try.f30.body with
  | some (.seq _ (.seq (.region _ o _) _)) => o.toList
  | _ => []
theorem epei_1 : rpei_1.toList = lpei_1 := rfl
noncomputable def rpei_2 : Array Oper := match Try.f30.body with
  | some (.seq _ (.seq _ (.seq (.seq (.region _ o _) _) _))) => o
  | _ => #[]
noncomputable def lpei_2 : List Oper := match Try.f30.body with
  | some (.seq _ (.seq _ (.seq (.seq (.region _ o _) _) _))) => o.toList
  | _ => []
theorem epei_2 : rpei_2.toList = lpei_2 := rfl
noncomputable def lppei_0 : Code := match Try.f30.body with
  | some (.seq _ (.seq _ (.seq (.seq _ (.block _ (.loop c))) _))) => c
  | _ => .skip
noncomputable def rpei_3 : Array Oper := match Try.f30.body with
  | some (.seq _ (.seq _ (.seq (.seq _ (.block _ (.loop (.seq (.region _ o _) _)))) _))) => o
  | _ => #[]
noncomputable def lpei_3 : List Oper := match Try.f30.body with
  | some (.seq _ (.seq _ (.seq (.seq _ (.block _ (.loop (.seq (.region _ o _) _)))) _))) => o.toList
  | _ => []
theorem epei_3 : rpei_3.toList = lpei_3 := rfl
noncomputable def rpei_4 : Array Oper := match Try.f30.body with
  | some (.seq _ (.seq _ (.seq (.seq _ (.block _ (.loop (.seq _ (.seq _ (.seq (.block _ (.seq (.region _ o _) _)) _)))))) _))) => o
  | _ => #[]
noncomputable def lpei_4 : List Oper := match Try.f30.body with
  | some (.seq _ (.seq _ (.seq (.seq _ (.block _ (.loop (.seq _ (.seq _ (.seq (.block _ (.seq (.region _ o _) _)) _)))))) _))) => o.toList
  | _ => []
theorem epei_4 : rpei_4.toList = lpei_4 := rfl
noncomputable def rpei_5 : Array Oper := match Try.f30.body with
  | some (.seq _ (.seq _ (.seq (.seq _ (.block _ (.loop (.seq _ (.seq _ (.seq (.block _ (.seq _ (.region _ o _))) _)))))) _))) => o
  | _ => #[]
noncomputable def lpei_5 : List Oper := match Try.f30.body with
  | some (.seq _ (.seq _ (.seq (.seq _ (.block _ (.loop (.seq _ (.seq _ (.seq (.block _ (.seq _ (.region _ o _))) _)))))) _))) => o.toList
  | _ => []
theorem epei_5 : rpei_5.toList = lpei_5 := rfl
noncomputable def rpei_6 : Array Oper := match Try.f30.body with
  | some (.seq _ (.seq _ (.seq (.seq _ (.block _ (.loop (.seq _ (.seq _ (.seq _ (.region _ o _))))))) _))) => o
  | _ => #[]
noncomputable def lpei_6 : List Oper := match Try.f30.body with
  | some (.seq _ (.seq _ (.seq (.seq _ (.block _ (.loop (.seq _ (.seq _ (.seq _ (.region _ o _))))))) _))) => o.toList
  | _ => []
theorem epei_6 : rpei_6.toList = lpei_6 := rfl
theorem lppei_0_eq : lppei_0 = (.seq (.region 3 rpei_3 false) (.seq (.cond (.tmp 6) .skip (.exit 0)) (.seq (.block 1 (.seq (.region 4 rpei_4 false) (.region 5 rpei_5 false))) (.region 6 rpei_6 false)))) := rfl
noncomputable def rpei_7 : Array Oper := match Try.f30.body with
  | some (.seq _ (.seq _ (.seq _ (.seq (.region _ o _) _)))) => o
  | _ => #[]
noncomputable def lpei_7 : List Oper := match Try.f30.body with
  | some (.seq _ (.seq _ (.seq _ (.seq (.region _ o _) _)))) => o.toList
  | _ => []
theorem epei_7 : rpei_7.toList = lpei_7 := rfl
theorem bodypei : Try.f30.body = some (.seq (.region 0 rpei_0 false) (.seq (.region 1 rpei_1 false) (.seq (.seq (.region 2 rpei_2 false) (.block 0 (.loop lppei_0))) (.seq (.region 7 rpei_7 false) .ret)))) := rfl
-- ntmps 19
noncomputable def rpfl_0 : Array Oper := match Try.f31.body with
  | some (.seq (.region _ o _) _) => o
  | _ => #[]
noncomputable def lpfl_0 : List Oper := match Try.f31.body with
  | some (.seq (.region _ o _) _) => o.toList
  | _ => []
theorem epfl_0 : rpfl_0.toList = lpfl_0 := rfl
noncomputable def rpfl_1 : Array Oper := match Try.f31.body with
  | some (.seq _ (.seq (.seq (.region _ o _) _) _)) => o
  | _ => #[]
noncomputable def lpfl_1 : List Oper := match Try.f31.body with
  | some (.seq _ (.seq (.seq (.region _ o _) _) _)) => o.toList
  | _ => []
theorem epfl_1 : rpfl_1.toList = lpfl_1 := rfl
noncomputable def rpfl_2 : Array Oper := match Try.f31.body with
  | some (.seq _ (.seq (.seq _ (.cond _ (.seq (.region _ o _) _) _)) _)) => o
  | _ => #[]
noncomputable def lpfl_2 : List Oper := match Try.f31.body with
  | some (.seq _ (.seq (.seq _ (.cond _ (.seq (.region _ o _) _) _)) _)) => o.toList
  | _ => []
theorem epfl_2 : rpfl_2.toList = lpfl_2 := rfl
noncomputable def rpfl_3 : Array Oper := match Try.f31.body with
  | some (.seq _ (.seq _ (.seq (.region _ o _) _))) => o
  | _ => #[]
noncomputable def lpfl_3 : List Oper := match Try.f31.body with
  | some (.seq _ (.seq _ (.seq (.region _ o _) _))) => o.toList
  | _ => []
theorem epfl_3 : rpfl_3.toList = lpfl_3 := rfl
theorem bodypfl : Try.f31.body = some (.seq (.region 0 rpfl_0 false) (.seq (.seq (.region 1 rpfl_1 false) (.cond (.tmp 3) (.seq (.region 2 rpfl_2 false) .ret) .skip)) (.seq (.region 3 rpfl_3 false) .ret))) := rfl
-- ntmps 4
end Go.Am.Seat
