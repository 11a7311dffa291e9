/-
  Texts of my own, put together: CT0, BT0, BU0, BU1, BU2, BU3, BU4, BU5.
-/
import Derived.Test.YtalilffocbkfnaaDoorGrChainTexts8
import Derived.Test.YtalilffocbkfnaaDoorGrChainTexts9
import Derived.Test.YtalilffocbkfnaaDoorGrChainTexts10
/-
  The chain's texts: skeletons (own work).
-/
set_option linter.unusedSimpArgs false
set_option linter.unusedVariables false
namespace Go.Am.Seat
open Go.Proofs Go.Am
set_option maxRecDepth 100000

noncomputable def rcht_0 : Array Oper := match Tryd.f3.body with
  | some (.seq (.region _ o _) _) => o
  | _ => #[]
noncomputable def lcht_0 : List Oper := match Tryd.f3.body with
  | some (.seq (.region _ o _) _) => o.toList
  | _ => []
theorem echt_0 : rcht_0.toList = lcht_0 := rfl
noncomputable def rcht_1 : Array Oper := match Tryd.f3.body with
  | some (.seq _ (.seq (.seq (.region _ o _) _) _)) => o
  | _ => #[]
noncomputable def lcht_1 : List Oper := match Tryd.f3.body with
  | some (.seq _ (.seq (.seq (.region _ o _) _) _)) => o.toList
  | _ => []
theorem echt_1 : rcht_1.toList = lcht_1 := rfl
noncomputable def rcht_2 : Array Oper := match Tryd.f3.body with
  | some (.seq _ (.seq (.seq _ (.cond _ (.seq (.region _ o _) _) _)) _)) => o
  | _ => #[]
noncomputable def lcht_2 : List Oper := match Tryd.f3.body with
  | some (.seq _ (.seq (.seq _ (.cond _ (.seq (.region _ o _) _) _)) _)) => o.toList
  | _ => []
theorem echt_2 : rcht_2.toList = lcht_2 := rfl
noncomputable def rcht_3 : Array Oper := match Tryd.f3.body with
  | some (.seq _ (.seq _ (.seq (.seq (.region _ o _) _) _))) => o
  | _ => #[]
noncomputable def lcht_3 : List Oper := match Tryd.f3.body with
  | some (.seq _ (.seq _ (.seq (.seq (.region _ o _) _) _))) => o.toList
  | _ => []
theorem echt_3 : rcht_3.toList = lcht_3 := rfl
noncomputable def rcht_4 : Array Oper := match Tryd.f3.body with
  | some (.seq _ (.seq _ (.seq (.seq _ (.cond _ (.seq (.region _ o _) _) _)) _))) => o
  | _ => #[]
noncomputable def lcht_4 : List Oper := match Tryd.f3.body with
  | some (.seq _ (.seq _ (.seq (.seq _ (.cond _ (.seq (.region _ o _) _) _)) _))) => o.toList
  | _ => []
theorem echt_4 : rcht_4.toList = lcht_4 := rfl
noncomputable def rcht_5 : Array Oper := match Tryd.f3.body with
  | some (.seq _ (.seq _ (.seq _ (.seq (.region _ o _) _)))) => o
  | _ => #[]
noncomputable def lcht_5 : List Oper := match Tryd.f3.body with
  | some (.seq _ (.seq _ (.seq _ (.seq (.region _ o _) _)))) => o.toList
  | _ => []
theorem echt_5 : rcht_5.toList = lcht_5 := rfl
noncomputable def rcht_6 : Array Oper := match Tryd.f3.body with
  | some (.seq _ (.seq _ (.seq _ (.seq _ (.seq (.region _ o _) _))))) => o
  | _ => #[]
noncomputable def lcht_6 : List Oper := match Tryd.f3.body with
  | some (.seq _ (.seq _ (.seq _ (.seq _ (.seq (.region _ o _) _))))) => o.toList
  | _ => []
theorem echt_6 : rcht_6.toList = lcht_6 := rfl
noncomputable def rcht_7 : Array Oper := match Tryd.f3.body with
  | some (.seq _ (.seq _ (.seq _ (.seq _ (.seq _ (.seq (.region _ o _) _)))))) => o
  | _ => #[]
noncomputable def lcht_7 : List Oper := match Tryd.f3.body with
  | some (.seq _ (.seq _ (.seq _ (.seq _ (.seq _ (.seq (.region _ o _) _)))))) => o.toList
  | _ => []
theorem echt_7 : rcht_7.toList = lcht_7 := rfl
noncomputable def rcht_8 : Array Oper := match Tryd.f3.body with
  | some (.seq _ (.seq _ (.seq _ (.seq _ (.seq _ (.seq _ (.seq (.region _ o _) _))))))) => o
  | _ => #[]
noncomputable def lcht_8 : List Oper := match Tryd.f3.body with
  | some (.seq _ (.seq _ (.seq _ (.seq _ (.seq _ (.seq _ (.seq (.region _ o _) _))))))) => o.toList
  | _ => []
theorem echt_8 : rcht_8.toList = lcht_8 := rfl
noncomputable def rcht_9 : Array Oper := match Tryd.f3.body with
  | some (.seq _ (.seq _ (.seq _ (.seq _ (.seq _ (.seq _ (.seq _ (.seq (.region _ o _) _)))))))) => o
  | _ => #[]
noncomputable def lcht_9 : List Oper := match Tryd.f3.body with
  | some (.seq _ (.seq _ (.seq _ (.seq _ (.seq _ (.seq _ (.seq _ (.seq (.region _ o _) _)))))))) => o.toList
  | _ => []
theorem echt_9 : rcht_9.toList = lcht_9 := rfl
noncomputable def rcht_10 : Array Oper := match Tryd.f3.body with
  | some (.seq _ (.seq _ (.seq _ (.seq _ (.seq _ (.seq _ (.seq _ (.seq _ (.seq (.region _ o _) _))))))))) => o
  | _ => #[]
noncomputable def lcht_10 : List Oper := match Tryd.f3.body with
  | some (.seq _ (.seq _ (.seq _ (.seq _ (.seq _ (.seq _ (.seq _ (.seq _ (.seq (.region _ o _) _))))))))) => o.toList
  | _ => []
theorem echt_10 : rcht_10.toList = lcht_10 := rfl
theorem gcht_10_3 {T : List Value} {dd : Option Tmp} {op : Op} {ty : TypeId} {pos : String} {af : Array Edge} {want : Bool} : agd rcht_10 T { dst := dd, op := op, type := ty, pos := pos, after := af, guard := some (3, want) } = gdAt T 50 want := agd_at (by kernel_rfl)
theorem gcht_10_8 {T : List Value} {dd : Option Tmp} {op : Op} {ty : TypeId} {pos : String} {af : Array Edge} {want : Bool} : agd rcht_10 T { dst := dd, op := op, type := ty, pos := pos, after := af, guard := some (8, want) } = gdAt T 55 want := agd_at (by kernel_rfl)
theorem gcht_10_13 {T : List Value} {dd : Option Tmp} {op : Op} {ty : TypeId} {pos : String} {af : Array Edge} {want : Bool} : agd rcht_10 T { dst := dd, op := op, type := ty, pos := pos, after := af, guard := some (13, want) } = gdAt T 60 want := agd_at (by kernel_rfl)
theorem gcht_10_19 {T : List Value} {dd : Option Tmp} {op : Op} {ty : TypeId} {pos : String} {af : Array Edge} {want : Bool} : agd rcht_10 T { dst := dd, op := op, type := ty, pos := pos, after := af, guard := some (19, want) } = gdAt T 66 want := agd_at (by kernel_rfl)
theorem gcht_10_21 {T : List Value} {dd : Option Tmp} {op : Op} {ty : TypeId} {pos : String} {af : Array Edge} {want : Bool} : agd rcht_10 T { dst := dd, op := op, type := ty, pos := pos, after := af, guard := some (21, want) } = gdAt T 68 want := agd_at (by kernel_rfl)
theorem gcht_10_26 {T : List Value} {dd : Option Tmp} {op : Op} {ty : TypeId} {pos : String} {af : Array Edge} {want : Bool} : agd rcht_10 T { dst := dd, op := op, type := ty, pos := pos, after := af, guard := some (26, want) } = gdAt T 73 want := agd_at (by kernel_rfl)
theorem gcht_10_31 {T : List Value} {dd : Option Tmp} {op : Op} {ty : TypeId} {pos : String} {af : Array Edge} {want : Bool} : agd rcht_10 T { dst := dd, op := op, type := ty, pos := pos, after := af, guard := some (31, want) } = gdAt T 78 want := agd_at (by kernel_rfl)
theorem gcht_10_36 {T : List Value} {dd : Option Tmp} {op : Op} {ty : TypeId} {pos : String} {af : Array Edge} {want : Bool} : agd rcht_10 T { dst := dd, op := op, type := ty, pos := pos, after := af, guard := some (36, want) } = gdAt T 83 want := agd_at (by kernel_rfl)
theorem bodycht : Tryd.f3.body = some (.seq (.region 0 rcht_0 false) (.seq (.seq (.region 1 rcht_1 false) (.cond (.tmp 15) (.seq (.region 2 rcht_2 false) .ret) .skip)) (.seq (.seq (.region 3 rcht_3 false) (.cond (.tmp 25) (.seq (.region 4 rcht_4 false) .ret) .skip)) (.seq (.region 5 rcht_5 false) (.seq (.region 6 rcht_6 false) (.seq (.region 7 rcht_7 false) (.seq (.region 8 rcht_8 false) (.seq (.region 9 rcht_9 false) (.seq (.region 10 rcht_10 false) .ret))))))))) := rfl
-- ntmps 88
noncomputable def rwds_0 : Array Oper := match Tryd.f10.body with
  | some (.seq (.region _ o _) _) => o
  | _ => #[]
noncomputable def lwds_0 : List Oper := match Tryd.f10.body with
  | some (.seq (.region _ o _) _) => o.toList
  | _ => []
theorem ewds_0 : rwds_0.toList = lwds_0 := rfl
noncomputable def rwds_1 : Array Oper := match Tryd.f10.body with
  | some (.seq _ (.seq (.region _ o _) _)) => o
  | _ => #[]
noncomputable def lwds_1 : List Oper := match Tryd.f10.body with
  | some (.seq _ (.seq (.region _ o _) _)) => o.toList
  | _ => []
theorem ewds_1 : rwds_1.toList = lwds_1 := rfl
theorem bodywds : Tryd.f10.body = some (.seq (.region 0 rwds_0 false) (.seq (.region 1 rwds_1 false) .ret)) := rfl
-- ntmps 2
noncomputable def rctx_0 : Array Oper := match Tryd.f6.body with
  | some (.seq (.region _ o _) _) => o
  | _ => #[]
noncomputable def lctx_0 : List Oper := match Tryd.f6.body with
  | some (.seq (.region _ o _) _) => o.toList
  | _ => []
theorem ectx_0 : rctx_0.toList = lctx_0 := rfl
noncomputable def rctx_1 : Array Oper := match Tryd.f6.body with
  | some (.seq _ (.seq (.seq (.region _ o _) _) _)) => o
  | _ => #[]
noncomputable def lctx_1 : List Oper := match Tryd.f6.body with
  | some (.seq _ (.seq (.seq (.region _ o _) _) _)) => o.toList
  | _ => []
theorem ectx_1 : rctx_1.toList = lctx_1 := rfl
noncomputable def rctx_2 : Array Oper := match Tryd.f6.body with
  | some (.seq _ (.seq (.seq _ (.seq (.region _ o _) _)) _)) => o
  | _ => #[]
noncomputable def lctx_2 : List Oper := match Tryd.f6.body with
  | some (.seq _ (.seq (.seq _ (.seq (.region _ o _) _)) _)) => o.toList
  | _ => []
theorem ectx_2 : rctx_2.toList = lctx_2 := rfl
noncomputable def rctx_3 : Array Oper := match Tryd.f6.body with
  | some (.seq _ (.seq (.seq _ (.seq _ (.cond _ (.seq (.region _ o _) _) _))) _)) => o
  | _ => #[]
noncomputable def lctx_3 : List Oper := match Tryd.f6.body with
  | some (.seq _ (.seq (.seq _ (.seq _ (.cond _ (.seq (.region _ o _) _) _))) _)) => o.toList
  | _ => []
theorem ectx_3 : rctx_3.toList = lctx_3 := rfl
noncomputable def rctx_4 : Array Oper := match Tryd.f6.body with
  | some (.seq _ (.seq _ (.seq (.region _ o _) _))) => o
  | _ => #[]
noncomputable def lctx_4 : List Oper := match Tryd.f6.body with
  | some (.seq _ (.seq _ (.seq (.region _ o _) _))) => o.toList
  | _ => []
theorem ectx_4 : rctx_4.toList = lctx_4 := rfl
theorem bodyctx : Tryd.f6.body = some (.seq (.region 0 rctx_0 false) (.seq (.seq (.region 1 rctx_1 false) (.seq (.region 2 rctx_2 false) (.cond (.tmp 8) (.seq (.region 3 rctx_3 false) .ret) .skip))) (.seq (.region 4 rctx_4 true) .ret))) := rfl
-- ntmps 30
noncomputable def rcck_0 : Array Oper := match Tryd.f17.body with
  | some (.seq (.region _ o _) _) => o
  | _ => #[]
noncomputable def lcck_0 : List Oper := match Tryd.f17.body with
  | some (.seq (.region _ o _) _) => o.toList
  | _ => []
theorem ecck_0 : rcck_0.toList = lcck_0 := rfl
noncomputable def rcck_1 : Array Oper := match Tryd.f17.body with
  | some (.seq _ (.seq (.seq (.region _ o _) _) _)) => o
  | _ => #[]
noncomputable def lcck_1 : List Oper := match Tryd.f17.body with
  | some (.seq _ (.seq (.seq (.region _ o _) _) _)) => o.toList
  | _ => []
theorem ecck_1 : rcck_1.toList = lcck_1 := rfl
theorem gcck_1_3 {T : List Value} {dd : Option Tmp} {op : Op} {ty : TypeId} {pos : String} {af : Array Edge} {want : Bool} : agd rcck_1 T { dst := dd, op := op, type := ty, pos := pos, after := af, guard := some (3, want) } = gdAt T 6 want := agd_at (by kernel_rfl)
noncomputable def rcck_2 : Array Oper := match Tryd.f17.body with
  | some (.seq _ (.seq (.seq _ (.cond _ (.seq (.region _ o _) _) _)) _)) => o
  | _ => #[]
noncomputable def lcck_2 : List Oper := match Tryd.f17.body with
  | some (.seq _ (.seq (.seq _ (.cond _ (.seq (.region _ o _) _) _)) _)) => o.toList
  | _ => []
theorem ecck_2 : rcck_2.toList = lcck_2 := rfl
noncomputable def rcck_3 : Array Oper := match Tryd.f17.body with
  | some (.seq _ (.seq _ (.seq (.seq (.region _ o _) _) _))) => o
  | _ => #[]
noncomputable def lcck_3 : List Oper := match Tryd.f17.body with
  | some (.seq _ (.seq _ (.seq (.seq (.region _ o _) _) _))) => o.toList
  | _ => []
theorem ecck_3 : rcck_3.toList = lcck_3 := rfl
theorem gcck_3_4 {T : List Value} {dd : Option Tmp} {op : Op} {ty : TypeId} {pos : String} {af : Array Edge} {want : Bool} : agd rcck_3 T { dst := dd, op := op, type := ty, pos := pos, after := af, guard := some (4, want) } = gdAt T 15 want := agd_at (by kernel_rfl)
noncomputable def rcck_4 : Array Oper := match Tryd.f17.body with
  | some (.seq _ (.seq _ (.seq (.seq _ (.cond _ (.seq (.region _ o _) _) _)) _))) => o
  | _ => #[]
noncomputable def lcck_4 : List Oper := match Tryd.f17.body with
  | some (.seq _ (.seq _ (.seq (.seq _ (.cond _ (.seq (.region _ o _) _) _)) _))) => o.toList
  | _ => []
theorem ecck_4 : rcck_4.toList = lcck_4 := rfl
noncomputable def rcck_5 : Array Oper := match Tryd.f17.body with
  | some (.seq _ (.seq _ (.seq _ (.seq (.region _ o _) _)))) => o
  | _ => #[]
noncomputable def lcck_5 : List Oper := match Tryd.f17.body with
  | some (.seq _ (.seq _ (.seq _ (.seq (.region _ o _) _)))) => o.toList
  | _ => []
theorem ecck_5 : rcck_5.toList = lcck_5 := rfl
theorem bodycck : Tryd.f17.body = some (.seq (.region 0 rcck_0 false) (.seq (.seq (.region 1 rcck_1 false) (.cond (.tmp 10) (.seq (.region 2 rcck_2 false) .ret) .skip)) (.seq (.seq (.region 3 rcck_3 false) (.cond (.tmp 20) (.seq (.region 4 rcck_4 false) .ret) .skip)) (.seq (.region 5 rcck_5 false) .ret)))) := rfl
-- ntmps 21
noncomputable def rrtx_0 : Array Oper := match Tryd.f7.body with
  | some (.seq (.region _ o _) _) => o
  | _ => #[]
noncomputable def lrtx_0 : List Oper := match Tryd.f7.body with
  | some (.seq (.region _ o _) _) => o.toList
  | _ => []
theorem ertx_0 : rrtx_0.toList = lrtx_0 := rfl
noncomputable def rrtx_1 : Array Oper := match Tryd.f7.body with
  | some (.seq _ (.seq (.seq (.region _ o _) _) _)) => o
  | _ => #[]
noncomputable def lrtx_1 : List Oper := match Tryd.f7.body with
  | some (.seq _ (.seq (.seq (.region _ o _) _) _)) => o.toList
  | _ => []
theorem ertx_1 : rrtx_1.toList = lrtx_1 := rfl
theorem grtx_1_3 {T : List Value} {dd : Option Tmp} {op : Op} {ty : TypeId} {pos : String} {af : Array Edge} {want : Bool} : agd rrtx_1 T { dst := dd, op := op, type := ty, pos := pos, after := af, guard := some (3, want) } = gdAt T 7 want := agd_at (by kernel_rfl)
noncomputable def rrtx_2 : Array Oper := match Tryd.f7.body with
  | some (.seq _ (.seq (.seq _ (.cond _ (.seq (.region _ o _) _) _)) _)) => o
  | _ => #[]
noncomputable def lrtx_2 : List Oper := match Tryd.f7.body with
  | some (.seq _ (.seq (.seq _ (.cond _ (.seq (.region _ o _) _) _)) _)) => o.toList
  | _ => []
theorem ertx_2 : rrtx_2.toList = lrtx_2 := rfl
noncomputable def rrtx_3 : Array Oper := match Tryd.f7.body with
  | some (.seq _ (.seq _ (.seq (.seq (.region _ o _) _) _))) => o
  | _ => #[]
noncomputable def lrtx_3 : List Oper := match Tryd.f7.body with
  | some (.seq _ (.seq _ (.seq (.seq (.region _ o _) _) _))) => o.toList
  | _ => []
theorem ertx_3 : rrtx_3.toList = lrtx_3 := rfl
theorem grtx_3_4 {T : List Value} {dd : Option Tmp} {op : Op} {ty : TypeId} {pos : String} {af : Array Edge} {want : Bool} : agd rrtx_3 T { dst := dd, op := op, type := ty, pos := pos, after := af, guard := some (4, want) } = gdAt T 16 want := agd_at (by kernel_rfl)
noncomputable def rrtx_4 : Array Oper := match Tryd.f7.body with
  | some (.seq _ (.seq _ (.seq (.seq _ (.cond _ (.seq (.region _ o _) _) _)) _))) => o
  | _ => #[]
noncomputable def lrtx_4 : List Oper := match Tryd.f7.body with
  | some (.seq _ (.seq _ (.seq (.seq _ (.cond _ (.seq (.region _ o _) _) _)) _))) => o.toList
  | _ => []
theorem ertx_4 : rrtx_4.toList = lrtx_4 := rfl
noncomputable def rrtx_5 : Array Oper := match Tryd.f7.body with
  | some (.seq _ (.seq _ (.seq _ (.seq (.region _ o _) _)))) => o
  | _ => #[]
noncomputable def lrtx_5 : List Oper := match Tryd.f7.body with
  | some (.seq _ (.seq _ (.seq _ (.seq (.region _ o _) _)))) => o.toList
  | _ => []
theorem ertx_5 : rrtx_5.toList = lrtx_5 := rfl
theorem drtx_5 {self : Self} {B : Nat} {T : List Value} {m : Mem} {lb : List (Nat × Nat)} {ls : Bool} : adrawN E self rrtx_5 B rrtx_5.toList 0 T m lb ls = adrawT E self rrtx_5 B rrtx_5.toList [(false, false), (false, true), (false, true), (false, false), (false, true), (false, true), (false, false), (false, false), (false, false), (false, false), (false, false), (false, false), (false, false), (false, false), (true, false), (false, false), (true, false), (false, false), (false, false), (true, false), (false, false), (false, false), (true, false), (false, false), (true, false), (false, false), (false, false), (true, false), (false, false), (false, false), (false, false)] 0 T m lb ls := adraw_tab (by kernel_rfl)
theorem srtx_5 : E.sr 5 rrtx_5 = false := by kernel_rfl
theorem bodyrtx : Tryd.f7.body = some (.seq (.region 0 rrtx_0 false) (.seq (.seq (.region 1 rrtx_1 false) (.cond (.tmp 11) (.seq (.region 2 rrtx_2 false) .ret) .skip)) (.seq (.seq (.region 3 rrtx_3 false) (.cond (.tmp 21) (.seq (.region 4 rrtx_4 false) .ret) .skip)) (.seq (.region 5 rrtx_5 true) .ret)))) := rfl
-- ntmps 51
noncomputable def rrnm_0 : Array Oper := match Tryd.f20.body with
  | some (.seq (.region _ o _) _) => o
  | _ => #[]
noncomputable def lrnm_0 : List Oper := match Tryd.f20.body with
  | some (.seq (.region _ o _) _) => o.toList
  | _ => []
theorem ernm_0 : rrnm_0.toList = lrnm_0 := rfl
noncomputable def rrnm_1 : Array Oper := match Tryd.f20.body with
  | some (.seq _ (.seq (.region _ o _) _)) => o
  | _ => #[]
noncomputable def lrnm_1 : List Oper := match Tryd.f20.body with
  | some (.seq _ (.seq (.region _ o _) _)) => o.toList
  | _ => []
theorem ernm_1 : rrnm_1.toList = lrnm_1 := rfl
noncomputable def rrnm_2 : Array Oper := match Tryd.f20.body with
  | some (.seq _ (.seq _ (.seq (.seq (.region _ o _) _) _))) => o
  | _ => #[]
noncomputable def lrnm_2 : List Oper := match Tryd.f20.body with
  | some (.seq _ (.seq _ (.seq (.seq (.region _ o _) _) _))) => o.toList
  | _ => []
theorem ernm_2 : rrnm_2.toList = lrnm_2 := rfl
noncomputable def lprnm_0 : Code := match Tryd.f20.body with
  | some (.seq _ (.seq _ (.seq (.seq _ (.block _ (.loop c))) _))) => c
  | _ => .skip
noncomputable def rrnm_3 : Array Oper := match Tryd.f20.body with
  | some (.seq _ (.seq _ (.seq (.seq _ (.block _ (.loop (.seq (.seq (.region _ o _) _) _)))) _))) => o
  | _ => #[]
noncomputable def lrnm_3 : List Oper := match Tryd.f20.body with
  | some (.seq _ (.seq _ (.seq (.seq _ (.block _ (.loop (.seq (.seq (.region _ o _) _) _)))) _))) => o.toList
  | _ => []
theorem ernm_3 : rrnm_3.toList = lrnm_3 := rfl
noncomputable def rrnm_5 : Array Oper := match Tryd.f20.body with
  | some (.seq _ (.seq _ (.seq (.seq _ (.block _ (.loop (.seq _ (.seq (.block _ (.seq (.region _ o _) _)) _))))) _))) => o
  | _ => #[]
noncomputable def lrnm_5 : List Oper := match Tryd.f20.body with
  | some (.seq _ (.seq _ (.seq (.seq _ (.block _ (.loop (.seq _ (.seq (.block _ (.seq (.region _ o _) _)) _))))) _))) => o.toList
  | _ => []
theorem ernm_5 : rrnm_5.toList = lrnm_5 := rfl
noncomputable def rrnm_6 : Array Oper := match Tryd.f20.body with
  | some (.seq _ (.seq _ (.seq (.seq _ (.block _ (.loop (.seq _ (.seq (.block _ (.seq _ (.region _ o _))) _))))) _))) => o
  | _ => #[]
noncomputable def lrnm_6 : List Oper := match Tryd.f20.body with
  | some (.seq _ (.seq _ (.seq (.seq _ (.block _ (.loop (.seq _ (.seq (.block _ (.seq _ (.region _ o _))) _))))) _))) => o.toList
  | _ => []
theorem ernm_6 : rrnm_6.toList = lrnm_6 := rfl
noncomputable def rrnm_4 : Array Oper := match Tryd.f20.body with
  | some (.seq _ (.seq _ (.seq (.seq _ (.block _ (.loop (.seq _ (.seq _ (.region _ o _)))))) _))) => o
  | _ => #[]
noncomputable def lrnm_4 : List Oper := match Tryd.f20.body with
  | some (.seq _ (.seq _ (.seq (.seq _ (.block _ (.loop (.seq _ (.seq _ (.region _ o _)))))) _))) => o.toList
  | _ => []
theorem ernm_4 : rrnm_4.toList = lrnm_4 := rfl
theorem lprnm_0_eq : lprnm_0 = (.seq (.seq (.region 3 rrnm_3 false) (.cond (.tmp 6) .skip (.exit 0))) (.seq (.block 1 (.seq (.region 5 rrnm_5 false) (.region 6 rrnm_6 false))) (.region 4 rrnm_4 false))) := rfl
noncomputable def rrnm_7 : Array Oper := match Tryd.f20.body with
  | some (.seq _ (.seq _ (.seq _ (.seq (.region _ o _) _)))) => o
  | _ => #[]
noncomputable def lrnm_7 : List Oper := match Tryd.f20.body with
  | some (.seq _ (.seq _ (.seq _ (.seq (.region _ o _) _)))) => o.toList
  | _ => []
theorem ernm_7 : rrnm_7.toList = lrnm_7 := rfl
theorem bodyrnm : Tryd.f20.body = some (.seq (.region 0 rrnm_0 false) (.seq (.region 1 rrnm_1 false) (.seq (.seq (.region 2 rrnm_2 false) (.block 0 (.loop lprnm_0))) (.seq (.region 7 rrnm_7 false) .ret)))) := rfl
-- ntmps 19
noncomputable def rrtw_0 : Array Oper := match Tryd.f21.body with
  | some (.seq (.region _ o _) _) => o
  | _ => #[]
noncomputable def lrtw_0 : List Oper := match Tryd.f21.body with
  | some (.seq (.region _ o _) _) => o.toList
  | _ => []
theorem ertw_0 : rrtw_0.toList = lrtw_0 := rfl
noncomputable def rrtw_1 : Array Oper := match Tryd.f21.body with
  | some (.seq _ (.seq (.region _ o _) _)) => o
  | _ => #[]
noncomputable def lrtw_1 : List Oper := match Tryd.f21.body with
  | some (.seq _ (.seq (.region _ o _) _)) => o.toList
  | _ => []
theorem ertw_1 : rrtw_1.toList = lrtw_1 := rfl
theorem bodyrtw : Tryd.f21.body = some (.seq (.region 0 rrtw_0 false) (.seq (.region 1 rrtw_1 false) .ret)) := rfl
-- ntmps 10
noncomputable def rcpa_0 : Array Oper := match Tryd.f8.body with
  | some (.seq (.region _ o _) _) => o
  | _ => #[]
noncomputable def lcpa_0 : List Oper := match Tryd.f8.body with
  | some (.seq (.region _ o _) _) => o.toList
  | _ => []
theorem ecpa_0 : rcpa_0.toList = lcpa_0 := rfl
noncomputable def rcpa_1 : Array Oper := match Tryd.f8.body with
  | some (.seq _ (.seq (.region _ o _) _)) => o
  | _ => #[]
noncomputable def lcpa_1 : List Oper := match Tryd.f8.body with
  | some (.seq _ (.seq (.region _ o _) _)) => o.toList
  | _ => []
theorem ecpa_1 : rcpa_1.toList = lcpa_1 := rfl
theorem bodycpa : Tryd.f8.body = some (.seq (.region 0 rcpa_0 false) (.seq (.region 1 rcpa_1 false) .ret)) := rfl
-- ntmps 8
noncomputable def rcwo_0 : Array Oper := match Tryd.f22.body with
  | some (.seq (.region _ o _) _) => o
  | _ => #[]
noncomputable def lcwo_0 : List Oper := match Tryd.f22.body with
  | some (.seq (.region _ o _) _) => o.toList
  | _ => []
theorem ecwo_0 : rcwo_0.toList = lcwo_0 := rfl
noncomputable def rcwo_1 : Array Oper := match Tryd.f22.body with
  | some (.seq _ (.seq (.region _ o _) _)) => o
  | _ => #[]
noncomputable def lcwo_1 : List Oper := match Tryd.f22.body with
  | some (.seq _ (.seq (.region _ o _) _)) => o.toList
  | _ => []
theorem ecwo_1 : rcwo_1.toList = lcwo_1 := rfl
theorem bodycwo : Tryd.f22.body = some (.seq (.region 0 rcwo_0 false) (.seq (.region 1 rcwo_1 false) .ret)) := rfl
-- ntmps 10
noncomputable def rcwa_0 : Array Oper := match Tryd.f31.body with
  | some (.seq (.region _ o _) _) => o
  | _ => #[]
noncomputable def lcwa_0 : List Oper := match Tryd.f31.body with
  | some (.seq (.region _ o _) _) => o.toList
  | _ => []
theorem ecwa_0 : rcwa_0.toList = lcwa_0 := rfl
noncomputable def rcwa_1 : Array Oper := match Tryd.f31.body with
  | some (.seq _ (.seq (.region _ o _) _)) => o
  | _ => #[]
noncomputable def lcwa_1 : List Oper := match Tryd.f31.body with
  | some (.seq _ (.seq (.region _ o _) _)) => o.toList
  | _ => []
theorem ecwa_1 : rcwa_1.toList = lcwa_1 := rfl
noncomputable def rcwa_2 : Array Oper := match Tryd.f31.body with
  | some (.seq _ (.seq _ (.seq (.region _ o _) _))) => o
  | _ => #[]
noncomputable def lcwa_2 : List Oper := match Tryd.f31.body with
  | some (.seq _ (.seq _ (.seq (.region _ o _) _))) => o.toList
  | _ => []
theorem ecwa_2 : rcwa_2.toList = lcwa_2 := rfl
noncomputable def rcwa_3 : Array Oper := match Tryd.f31.body with
  | some (.seq _ (.seq _ (.seq _ (.seq (.region _ o _) _)))) => o
  | _ => #[]
noncomputable def lcwa_3 : List Oper := match Tryd.f31.body with
  | some (.seq _ (.seq _ (.seq _ (.seq (.region _ o _) _)))) => o.toList
  | _ => []
theorem ecwa_3 : rcwa_3.toList = lcwa_3 := rfl
noncomputable def rcwa_4 : Array Oper := match Tryd.f31.body with
  | some (.seq _ (.seq _ (.seq _ (.seq _ (.seq (.region _ o _) _))))) => o
  | _ => #[]
noncomputable def lcwa_4 : List Oper := match Tryd.f31.body with
  | some (.seq _ (.seq _ (.seq _ (.seq _ (.seq (.region _ o _) _))))) => o.toList
  | _ => []
theorem ecwa_4 : rcwa_4.toList = lcwa_4 := rfl
theorem bodycwa : Tryd.f31.body = some (.seq (.region 0 rcwa_0 false) (.seq (.region 1 rcwa_1 false) (.seq (.region 2 rcwa_2 false) (.seq (.region 3 rcwa_3 false) (.seq (.region 4 rcwa_4 false) .ret))))) := rfl
-- ntmps 15
noncomputable def rcdo_0 : Array Oper := match Tryd.f30.body with
  | some (.seq (.region _ o _) _) => o
  | _ => #[]
noncomputable def lcdo_0 : List Oper := match Tryd.f30.body with
  | some (.seq (.region _ o _) _) => o.toList
  | _ => []
theorem ecdo_0 : rcdo_0.toList = lcdo_0 := rfl
noncomputable def rcdo_1 : Array Oper := match Tryd.f30.body with
  | some (.seq _ (.seq (.region _ o _) _)) => o
  | _ => #[]
noncomputable def lcdo_1 : List Oper := match Tryd.f30.body with
  | some (.seq _ (.seq (.region _ o _) _)) => o.toList
  | _ => []
theorem ecdo_1 : rcdo_1.toList = lcdo_1 := rfl
noncomputable def rcdo_2 : Array Oper := match Tryd.f30.body with
  | some (.seq _ (.seq _ (.seq (.region _ o _) _))) => o
  | _ => #[]
noncomputable def lcdo_2 : List Oper := match Tryd.f30.body with
  | some (.seq _ (.seq _ (.seq (.region _ o _) _))) => o.toList
  | _ => []
theorem ecdo_2 : rcdo_2.toList = lcdo_2 := rfl
theorem bodycdo : Tryd.f30.body = some (.seq (.region 0 rcdo_0 false) (.seq (.region 1 rcdo_1 false) (.seq (.region 2 rcdo_2 false) .ret))) := rfl
-- ntmps 7
noncomputable def rcdd_0 : Array Oper := match Tryd.f43.body with
  | some (.seq (.region _ o _) _) => o
  | _ => #[]
noncomputable def lcdd_0 : List Oper := match Tryd.f43.body with
  | some (.seq (.region _ o _) _) => o.toList
  | _ => []
theorem ecdd_0 : rcdd_0.toList = lcdd_0 := rfl
noncomputable def rcdd_3 : Array Oper := match Tryd.f43.body with
  | some (.seq _ (.block _ (.seq (.region _ o _) _))) => o
  | _ => #[]
noncomputable def lcdd_3 : List Oper := match Tryd.f43.body with
  | some (.seq _ (.block _ (.seq (.region _ o _) _))) => o.toList
  | _ => []
theorem ecdd_3 : rcdd_3.toList = lcdd_3 := rfl
noncomputable def rcdd_4 : Array Oper := match Tryd.f43.body with
  | some (.seq _ (.block _ (.seq _ (.cond _ (.region _ o _) _)))) => o
  | _ => #[]
noncomputable def lcdd_4 : List Oper := match Tryd.f43.body with
  | some (.seq _ (.block _ (.seq _ (.cond _ (.region _ o _) _)))) => o.toList
  | _ => []
theorem ecdd_4 : rcdd_4.toList = lcdd_4 := rfl
noncomputable def rcdd_5 : Array Oper := match Tryd.f43.body with
  | some (.seq _ (.block _ (.seq _ (.cond _ _ (.seq (.region _ o _) _))))) => o
  | _ => #[]
noncomputable def lcdd_5 : List Oper := match Tryd.f43.body with
  | some (.seq _ (.block _ (.seq _ (.cond _ _ (.seq (.region _ o _) _))))) => o.toList
  | _ => []
theorem ecdd_5 : rcdd_5.toList = lcdd_5 := rfl
noncomputable def rcdd_6 : Array Oper := match Tryd.f43.body with
  | some (.seq _ (.block _ (.seq _ (.cond _ _ (.seq _ (.cond _ (.seq (.region _ o _) _) _)))))) => o
  | _ => #[]
noncomputable def lcdd_6 : List Oper := match Tryd.f43.body with
  | some (.seq _ (.block _ (.seq _ (.cond _ _ (.seq _ (.cond _ (.seq (.region _ o _) _) _)))))) => o.toList
  | _ => []
theorem ecdd_6 : rcdd_6.toList = lcdd_6 := rfl
noncomputable def rcdd_7 : Array Oper := match Tryd.f43.body with
  | some (.seq _ (.block _ (.seq _ (.cond _ _ (.seq _ (.cond _ (.seq _ (.region _ o _)) _)))))) => o
  | _ => #[]
noncomputable def lcdd_7 : List Oper := match Tryd.f43.body with
  | some (.seq _ (.block _ (.seq _ (.cond _ _ (.seq _ (.cond _ (.seq _ (.region _ o _)) _)))))) => o.toList
  | _ => []
theorem ecdd_7 : rcdd_7.toList = lcdd_7 := rfl
noncomputable def rcdd_1 : Array Oper := match Tryd.f43.body with
  | some (.seq _ (.block _ (.seq _ (.cond _ _ (.seq _ (.cond _ _ (.seq (.region _ o _) _))))))) => o
  | _ => #[]
noncomputable def lcdd_1 : List Oper := match Tryd.f43.body with
  | some (.seq _ (.block _ (.seq _ (.cond _ _ (.seq _ (.cond _ _ (.seq (.region _ o _) _))))))) => o.toList
  | _ => []
theorem ecdd_1 : rcdd_1.toList = lcdd_1 := rfl
noncomputable def rcdd_2 : Array Oper := match Tryd.f43.body with
  | some (.seq _ (.block _ (.seq _ (.cond _ _ (.seq _ (.cond _ _ (.seq _ (.region _ o _)))))))) => o
  | _ => #[]
noncomputable def lcdd_2 : List Oper := match Tryd.f43.body with
  | some (.seq _ (.block _ (.seq _ (.cond _ _ (.seq _ (.cond _ _ (.seq _ (.region _ o _)))))))) => o.toList
  | _ => []
theorem ecdd_2 : rcdd_2.toList = lcdd_2 := rfl
theorem bodycdd : Tryd.f43.body = some (.seq (.region 0 rcdd_0 false) (.block 0 (.seq (.region 3 rcdd_3 false) (.cond (.tmp 6) (.region 4 rcdd_4 false) (.seq (.region 5 rcdd_5 false) (.cond (.tmp 8) (.seq (.region 6 rcdd_6 false) (.region 7 rcdd_7 false)) (.seq (.region 1 rcdd_1 false) (.region 2 rcdd_2 false)))))))) := rfl
-- ntmps 12
noncomputable def rcrd_0 : Array Oper := match Tryd.f23.body with
  | some (.seq (.region _ o _) _) => o
  | _ => #[]
noncomputable def lcrd_0 : List Oper := match Tryd.f23.body with
  | some (.seq (.region _ o _) _) => o.toList
  | _ => []
theorem ecrd_0 : rcrd_0.toList = lcrd_0 := rfl
noncomputable def rcrd_1 : Array Oper := match Tryd.f23.body with
  | some (.seq _ (.seq (.region _ o _) _)) => o
  | _ => #[]
noncomputable def lcrd_1 : List Oper := match Tryd.f23.body with
  | some (.seq _ (.seq (.region _ o _) _)) => o.toList
  | _ => []
theorem ecrd_1 : rcrd_1.toList = lcrd_1 := rfl
noncomputable def rcrd_2 : Array Oper := match Tryd.f23.body with
  | some (.seq _ (.seq _ (.seq (.region _ o _) _))) => o
  | _ => #[]
noncomputable def lcrd_2 : List Oper := match Tryd.f23.body with
  | some (.seq _ (.seq _ (.seq (.region _ o _) _))) => o.toList
  | _ => []
theorem ecrd_2 : rcrd_2.toList = lcrd_2 := rfl
noncomputable def rcrd_3 : Array Oper := match Tryd.f23.body with
  | some (.seq _ (.seq _ (.seq _ (.seq (.region _ o _) _)))) => o
  | _ => #[]
noncomputable def lcrd_3 : List Oper := match Tryd.f23.body with
  | some (.seq _ (.seq _ (.seq _ (.seq (.region _ o _) _)))) => o.toList
  | _ => []
theorem ecrd_3 : rcrd_3.toList = lcrd_3 := rfl
theorem bodycrd : Tryd.f23.body = some (.seq (.region 0 rcrd_0 false) (.seq (.region 1 rcrd_1 false) (.seq (.region 2 rcrd_2 false) (.seq (.region 3 rcrd_3 false) .ret)))) := rfl
-- ntmps 21
noncomputable def rcco_0 : Array Oper := match Tryd.f37.body with
  | some (.seq (.region _ o _) _) => o
  | _ => #[]
noncomputable def lcco_0 : List Oper := match Tryd.f37.body with
  | some (.seq (.region _ o _) _) => o.toList
  | _ => []
theorem ecco_0 : rcco_0.toList = lcco_0 := rfl
noncomputable def rcco_1 : Array Oper := match Tryd.f37.body with
  | some (.seq _ (.seq (.region _ o _) _)) => o
  | _ => #[]
noncomputable def lcco_1 : List Oper := match Tryd.f37.body with
  | some (.seq _ (.seq (.region _ o _) _)) => o.toList
  | _ => []
theorem ecco_1 : rcco_1.toList = lcco_1 := rfl
theorem bodycco : Tryd.f37.body = some (.seq (.region 0 rcco_0 false) (.seq (.region 1 rcco_1 false) .ret)) := rfl
-- ntmps 9
noncomputable def rrpa_0 : Array Oper := match Tryd.f9.body with
  | some (.seq (.region _ o _) _) => o
  | _ => #[]
noncomputable def lrpa_0 : List Oper := match Tryd.f9.body with
  | some (.seq (.region _ o _) _) => o.toList
  | _ => []
theorem erpa_0 : rrpa_0.toList = lrpa_0 := rfl
noncomputable def rrpa_1 : Array Oper := match Tryd.f9.body with
  | some (.seq _ (.seq (.seq (.region _ o _) _) _)) => o
  | _ => #[]
noncomputable def lrpa_1 : List Oper := match Tryd.f9.body with
  | some (.seq _ (.seq (.seq (.region _ o _) _) _)) => o.toList
  | _ => []
theorem erpa_1 : rrpa_1.toList = lrpa_1 := rfl
noncomputable def rrpa_2 : Array Oper := match Tryd.f9.body with
  | some (.seq _ (.seq (.seq _ (.cond _ (.seq (.region _ o _) _) _)) _)) => o
  | _ => #[]
noncomputable def lrpa_2 : List Oper := match Tryd.f9.body with
  | some (.seq _ (.seq (.seq _ (.cond _ (.seq (.region _ o _) _) _)) _)) => o.toList
  | _ => []
theorem erpa_2 : rrpa_2.toList = lrpa_2 := rfl
noncomputable def rrpa_3 : Array Oper := match Tryd.f9.body with
  | some (.seq _ (.seq _ (.seq (.region _ o _) _))) => o
  | _ => #[]
noncomputable def lrpa_3 : List Oper := match Tryd.f9.body with
  | some (.seq _ (.seq _ (.seq (.region _ o _) _))) => o.toList
  | _ => []
theorem erpa_3 : rrpa_3.toList = lrpa_3 := rfl
noncomputable def rrpa_4 : Array Oper := match Tryd.f9.body with
  | some (.seq _ (.seq _ (.seq _ (.seq (.region _ o _) _)))) => o
  | _ => #[]
noncomputable def lrpa_4 : List Oper := match Tryd.f9.body with
  | some (.seq _ (.seq _ (.seq _ (.seq (.region _ o _) _)))) => o.toList
  | _ => []
theorem erpa_4 : rrpa_4.toList = lrpa_4 := rfl
noncomputable def rrpa_5 : Array Oper := match Tryd.f9.body with
  | some (.seq _ (.seq _ (.seq _ (.seq _ (.seq (.region _ o _) _))))) => o
  | _ => #[]
noncomputable def lrpa_5 : List Oper := match Tryd.f9.body with
  | some (.seq _ (.seq _ (.seq _ (.seq _ (.seq (.region _ o _) _))))) => o.toList
  | _ => []
theorem erpa_5 : rrpa_5.toList = lrpa_5 := rfl
noncomputable def rrpa_6 : Array Oper := match Tryd.f9.body with
  | some (.seq _ (.seq _ (.seq _ (.seq _ (.seq _ (.seq (.region _ o _) _)))))) => o
  | _ => #[]
noncomputable def lrpa_6 : List Oper := match Tryd.f9.body with
  | some (.seq _ (.seq _ (.seq _ (.seq _ (.seq _ (.seq (.region _ o _) _)))))) => o.toList
  | _ => []
theorem erpa_6 : rrpa_6.toList = lrpa_6 := rfl
noncomputable def rrpa_7 : Array Oper := match Tryd.f9.body with
  | some (.seq _ (.seq _ (.seq _ (.seq _ (.seq _ (.seq _ (.seq (.region _ o _) _))))))) => o
  | _ => #[]
noncomputable def lrpa_7 : List Oper := match Tryd.f9.body with
  | some (.seq _ (.seq _ (.seq _ (.seq _ (.seq _ (.seq _ (.seq (.region _ o _) _))))))) => o.toList
  | _ => []
theorem erpa_7 : rrpa_7.toList = lrpa_7 := rfl
theorem drpa_7 {self : Self} {B : Nat} {T : List Value} {m : Mem} {lb : List (Nat × Nat)} {ls : Bool} : adrawN E self rrpa_7 B rrpa_7.toList 0 T m lb ls = adrawT E self rrpa_7 B rrpa_7.toList [(false, false), (false, false), (false, false), (false, false), (false, false), (false, false), (false, false), (false, false), (false, false)] 0 T m lb ls := adraw_tab (by kernel_rfl)
theorem srpa_7 : E.sr 7 rrpa_7 = false := by kernel_rfl
noncomputable def rrpa_8 : Array Oper := match Tryd.f9.body with
  | some (.seq _ (.seq _ (.seq _ (.seq _ (.seq _ (.seq _ (.seq _ (.seq (.seq (.region _ o _) _) _)))))))) => o
  | _ => #[]
noncomputable def lrpa_8 : List Oper := match Tryd.f9.body with
  | some (.seq _ (.seq _ (.seq _ (.seq _ (.seq _ (.seq _ (.seq _ (.seq (.seq (.region _ o _) _) _)))))))) => o.toList
  | _ => []
theorem erpa_8 : rrpa_8.toList = lrpa_8 := rfl
noncomputable def rrpa_9 : Array Oper := match Tryd.f9.body with
  | some (.seq _ (.seq _ (.seq _ (.seq _ (.seq _ (.seq _ (.seq _ (.seq (.seq _ (.cond _ (.seq (.region _ o _) _) _)) _)))))))) => o
  | _ => #[]
noncomputable def lrpa_9 : List Oper := match Tryd.f9.body with
  | some (.seq _ (.seq _ (.seq _ (.seq _ (.seq _ (.seq _ (.seq _ (.seq (.seq _ (.cond _ (.seq (.region _ o _) _) _)) _)))))))) => o.toList
  | _ => []
theorem erpa_9 : rrpa_9.toList = lrpa_9 := rfl
noncomputable def rrpa_10 : Array Oper := match Tryd.f9.body with
  | some (.seq _ (.seq _ (.seq _ (.seq _ (.seq _ (.seq _ (.seq _ (.seq _ (.seq (.region _ o _) _))))))))) => o
  | _ => #[]
noncomputable def lrpa_10 : List Oper := match Tryd.f9.body with
  | some (.seq _ (.seq _ (.seq _ (.seq _ (.seq _ (.seq _ (.seq _ (.seq _ (.seq (.region _ o _) _))))))))) => o.toList
  | _ => []
theorem erpa_10 : rrpa_10.toList = lrpa_10 := rfl
noncomputable def rrpa_11 : Array Oper := match Tryd.f9.body with
  | some (.seq _ (.seq _ (.seq _ (.seq _ (.seq _ (.seq _ (.seq _ (.seq _ (.seq _ (.seq (.region _ o _) _)))))))))) => o
  | _ => #[]
noncomputable def lrpa_11 : List Oper := match Tryd.f9.body with
  | some (.seq _ (.seq _ (.seq _ (.seq _ (.seq _ (.seq _ (.seq _ (.seq _ (.seq _ (.seq (.region _ o _) _)))))))))) => o.toList
  | _ => []
theorem erpa_11 : rrpa_11.toList = lrpa_11 := rfl
noncomputable def rrpa_12 : Array Oper := match Tryd.f9.body with
  | some (.seq _ (.seq _ (.seq _ (.seq _ (.seq _ (.seq _ (.seq _ (.seq _ (.seq _ (.seq _ (.seq (.region _ o _) _))))))))))) => o
  | _ => #[]
noncomputable def lrpa_12 : List Oper := match Tryd.f9.body with
  | some (.seq _ (.seq _ (.seq _ (.seq _ (.seq _ (.seq _ (.seq _ (.seq _ (.seq _ (.seq _ (.seq (.region _ o _) _))))))))))) => o.toList
  | _ => []
theorem erpa_12 : rrpa_12.toList = lrpa_12 := rfl
noncomputable def rrpa_13 : Array Oper := match Tryd.f9.body with
  | some (.seq _ (.seq _ (.seq _ (.seq _ (.seq _ (.seq _ (.seq _ (.seq _ (.seq _ (.seq _ (.seq _ (.seq (.seq (.region _ o _) _) _)))))))))))) => o
  | _ => #[]
noncomputable def lrpa_13 : List Oper := match Tryd.f9.body with
  | some (.seq _ (.seq _ (.seq _ (.seq _ (.seq _ (.seq _ (.seq _ (.seq _ (.seq _ (.seq _ (.seq _ (.seq (.seq (.region _ o _) _) _)))))))))))) => o.toList
  | _ => []
theorem erpa_13 : rrpa_13.toList = lrpa_13 := rfl
theorem grpa_13_2 {T : List Value} {dd : Option Tmp} {op : Op} {ty : TypeId} {pos : String} {af : Array Edge} {want : Bool} : agd rrpa_13 T { dst := dd, op := op, type := ty, pos := pos, after := af, guard := some (2, want) } = gdAt T 55 want := agd_at (by kernel_rfl)
noncomputable def rrpa_14 : Array Oper := match Tryd.f9.body with
  | some (.seq _ (.seq _ (.seq _ (.seq _ (.seq _ (.seq _ (.seq _ (.seq _ (.seq _ (.seq _ (.seq _ (.seq (.seq _ (.cond _ (.seq (.region _ o _) _) _)) _)))))))))))) => o
  | _ => #[]
noncomputable def lrpa_14 : List Oper := match Tryd.f9.body with
  | some (.seq _ (.seq _ (.seq _ (.seq _ (.seq _ (.seq _ (.seq _ (.seq _ (.seq _ (.seq _ (.seq _ (.seq (.seq _ (.cond _ (.seq (.region _ o _) _) _)) _)))))))))))) => o.toList
  | _ => []
theorem erpa_14 : rrpa_14.toList = lrpa_14 := rfl
noncomputable def rrpa_15 : Array Oper := match Tryd.f9.body with
  | some (.seq _ (.seq _ (.seq _ (.seq _ (.seq _ (.seq _ (.seq _ (.seq _ (.seq _ (.seq _ (.seq _ (.seq _ (.seq (.region _ o _) _))))))))))))) => o
  | _ => #[]
noncomputable def lrpa_15 : List Oper := match Tryd.f9.body with
  | some (.seq _ (.seq _ (.seq _ (.seq _ (.seq _ (.seq _ (.seq _ (.seq _ (.seq _ (.seq _ (.seq _ (.seq _ (.seq (.region _ o _) _))))))))))))) => o.toList
  | _ => []
theorem erpa_15 : rrpa_15.toList = lrpa_15 := rfl
theorem bodyrpa : Tryd.f9.body = some (.seq (.region 0 rrpa_0 false) (.seq (.seq (.region 1 rrpa_1 false) (.cond (.tmp 10) (.seq (.region 2 rrpa_2 false) .ret) .skip)) (.seq (.region 3 rrpa_3 false) (.seq (.region 4 rrpa_4 false) (.seq (.region 5 rrpa_5 false) (.seq (.region 6 rrpa_6 false) (.seq (.region 7 rrpa_7 true) (.seq (.seq (.region 8 rrpa_8 false) (.cond (.tmp 35) (.seq (.region 9 rrpa_9 false) .ret) .skip)) (.seq (.region 10 rrpa_10 false) (.seq (.region 11 rrpa_11 false) (.seq (.region 12 rrpa_12 false) (.seq (.seq (.region 13 rrpa_13 false) (.cond (.tmp 59) (.seq (.region 14 rrpa_14 false) .ret) .skip)) (.seq (.region 15 rrpa_15 false) .ret))))))))))))) := rfl
-- ntmps 62
noncomputable def rrnu_0 : Array Oper := match Tryd.f24.body with
  | some (.seq (.region _ o _) _) => o
  | _ => #[]
noncomputable def lrnu_0 : List Oper := match Tryd.f24.body with
  | some (.seq (.region _ o _) _) => o.toList
  | _ => []
theorem ernu_0 : rrnu_0.toList = lrnu_0 := rfl
noncomputable def rrnu_1 : Array Oper := match Tryd.f24.body with
  | some (.seq _ (.seq (.region _ o _) _)) => o
  | _ => #[]
noncomputable def lrnu_1 : List Oper := match Tryd.f24.body with
  | some (.seq _ (.seq (.region _ o _) _)) => o.toList
  | _ => []
theorem ernu_1 : rrnu_1.toList = lrnu_1 := rfl
noncomputable def rrnu_2 : Array Oper := match Tryd.f24.body with
  | some (.seq _ (.seq _ (.seq (.seq (.region _ o _) _) _))) => o
  | _ => #[]
noncomputable def lrnu_2 : List Oper := match Tryd.f24.body with
  | some (.seq _ (.seq _ (.seq (.seq (.region _ o _) _) _))) => o.toList
  | _ => []
theorem ernu_2 : rrnu_2.toList = lrnu_2 := rfl
noncomputable def lprnu_0 : Code := match Tryd.f24.body with
  | some (.seq _ (.seq _ (.seq (.seq _ (.block _ (.loop c))) _))) => c
  | _ => .skip
noncomputable def rrnu_3 : Array Oper := match Tryd.f24.body with
  | some (.seq _ (.seq _ (.seq (.seq _ (.block _ (.loop (.seq (.seq (.region _ o _) _) _)))) _))) => o
  | _ => #[]
noncomputable def lrnu_3 : List Oper := match Tryd.f24.body with
  | some (.seq _ (.seq _ (.seq (.seq _ (.block _ (.loop (.seq (.seq (.region _ o _) _) _)))) _))) => o.toList
  | _ => []
theorem ernu_3 : rrnu_3.toList = lrnu_3 := rfl
noncomputable def rrnu_5 : Array Oper := match Tryd.f24.body with
  | some (.seq _ (.seq _ (.seq (.seq _ (.block _ (.loop (.seq _ (.seq (.block _ (.region _ o _)) _))))) _))) => o
  | _ => #[]
noncomputable def lrnu_5 : List Oper := match Tryd.f24.body with
  | some (.seq _ (.seq _ (.seq (.seq _ (.block _ (.loop (.seq _ (.seq (.block _ (.region _ o _)) _))))) _))) => o.toList
  | _ => []
theorem ernu_5 : rrnu_5.toList = lrnu_5 := rfl
noncomputable def rrnu_4 : Array Oper := match Tryd.f24.body with
  | some (.seq _ (.seq _ (.seq (.seq _ (.block _ (.loop (.seq _ (.seq _ (.region _ o _)))))) _))) => o
  | _ => #[]
noncomputable def lrnu_4 : List Oper := match Tryd.f24.body with
  | some (.seq _ (.seq _ (.seq (.seq _ (.block _ (.loop (.seq _ (.seq _ (.region _ o _)))))) _))) => o.toList
  | _ => []
theorem ernu_4 : rrnu_4.toList = lrnu_4 := rfl
theorem lprnu_0_eq : lprnu_0 = (.seq (.seq (.region 3 rrnu_3 false) (.cond (.tmp 11) .skip (.exit 0))) (.seq (.block 1 (.region 5 rrnu_5 false)) (.region 4 rrnu_4 false))) := rfl
noncomputable def rrnu_6 : Array Oper := match Tryd.f24.body with
  | some (.seq _ (.seq _ (.seq _ (.seq (.region _ o _) _)))) => o
  | _ => #[]
noncomputable def lrnu_6 : List Oper := match Tryd.f24.body with
  | some (.seq _ (.seq _ (.seq _ (.seq (.region _ o _) _)))) => o.toList
  | _ => []
theorem ernu_6 : rrnu_6.toList = lrnu_6 := rfl
theorem bodyrnu : Tryd.f24.body = some (.seq (.region 0 rrnu_0 false) (.seq (.region 1 rrnu_1 false) (.seq (.seq (.region 2 rrnu_2 false) (.block 0 (.loop lprnu_0))) (.seq (.region 6 rrnu_6 false) .ret)))) := rfl
-- ntmps 22
end Go.Am.Seat

/-
  Readers of texts, their parts, doors: skeletons (own work).
-/
set_option linter.unusedSimpArgs false
set_option linter.unusedVariables false
namespace Go.Am.Seat
open Go.Proofs Go.Am
set_option maxRecDepth 100000

-- ntmps 92
-- ntmps 8
-- ntmps 14
-- ntmps 8
-- ntmps 10
-- ntmps 15
-- ntmps 7
-- ntmps 12
-- ntmps 16
noncomputable def rprr_0 : Array Oper := match Tryd.f32.body with
  | some (.seq (.region _ o _) _) => o
  | _ => #[]
noncomputable def lprr_0 : List Oper := match Tryd.f32.body with
  | some (.seq (.region _ o _) _) => o.toList
  | _ => []
theorem eprr_0 : rprr_0.toList = lprr_0 := rfl
noncomputable def rprr_1 : Array Oper := match Tryd.f32.body with
  | some (.seq _ (.seq (.region _ o _) _)) => o
  | _ => #[]
noncomputable def lprr_1 : List Oper := match Tryd.f32.body with
  | some (.seq _ (.seq (.region _ o _) _)) => o.toList
  | _ => []
theorem eprr_1 : rprr_1.toList = lprr_1 := rfl
theorem bodyprr : Tryd.f32.body = some (.seq (.region 0 rprr_0 false) (.seq (.region 1 rprr_1 false) .ret)) := rfl
-- ntmps 6
noncomputable def rhld_0 : Array Oper := match Tryd.f33.body with
  | some (.seq (.region _ o _) _) => o
  | _ => #[]
noncomputable def lhld_0 : List Oper := match Tryd.f33.body with
  | some (.seq (.region _ o _) _) => o.toList
  | _ => []
theorem ehld_0 : rhld_0.toList = lhld_0 := rfl
noncomputable def rhld_1 : Array Oper := match Tryd.f33.body with
  | some (.seq _ (.cond _ (.region _ o _) _)) => o
  | _ => #[]
noncomputable def lhld_1 : List Oper := match Tryd.f33.body with
  | some (.seq _ (.cond _ (.region _ o _) _)) => o.toList
  | _ => []
theorem ehld_1 : rhld_1.toList = lhld_1 := rfl
theorem bodyhld : Tryd.f33.body = some (.seq (.region 0 rhld_0 false) (.cond (.tmp 5) (.region 1 rhld_1 false) .skip)) := rfl
-- ntmps 9
noncomputable def rrmo_0 : Array Oper := match Tryd.f34.body with
  | some (.seq (.region _ o _) _) => o
  | _ => #[]
noncomputable def lrmo_0 : List Oper := match Tryd.f34.body with
  | some (.seq (.region _ o _) _) => o.toList
  | _ => []
theorem ermo_0 : rrmo_0.toList = lrmo_0 := rfl
noncomputable def rrmo_1 : Array Oper := match Tryd.f34.body with
  | some (.seq _ (.seq (.region _ o _) _)) => o
  | _ => #[]
noncomputable def lrmo_1 : List Oper := match Tryd.f34.body with
  | some (.seq _ (.seq (.region _ o _) _)) => o.toList
  | _ => []
theorem ermo_1 : rrmo_1.toList = lrmo_1 := rfl
theorem bodyrmo : Tryd.f34.body = some (.seq (.region 0 rrmo_0 false) (.seq (.region 1 rrmo_1 false) .ret)) := rfl
-- ntmps 8
-- ntmps 7
noncomputable def rrei_0 : Array Oper := match Tryd.f35.body with
  | some (.seq (.region _ o _) _) => o
  | _ => #[]
noncomputable def lrei_0 : List Oper := match Tryd.f35.body with
  | some (.seq (.region _ o _) _) => o.toList
  | _ => []
theorem erei_0 : rrei_0.toList = lrei_0 := rfl
noncomputable def rrei_1 : Array Oper := match Tryd.f35.body with
  | some (.seq _ (.seq (.region _ o _) _)) => o
  | _ => #[]
noncomputable def lrei_1 : List Oper := match Tryd.f35.body with
  | some (.seq _ (.seq (.region _ o _) _)) => o.toList
  | _ => []
theorem erei_1 : rrei_1.toList = lrei_1 := rfl
theorem bodyrei : Tryd.f35.body = some (.seq (.region 0 rrei_0 false) (.seq (.region 1 rrei_1 false) .ret)) := rfl
-- ntmps 6
-- ntmps 11
noncomputable def rrta_0 : Array Oper := match Tryd.f45.body with
  | some (.seq (.region _ o _) _) => o
  | _ => #[]
noncomputable def lrta_0 : List Oper := match Tryd.f45.body with
  | some (.seq (.region _ o _) _) => o.toList
  | _ => []
theorem erta_0 : rrta_0.toList = lrta_0 := rfl
noncomputable def rrta_1 : Array Oper := match Tryd.f45.body with
  | some (.seq _ (.seq (.region _ o _) _)) => o
  | _ => #[]
noncomputable def lrta_1 : List Oper := match Tryd.f45.body with
  | some (.seq _ (.seq (.region _ o _) _)) => o.toList
  | _ => []
theorem erta_1 : rrta_1.toList = lrta_1 := rfl
noncomputable def rrta_2 : Array Oper := match Tryd.f45.body with
  | some (.seq _ (.seq _ (.seq (.region _ o _) _))) => o
  | _ => #[]
noncomputable def lrta_2 : List Oper := match Tryd.f45.body with
  | some (.seq _ (.seq _ (.seq (.region _ o _) _))) => o.toList
  | _ => []
theorem erta_2 : rrta_2.toList = lrta_2 := rfl
noncomputable def rrta_3 : Array Oper := match Tryd.f45.body with
  | some (.seq _ (.seq _ (.seq _ (.seq (.region _ o _) _)))) => o
  | _ => #[]
noncomputable def lrta_3 : List Oper := match Tryd.f45.body with
  | some (.seq _ (.seq _ (.seq _ (.seq (.region _ o _) _)))) => o.toList
  | _ => []
theorem erta_3 : rrta_3.toList = lrta_3 := rfl
noncomputable def rrta_4 : Array Oper := match Tryd.f45.body with
  | some (.seq _ (.seq _ (.seq _ (.seq _ (.seq (.region _ o _) _))))) => o
  | _ => #[]
noncomputable def lrta_4 : List Oper := match Tryd.f45.body with
  | some (.seq _ (.seq _ (.seq _ (.seq _ (.seq (.region _ o _) _))))) => o.toList
  | _ => []
theorem erta_4 : rrta_4.toList = lrta_4 := rfl
theorem bodyrta : Tryd.f45.body = some (.seq (.region 0 rrta_0 false) (.seq (.region 1 rrta_1 false) (.seq (.region 2 rrta_2 false) (.seq (.region 3 rrta_3 false) (.seq (.region 4 rrta_4 false) .ret))))) := rfl
-- ntmps 30
noncomputable def rrby_0 : Array Oper := match Tryd.f36.body with
  | some (.seq (.region _ o _) _) => o
  | _ => #[]
noncomputable def lrby_0 : List Oper := match Tryd.f36.body with
  | some (.seq (.region _ o _) _) => o.toList
  | _ => []
theorem erby_0 : rrby_0.toList = lrby_0 := rfl
noncomputable def rrby_1 : Array Oper := match Tryd.f36.body with
  | some (.seq _ (.seq (.region _ o _) _)) => o
  | _ => #[]
noncomputable def lrby_1 : List Oper := match Tryd.f36.body with
  | some (.seq _ (.seq (.region _ o _) _)) => o.toList
  | _ => []
theorem erby_1 : rrby_1.toList = lrby_1 := rfl
theorem bodyrby : Tryd.f36.body = some (.seq (.region 0 rrby_0 false) (.seq (.region 1 rrby_1 false) .ret)) := rfl
-- ntmps 6
noncomputable def rpnu_0 : Array Oper := match Tryd.f44.body with
  | some (.seq (.region _ o _) _) => o
  | _ => #[]
noncomputable def lpnu_0 : List Oper := match Tryd.f44.body with
  | some (.seq (.region _ o _) _) => o.toList
  | _ => []
theorem epnu_0 : rpnu_0.toList = lpnu_0 := rfl
noncomputable def rpnu_1 : Array Oper := match Tryd.f44.body with
  | some (.seq _ (.seq (.region _ o _) _)) => o
  | _ => #[]
noncomputable def lpnu_1 : List Oper := match Tryd.f44.body with
  | some (.seq _ (.seq (.region _ o _) _)) => o.toList
  | _ => []
theorem epnu_1 : rpnu_1.toList = lpnu_1 := rfl
noncomputable def rpnu_2 : Array Oper := match Tryd.f44.body with
  | some (.seq _ (.seq _ (.seq (.seq (.region _ o _) _) _))) => o
  | _ => #[]
noncomputable def lpnu_2 : List Oper := match Tryd.f44.body with
  | some (.seq _ (.seq _ (.seq (.seq (.region _ o _) _) _))) => o.toList
  | _ => []
theorem epnu_2 : rpnu_2.toList = lpnu_2 := rfl
noncomputable def lppnu_0 : Code := match Tryd.f44.body with
  | some (.seq _ (.seq _ (.seq (.seq _ (.block _ (.loop c))) _))) => c
  | _ => .skip
noncomputable def rpnu_3 : Array Oper := match Tryd.f44.body with
  | some (.seq _ (.seq _ (.seq (.seq _ (.block _ (.loop (.seq (.region _ o _) _)))) _))) => o
  | _ => #[]
noncomputable def lpnu_3 : List Oper := match Tryd.f44.body with
  | some (.seq _ (.seq _ (.seq (.seq _ (.block _ (.loop (.seq (.region _ o _) _)))) _))) => o.toList
  | _ => []
theorem epnu_3 : rpnu_3.toList = lpnu_3 := rfl
noncomputable def rpnu_4 : Array Oper := match Tryd.f44.body with
  | some (.seq _ (.seq _ (.seq (.seq _ (.block _ (.loop (.seq _ (.seq _ (.seq (.block _ (.seq (.region _ o _) _)) _)))))) _))) => o
  | _ => #[]
noncomputable def lpnu_4 : List Oper := match Tryd.f44.body with
  | some (.seq _ (.seq _ (.seq (.seq _ (.block _ (.loop (.seq _ (.seq _ (.seq (.block _ (.seq (.region _ o _) _)) _)))))) _))) => o.toList
  | _ => []
theorem epnu_4 : rpnu_4.toList = lpnu_4 := rfl
noncomputable def rpnu_5 : Array Oper := match Tryd.f44.body with
  | some (.seq _ (.seq _ (.seq (.seq _ (.block _ (.loop (.seq _ (.seq _ (.seq (.block _ (.seq _ (.region _ o _))) _)))))) _))) => o
  | _ => #[]
noncomputable def lpnu_5 : List Oper := match Tryd.f44.body with
  | some (.seq _ (.seq _ (.seq (.seq _ (.block _ (.loop (.seq _ (.seq _ (.seq (.block _ (.seq _ (.region _ o _))) _)))))) _))) => o.toList
  | _ => []
theorem epnu_5 : rpnu_5.toList = lpnu_5 := rfl
noncomputable def rpnu_6 : Array Oper := match Tryd.f44.body with
  | some (.seq _ (.seq _ (.seq (.seq _ (.block _ (.loop (.seq _ (.seq _ (.seq _ (.region _ o _))))))) _))) => o
  | _ => #[]
noncomputable def lpnu_6 : List Oper := match Tryd.f44.body with
  | some (.seq _ (.seq _ (.seq (.seq _ (.block _ (.loop (.seq _ (.seq _ (.seq _ (.region _ o _))))))) _))) => o.toList
  | _ => []
theorem epnu_6 : rpnu_6.toList = lpnu_6 := rfl
theorem lppnu_0_eq : lppnu_0 = (.seq (.region 3 rpnu_3 false) (.seq (.cond (.tmp 8) .skip (.exit 0)) (.seq (.block 1 (.seq (.region 4 rpnu_4 false) (.region 5 rpnu_5 false))) (.region 6 rpnu_6 false)))) := rfl
noncomputable def rpnu_7 : Array Oper := match Tryd.f44.body with
  | some (.seq _ (.seq _ (.seq _ (.seq (.region _ o _) _)))) => o
  | _ => #[]
noncomputable def lpnu_7 : List Oper := match Tryd.f44.body with
  | some (.seq _ (.seq _ (.seq _ (.seq (.region _ o _) _)))) => o.toList
  | _ => []
theorem epnu_7 : rpnu_7.toList = lpnu_7 := rfl
theorem bodypnu : Tryd.f44.body = some (.seq (.region 0 rpnu_0 false) (.seq (.region 1 rpnu_1 false) (.seq (.seq (.region 2 rpnu_2 false) (.block 0 (.loop lppnu_0))) (.seq (.region 7 rpnu_7 false) .ret)))) := rfl
-- ntmps 19
-- ntmps 7
noncomputable def rpei_0 : Array Oper := match Tryd.f18.body with
  | some (.seq (.region _ o _) _) => o
  | _ => #[]
noncomputable def lpei_0 : List Oper := match Tryd.f18.body with
  | some (.seq (.region _ o _) _) => o.toList
  | _ => []
theorem epei_0 : rpei_0.toList = lpei_0 := rfl
noncomputable def rpei_1 : Array Oper := match Tryd.f18.body with
  | some (.seq _ (.seq (.region _ o _) _)) => o
  | _ => #[]
noncomputable def lpei_1 : List Oper := match Tryd.f18.body with
  | some (.seq _ (.seq (.region _ o _) _)) => o.toList
  | _ => []
theorem epei_1 : rpei_1.toList = lpei_1 := rfl
noncomputable def rpei_2 : Array Oper := match Tryd.f18.body with
  | some (.seq _ (.seq _ (.seq (.seq (.region _ o _) _) _))) => o
  | _ => #[]
noncomputable def lpei_2 : List Oper := match Tryd.f18.body with
  | some (.seq _ (.seq _ (.seq (.seq (.region _ o _) _) _))) => o.toList
  | _ => []
theorem epei_2 : rpei_2.toList = lpei_2 := rfl
noncomputable def lppei_0 : Code := match Tryd.f18.body with
  | some (.seq _ (.seq _ (.seq (.seq _ (.block _ (.loop c))) _))) => c
  | _ => .skip
noncomputable def rpei_3 : Array Oper := match Tryd.f18.body with
  | some (.seq _ (.seq _ (.seq (.seq _ (.block _ (.loop (.seq (.region _ o _) _)))) _))) => o
  | _ => #[]
noncomputable def lpei_3 : List Oper := match Tryd.f18.body with
  | some (.seq _ (.seq _ (.seq (.seq _ (.block _ (.loop (.seq (.region _ o _) _)))) _))) => o.toList
  | _ => []
theorem epei_3 : rpei_3.toList = lpei_3 := rfl
noncomputable def rpei_4 : Array Oper := match Tryd.f18.body with
  | some (.seq _ (.seq _ (.seq (.seq _ (.block _ (.loop (.seq _ (.seq _ (.seq (.block _ (.seq (.region _ o _) _)) _)))))) _))) => o
  | _ => #[]
noncomputable def lpei_4 : List Oper := match Tryd.f18.body with
  | some (.seq _ (.seq _ (.seq (.seq _ (.block _ (.loop (.seq _ (.seq _ (.seq (.block _ (.seq (.region _ o _) _)) _)))))) _))) => o.toList
  | _ => []
theorem epei_4 : rpei_4.toList = lpei_4 := rfl
noncomputable def rpei_5 : Array Oper := match Tryd.f18.body with
  | some (.seq _ (.seq _ (.seq (.seq _ (.block _ (.loop (.seq _ (.seq _ (.seq (.block _ (.seq _ (.region _ o _))) _)))))) _))) => o
  | _ => #[]
noncomputable def lpei_5 : List Oper := match Tryd.f18.body with
  | some (.seq _ (.seq _ (.seq (.seq _ (.block _ (.loop (.seq _ (.seq _ (.seq (.block _ (.seq _ (.region _ o _))) _)))))) _))) => o.toList
  | _ => []
theorem epei_5 : rpei_5.toList = lpei_5 := rfl
noncomputable def rpei_6 : Array Oper := match Tryd.f18.body with
  | some (.seq _ (.seq _ (.seq (.seq _ (.block _ (.loop (.seq _ (.seq _ (.seq _ (.region _ o _))))))) _))) => o
  | _ => #[]
noncomputable def lpei_6 : List Oper := match Tryd.f18.body with
  | some (.seq _ (.seq _ (.seq (.seq _ (.block _ (.loop (.seq _ (.seq _ (.seq _ (.region _ o _))))))) _))) => o.toList
  | _ => []
theorem epei_6 : rpei_6.toList = lpei_6 := rfl
theorem lppei_0_eq : lppei_0 = (.seq (.region 3 rpei_3 false) (.seq (.cond (.tmp 6) .skip (.exit 0)) (.seq (.block 1 (.seq (.region 4 rpei_4 false) (.region 5 rpei_5 false))) (.region 6 rpei_6 false)))) := rfl
noncomputable def rpei_7 : Array Oper := match Tryd.f18.body with
  | some (.seq _ (.seq _ (.seq _ (.seq (.region _ o _) _)))) => o
  | _ => #[]
noncomputable def lpei_7 : List Oper := match Tryd.f18.body with
  | some (.seq _ (.seq _ (.seq _ (.seq (.region _ o _) _)))) => o.toList
  | _ => []
theorem epei_7 : rpei_7.toList = lpei_7 := rfl
theorem bodypei : Tryd.f18.body = some (.seq (.region 0 rpei_0 false) (.seq (.region 1 rpei_1 false) (.seq (.seq (.region 2 rpei_2 false) (.block 0 (.loop lppei_0))) (.seq (.region 7 rpei_7 false) .ret)))) := rfl
-- ntmps 19
-- ntmps 4
end Go.Am.Seat

/-
  The budget's functions: skeletons (own work).
-/
set_option linter.unusedSimpArgs false
set_option linter.unusedVariables false
namespace Go.Am.Seat
open Go.Proofs Go.Am
set_option maxRecDepth 100000

-- ntmps 218
-- ntmps 108
-- ntmps 93
-- ntmps 62
-- ntmps 28
-- ntmps 28
-- ntmps 26
-- ntmps 27
-- ntmps 28
-- ntmps 25
-- ntmps 11
-- ntmps 13
-- ntmps 10
-- ntmps 12
-- ntmps 11
-- ntmps 20
-- ntmps 24
-- ntmps 16
-- ntmps 17
-- ntmps 11
end Go.Am.Seat

/-
  Memory behind what was there ahead, row by row; numbers; the budget's smallest calls (own work).
-/
set_option linter.unusedSimpArgs false
set_option linter.unusedVariables false
namespace Go.Am.Seat
open Go.Proofs Go.Am
set_option maxRecDepth 100000

theorem und3 : E.P.underlying 3 = some (.int .i64) := Tryd.underlying3
theorem und4 : E.P.underlying 4 = some .bool := Tryd.underlying4
theorem und5 : E.P.underlying 5 = some (.int .u8) := Tryd.underlying5
theorem und9 : E.P.underlying 9 = some .string := Tryd.underlying9
/-- What was there ahead, and rows behind it. -/
def ap (m : Mem) (L : List Blk) : Mem := m ++ L
/-- A place in the rows behind what was there ahead. -/
def adr (m : Mem) (k o : Nat) : Value := .pointer (some ⟨m.length + k, o, none⟩)
theorem ap_nil (m : Mem) : m = ap m [] := (List.append_nil m).symm
theorem ap_len (m : Mem) (L : List Blk) : (ap m L).length = m.length + L.length := List.length_append
theorem ap_app (m : Mem) (L : List Blk) (b : Blk) : ap m L ++ [b] = ap m (L ++ [b]) := List.append_assoc ..
theorem ap_get (m : Mem) (L : List Blk) (k : Nat) : (ap m L)[m.length + k]? = L[k]? := by
  unfold ap
  rw [List.getElem?_append_right (by omega), Nat.add_sub_cancel_left]
theorem ap_set (m : Mem) (L : List Blk) (k : Nat) (b : Blk) : (ap m L).set (m.length + k) b = ap m (L.set k b) := by
  unfold ap
  rw [List.set_append_right _ _ (by omega), Nat.add_sub_cancel_left]

def cellsOf : Option Blk → Option (List Value)
  | some (.row _ _ cs) => some cs
  | some (.tab _ cs) => some cs
  | _ => none
theorem look_ap (m : Mem) (L : List Blk) (k : Nat) : (look (ap m L) (m.length + k)).map (·.2.2) = cellsOf L[k]? := by
  unfold look
  rw [ap_get]
  cases h : L[k]? with
  | none => rfl
  | some b => cases b <;> rfl

/-- A whole of n cells. -/
def ldS (n : Nat) (b : Option Blk) : Option Value := match cellsOf b with
  | some cs => if n ≤ cs.length then some (.agg (cs.take n).toArray) else none
  | none => none
/-- A cell. -/
def ldF (o : Nat) (b : Option Blk) : Option Value := match cellsOf b with
  | some cs => cs[o]?
  | none => none
theorem ldS_3 {ro : Bool} {e : TypeId} {a b c : Value} : ldS 3 (some (.row ro e [a, b, c])) = some (.agg ⟨[a, b, c]⟩) := rfl
theorem ldS_2 {ro : Bool} {e : TypeId} {a b : Value} : ldS 2 (some (.row ro e [a, b])) = some (.agg ⟨[a, b]⟩) := rfl
theorem ldF_0 {ro : Bool} {e : TypeId} {a : Value} {l : List Value} : ldF 0 (some (.row ro e (a :: l))) = some a := rfl
theorem ldF_1 {ro : Bool} {e : TypeId} {a b : Value} {l : List Value} : ldF 1 (some (.row ro e (a :: b :: l))) = some b := rfl
theorem ldF_2 {ro : Bool} {e : TypeId} {a b c : Value} {l : List Value} : ldF 2 (some (.row ro e (a :: b :: c :: l))) = some c := rfl

theorem aload_S {t : TypeId} {d : TypeDesc} {n : Nat} (hd : E.P.underlying t = some d) (ha : aggD d = true) (hn : (E.P.info? t).map (·.size) = some n) (m : Mem) (L : List Blk) (k : Nat) : aload E.P t (adr m k 0) (ap m L) = ldS n L[k]? := by
  obtain ⟨i, hi, hs⟩ := Option.map_eq_some_iff.1 hn
  have hl := look_ap m L k
  unfold aload adr ldS
  simp only
  cases hq : look (ap m L) (m.length + k) with
  | none =>
    rw [hq] at hl
    rw [← hl]
    rfl
  | some r =>
    rw [hq] at hl
    obtain ⟨a, b, cs⟩ := r
    rw [← hl, hd]
    simp only [ha, hi, hs, Nat.zero_add, List.drop_zero, Option.map_some]
theorem aload_F {t : TypeId} {d : TypeDesc} (hd : E.P.underlying t = some d) (ha : aggD d = false) (m : Mem) (L : List Blk) (k o : Nat) : aload E.P t (adr m k o) (ap m L) = ldF o L[k]? := by
  have hl := look_ap m L k
  unfold aload adr ldF
  simp only
  cases hq : look (ap m L) (m.length + k) with
  | none =>
    rw [hq] at hl
    rw [← hl]
    rfl
  | some r =>
    rw [hq] at hl
    obtain ⟨a, b, cs⟩ := r
    rw [← hl, hd]
    simp only [ha, Option.map_some]

/-- Cells laid into a row. -/
def stL (n : Nat) (m : Mem) (L : List Blk) (k o : Nat) (l : List Value) : Option Mem := match L[k]? with
  | some (.row false e cs) => if l.length = n ∧ o + l.length ≤ cs.length then some (ap m (L.set k (.row false e (lay cs o l)))) else none
  | _ => none
theorem astore_L {t : TypeId} {n : Nat} (hn : (E.P.info? t).map (·.size) = some n) {u : Value} {l : List Value} (hu : vcells u = some l) (m : Mem) (L : List Blk) (k o : Nat) : astore E.P t (adr m k o) u (ap m L) = stL n m L k o l := by
  obtain ⟨i, hi, hs⟩ := Option.map_eq_some_iff.1 hn
  unfold astore adr stL
  simp only [ap_get]
  cases hq : L[k]? with
  | none => rfl
  | some b =>
    cases b with
    | row ro e cs =>
      cases ro with
      | true => rfl
      | false => simp only [hu, hi, hs, ap_set]
    | _ => rfl
theorem stL_3 {m : Mem} {L : List Blk} {k : Nat} {a b c : Value} : stL 3 m L k 0 [a, b, c] = match L[k]? with
    | some (.row false e [_, _, _]) => some (ap m (L.set k (.row false e [a, b, c])))
    | x => stL 3 m L k 0 [a, b, c] := by
  split
  · rename_i h
    unfold stL
    rw [h]
    rfl
  · rfl
theorem stL_2 {m : Mem} {L : List Blk} {k : Nat} {a b : Value} : stL 2 m L k 0 [a, b] = match L[k]? with
    | some (.row false e [_, _]) => some (ap m (L.set k (.row false e [a, b])))
    | x => stL 2 m L k 0 [a, b] := by
  split
  · rename_i h
    unfold stL
    rw [h]
    rfl
  · rfl
theorem stL_1 {m : Mem} {L : List Blk} {k o : Nat} {a : Value} : stL 1 m L k o [a] = match L[k]? with
    | some (.row false e cs) => if o + 1 ≤ cs.length then some (ap m (L.set k (.row false e (cs.set o a)))) else none
    | _ => none := by
  unfold stL
  cases hq : L[k]? with
  | none => rfl
  | some b =>
    cases b with
    | row ro e cs =>
      cases ro with
      | true => rfl
      | false => simp only [List.length_cons, List.length_nil, Nat.zero_add, true_and, lay]
    | _ => rfl
theorem abox_L {t : TypeId} (hi : (E.P.info? t).isSome = true) {v : Value} {l : List Value} (hv : vcells v = some l) (m : Mem) (L : List Blk) : abox E.P t v (ap m L) = some (adr m L.length 0, ap m (L ++ [.row false t l])) := by
  obtain ⟨i, hi⟩ := Option.isSome_iff_exists.1 hi
  unfold abox adr
  simp only [hi, hv, ap_len, ap_app]
theorem aalloc_L {t : TypeId} {z : Value} {l : List Value} (hi : (E.P.info? t).bind (·.zero) = some z) (hv : vcells z = some l) (hl : l.all lit0 = true) (m : Mem) (L : List Blk) : aalloc E.P t (ap m L) = some (adr m L.length 0, ap m (L ++ [.row false t l])) := by
  cases h : E.P.info? t with
  | none => rw [h] at hi; cases hi
  | some i =>
    rw [h] at hi
    have hz : i.zero = some z := hi
    unfold aalloc adr
    simp only [h, hz, hv, hl, if_true, ap_len, ap_app]

def pol (a b c : Int) : Value := .agg ⟨[.int .i64 a, .int .u64 b, .int .i64 c]⟩
def bud (a b : Int) (c : Bool) : Value := .agg ⟨[.int .i64 a, .int .u64 b, .bool c]⟩
def polC (a b c : Int) : List Value := [.int .i64 a, .int .u64 b, .int .i64 c]
def budC (a b : Int) (c : Bool) : List Value := [.int .i64 a, .int .u64 b, .bool c]

section
variable (m : Mem) (L : List Blk) (k o : Nat) (a b c : Int) (d : Bool)
theorem ldI' : aload E.P 3 (adr m k o) (ap m L) = ldF o L[k]? := aload_F Tryd.underlying3 rfl m L k o
theorem ldU' : aload E.P 22 (adr m k o) (ap m L) = ldF o L[k]? := aload_F Tryd.underlying22 rfl m L k o
theorem ldL' : aload E.P 4 (adr m k o) (ap m L) = ldF o L[k]? := aload_F Tryd.underlying4 rfl m L k o
theorem ldS_pol {ro : Bool} {e : TypeId} : ldS 3 (some (.row ro e (polC a b c))) = some (pol a b c) := rfl
theorem ldS_bud {ro : Bool} {e : TypeId} : ldS 3 (some (.row ro e (budC a b d))) = some (bud a b d) := rfl
theorem ldF_p0 {ro : Bool} {e : TypeId} : ldF 0 (some (.row ro e (polC a b c))) = some (.int .i64 a) := rfl
theorem ldF_p1 {ro : Bool} {e : TypeId} : ldF 1 (some (.row ro e (polC a b c))) = some (.int .u64 b) := rfl
theorem ldF_p2 {ro : Bool} {e : TypeId} : ldF 2 (some (.row ro e (polC a b c))) = some (.int .i64 c) := rfl
theorem ldF_b0 {ro : Bool} {e : TypeId} : ldF 0 (some (.row ro e (budC a b d))) = some (.int .i64 a) := rfl
theorem ldF_b1 {ro : Bool} {e : TypeId} : ldF 1 (some (.row ro e (budC a b d))) = some (.int .u64 b) := rfl
theorem ldF_b2 {ro : Bool} {e : TypeId} : ldF 2 (some (.row ro e (budC a b d))) = some (.bool d) := rfl
/-- A row's cells, changed. -/
def chg (m : Mem) (L : List Blk) (k : Nat) (f : List Value → Option (List Value)) : Option Mem := match L[k]? with
  | some (.row false e cs) => match f cs with
    | some cs' => some (ap m (L.set k (.row false e cs')))
    | none => none
  | _ => none
def putAll (n : Nat) (l : List Value) (cs : List Value) : Option (List Value) := if cs.length = n then some l else none
def putAt (o : Nat) (v : Value) (cs : List Value) : Option (List Value) := if o + 1 ≤ cs.length then some (cs.set o v) else none
theorem chg_all {l : List Value} (hl : l.length = 3) (h : ∀ e cs, L[k]? = some (.row false e cs) → cs.length = 3) : stL 3 m L k 0 l = chg m L k (putAll 3 l) := by
  unfold stL chg putAll
  cases hq : L[k]? with
  | none => rfl
  | some b =>
    cases b with
    | row ro e cs =>
      cases ro with
      | true => rfl
      | false =>
        have h3 := h e cs hq
        match l, hl, cs, h3 with
        | [x, y, z], _, [p, q, r], _ => rfl
    | _ => rfl
end
end Go.Am.Seat

/-
  The budget's smallest calls: windows, later ticks, what a policy may be (own work).
-/
set_option linter.unusedSimpArgs false
set_option linter.unusedVariables false
namespace Go.Am.Seat
open Go.Proofs Go.Am
set_option maxRecDepth 100000

theorem apure_max {P : Program} {T : List Value} {ts : Array TypeId} {x y : Operand} {ty : TypeId} {pos : String} {af : Array Edge} {g : Option (Nat × Bool)} {d : Option Tmp} : apure P T { dst := d, op := .call { callee := .builtin .max, args := #[x, y], argTypes := ts }, type := ty, pos := pos, after := af, guard := g } = match ev T x with
    | .int k a => (match ev T y with
      | .int _ c => some (.int k (max a c))
      | _ => apureC P T { dst := d, op := .call { callee := .builtin .max, args := #[x, y], argTypes := ts }, type := ty, pos := pos, after := af, guard := g })
    | _ => apureC P T { dst := d, op := .call { callee := .builtin .max, args := #[x, y], argTypes := ts }, type := ty, pos := pos, after := af, guard := g } := by
  cases hx : ev T x with
  | int k a =>
    cases hy : ev T y with
    | int k' c =>
      have h : max a c = if c > a then c else a := by omega
      simp only [apure, Op.operands, Call.operands, Array.toList_append, List.nil_append, List.all_cons, List.all_nil, hx, hy, lit2, lit1, lit0, Bool.and_self, if_true, execOp, resolve, List.map_toArray, List.map_cons, List.map_nil, h]
      rfl
    | _ => rfl
  | _ => rfl
theorem apure_min {P : Program} {T : List Value} {ts : Array TypeId} {x y : Operand} {ty : TypeId} {pos : String} {af : Array Edge} {g : Option (Nat × Bool)} {d : Option Tmp} : apure P T { dst := d, op := .call { callee := .builtin .min, args := #[x, y], argTypes := ts }, type := ty, pos := pos, after := af, guard := g } = match ev T x with
    | .int k a => (match ev T y with
      | .int _ c => some (.int k (min a c))
      | _ => apureC P T { dst := d, op := .call { callee := .builtin .min, args := #[x, y], argTypes := ts }, type := ty, pos := pos, after := af, guard := g })
    | _ => apureC P T { dst := d, op := .call { callee := .builtin .min, args := #[x, y], argTypes := ts }, type := ty, pos := pos, after := af, guard := g } := by
  cases hx : ev T x with
  | int k a =>
    cases hy : ev T y with
    | int k' c =>
      have h : min a c = if c < a then c else a := by omega
      simp only [apure, Op.operands, Call.operands, Array.toList_append, List.nil_append, List.all_cons, List.all_nil, hx, hy, lit2, lit1, lit0, Bool.and_self, if_true, execOp, resolve, List.map_toArray, List.map_cons, List.map_nil, h]
      rfl
    | _ => rfl
  | _ => rfl
theorem ares1_tmp {P : Program} {T : List Value} {m : Mem} {t : Nat} : ares1 P T m (.tmp t) = some (nth T t) := rfl
noncomputable def aresC (P : Program) (t : TypeId) (v : Value) (m : Mem) : Option Value := match v with
  | .pointer (some ad) => aload P t (.pointer (some ad)) m
  | _ => none
theorem ares1_cell {P : Program} {T : List Value} {m : Mem} {a t : Nat} : ares1 P T m (.cell a t) = aresC P t (nth T a) m := rfl
theorem aresC_adr {P : Program} {t : TypeId} {m m' : Mem} {k o : Nat} : aresC P t (adr m k o) m' = aload P t (adr m k o) m' := rfl
theorem aload_sealed {P : Program} {t : TypeId} {v : Value} {m : Mem} : aload P t v (m.map sealed) = aload P t v m := by
  have h : ∀ b : Nat, (look (m.map sealed) b).map (·.2.2) = (look m b).map (·.2.2) := fun b => by
    unfold look
    rw [List.getElem?_map]
    cases hb : m[b]? with
    | none => rfl
    | some x => cases x <;> rfl
  unfold aload
  cases v with
  | pointer a =>
    cases a with
    | none => rfl
    | some a =>
      obtain ⟨b, o, x⟩ := a
      cases x with
      | some _ => rfl
      | none =>
        have h' := h b
        simp only
        cases h1 : look m b with
        | none =>
          rw [h1] at h'
          cases h2 : look (m.map sealed) b with
          | none => rfl
          | some r => rw [h2] at h'; cases h'
        | some q =>
          rw [h1] at h'
          cases h2 : look (m.map sealed) b with
          | none => rw [h2] at h'; cases h'
          | some r =>
            rw [h2] at h'
            obtain ⟨a1, a2, cs⟩ := q
            obtain ⟨b1, b2, ds⟩ := r
            simp only [Option.map_some, Option.some.injEq] at h'
            subst h'
            rfl
  | _ => rfl
theorem adU : addrT E.P 4 22 = false := by kernel_rfl
theorem adE : addrT E.P 4 26 = false := by kernel_rfl
theorem maxV {P : Program} {ts : Array TypeId} {ty : TypeId} {k : IntKind} {x y : Int} : apC2 P .max ts ty (.int k x) (.int k y) = some (.int k (max x y)) := by
  unfold apC2
  rw [apure_max]
  rfl
theorem minV {P : Program} {ts : Array TypeId} {ty : TypeId} {k : IntKind} {x y : Int} : apC2 P .min ts ty (.int k x) (.int k y) = some (.int k (min x y)) := by
  unfold apC2
  rw [apure_min]
  rfl
theorem quoW {t b : Int} (h0 : 0 ≤ t) (h1 : t < 18446744073709551616) (hb : 1 ≤ b) : abin .quo .u64 t .u64 b = some (.int .u64 (t / b)) := by
  have h2 : 0 ≤ t / b := Int.ediv_nonneg h0 (by omega)
  have h3 : t / b ≤ t := Int.ediv_le_self _ h0
  have hq : abin .quo .u64 t .u64 b = some (.int .u64 (wrapF .u64 (t.tdiv b))) := by
    unfold abin
    simp only [ne_eq, true_and]
    rw [if_pos (by omega)]
  rw [hq, Int.tdiv_eq_ediv_of_nonneg h0]
  congr 2
  simp only [wrapF]
  omega
theorem addW (a b : Int) : abin .add .u64 a .u64 b = some (.int .u64 (wrapF .u64 (a + b))) := by kernel_rfl
theorem subW (a b : Int) : abin .sub .u64 a .u64 b = some (.int .u64 (wrapF .u64 (a - b))) := by kernel_rfl
theorem addI (a b : Int) : abin .add .i64 a .i64 b = some (.int .i64 (wrapF .i64 (a + b))) := by kernel_rfl
theorem subI (a b : Int) : abin .sub .i64 a .i64 b = some (.int .i64 (wrapF .i64 (a - b))) := by kernel_rfl
theorem lssW (a b : Int) : abin .lss .u64 a .u64 b = some (.bool (decide (a < b))) := by kernel_rfl
theorem gtrW (a b : Int) : abin .gtr .u64 a .u64 b = some (.bool (decide (a > b))) := by kernel_rfl
theorem geqW (a b : Int) : abin .geq .u64 a .u64 b = some (.bool (decide (a ≥ b))) := by kernel_rfl
theorem neqW (a b : Int) : abin .neq .u64 a .u64 b = some (.bool (a != b)) := by kernel_rfl
theorem eqlW (a b : Int) : abin .eql .u64 a .u64 b = some (.bool (a == b)) := by kernel_rfl
theorem lssI (a b : Int) : abin .lss .i64 a .i64 b = some (.bool (decide (a < b))) := by kernel_rfl
theorem leqI (a b : Int) : abin .leq .i64 a .i64 b = some (.bool (decide (a ≤ b))) := by kernel_rfl
theorem gtrI (a b : Int) : abin .gtr .i64 a .i64 b = some (.bool (decide (a > b))) := by kernel_rfl
theorem geqI (a b : Int) : abin .geq .i64 a .i64 b = some (.bool (decide (a ≥ b))) := by kernel_rfl
theorem neqI64 (a b : Int) : abin .neq .i64 a .i64 b = some (.bool (a != b)) := by kernel_rfl
theorem eqlI64 (a b : Int) : abin .eql .i64 a .i64 b = some (.bool (a == b)) := by kernel_rfl

section
variable (m : Mem) (L : List Blk) (k o : Nat) (a b c x y : Int) (d z : Bool)
theorem stI' : astore E.P 3 (adr m k o) (.int .i64 a) (ap m L) = stL 1 m L k o [.int .i64 a] := astore_L (by kernel_rfl) rfl m L k o
theorem stU' : astore E.P 22 (adr m k o) (.int .u64 a) (ap m L) = stL 1 m L k o [.int .u64 a] := astore_L (by kernel_rfl) rfl m L k o
theorem stT' : astore E.P 4 (adr m k o) (.bool d) (ap m L) = stL 1 m L k o [.bool d] := astore_L (by kernel_rfl) rfl m L k o
theorem polLen : (polC a b c).length = 3 := rfl
theorem budLen : (budC a b d).length = 3 := rfl
theorem layP (w : Int) : lay (polC a b c) 0 (polC x y w) = polC x y w := rfl
theorem layB : lay (budC a b d) 0 (budC x y z) = budC x y z := rfl
theorem layB0 : lay (budC a b d) 0 [.int .i64 x] = budC x b d := rfl
theorem layB1 : lay (budC a b d) 1 [.int .u64 x] = budC a x d := rfl
theorem layB2 : lay (budC a b d) 2 [.bool z] = budC a b z := rfl
end

section
variable {self : Self} {nf : Nat} {m : Mem} {a b c t n : Int} {left win : Int} {lk : Bool}
end
end Go.Am.Seat

/-
  The budget's calls over what they call (own work).
-/
set_option linter.unusedSimpArgs false
set_option linter.unusedVariables false
namespace Go.Am.Seat
open Go.Proofs Go.Am
set_option maxRecDepth 100000

/-- A call whose answer leads nowhere. -/
def AnsB (self : Self) (f : FuncId) (args : List Value) (v : Value) : Prop := ∀ M : Mem, ainv E self f args M = some (v, M)

section
variable {self : Self} {nf : Nat} {m : Mem} {a b c t n l w : Int} {k : Bool}
end
end Go.Am.Seat

/-
  The budget's calls over what they call: the rest (own work).
-/
set_option linter.unusedSimpArgs false
set_option linter.unusedVariables false
namespace Go.Am.Seat
open Go.Proofs Go.Am
set_option maxRecDepth 100000

noncomputable def apB2 (P : Program) (t ty : TypeId) (a b : Value) : Option Value := apure P [a, b] { dst := none, op := .build t #[(0, .tmp 0), (1, .tmp 1)], type := ty, pos := "", after := #[], guard := none }
theorem apure_build2 {P : Program} {T : List Value} {t ty : TypeId} {a b : Nat} {pos : String} {af : Array Edge} {gu : Option (Nat × Bool)} {dd : Option Tmp} :
    apure P T { dst := dd, op := .build t #[(0, .tmp a), (1, .tmp b)], type := ty, pos := pos, after := af, guard := gu } = apB2 P t ty (nth T a) (nth T b) := by
  unfold apB2 apure
  simp [Op.operands, execOp, ev, nth_zero, nth_succ]
section
variable {self : Self} {nf : Nat} {m : Mem} {a b c t n l w l1 n1 : Int} {k z : Bool}
end
end Go.Am.Seat

/-
  Equality of budgets (own work).
-/
set_option linter.unusedSimpArgs false
set_option linter.unusedVariables false
namespace Go.Am.Seat
open Go.Proofs Go.Am
set_option maxRecDepth 100000

theorem pv_undB {t : TypeId} {d : TypeDesc} (h : E.P.underlying t = some d) : pv E.P (underlying t) = some d := by
  unfold underlying
  rw [pv_bind (a := E.P) rfl, h]
  rfl
theorem pv_eqI {d : Nat} {t : TypeId} {k k' : IntKind} (h : E.P.underlying t = some (.int k')) (a b : Int) : pv E.P (Op.equalIn (d + 1) t (.int k a) (.int k b)) = some (a == b) := by
  unfold Op.equalIn
  rw [pv_bind (pv_undB h)]
  simp only [if_true]
  rfl
theorem pv_eqBl {d : Nat} {t : TypeId} (h : E.P.underlying t = some .bool) (a b : Bool) : pv E.P (Op.equalIn (d + 1) t (.bool a) (.bool b)) = some (a == b) := by
  unfold Op.equalIn
  rw [pv_bind (pv_undB h)]
  rfl
theorem pv_blk {t : TypeId} {u v : Array Value} {x y : Value} {o d : Nat} {q : Bool} (hx : pv E.P (part t u o) = some x) (hy : pv E.P (part t v o) = some y) (he : pv E.P (Op.equalIn d t x y) = some q) : pv E.P (do
    let a ← part t u o
    let b ← part t v o
    let c ← Op.equalIn d t a b
    if (!c) = true then pure (ForInStep.done (some false, ())) else pure (ForInStep.yield ((none : Option Bool), ()))) = some (if q then ForInStep.yield (none, ()) else ForInStep.done (some false, ())) := by
  rw [pv_bind hx, pv_bind hy, pv_bind he]
  cases q <;> rfl
section
variable {a b a' b' : Int} {c c' : Bool} {q1 q2 q3 : Bool}
end

/-- Equality of two values, whatever temporaries they come from. -/
noncomputable def eqlV9 (P : Program) (s : TypeId) (x y : Operand) (u v : Value) : Option Value :=
  if lit2 u && (lit2 v && true) then
    match pv P ((eqGuard .eql s x y u v >>= fun _ => binOp .eql s u v) >>= fun r => pure (Next.value r)) with
    | some (.value r) => if lit2 r then some r else none
    | _ => none
  else none
noncomputable def neqV9 (P : Program) (s : TypeId) (x y : Operand) (u v : Value) : Option Value :=
  if lit2 u && (lit2 v && true) then
    match pv P ((eqGuard .neq s x y u v >>= fun _ => binOp .neq s u v) >>= fun r => pure (Next.value r)) with
    | some (.value r) => if lit2 r then some r else none
    | _ => none
  else none
theorem eqlV9_int {P : Program} {s : TypeId} {x y : Operand} {k : IntKind} {a b : Int} : eqlV9 P s x y (.int k a) (.int k b) = some (.bool (a == b)) := by
  unfold eqlV9
  simp only [lit2, lit1, lit0, Bool.and_self, if_true, eqGuard, binOp, ne_eq, not_true, if_false, Op.intCmp]
  rfl
theorem neqV9_int {P : Program} {s : TypeId} {x y : Operand} {k : IntKind} {a b : Int} : neqV9 P s x y (.int k a) (.int k b) = some (.bool (a != b)) := by
  unfold neqV9
  simp only [lit2, lit1, lit0, Bool.and_self, if_true, eqGuard, binOp, ne_eq, not_true, if_false, Op.intCmp]
  rfl
theorem eqlV9_bool {x y : Operand} {p q : Bool} : eqlV9 E.P 4 x y (.bool p) (.bool q) = some (.bool (p == q)) := rfl
theorem neqV9_bool {x y : Operand} {p q : Bool} : neqV9 E.P 4 x y (.bool p) (.bool q) = some (.bool !(p == q)) := rfl
theorem eqlV9_str {P : Program} {s : TypeId} {x y : Operand} {a c : ByteArray} : eqlV9 P s x y (.string a) (.string c) = some (.bool (a.toList == c.toList)) := rfl
theorem neqV9_str {P : Program} {s : TypeId} {x y : Operand} {a c : ByteArray} : neqV9 P s x y (.string a) (.string c) = some (.bool !(a.toList == c.toList)) := rfl

section
variable {P : Program} {T : List Value} {m : Mem} {d : Option Tmp} {s t ty : TypeId} {x y : Operand} {pos : String} {af : Array Edge} {g : Option (Nat × Bool)}
theorem apure_eqlV9 : apure P T { dst := d, op := .binOp .eql s x y t, type := ty, pos := pos, after := af, guard := g } = eqlV9 P s x y (ev T x) (ev T y) := by
  unfold apure eqlV9
  simp only [Op.operands, List.all_cons, List.all_nil, execOp]
  rfl
theorem apure_neqV9 : apure P T { dst := d, op := .binOp .neq s x y t, type := ty, pos := pos, after := af, guard := g } = neqV9 P s x y (ev T x) (ev T y) := by
  unfold apure neqV9
  simp only [Op.operands, List.all_cons, List.all_nil, execOp]
  rfl
theorem aop_eqlV9 : aop P T m { dst := d, op := .binOp .eql s x y t, type := ty, pos := pos, after := af, guard := g } = (eqlV9 P s x y (ev T x) (ev T y)).map (·, m) := by
  have hp := apure_eqlV9 (P := P) (T := T) (d := d) (s := s) (t := t) (ty := ty) (x := x) (y := y) (pos := pos) (af := af) (g := g)
  unfold aop
  simp only
  cases hx : ev T x with
  | int k a =>
    cases hy : ev T y with
    | int k' b =>
      simp only
      by_cases hk : k = k'
      · subst hk
        rw [eqlV9_int]
        have : abin .eql k a k b = some (.bool (a == b)) := by unfold abin; simp only [if_true]
        rw [this]
        rfl
      · have : abin .eql k a k' b = none := by unfold abin; simp only [hk, if_false]
        rw [this]
        simp only
        rw [hp, hx, hy]
    | _ => simp only; rw [hp, hx, hy]
  | _ => simp only; rw [hp, hx]
theorem aop_neqV9 : aop P T m { dst := d, op := .binOp .neq s x y t, type := ty, pos := pos, after := af, guard := g } = (neqV9 P s x y (ev T x) (ev T y)).map (·, m) := by
  have hp := apure_neqV9 (P := P) (T := T) (d := d) (s := s) (t := t) (ty := ty) (x := x) (y := y) (pos := pos) (af := af) (g := g)
  unfold aop
  simp only
  cases hx : ev T x with
  | int k a =>
    cases hy : ev T y with
    | int k' b =>
      simp only
      by_cases hk : k = k'
      · subst hk
        rw [neqV9_int]
        have : abin .neq k a k b = some (.bool (a != b)) := by unfold abin; simp only [if_true]
        rw [this]
        rfl
      · have : abin .neq k a k' b = none := by unfold abin; simp only [hk, if_false]
        rw [this]
        simp only
        rw [hp, hx, hy]
    | _ => simp only; rw [hp, hx, hy]
  | _ => simp only; rw [hp, hx]
noncomputable def afloatZ (P : Program) (T : List Value) (o : Oper) : Option Value := afloat P T o
theorem afloat_eqlV9 : afloat P T { dst := d, op := .binOp .eql s x y t, type := ty, pos := pos, after := af, guard := g } = match eqlV9 P s x y (ev T x) (ev T y) with
    | some v => some v
    | none => afloatZ P T { dst := d, op := .binOp .eql s x y t, type := ty, pos := pos, after := af, guard := g } := by
  cases he : eqlV9 P s x y (ev T x) (ev T y) with
  | none => rfl
  | some v =>
    have hp := (apure_eqlV9 (P := P) (T := T) (d := d) (s := s) (t := t) (ty := ty) (x := x) (y := y) (pos := pos) (af := af) (g := g)).trans he
    unfold afloat
    simp only [hp]
    cases hx : ev T x with
    | int k a =>
      cases hy : ev T y with
      | int k' b =>
        simp only
        by_cases hk : k = k'
        · subst hk
          rw [hx, hy, eqlV9_int] at he
          cases he
          have : abin .eql k a k b = some (.bool (a == b)) := by unfold abin; simp only [if_true]
          rw [this]
        · have : abin .eql k a k' b = none := by unfold abin; simp only [hk, if_false]
          rw [this]
      | _ => rfl
    | _ => rfl
theorem afloat_neqV9 : afloat P T { dst := d, op := .binOp .neq s x y t, type := ty, pos := pos, after := af, guard := g } = match neqV9 P s x y (ev T x) (ev T y) with
    | some v => some v
    | none => afloatZ P T { dst := d, op := .binOp .neq s x y t, type := ty, pos := pos, after := af, guard := g } := by
  cases he : neqV9 P s x y (ev T x) (ev T y) with
  | none => rfl
  | some v =>
    have hp := (apure_neqV9 (P := P) (T := T) (d := d) (s := s) (t := t) (ty := ty) (x := x) (y := y) (pos := pos) (af := af) (g := g)).trans he
    unfold afloat
    simp only [hp]
    cases hx : ev T x with
    | int k a =>
      cases hy : ev T y with
      | int k' b =>
        simp only
        by_cases hk : k = k'
        · subst hk
          rw [hx, hy, neqV9_int] at he
          cases he
          have : abin .neq k a k b = some (.bool (a != b)) := by unfold abin; simp only [if_true]
          rw [this]
        · have : abin .neq k a k' b = none := by unfold abin; simp only [hk, if_false]
          rw [this]
      | _ => rfl
    | _ => rfl
end
section
variable {x y : Operand} {a b a' b' : Int} {c c' : Bool}
theorem bud_lit : lit2 (bud a b c) = true := rfl
end
end Go.Am.Seat
