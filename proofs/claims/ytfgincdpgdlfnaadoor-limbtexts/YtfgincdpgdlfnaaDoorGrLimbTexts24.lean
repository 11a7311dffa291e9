/-
  Skeletons of LimbTexts, limb's Parse, Bytes, Digits, the document's Bytes, and of strconv's FormatUint (own work).
-/
import Derived.Test.YtfgincdpgdlfnaaDoorGrLimbTexts23
set_option linter.unusedSimpArgs false
set_option linter.unusedVariables false
set_option maxRecDepth 100000
namespace Go.Am.Seat
open Go.Proofs Go.Am
def smS : ByteArray := { data := #[48, 48, 48, 49, 48, 50, 48, 51, 48, 52, 48, 53, 48, 54, 48, 55, 48, 56, 48, 57, 49, 48, 49, 49, 49, 50, 49, 51, 49, 52, 49, 53, 49, 54, 49, 55, 49, 56, 49, 57, 50, 48, 50, 49, 50, 50, 50, 51, 50, 52, 50, 53, 50, 54, 50, 55, 50, 56, 50, 57, 51, 48, 51, 49, 51, 50, 51, 51, 51, 52, 51, 53, 51, 54, 51, 55, 51, 56, 51, 57, 52, 48, 52, 49, 52, 50, 52, 51, 52, 52, 52, 53, 52, 54, 52, 55, 52, 56, 52, 57, 53, 48, 53, 49, 53, 50, 53, 51, 53, 52, 53, 53, 53, 54, 53, 55, 53, 56, 53, 57, 54, 48, 54, 49, 54, 50, 54, 51, 54, 52, 54, 53, 54, 54, 54, 55, 54, 56, 54, 57, 55, 48, 55, 49, 55, 50, 55, 51, 55, 52, 55, 53, 55, 54, 55, 55, 55, 56, 55, 57, 56, 48, 56, 49, 56, 50, 56, 51, 56, 52, 56, 53, 56, 54, 56, 55, 56, 56, 56, 57, 57, 48, 57, 49, 57, 50, 57, 51, 57, 52, 57, 53, 57, 54, 57, 55, 57, 56, 57, 57] }
def dgS : ByteArray := { data := #[48, 49, 50, 51, 52, 53, 54, 55, 56, 57, 97, 98, 99, 100, 101, 102, 103, 104, 105, 106, 107, 108, 109, 110, 111, 112, 113, 114, 115, 116, 117, 118, 119, 120, 121, 122] }
noncomputable def rlpa_0 : Array Oper := match Tryd.f5.body with
  | some (.seq (.region _ o _) _) => o
  | _ => #[]
noncomputable def rlpa_1 : Array Oper := match Tryd.f5.body with
  | some (.seq _ (.seq (.seq (.region _ o _) _) _)) => o
  | _ => #[]
noncomputable def rlpa_2 : Array Oper := match Tryd.f5.body with
  | some (.seq _ (.seq (.seq _ (.cond _ (.seq (.region _ o _) _) _)) _)) => o
  | _ => #[]
noncomputable def rlpa_3 : Array Oper := match Tryd.f5.body with
  | some (.seq _ (.seq _ (.seq (.region _ o _) _))) => o
  | _ => #[]
noncomputable def rlpa_4 : Array Oper := match Tryd.f5.body with
  | some (.seq _ (.seq _ (.seq _ (.seq (.seq (.region _ o _) _) _)))) => o
  | _ => #[]
noncomputable def lplpa_0 : Code := match Tryd.f5.body with
  | some (.seq _ (.seq _ (.seq _ (.seq (.seq _ (.block _ (.loop c))) _)))) => c
  | _ => .skip
noncomputable def rlpa_5 : Array Oper := match Tryd.f5.body with
  | some (.seq _ (.seq _ (.seq _ (.seq (.seq _ (.block _ (.loop (.seq (.region _ o _) _)))) _)))) => o
  | _ => #[]
noncomputable def rlpa_6 : Array Oper := match Tryd.f5.body with
  | some (.seq _ (.seq _ (.seq _ (.seq (.seq _ (.block _ (.loop (.seq _ (.seq _ (.seq (.block _ (.seq (.region _ o _) _)) _)))))) _)))) => o
  | _ => #[]
noncomputable def rlpa_7 : Array Oper := match Tryd.f5.body with
  | some (.seq _ (.seq _ (.seq _ (.seq (.seq _ (.block _ (.loop (.seq _ (.seq _ (.seq (.block _ (.seq _ (.region _ o _))) _)))))) _)))) => o
  | _ => #[]
theorem dlpa_7 {self : Self} {B : Nat} {T : List Value} {m : Mem} {lb : List (Nat × Nat)} {ls : Bool} : adrawN E self rlpa_7 B rlpa_7.toList 0 T m lb ls = adrawT E self rlpa_7 B rlpa_7.toList [(false, false), (false, false), (false, false), (false, false), (false, false), (false, false), (false, false), (false, false), (false, false), (false, false), (false, false), (false, false), (false, false), (false, false), (false, false)] 0 T m lb ls := adraw_tab (by kernel_rfl)
theorem slpa_7 : E.sr 7 rlpa_7 = false := by kernel_rfl
noncomputable def rlpa_8 : Array Oper := match Tryd.f5.body with
  | some (.seq _ (.seq _ (.seq _ (.seq (.seq _ (.block _ (.loop (.seq _ (.seq _ (.seq _ (.region _ o _))))))) _)))) => o
  | _ => #[]
theorem lplpa_0_eq : lplpa_0 = (.seq (.region 5 rlpa_5 false) (.seq (.cond (.tmp 13) .skip (.exit 0)) (.seq (.block 1 (.seq (.region 6 rlpa_6 false) (.region 7 rlpa_7 true))) (.region 8 rlpa_8 false)))) := rfl
noncomputable def rlpa_9 : Array Oper := match Tryd.f5.body with
  | some (.seq _ (.seq _ (.seq _ (.seq _ (.seq (.region _ o _) _))))) => o
  | _ => #[]
theorem bodylpa : Tryd.f5.body = some (.seq (.region 0 rlpa_0 false) (.seq (.seq (.region 1 rlpa_1 false) (.cond (.tmp 8) (.seq (.region 2 rlpa_2 false) .ret) .skip)) (.seq (.region 3 rlpa_3 false) (.seq (.seq (.region 4 rlpa_4 false) (.block 0 (.loop lplpa_0))) (.seq (.region 9 rlpa_9 false) .ret))))) := rfl
-- ntmps 31
noncomputable def rlby_0 : Array Oper := match Tryd.f11.body with
  | some (.seq (.region _ o _) _) => o
  | _ => #[]
noncomputable def rlby_1 : Array Oper := match Tryd.f11.body with
  | some (.seq _ (.seq (.region _ o _) _)) => o
  | _ => #[]
noncomputable def rlby_2 : Array Oper := match Tryd.f11.body with
  | some (.seq _ (.seq _ (.seq (.seq (.region _ o _) _) _))) => o
  | _ => #[]
noncomputable def lplby_0 : Code := match Tryd.f11.body with
  | some (.seq _ (.seq _ (.seq (.seq _ (.block _ (.loop c))) _))) => c
  | _ => .skip
noncomputable def rlby_3 : Array Oper := match Tryd.f11.body with
  | some (.seq _ (.seq _ (.seq (.seq _ (.block _ (.loop (.seq (.region _ o _) _)))) _))) => o
  | _ => #[]
noncomputable def rlby_4 : Array Oper := match Tryd.f11.body with
  | some (.seq _ (.seq _ (.seq (.seq _ (.block _ (.loop (.seq _ (.seq _ (.seq (.block _ (.seq (.region _ o _) _)) _)))))) _))) => o
  | _ => #[]
noncomputable def rlby_5 : Array Oper := match Tryd.f11.body with
  | some (.seq _ (.seq _ (.seq (.seq _ (.block _ (.loop (.seq _ (.seq _ (.seq (.block _ (.seq _ (.region _ o _))) _)))))) _))) => o
  | _ => #[]
noncomputable def rlby_6 : Array Oper := match Tryd.f11.body with
  | some (.seq _ (.seq _ (.seq (.seq _ (.block _ (.loop (.seq _ (.seq _ (.seq _ (.region _ o _))))))) _))) => o
  | _ => #[]
theorem lplby_0_eq : lplby_0 = (.seq (.region 3 rlby_3 false) (.seq (.cond (.tmp 6) .skip (.exit 0)) (.seq (.block 1 (.seq (.region 4 rlby_4 false) (.region 5 rlby_5 false))) (.region 6 rlby_6 false)))) := rfl
noncomputable def rlby_7 : Array Oper := match Tryd.f11.body with
  | some (.seq _ (.seq _ (.seq _ (.seq (.region _ o _) _)))) => o
  | _ => #[]
theorem bodylby : Tryd.f11.body = some (.seq (.region 0 rlby_0 false) (.seq (.region 1 rlby_1 false) (.seq (.seq (.region 2 rlby_2 false) (.block 0 (.loop lplby_0))) (.seq (.region 7 rlby_7 false) .ret)))) := rfl
-- ntmps 22
noncomputable def rlgd_0 : Array Oper := match Tryd.f12.body with
  | some (.seq (.region _ o _) _) => o
  | _ => #[]
noncomputable def rlgd_1 : Array Oper := match Tryd.f12.body with
  | some (.seq _ (.seq (.region _ o _) _)) => o
  | _ => #[]
noncomputable def lplgd_0 : Code := match Tryd.f12.body with
  | some (.seq _ (.seq _ (.block _ (.loop c)))) => c
  | _ => .skip
noncomputable def rlgd_2 : Array Oper := match Tryd.f12.body with
  | some (.seq _ (.seq _ (.block _ (.loop (.block _ (.seq (.region _ o _) _)))))) => o
  | _ => #[]
noncomputable def rlgd_3 : Array Oper := match Tryd.f12.body with
  | some (.seq _ (.seq _ (.block _ (.loop (.block _ (.seq _ (.seq (.region _ o _) _))))))) => o
  | _ => #[]
noncomputable def rlgd_4 : Array Oper := match Tryd.f12.body with
  | some (.seq _ (.seq _ (.block _ (.loop (.block _ (.seq _ (.seq _ (.seq (.seq (.region _ o _) _) _)))))))) => o
  | _ => #[]
noncomputable def rlgd_5 : Array Oper := match Tryd.f12.body with
  | some (.seq _ (.seq _ (.block _ (.loop (.block _ (.seq _ (.seq _ (.seq (.seq _ (.cond _ (.seq (.region _ o _) _) _)) _)))))))) => o
  | _ => #[]
noncomputable def rlgd_6 : Array Oper := match Tryd.f12.body with
  | some (.seq _ (.seq _ (.block _ (.loop (.block _ (.seq _ (.seq _ (.seq _ (.seq (.region _ o _) _))))))))) => o
  | _ => #[]
noncomputable def rlgd_7 : Array Oper := match Tryd.f12.body with
  | some (.seq _ (.seq _ (.block _ (.loop (.block _ (.seq _ (.seq _ (.seq _ (.seq _ (.region _ o _)))))))))) => o
  | _ => #[]
theorem lplgd_0_eq : lplgd_0 = (.block 1 (.seq (.region 2 rlgd_2 false) (.seq (.region 3 rlgd_3 false) (.seq (.seq (.region 4 rlgd_4 false) (.cond (.tmp 16) (.seq (.region 5 rlgd_5 false) .ret) .skip)) (.seq (.region 6 rlgd_6 false) (.region 7 rlgd_7 false)))))) := rfl
theorem bodylgd : Tryd.f12.body = some (.seq (.region 0 rlgd_0 false) (.seq (.region 1 rlgd_1 false) (.block 0 (.loop lplgd_0)))) := rfl
-- ntmps 29
noncomputable def rrby_0 : Array Oper := match Tryd.f13.body with
  | some (.seq (.region _ o _) _) => o
  | _ => #[]
noncomputable def rrby_1 : Array Oper := match Tryd.f13.body with
  | some (.seq _ (.seq (.region _ o _) _)) => o
  | _ => #[]
noncomputable def rrby_2 : Array Oper := match Tryd.f13.body with
  | some (.seq _ (.seq _ (.seq (.seq (.region _ o _) _) _))) => o
  | _ => #[]
noncomputable def lprby_0 : Code := match Tryd.f13.body with
  | some (.seq _ (.seq _ (.seq (.seq _ (.block _ (.loop c))) _))) => c
  | _ => .skip
noncomputable def rrby_3 : Array Oper := match Tryd.f13.body with
  | some (.seq _ (.seq _ (.seq (.seq _ (.block _ (.loop (.seq (.seq (.region _ o _) _) _)))) _))) => o
  | _ => #[]
theorem grby_3_3 {T : List Value} {dd : Option Tmp} {op : Op} {ty : TypeId} {pos : String} {af : Array Edge} {want : Bool} : agd rrby_3 T { dst := dd, op := op, type := ty, pos := pos, after := af, guard := some (3, want) } = gdAt T 12 want := agd_at (by kernel_rfl)
noncomputable def rrby_5 : Array Oper := match Tryd.f13.body with
  | some (.seq _ (.seq _ (.seq (.seq _ (.block _ (.loop (.seq _ (.seq (.block _ (.region _ o _)) _))))) _))) => o
  | _ => #[]
noncomputable def rrby_4 : Array Oper := match Tryd.f13.body with
  | some (.seq _ (.seq _ (.seq (.seq _ (.block _ (.loop (.seq _ (.seq _ (.region _ o _)))))) _))) => o
  | _ => #[]
theorem lprby_0_eq : lprby_0 = (.seq (.seq (.region 3 rrby_3 false) (.cond (.tmp 17) .skip (.exit 0))) (.seq (.block 1 (.region 5 rrby_5 false)) (.region 4 rrby_4 false))) := rfl
noncomputable def rrby_6 : Array Oper := match Tryd.f13.body with
  | some (.seq _ (.seq _ (.seq _ (.seq (.region _ o _) _)))) => o
  | _ => #[]
theorem bodyrby : Tryd.f13.body = some (.seq (.region 0 rrby_0 false) (.seq (.region 1 rrby_1 false) (.seq (.seq (.region 2 rrby_2 false) (.block 0 (.loop lprby_0))) (.seq (.region 6 rrby_6 false) .ret)))) := rfl
-- ntmps 30
noncomputable def rfmu_0 : Array Oper := match Tryd.f23.body with
  | some (.seq (.region _ o _) _) => o
  | _ => #[]
noncomputable def rfmu_1 : Array Oper := match Tryd.f23.body with
  | some (.seq _ (.seq (.region _ o _) _)) => o
  | _ => #[]
theorem bodyfmu : Tryd.f23.body = some (.seq (.region 0 rfmu_0 false) (.seq (.region 1 rfmu_1 false) .ret)) := rfl
-- ntmps 8
noncomputable def rifu_0 : Array Oper := match Tryd.f29.body with
  | some (.seq (.region _ o _) _) => o
  | _ => #[]
noncomputable def rifu_1 : Array Oper := match Tryd.f29.body with
  | some (.seq _ (.seq (.seq (.region _ o _) _) _)) => o
  | _ => #[]
noncomputable def rifu_2 : Array Oper := match Tryd.f29.body with
  | some (.seq _ (.seq (.seq _ (.cond _ (.seq (.seq (.region _ o _) _) _) _)) _)) => o
  | _ => #[]
noncomputable def rifu_3 : Array Oper := match Tryd.f29.body with
  | some (.seq _ (.seq (.seq _ (.cond _ (.seq (.seq _ (.cond _ (.seq (.region _ o _) _) _)) _) _)) _)) => o
  | _ => #[]
noncomputable def rifu_4 : Array Oper := match Tryd.f29.body with
  | some (.seq _ (.seq (.seq _ (.cond _ (.seq _ (.seq (.region _ o _) _)) _)) _)) => o
  | _ => #[]
noncomputable def rifu_5 : Array Oper := match Tryd.f29.body with
  | some (.seq _ (.seq (.seq _ (.cond _ (.seq _ (.seq _ (.seq (.region _ o _) _))) _)) _)) => o
  | _ => #[]
noncomputable def rifu_6 : Array Oper := match Tryd.f29.body with
  | some (.seq _ (.seq (.seq _ (.cond _ (.seq _ (.seq _ (.seq _ (.seq (.region _ o _) _)))) _)) _)) => o
  | _ => #[]
noncomputable def rifu_7 : Array Oper := match Tryd.f29.body with
  | some (.seq _ (.seq (.seq _ (.cond _ (.seq _ (.seq _ (.seq _ (.seq _ (.seq (.region _ o _) _))))) _)) _)) => o
  | _ => #[]
noncomputable def rifu_8 : Array Oper := match Tryd.f29.body with
  | some (.seq _ (.seq _ (.seq (.region _ o _) _))) => o
  | _ => #[]
noncomputable def rifu_9 : Array Oper := match Tryd.f29.body with
  | some (.seq _ (.seq _ (.seq _ (.seq (.region _ o _) _)))) => o
  | _ => #[]
theorem bodyifu : Tryd.f29.body = some (.seq (.region 0 rifu_0 false) (.seq (.seq (.region 1 rifu_1 false) (.cond (.tmp 10) (.seq (.seq (.region 2 rifu_2 false) (.cond (.tmp 12) (.seq (.region 3 rifu_3 false) .ret) .skip)) (.seq (.region 4 rifu_4 false) (.seq (.region 5 rifu_5 false) (.seq (.region 6 rifu_6 false) (.seq (.region 7 rifu_7 false) .ret))))) .skip)) (.seq (.region 8 rifu_8 false) (.seq (.region 9 rifu_9 false) .ret)))) := rfl
-- ntmps 32
noncomputable def rsml_0 : Array Oper := match Tryd.f39.body with
  | some (.seq (.region _ o _) _) => o
  | _ => #[]
noncomputable def rsml_1 : Array Oper := match Tryd.f39.body with
  | some (.seq _ (.seq (.seq (.region _ o _) _) _)) => o
  | _ => #[]
noncomputable def rsml_2 : Array Oper := match Tryd.f39.body with
  | some (.seq _ (.seq (.seq _ (.cond _ (.seq (.region _ o _) _) _)) _)) => o
  | _ => #[]
noncomputable def rsml_3 : Array Oper := match Tryd.f39.body with
  | some (.seq _ (.seq _ (.seq (.region _ o _) _))) => o
  | _ => #[]
theorem bodysml : Tryd.f39.body = some (.seq (.region 0 rsml_0 false) (.seq (.seq (.region 1 rsml_1 false) (.cond (.tmp 4) (.seq (.region 2 rsml_2 false) .ret) .skip)) (.seq (.region 3 rsml_3 false) .ret))) := rfl
-- ntmps 15
noncomputable def rndg_0 : Array Oper := match Tryd.f40.body with
  | some (.seq (.region _ o _) _) => o
  | _ => #[]
noncomputable def rndg_1 : Array Oper := match Tryd.f40.body with
  | some (.seq _ (.seq (.region _ o _) _)) => o
  | _ => #[]
noncomputable def rndg_2 : Array Oper := match Tryd.f40.body with
  | some (.seq _ (.seq _ (.seq (.region _ o _) _))) => o
  | _ => #[]
theorem bodyndg : Tryd.f40.body = some (.seq (.region 0 rndg_0 false) (.seq (.region 1 rndg_1 false) (.seq (.region 2 rndg_2 false) .ret))) := rfl
-- ntmps 15
noncomputable def rlgp_0 : Array Oper := match Tryd.f47.body with
  | some (.seq (.region _ o _) _) => o
  | _ => #[]
noncomputable def rlgp_1 : Array Oper := match Tryd.f47.body with
  | some (.seq _ (.seq (.region _ o _) _)) => o
  | _ => #[]
theorem bodylgp : Tryd.f47.body = some (.seq (.region 0 rlgp_0 false) (.seq (.region 1 rlgp_1 false) .ret)) := rfl
-- ntmps 6
-- ntmps 4
noncomputable def rfbt_0 : Array Oper := match Tryd.f41.body with
  | some (.seq (.region _ o _) _) => o
  | _ => #[]
noncomputable def lpfbt_0 : Code := match Tryd.f41.body with
  | some (.seq _ (.seq (.block _ (.loop c)) _)) => c
  | _ => .skip
noncomputable def rfbt_1 : Array Oper := match Tryd.f41.body with
  | some (.seq _ (.seq (.block _ (.loop (.seq (.seq (.region _ o _) _) _))) _)) => o
  | _ => #[]
noncomputable def rfbt_2 : Array Oper := match Tryd.f41.body with
  | some (.seq _ (.seq (.block _ (.loop (.seq _ (.block _ (.seq (.region _ o _) _))))) _)) => o
  | _ => #[]
noncomputable def rfbt_3 : Array Oper := match Tryd.f41.body with
  | some (.seq _ (.seq (.block _ (.loop (.seq _ (.block _ (.seq _ (.seq (.region _ o _) _)))))) _)) => o
  | _ => #[]
noncomputable def rfbt_4 : Array Oper := match Tryd.f41.body with
  | some (.seq _ (.seq (.block _ (.loop (.seq _ (.block _ (.seq _ (.seq _ (.seq (.region _ o _) _))))))) _)) => o
  | _ => #[]
noncomputable def rfbt_5 : Array Oper := match Tryd.f41.body with
  | some (.seq _ (.seq (.block _ (.loop (.seq _ (.block _ (.seq _ (.seq _ (.seq _ (.seq (.region _ o _) _)))))))) _)) => o
  | _ => #[]
noncomputable def rfbt_6 : Array Oper := match Tryd.f41.body with
  | some (.seq _ (.seq (.block _ (.loop (.seq _ (.block _ (.seq _ (.seq _ (.seq _ (.seq _ (.seq (.region _ o _) _))))))))) _)) => o
  | _ => #[]
noncomputable def rfbt_7 : Array Oper := match Tryd.f41.body with
  | some (.seq _ (.seq (.block _ (.loop (.seq _ (.block _ (.seq _ (.seq _ (.seq _ (.seq _ (.seq _ (.seq (.region _ o _) _)))))))))) _)) => o
  | _ => #[]
theorem dfbt_7 {self : Self} {B : Nat} {T : List Value} {m : Mem} {lb : List (Nat × Nat)} {ls : Bool} : adrawN E self rfbt_7 B rfbt_7.toList 0 T m lb ls = adrawT E self rfbt_7 B rfbt_7.toList [(false, false), (false, false), (false, false), (false, false), (false, false), (false, false), (false, false), (false, false), (false, false), (false, false), (false, false), (false, false), (false, false), (false, false), (false, false)] 0 T m lb ls := adraw_tab (by kernel_rfl)
theorem sfbt_7 : E.sr 7 rfbt_7 = false := by kernel_rfl
noncomputable def rfbt_8 : Array Oper := match Tryd.f41.body with
  | some (.seq _ (.seq (.block _ (.loop (.seq _ (.block _ (.seq _ (.seq _ (.seq _ (.seq _ (.seq _ (.seq _ (.seq (.region _ o _) _))))))))))) _)) => o
  | _ => #[]
theorem dfbt_8 {self : Self} {B : Nat} {T : List Value} {m : Mem} {lb : List (Nat × Nat)} {ls : Bool} : adrawN E self rfbt_8 B rfbt_8.toList 0 T m lb ls = adrawT E self rfbt_8 B rfbt_8.toList [(false, false), (false, false), (false, false), (false, false), (false, false), (false, false), (false, false), (false, false), (false, false), (false, false), (false, false), (false, false), (false, false), (false, false), (false, false)] 0 T m lb ls := adraw_tab (by kernel_rfl)
theorem sfbt_8 : E.sr 8 rfbt_8 = false := by kernel_rfl
noncomputable def rfbt_9 : Array Oper := match Tryd.f41.body with
  | some (.seq _ (.seq (.block _ (.loop (.seq _ (.block _ (.seq _ (.seq _ (.seq _ (.seq _ (.seq _ (.seq _ (.seq _ (.seq (.region _ o _) _)))))))))))) _)) => o
  | _ => #[]
theorem dfbt_9 {self : Self} {B : Nat} {T : List Value} {m : Mem} {lb : List (Nat × Nat)} {ls : Bool} : adrawN E self rfbt_9 B rfbt_9.toList 0 T m lb ls = adrawT E self rfbt_9 B rfbt_9.toList [(false, false), (false, false), (false, false), (false, false), (false, false), (false, false), (false, false), (false, false), (false, false), (false, false), (false, false), (false, false), (false, false), (false, false), (false, false)] 0 T m lb ls := adraw_tab (by kernel_rfl)
theorem sfbt_9 : E.sr 9 rfbt_9 = false := by kernel_rfl
noncomputable def rfbt_10 : Array Oper := match Tryd.f41.body with
  | some (.seq _ (.seq (.block _ (.loop (.seq _ (.block _ (.seq _ (.seq _ (.seq _ (.seq _ (.seq _ (.seq _ (.seq _ (.seq _ (.seq (.region _ o _) _))))))))))))) _)) => o
  | _ => #[]
theorem dfbt_10 {self : Self} {B : Nat} {T : List Value} {m : Mem} {lb : List (Nat × Nat)} {ls : Bool} : adrawN E self rfbt_10 B rfbt_10.toList 0 T m lb ls = adrawT E self rfbt_10 B rfbt_10.toList [(false, false), (false, false), (false, false), (false, false), (false, false), (false, false), (false, false), (false, false), (false, false), (false, false), (false, false), (false, false), (false, false), (false, false), (false, false)] 0 T m lb ls := adraw_tab (by kernel_rfl)
theorem sfbt_10 : E.sr 10 rfbt_10 = false := by kernel_rfl
noncomputable def rfbt_11 : Array Oper := match Tryd.f41.body with
  | some (.seq _ (.seq (.block _ (.loop (.seq _ (.block _ (.seq _ (.seq _ (.seq _ (.seq _ (.seq _ (.seq _ (.seq _ (.seq _ (.seq _ (.region _ o _)))))))))))))) _)) => o
  | _ => #[]
theorem lpfbt_0_eq : lpfbt_0 = (.seq (.seq (.region 1 rfbt_1 false) (.cond (.tmp 20) .skip (.exit 0))) (.block 1 (.seq (.region 2 rfbt_2 false) (.seq (.region 3 rfbt_3 false) (.seq (.region 4 rfbt_4 false) (.seq (.region 5 rfbt_5 false) (.seq (.region 6 rfbt_6 false) (.seq (.region 7 rfbt_7 true) (.seq (.region 8 rfbt_8 true) (.seq (.region 9 rfbt_9 true) (.seq (.region 10 rfbt_10 true) (.region 11 rfbt_11 false)))))))))))) := rfl
noncomputable def rfbt_12 : Array Oper := match Tryd.f41.body with
  | some (.seq _ (.seq _ (.seq (.region _ o _) _))) => o
  | _ => #[]
noncomputable def rfbt_13 : Array Oper := match Tryd.f41.body with
  | some (.seq _ (.seq _ (.seq _ (.seq (.seq (.region _ o _) _) _)))) => o
  | _ => #[]
noncomputable def rfbt_14 : Array Oper := match Tryd.f41.body with
  | some (.seq _ (.seq _ (.seq _ (.seq (.seq _ (.cond _ (.seq (.region _ o _) _) _)) _)))) => o
  | _ => #[]
noncomputable def rfbt_15 : Array Oper := match Tryd.f41.body with
  | some (.seq _ (.seq _ (.seq _ (.seq (.seq _ (.cond _ (.seq _ (.seq (.region _ o _) _)) _)) _)))) => o
  | _ => #[]
noncomputable def rfbt_16 : Array Oper := match Tryd.f41.body with
  | some (.seq _ (.seq _ (.seq _ (.seq (.seq _ (.cond _ (.seq _ (.seq _ (.seq (.region _ o _) _))) _)) _)))) => o
  | _ => #[]
noncomputable def rfbt_17 : Array Oper := match Tryd.f41.body with
  | some (.seq _ (.seq _ (.seq _ (.seq (.seq _ (.cond _ (.seq _ (.seq _ (.seq _ (.seq (.region _ o _) _)))) _)) _)))) => o
  | _ => #[]
theorem dfbt_17 {self : Self} {B : Nat} {T : List Value} {m : Mem} {lb : List (Nat × Nat)} {ls : Bool} : adrawN E self rfbt_17 B rfbt_17.toList 0 T m lb ls = adrawT E self rfbt_17 B rfbt_17.toList [(false, false), (false, false), (false, false), (false, false), (false, false), (false, false), (false, false), (false, false), (false, false), (false, false), (false, false), (false, false), (false, false), (false, false), (false, false)] 0 T m lb ls := adraw_tab (by kernel_rfl)
theorem sfbt_17 : E.sr 17 rfbt_17 = false := by kernel_rfl
noncomputable def rfbt_18 : Array Oper := match Tryd.f41.body with
  | some (.seq _ (.seq _ (.seq _ (.seq (.seq _ (.cond _ (.seq _ (.seq _ (.seq _ (.seq _ (.seq (.region _ o _) _))))) _)) _)))) => o
  | _ => #[]
theorem dfbt_18 {self : Self} {B : Nat} {T : List Value} {m : Mem} {lb : List (Nat × Nat)} {ls : Bool} : adrawN E self rfbt_18 B rfbt_18.toList 0 T m lb ls = adrawT E self rfbt_18 B rfbt_18.toList [(false, false), (false, false), (false, false), (false, false), (false, false), (false, false), (false, false), (false, false), (false, false), (false, false), (false, false), (false, false), (false, false), (false, false), (false, false)] 0 T m lb ls := adraw_tab (by kernel_rfl)
theorem sfbt_18 : E.sr 18 rfbt_18 = false := by kernel_rfl
noncomputable def rfbt_19 : Array Oper := match Tryd.f41.body with
  | some (.seq _ (.seq _ (.seq _ (.seq (.seq _ (.cond _ (.seq _ (.seq _ (.seq _ (.seq _ (.seq _ (.region _ o _)))))) _)) _)))) => o
  | _ => #[]
noncomputable def rfbt_20 : Array Oper := match Tryd.f41.body with
  | some (.seq _ (.seq _ (.seq _ (.seq _ (.seq (.seq (.region _ o _) _) _))))) => o
  | _ => #[]
noncomputable def rfbt_21 : Array Oper := match Tryd.f41.body with
  | some (.seq _ (.seq _ (.seq _ (.seq _ (.seq (.seq _ (.cond _ (.seq (.region _ o _) _) _)) _))))) => o
  | _ => #[]
noncomputable def rfbt_22 : Array Oper := match Tryd.f41.body with
  | some (.seq _ (.seq _ (.seq _ (.seq _ (.seq (.seq _ (.cond _ (.seq _ (.seq (.region _ o _) _)) _)) _))))) => o
  | _ => #[]
noncomputable def rfbt_23 : Array Oper := match Tryd.f41.body with
  | some (.seq _ (.seq _ (.seq _ (.seq _ (.seq (.seq _ (.cond _ (.seq _ (.seq _ (.seq (.region _ o _) _))) _)) _))))) => o
  | _ => #[]
theorem dfbt_23 {self : Self} {B : Nat} {T : List Value} {m : Mem} {lb : List (Nat × Nat)} {ls : Bool} : adrawN E self rfbt_23 B rfbt_23.toList 0 T m lb ls = adrawT E self rfbt_23 B rfbt_23.toList [(false, false), (false, false), (false, false), (false, false), (false, false), (false, false), (false, false), (false, false), (false, false), (false, false), (false, false), (false, false), (false, false), (false, false), (false, false)] 0 T m lb ls := adraw_tab (by kernel_rfl)
theorem sfbt_23 : E.sr 23 rfbt_23 = false := by kernel_rfl
noncomputable def rfbt_24 : Array Oper := match Tryd.f41.body with
  | some (.seq _ (.seq _ (.seq _ (.seq _ (.seq (.seq _ (.cond _ (.seq _ (.seq _ (.seq _ (.region _ o _)))) _)) _))))) => o
  | _ => #[]
noncomputable def rfbt_25 : Array Oper := match Tryd.f41.body with
  | some (.seq _ (.seq _ (.seq _ (.seq _ (.seq _ (.seq (.region _ o _) _)))))) => o
  | _ => #[]
noncomputable def rfbt_26 : Array Oper := match Tryd.f41.body with
  | some (.seq _ (.seq _ (.seq _ (.seq _ (.seq _ (.seq _ (.cond _ (.region _ o _) _))))))) => o
  | _ => #[]
theorem bodyfbt : Tryd.f41.body = some (.seq (.region 0 rfbt_0 false) (.seq (.block 0 (.loop lpfbt_0)) (.seq (.region 12 rfbt_12 false) (.seq (.seq (.region 13 rfbt_13 false) (.cond (.tmp 99) (.seq (.region 14 rfbt_14 false) (.seq (.region 15 rfbt_15 false) (.seq (.region 16 rfbt_16 false) (.seq (.region 17 rfbt_17 true) (.seq (.region 18 rfbt_18 true) (.region 19 rfbt_19 false)))))) .skip)) (.seq (.seq (.region 20 rfbt_20 false) (.cond (.tmp 139) (.seq (.region 21 rfbt_21 false) (.seq (.region 22 rfbt_22 false) (.seq (.region 23 rfbt_23 true) (.region 24 rfbt_24 false)))) .skip)) (.seq (.region 25 rfbt_25 false) (.cond (.tmp 161) (.region 26 rfbt_26 false) .skip))))))) := rfl
-- ntmps 167
noncomputable def rllt_0 : Array Oper := match Tryd.f3.body with
  | some (.seq (.region _ o _) _) => o
  | _ => #[]
noncomputable def rllt_1 : Array Oper := match Tryd.f3.body with
  | some (.seq _ (.seq (.seq (.region _ o _) _) _)) => o
  | _ => #[]
noncomputable def rllt_2 : Array Oper := match Tryd.f3.body with
  | some (.seq _ (.seq (.seq _ (.cond _ (.seq (.region _ o _) _) _)) _)) => o
  | _ => #[]
noncomputable def rllt_3 : Array Oper := match Tryd.f3.body with
  | some (.seq _ (.seq _ (.seq (.seq (.region _ o _) _) _))) => o
  | _ => #[]
noncomputable def rllt_4 : Array Oper := match Tryd.f3.body with
  | some (.seq _ (.seq _ (.seq (.seq _ (.cond _ (.seq (.region _ o _) _) _)) _))) => o
  | _ => #[]
noncomputable def rllt_5 : Array Oper := match Tryd.f3.body with
  | some (.seq _ (.seq _ (.seq _ (.seq (.region _ o _) _)))) => o
  | _ => #[]
noncomputable def rllt_6 : Array Oper := match Tryd.f3.body with
  | some (.seq _ (.seq _ (.seq _ (.seq _ (.seq (.seq (.region _ o _) _) _))))) => o
  | _ => #[]
noncomputable def rllt_7 : Array Oper := match Tryd.f3.body with
  | some (.seq _ (.seq _ (.seq _ (.seq _ (.seq (.seq _ (.cond _ (.seq (.region _ o _) _) _)) _))))) => o
  | _ => #[]
theorem gllt_7_2 {T : List Value} {dd : Option Tmp} {op : Op} {ty : TypeId} {pos : String} {af : Array Edge} {want : Bool} : agd rllt_7 T { dst := dd, op := op, type := ty, pos := pos, after := af, guard := some (2, want) } = gdAt T 31 want := agd_at (by kernel_rfl)
noncomputable def rllt_8 : Array Oper := match Tryd.f3.body with
  | some (.seq _ (.seq _ (.seq _ (.seq _ (.seq (.seq _ (.cond _ (.seq _ (.cond _ (.seq (.region _ o _) _) _)) _)) _))))) => o
  | _ => #[]
noncomputable def rllt_9 : Array Oper := match Tryd.f3.body with
  | some (.seq _ (.seq _ (.seq _ (.seq _ (.seq (.seq _ (.cond _ _ (.seq (.region _ o _) _))) _))))) => o
  | _ => #[]
theorem gllt_9_2 {T : List Value} {dd : Option Tmp} {op : Op} {ty : TypeId} {pos : String} {af : Array Edge} {want : Bool} : agd rllt_9 T { dst := dd, op := op, type := ty, pos := pos, after := af, guard := some (2, want) } = gdAt T 38 want := agd_at (by kernel_rfl)
noncomputable def rllt_10 : Array Oper := match Tryd.f3.body with
  | some (.seq _ (.seq _ (.seq _ (.seq _ (.seq (.seq _ (.cond _ _ (.seq _ (.cond _ (.seq (.region _ o _) _) _)))) _))))) => o
  | _ => #[]
noncomputable def rllt_11 : Array Oper := match Tryd.f3.body with
  | some (.seq _ (.seq _ (.seq _ (.seq _ (.seq _ (.seq (.region _ o _) _)))))) => o
  | _ => #[]
noncomputable def rllt_12 : Array Oper := match Tryd.f3.body with
  | some (.seq _ (.seq _ (.seq _ (.seq _ (.seq _ (.seq _ (.seq (.region _ o _) _))))))) => o
  | _ => #[]
noncomputable def rllt_15 : Array Oper := match Tryd.f3.body with
  | some (.seq _ (.seq _ (.seq _ (.seq _ (.seq _ (.seq _ (.seq _ (.seq (.block _ (.seq (.region _ o _) _)) _)))))))) => o
  | _ => #[]
noncomputable def rllt_16 : Array Oper := match Tryd.f3.body with
  | some (.seq _ (.seq _ (.seq _ (.seq _ (.seq _ (.seq _ (.seq _ (.seq (.block _ (.seq _ (.cond _ (.seq (.region _ o _) _) _))) _)))))))) => o
  | _ => #[]
noncomputable def rllt_17 : Array Oper := match Tryd.f3.body with
  | some (.seq _ (.seq _ (.seq _ (.seq _ (.seq _ (.seq _ (.seq _ (.seq (.block _ (.seq _ (.cond _ (.seq _ (.cond _ (.seq (.region _ o _) _) _)) _))) _)))))))) => o
  | _ => #[]
noncomputable def rllt_18 : Array Oper := match Tryd.f3.body with
  | some (.seq _ (.seq _ (.seq _ (.seq _ (.seq _ (.seq _ (.seq _ (.seq (.block _ (.seq _ (.cond _ _ (.seq (.region _ o _) _)))) _)))))))) => o
  | _ => #[]
noncomputable def rllt_19 : Array Oper := match Tryd.f3.body with
  | some (.seq _ (.seq _ (.seq _ (.seq _ (.seq _ (.seq _ (.seq _ (.seq (.block _ (.seq _ (.cond _ _ (.seq _ (.cond _ (.seq (.region _ o _) _) _))))) _)))))))) => o
  | _ => #[]
noncomputable def rllt_20 : Array Oper := match Tryd.f3.body with
  | some (.seq _ (.seq _ (.seq _ (.seq _ (.seq _ (.seq _ (.seq _ (.seq (.block _ (.seq _ (.cond _ _ (.seq _ (.cond _ (.seq _ (.cond _ (.seq (.region _ o _) _) _)) _))))) _)))))))) => o
  | _ => #[]
noncomputable def rllt_13 : Array Oper := match Tryd.f3.body with
  | some (.seq _ (.seq _ (.seq _ (.seq _ (.seq _ (.seq _ (.seq _ (.seq (.block _ (.seq _ (.cond _ _ (.seq _ (.cond _ _ (.seq (.region _ o _) _)))))) _)))))))) => o
  | _ => #[]
theorem gllt_13_2 {T : List Value} {dd : Option Tmp} {op : Op} {ty : TypeId} {pos : String} {af : Array Edge} {want : Bool} : agd rllt_13 T { dst := dd, op := op, type := ty, pos := pos, after := af, guard := some (2, want) } = gdAt T 58 want := agd_at (by kernel_rfl)
noncomputable def rllt_14 : Array Oper := match Tryd.f3.body with
  | some (.seq _ (.seq _ (.seq _ (.seq _ (.seq _ (.seq _ (.seq _ (.seq (.block _ (.seq _ (.cond _ _ (.seq _ (.cond _ _ (.seq _ (.cond _ (.seq (.region _ o _) _) _))))))) _)))))))) => o
  | _ => #[]
noncomputable def rllt_21 : Array Oper := match Tryd.f3.body with
  | some (.seq _ (.seq _ (.seq _ (.seq _ (.seq _ (.seq _ (.seq _ (.seq _ (.seq (.region _ o _) _))))))))) => o
  | _ => #[]
noncomputable def rllt_22 : Array Oper := match Tryd.f3.body with
  | some (.seq _ (.seq _ (.seq _ (.seq _ (.seq _ (.seq _ (.seq _ (.seq _ (.seq _ (.seq (.region _ o _) _)))))))))) => o
  | _ => #[]
noncomputable def rllt_23 : Array Oper := match Tryd.f3.body with
  | some (.seq _ (.seq _ (.seq _ (.seq _ (.seq _ (.seq _ (.seq _ (.seq _ (.seq _ (.seq _ (.seq (.region _ o _) _))))))))))) => o
  | _ => #[]
theorem gllt_23_6 {T : List Value} {dd : Option Tmp} {op : Op} {ty : TypeId} {pos : String} {af : Array Edge} {want : Bool} : agd rllt_23 T { dst := dd, op := op, type := ty, pos := pos, after := af, guard := some (6, want) } = gdAt T 94 want := agd_at (by kernel_rfl)
theorem gllt_23_10 {T : List Value} {dd : Option Tmp} {op : Op} {ty : TypeId} {pos : String} {af : Array Edge} {want : Bool} : agd rllt_23 T { dst := dd, op := op, type := ty, pos := pos, after := af, guard := some (10, want) } = gdAt T 98 want := agd_at (by kernel_rfl)
theorem gllt_23_15 {T : List Value} {dd : Option Tmp} {op : Op} {ty : TypeId} {pos : String} {af : Array Edge} {want : Bool} : agd rllt_23 T { dst := dd, op := op, type := ty, pos := pos, after := af, guard := some (15, want) } = gdAt T 103 want := agd_at (by kernel_rfl)
theorem gllt_23_19 {T : List Value} {dd : Option Tmp} {op : Op} {ty : TypeId} {pos : String} {af : Array Edge} {want : Bool} : agd rllt_23 T { dst := dd, op := op, type := ty, pos := pos, after := af, guard := some (19, want) } = gdAt T 107 want := agd_at (by kernel_rfl)
theorem gllt_23_24 {T : List Value} {dd : Option Tmp} {op : Op} {ty : TypeId} {pos : String} {af : Array Edge} {want : Bool} : agd rllt_23 T { dst := dd, op := op, type := ty, pos := pos, after := af, guard := some (24, want) } = gdAt T 112 want := agd_at (by kernel_rfl)
theorem dllt_23 {self : Self} {B : Nat} {T : List Value} {m : Mem} {lb : List (Nat × Nat)} {ls : Bool} : adrawN E self rllt_23 B rllt_23.toList 0 T m lb ls = adrawT E self rllt_23 B rllt_23.toList [(false, false), (false, false), (false, false), (false, false), (false, false), (false, false), (false, false), (false, false), (false, false), (false, false), (false, false), (false, false), (false, false), (false, false), (false, false), (false, false), (false, false), (false, false), (false, false), (false, false), (false, false), (false, false), (false, false), (false, false), (false, false), (false, false), (false, false), (false, false), (false, false), (false, false), (false, false), (false, false)] 0 T m lb ls := adraw_tab (by kernel_rfl)
theorem sllt_23 : E.sr 23 rllt_23 = false := by kernel_rfl
theorem bodyllt : Tryd.f3.body = some (.seq (.region 0 rllt_0 false) (.seq (.seq (.region 1 rllt_1 false) (.cond (.tmp 17) (.seq (.region 2 rllt_2 false) .ret) .skip)) (.seq (.seq (.region 3 rllt_3 false) (.cond (.tmp 20) (.seq (.region 4 rllt_4 false) .ret) .skip)) (.seq (.region 5 rllt_5 false) (.seq (.seq (.region 6 rllt_6 false) (.cond (.tmp 28) (.seq (.region 7 rllt_7 false) (.cond (.tmp 35) (.seq (.region 8 rllt_8 false) .ret) .skip)) (.seq (.region 9 rllt_9 false) (.cond (.tmp 45) (.seq (.region 10 rllt_10 false) .ret) .skip)))) (.seq (.region 11 rllt_11 false) (.seq (.region 12 rllt_12 false) (.seq (.block 0 (.seq (.region 15 rllt_15 false) (.cond (.tmp 65) (.seq (.region 16 rllt_16 false) (.cond (.tmp 69) (.seq (.region 17 rllt_17 false) .ret) .skip)) (.seq (.region 18 rllt_18 false) (.cond (.tmp 70) (.seq (.region 19 rllt_19 false) (.cond (.tmp 75) (.seq (.region 20 rllt_20 false) .ret) .skip)) (.seq (.region 13 rllt_13 false) (.cond (.tmp 64) (.seq (.region 14 rllt_14 false) .ret) .skip))))))) (.seq (.region 21 rllt_21 false) (.seq (.region 22 rllt_22 false) (.seq (.region 23 rllt_23 true) .ret))))))))))) := rfl
-- ntmps 119
theorem olpa_0 : rlpa_0.toList = [⟨some 2, .alloc 24, 0, "limb.go:33", #[], none⟩, ⟨some 3, .assign (.const (.int .i64 0)), 26, "limb.go:33", #[], none⟩] := rfl
theorem olpa_1 : rlpa_1.toList = [⟨some 6, .move (.tmp 0), 9, "limb.go:34", #[], none⟩, ⟨some 7, .call { callee := .builtin .len, args := #[.tmp 6], argTypes := #[9] }, 3, "limb.go:34", #[eD 0], none⟩, ⟨some 8, .binOp .gtr 3 (.tmp 7) (.const (.int .i64 64)) 3, 4, "limb.go:34", #[eD 1], none⟩] := rfl
theorem olpa_2 : rlpa_2.toList = [⟨some 9, .build 24 #[], 24, "limb.go:35", #[], none⟩, ⟨none, .store 24 (.tmp 2) (.tmp 9), 0, "limb.go:35", #[eD 0, eP 0], none⟩, ⟨some 3, .assign (.const (.int .i64 5)), 26, "limb.go:35", #[eC 1, eP 0, eP 1], none⟩] := rfl
theorem olpa_3 : rlpa_3.toList = [⟨some 4, .alloc 24, 0, "limb.go:37", #[], none⟩] := rfl
theorem olpa_4 : rlpa_4.toList = [⟨some 10, .move (.tmp 0), 9, "limb.go:38", #[], none⟩, ⟨some 11, .call { callee := .builtin .len, args := #[.tmp 10], argTypes := #[9] }, 3, "limb.go:38", #[eD 0], none⟩, ⟨some 12, .move (.const (.int .i64 0)), 3, "limb.go:38", #[], none⟩] := rfl
theorem olpa_5 : rlpa_5.toList = [⟨some 13, .binOp .lss 3 (.tmp 12) (.tmp 11) 3, 4, "limb.go:38", #[], none⟩] := rfl
theorem olpa_6 : rlpa_6.toList = [⟨some 14, .move (.tmp 12), 3, "limb.go:38", #[], none⟩, ⟨some 5, .assign (.tmp 14), 3, "limb.go:38", #[eD 0, eP 0], none⟩] := rfl
theorem olpa_7 : rlpa_7.toList = [⟨some 15, .move (.tmp 5), 3, "limb.go:39", #[], none⟩, ⟨some 16, .binOp .quo 3 (.tmp 15) (.const (.int .i64 8)) 3, 3, "limb.go:39", #[eD 0], none⟩, ⟨some 17, .indexAddr 24 (.tmp 4) (.tmp 16), 0, "limb.go:39", #[eD 1], none⟩, ⟨some 18, .load 22 (.tmp 17), 22, "limb.go:39", #[eD 2], none⟩, ⟨some 19, .move (.tmp 0), 9, "limb.go:39", #[], none⟩, ⟨some 20, .move (.tmp 5), 3, "limb.go:39", #[], none⟩, ⟨some 21, .index 9 (.tmp 19) (.tmp 20), 5, "limb.go:39", #[eD 4, eD 5], none⟩, ⟨some 22, .convert 5 22 (.tmp 21), 22, "limb.go:39", #[eD 6], none⟩, ⟨some 23, .move (.tmp 5), 3, "limb.go:39", #[], none⟩, ⟨some 24, .binOp .rem 3 (.tmp 23) (.const (.int .i64 8)) 3, 3, "limb.go:39", #[eD 8], none⟩, ⟨some 25, .binOp .mul 3 (.const (.int .i64 8)) (.tmp 24) 3, 3, "limb.go:39", #[eD 9], none⟩, ⟨some 26, .binOp .shl 22 (.tmp 22) (.tmp 25) 3, 22, "limb.go:39", #[eD 7, eD 10], none⟩, ⟨some 27, .binOp .or 22 (.tmp 18) (.tmp 26) 22, 22, "limb.go:39", #[eD 3, eD 11], none⟩, ⟨some 28, .indexAddr 24 (.tmp 4) (.tmp 16), 0, "limb.go:39", #[eD 1, eP 0, eP 1, eP 2, eP 3, eP 4, eP 5, eP 6, eP 7, eP 8, eP 9, eP 10, eP 11, eP 12], none⟩, ⟨none, .store 22 (.tmp 28) (.tmp 27), 0, "limb.go:39", #[eD 13, eD 12, eP 0, eP 1, eP 2, eP 3, eP 4, eP 5, eP 6, eP 7, eP 8, eP 9, eP 10, eP 11, eP 12], none⟩] := rfl
theorem olpa_8 : rlpa_8.toList = [⟨some 29, .binOp .add 3 (.tmp 12) (.const (.int .i64 1)) 3, 3, "limb.go:38", #[], none⟩, ⟨some 12, .move (.tmp 29), 3, "limb.go:38", #[eD 0], none⟩] := rfl
theorem olpa_9 : rlpa_9.toList = [⟨some 30, .load 24 (.tmp 4), 24, "limb.go:41", #[], none⟩, ⟨none, .store 24 (.tmp 2) (.tmp 30), 0, "limb.go:41", #[eD 0, eP 0], none⟩, ⟨some 3, .assign (.const (.int .i64 0)), 26, "limb.go:41", #[eC 1, eP 0, eP 1], none⟩] := rfl
theorem olby_0 : rlby_0.toList = [⟨some 1, .box 24 (.tmp 0), 0, "limb.go:45", #[], none⟩, ⟨some 2, .assign (.const (.string { data := #[] })), 9, "limb.go:45", #[], none⟩] := rfl
theorem olby_1 : rlby_1.toList = [⟨some 3, .alloc 49, 0, "limb.go:46", #[], none⟩] := rfl
theorem olby_2 : rlby_2.toList = [⟨some 5, .move (.const (.int .i64 0)), 3, "limb.go:47", #[], none⟩] := rfl
theorem olby_3 : rlby_3.toList = [⟨some 6, .binOp .lss 3 (.tmp 5) (.const (.int .i64 64)) 3, 4, "limb.go:47", #[], none⟩] := rfl
theorem olby_4 : rlby_4.toList = [⟨some 7, .move (.tmp 5), 3, "limb.go:47", #[], none⟩, ⟨some 4, .assign (.tmp 7), 3, "limb.go:47", #[eD 0, eP 0], none⟩] := rfl
theorem olby_5 : rlby_5.toList = [⟨some 8, .move (.tmp 4), 3, "limb.go:48", #[], none⟩, ⟨some 9, .move (.tmp 4), 3, "limb.go:48", #[], none⟩, ⟨some 10, .binOp .quo 3 (.tmp 9) (.const (.int .i64 8)) 3, 3, "limb.go:48", #[eD 1], none⟩, ⟨some 11, .indexAddr 24 (.tmp 1) (.tmp 10), 0, "limb.go:48", #[eD 2], none⟩, ⟨some 12, .load 22 (.tmp 11), 22, "limb.go:48", #[eD 3], none⟩, ⟨some 13, .move (.tmp 4), 3, "limb.go:48", #[], none⟩, ⟨some 14, .binOp .rem 3 (.tmp 13) (.const (.int .i64 8)) 3, 3, "limb.go:48", #[eD 5], none⟩, ⟨some 15, .binOp .mul 3 (.const (.int .i64 8)) (.tmp 14) 3, 3, "limb.go:48", #[eD 6], none⟩, ⟨some 16, .binOp .shr 22 (.tmp 12) (.tmp 15) 3, 22, "limb.go:48", #[eD 4, eD 7], none⟩, ⟨some 17, .convert 22 5 (.tmp 16), 5, "limb.go:48", #[eD 8], none⟩, ⟨some 18, .indexAddr 49 (.tmp 3) (.tmp 8), 0, "limb.go:48", #[eD 0, eP 0, eP 1, eP 2, eP 3, eP 4, eP 5, eP 6, eP 7, eP 8, eP 9], none⟩, ⟨none, .store 5 (.tmp 18) (.tmp 17), 0, "limb.go:48", #[eD 10, eD 9, eP 0, eP 1, eP 2, eP 3, eP 4, eP 5, eP 6, eP 7, eP 8, eP 9], none⟩] := rfl
theorem olby_6 : rlby_6.toList = [⟨some 19, .binOp .add 3 (.tmp 5) (.const (.int .i64 1)) 3, 3, "limb.go:47", #[], none⟩, ⟨some 5, .move (.tmp 19), 3, "limb.go:47", #[eD 0], none⟩] := rfl
theorem olby_7 : rlby_7.toList = [⟨some 20, .slice 49 (.tmp 3) none none none, 41, "limb.go:50", #[], none⟩, ⟨some 21, .convert 41 9 (.tmp 20), 9, "limb.go:50", #[eD 0], none⟩, ⟨some 2, .assign (.tmp 21), 9, "limb.go:50", #[eD 1, eP 0, eP 1], none⟩] := rfl
theorem olgd_0 : rlgd_0.toList = [⟨some 1, .box 24 (.tmp 0), 0, "limb.go:83", #[], none⟩, ⟨some 2, .assign (.const (.string { data := #[] })), 9, "limb.go:83", #[], none⟩] := rfl
theorem olgd_1 : rlgd_1.toList = [⟨some 3, .assign (.const (.string { data := #[] })), 9, "limb.go:84", #[], none⟩] := rfl
theorem olgd_2 : rlgd_2.toList = [⟨some 8, .load 24 (.tmp 1), 24, "limb.go:86", #[], none⟩, ⟨some 9, .call { callee := .value (.func 22), args := #[.tmp 8, .const (.int .u64 10000000000000000000)], argTypes := #[24, 22] }, 45, "limb.go:86", #[eD 0], none⟩, ⟨some 7, .move (.tmp 9), 45, "limb.go:86", #[eD 1], none⟩, ⟨some 10, .extract (.tmp 7) 0, 24, "limb.go:86", #[eD 2], none⟩, ⟨some 11, .extract (.tmp 7) 1, 22, "limb.go:86", #[eD 2, { on := 6, ground := Ground.gcOnly Departure.lateStores }], none⟩, ⟨some 4, .alloc 24, 0, "limb.go:86", #[], none⟩, ⟨none, .store 24 (.tmp 4) (.tmp 10), 0, "limb.go:86", #[eD 5, eD 3, eC 1, eP 0, eP 1, eP 2, eP 3, { on := 4, ground := Ground.textOnly Departure.lateStores }, eP 5], none⟩, ⟨some 5, .assign (.tmp 11), 22, "limb.go:86", #[eD 4, eC 6, eP 0, eP 1, eP 2, eP 3, eP 4, eP 5, eP 6], none⟩] := rfl
theorem olgd_3 : rlgd_3.toList = [⟨some 12, .move (.tmp 5), 22, "limb.go:87", #[], none⟩, ⟨some 13, .call { callee := .value (.func 23), args := #[.tmp 12, .const (.int .i64 10)], argTypes := #[22, 3] }, 9, "limb.go:87", #[eD 0], none⟩, ⟨some 6, .assign (.tmp 13), 9, "limb.go:87", #[eD 1, eC 1, eP 0, eP 1], none⟩] := rfl
theorem olgd_4 : rlgd_4.toList = [⟨some 14, .load 24 (.tmp 4), 24, "limb.go:88", #[], none⟩, ⟨some 15, .build 24 #[], 24, "limb.go:88", #[], none⟩, ⟨some 16, .binOp .eql 24 (.tmp 14) (.tmp 15) 24, 4, "limb.go:88", #[eD 0, eD 1], none⟩] := rfl
theorem olgd_5 : rlgd_5.toList = [⟨some 17, .move (.tmp 6), 9, "limb.go:89", #[], none⟩, ⟨some 18, .move (.tmp 3), 9, "limb.go:89", #[], none⟩, ⟨some 19, .binOp .add 9 (.tmp 17) (.tmp 18) 9, 9, "limb.go:89", #[eD 0, eD 1], none⟩, ⟨some 2, .assign (.tmp 19), 9, "limb.go:89", #[eD 2, eP 0, eP 1, eP 2], none⟩] := rfl
theorem olgd_6 : rlgd_6.toList = [⟨some 20, .move (.tmp 6), 9, "limb.go:91", #[], none⟩, ⟨some 21, .call { callee := .builtin .len, args := #[.tmp 20], argTypes := #[9] }, 3, "limb.go:91", #[eD 0], none⟩, ⟨some 22, .binOp .sub 3 (.const (.int .i64 19)) (.tmp 21) 3, 3, "limb.go:91", #[eD 1], none⟩, ⟨some 23, .call { callee := .value (.func 24), args := #[.const (.string { data := #[48] }), .tmp 22], argTypes := #[9, 3] }, 9, "limb.go:91", #[eD 2], none⟩, ⟨some 24, .move (.tmp 6), 9, "limb.go:91", #[], none⟩, ⟨some 25, .binOp .add 9 (.tmp 23) (.tmp 24) 9, 9, "limb.go:91", #[eD 3, eD 4], none⟩, ⟨some 26, .move (.tmp 3), 9, "limb.go:91", #[], none⟩, ⟨some 27, .binOp .add 9 (.tmp 25) (.tmp 26) 9, 9, "limb.go:91", #[eD 5, eD 6], none⟩, ⟨some 3, .assign (.tmp 27), 9, "limb.go:91", #[eD 7, eC 3, eP 0, eP 1, eP 2, eP 3, eP 4, eP 5, eP 6, eP 7], none⟩] := rfl
theorem olgd_7 : rlgd_7.toList = [⟨some 28, .load 24 (.tmp 4), 24, "limb.go:92", #[], none⟩, ⟨none, .store 24 (.tmp 1) (.tmp 28), 0, "limb.go:92", #[eD 0, eP 0], none⟩] := rfl
theorem orby_0 : rrby_0.toList = [⟨some 4, .assign (.const (.string { data := #[] })), 9, "ref.go:36", #[], none⟩] := rfl
theorem orby_1 : rrby_1.toList = [⟨some 7, .move (.tmp 1), 3, "ref.go:37", #[], none⟩, ⟨some 8, .makeSlice 41 (.tmp 7) (.tmp 7), 41, "ref.go:37", #[eD 0, eD 0], none⟩, ⟨some 5, .assign (.tmp 8), 41, "ref.go:37", #[eD 1, eP 0, eP 1], none⟩] := rfl
theorem orby_2 : rrby_2.toList = [⟨some 6, .assign (.const (.int .i64 0)), 3, "ref.go:38", #[], none⟩] := rfl
theorem orby_3 : rrby_3.toList = [⟨some 9, .move (.tmp 6), 3, "ref.go:38", #[], none⟩, ⟨some 10, .move (.tmp 1), 3, "ref.go:38", #[], none⟩, ⟨some 11, .binOp .lss 3 (.tmp 9) (.tmp 10) 3, 4, "ref.go:38", #[eD 0, eD 1], none⟩, ⟨some 12, .move (.tmp 11), 4, "ref.go:38", #[eD 2], none⟩, ⟨some 13, .move (.tmp 6), 3, "ref.go:38", #[eGuard 3], some (3, true)⟩, ⟨some 14, .move (.tmp 0), 31, "ref.go:38", #[eGuard 3], some (3, true)⟩, ⟨some 15, .call { callee := .builtin .len, args := #[.tmp 14], argTypes := #[31] }, 3, "ref.go:38", #[eD 5, eGuard 3], some (3, true)⟩, ⟨some 16, .binOp .lss 3 (.tmp 13) (.tmp 15) 3, 4, "ref.go:38", #[eD 4, eD 6, eGuard 3], some (3, true)⟩, ⟨some 17, .pick (.tmp 12) (.tmp 16) (.const (.bool false)), 4, "ref.go:38", #[eD 3, eD 7], none⟩] := rfl
theorem orby_5 : rrby_5.toList = [⟨some 20, .move (.tmp 5), 41, "ref.go:39", #[], none⟩, ⟨some 21, .move (.tmp 6), 3, "ref.go:39", #[], none⟩, ⟨some 22, .move (.tmp 0), 31, "ref.go:39", #[], none⟩, ⟨some 23, .move (.tmp 6), 3, "ref.go:39", #[], none⟩, ⟨some 24, .indexAddr 31 (.tmp 22) (.tmp 23), 0, "ref.go:39", #[eD 2, eD 3], none⟩, ⟨some 25, .load 3 (.tmp 24), 3, "ref.go:39", #[eD 4], none⟩, ⟨some 26, .convert 3 5 (.tmp 25), 5, "ref.go:39", #[eD 5], none⟩, ⟨some 27, .indexAddr 41 (.tmp 20) (.tmp 21), 0, "ref.go:39", #[eD 0, eD 1, eP 0, eP 1, eP 2, eP 3, eP 4, eP 5, eP 6], none⟩, ⟨none, .store 5 (.tmp 27) (.tmp 26), 0, "ref.go:39", #[eD 7, eD 6, eP 0, eP 1, eP 2, eP 3, eP 4, eP 5, eP 6], none⟩] := rfl
theorem orby_4 : rrby_4.toList = [⟨some 18, .move (.tmp 6), 3, "ref.go:38", #[], none⟩, ⟨some 19, .binOp .add 3 (.tmp 18) (.const (.int .i64 1)) 3, 3, "ref.go:38", #[eD 0], none⟩, ⟨some 6, .assign (.tmp 19), 3, "ref.go:38", #[eD 1, eP 0, eP 1], none⟩] := rfl
theorem orby_6 : rrby_6.toList = [⟨some 28, .move (.tmp 5), 41, "ref.go:41", #[], none⟩, ⟨some 29, .convert 41 9 (.tmp 28), 9, "ref.go:41", #[eD 0], none⟩, ⟨some 4, .assign (.tmp 29), 9, "ref.go:41", #[eD 1, eP 0, eP 1], none⟩] := rfl
theorem ofmu_0 : rfmu_0.toList = [⟨some 4, .assign (.const (.string { data := #[] })), 9, "number.go:202", #[], none⟩] := rfl
theorem ofmu_1 : rfmu_1.toList = [⟨some 5, .move (.tmp 0), 22, "number.go:203", #[], none⟩, ⟨some 6, .move (.tmp 1), 3, "number.go:203", #[], none⟩, ⟨some 7, .call { callee := .value (.func 29), args := #[.tmp 5, .tmp 6], argTypes := #[22, 3] }, 9, "number.go:203", #[eD 0, eD 1], none⟩, ⟨some 4, .assign (.tmp 7), 9, "number.go:203", #[eD 2, eC 2, eP 0, eP 1, eP 2], none⟩] := rfl
theorem oifu_0 : rifu_0.toList = [⟨some 4, .assign (.const (.string { data := #[] })), 9, "itoa.go:12", #[], none⟩] := rfl
theorem oifu_1 : rifu_1.toList = [⟨some 9, .move (.tmp 1), 3, "itoa.go:13", #[], none⟩, ⟨some 10, .binOp .eql 3 (.tmp 9) (.const (.int .i64 10)) 3, 4, "itoa.go:13", #[eD 0], none⟩] := rfl
theorem oifu_2 : rifu_2.toList = [⟨some 11, .move (.tmp 0), 22, "itoa.go:14", #[], none⟩, ⟨some 12, .binOp .lss 22 (.tmp 11) (.const (.int .u64 100)) 22, 4, "itoa.go:14", #[eD 0], none⟩] := rfl
theorem oifu_3 : rifu_3.toList = [⟨some 13, .move (.tmp 0), 22, "itoa.go:15", #[], none⟩, ⟨some 14, .convert 22 3 (.tmp 13), 3, "itoa.go:15", #[eD 0], none⟩, ⟨some 15, .call { callee := .value (.func 39), args := #[.tmp 14], argTypes := #[3] }, 9, "itoa.go:15", #[eD 1], none⟩, ⟨some 4, .assign (.tmp 15), 9, "itoa.go:15", #[eD 2, eC 2, eP 0, eP 1, eP 2], none⟩] := rfl
theorem oifu_4 : rifu_4.toList = [⟨some 5, .alloc 70, 0, "itoa.go:17", #[], none⟩] := rfl
theorem oifu_5 : rifu_5.toList = [⟨some 16, .move (.tmp 0), 22, "itoa.go:18", #[], none⟩, ⟨some 17, .call { callee := .value (.func 40), args := #[.tmp 16], argTypes := #[22] }, 3, "itoa.go:18", #[eD 0], none⟩, ⟨some 6, .assign (.tmp 17), 3, "itoa.go:18", #[eD 1, eC 1, eP 0, eP 1], none⟩] := rfl
theorem oifu_6 : rifu_6.toList = [⟨some 18, .move (.tmp 6), 3, "itoa.go:19", #[], none⟩, ⟨some 19, .slice 70 (.tmp 5) none (some (.tmp 18)) none, 41, "itoa.go:19", #[eD 0], none⟩, ⟨some 20, .move (.tmp 0), 22, "itoa.go:19", #[], none⟩, ⟨some 21, .call { callee := .value (.func 41), args := #[.tmp 19, .tmp 20], argTypes := #[41, 22] }, 0, "itoa.go:19", #[eD 1, eD 2], none⟩] := rfl
theorem oifu_7 : rifu_7.toList = [⟨some 22, .move (.tmp 6), 3, "itoa.go:20", #[], none⟩, ⟨some 23, .slice 70 (.tmp 5) none (some (.tmp 22)) none, 41, "itoa.go:20", #[eD 0], none⟩, ⟨some 24, .convert 41 9 (.tmp 23), 9, "itoa.go:20", #[eD 1], none⟩, ⟨some 4, .assign (.tmp 24), 9, "itoa.go:20", #[eD 2, eP 0, eP 1, eP 2], none⟩] := rfl
theorem oifu_8 : rifu_8.toList = [⟨some 26, .move (.tmp 0), 22, "itoa.go:22", #[], none⟩, ⟨some 27, .move (.tmp 1), 3, "itoa.go:22", #[], none⟩, ⟨some 28, .call { callee := .value (.func 42), args := #[.const (.slice none 0 0), .tmp 26, .tmp 27, .const (.bool false), .const (.bool false)], argTypes := #[41, 22, 3, 4, 4] }, 72, "itoa.go:22", #[eD 0, eD 1], none⟩, ⟨some 25, .move (.tmp 28), 72, "itoa.go:22", #[eD 2], none⟩, ⟨some 29, .extract (.tmp 25) 0, 41, "itoa.go:22", #[eD 3], none⟩, ⟨some 30, .extract (.tmp 25) 1, 9, "itoa.go:22", #[eD 3, { on := 6, ground := Ground.gcOnly Departure.lateStores }], none⟩, ⟨some 7, .assign (.tmp 29), 41, "itoa.go:22", #[eD 4, eC 2, eP 0, eP 1, eP 2, eP 3, eP 4, { on := 5, ground := Ground.textOnly Departure.lateStores }], none⟩, ⟨some 8, .assign (.tmp 30), 9, "itoa.go:22", #[eD 5, eC 6, eP 0, eP 1, eP 2, eP 3, eP 4, eP 5, eP 6], none⟩] := rfl
theorem oifu_9 : rifu_9.toList = [⟨some 31, .move (.tmp 8), 9, "itoa.go:23", #[], none⟩, ⟨some 4, .assign (.tmp 31), 9, "itoa.go:23", #[eD 0, eP 0], none⟩] := rfl
theorem osml_0 : rsml_0.toList = [⟨some 2, .assign (.const (.string { data := #[] })), 9, "itoa.go:171", #[], none⟩] := rfl
theorem osml_1 : rsml_1.toList = [⟨some 3, .move (.tmp 0), 3, "itoa.go:172", #[], none⟩, ⟨some 4, .binOp .lss 3 (.tmp 3) (.const (.int .i64 10)) 3, 4, "itoa.go:172", #[eD 0], none⟩] := rfl
theorem osml_2 : rsml_2.toList = [⟨some 5, .move (.tmp 0), 3, "itoa.go:173", #[], none⟩, ⟨some 6, .move (.tmp 0), 3, "itoa.go:173", #[], none⟩, ⟨some 7, .binOp .add 3 (.tmp 6) (.const (.int .i64 1)) 3, 3, "itoa.go:173", #[eD 1], none⟩, ⟨some 8, .slice 9 (.const (.string dgS)) (some (.tmp 5)) (some (.tmp 7)) none, 9, "itoa.go:173", #[eD 0, eD 2], none⟩, ⟨some 2, .assign (.tmp 8), 9, "itoa.go:173", #[eD 3, eP 0, eP 1, eP 2, eP 3], none⟩] := rfl
theorem osml_3 : rsml_3.toList = [⟨some 9, .move (.tmp 0), 3, "itoa.go:175", #[], none⟩, ⟨some 10, .binOp .mul 3 (.tmp 9) (.const (.int .i64 2)) 3, 3, "itoa.go:175", #[eD 0], none⟩, ⟨some 11, .move (.tmp 0), 3, "itoa.go:175", #[], none⟩, ⟨some 12, .binOp .mul 3 (.tmp 11) (.const (.int .i64 2)) 3, 3, "itoa.go:175", #[eD 2], none⟩, ⟨some 13, .binOp .add 3 (.tmp 12) (.const (.int .i64 2)) 3, 3, "itoa.go:175", #[eD 3], none⟩, ⟨some 14, .slice 9 (.const (.string smS)) (some (.tmp 10)) (some (.tmp 13)) none, 9, "itoa.go:175", #[eD 1, eD 4], none⟩, ⟨some 2, .assign (.tmp 14), 9, "itoa.go:175", #[eD 5, eP 0, eP 1, eP 2, eP 3, eP 4, eP 5], none⟩] := rfl
theorem ondg_0 : rndg_0.toList = [⟨some 2, .assign (.const (.int .i64 0)), 3, "uscale.go:287", #[], none⟩] := rfl
theorem ondg_1 : rndg_1.toList = [⟨some 4, .move (.tmp 0), 22, "uscale.go:288", #[], none⟩, ⟨some 5, .call { callee := .value (.func 26), args := #[.tmp 4], argTypes := #[22] }, 3, "uscale.go:288", #[eD 0], none⟩, ⟨some 6, .call { callee := .value (.func 47), args := #[.tmp 5], argTypes := #[3] }, 3, "uscale.go:288", #[eD 1, eC 1], none⟩, ⟨some 3, .assign (.tmp 6), 3, "uscale.go:288", #[eD 2, eC 2, eP 0, eP 1, eP 2], none⟩] := rfl
theorem ondg_2 : rndg_2.toList = [⟨some 7, .move (.tmp 3), 3, "uscale.go:289", #[], none⟩, ⟨some 8, .move (.tmp 0), 22, "uscale.go:289", #[], none⟩, ⟨some 9, .move (.tmp 3), 3, "uscale.go:289", #[], none⟩, ⟨some 10, .indexAddr 80 (Operand.global 2) (.tmp 9), 0, "uscale.go:289", #[eD 2], none⟩, ⟨some 11, .load 22 (.tmp 10), 22, "uscale.go:289", #[eD 3], none⟩, ⟨some 12, .binOp .geq 22 (.tmp 8) (.tmp 11) 22, 4, "uscale.go:289", #[eD 1, eD 4], none⟩, ⟨some 13, .call { callee := .value (.func 48), args := #[.tmp 12], argTypes := #[4] }, 3, "uscale.go:289", #[eD 5], none⟩, ⟨some 14, .binOp .add 3 (.tmp 7) (.tmp 13) 3, 3, "uscale.go:289", #[eD 0, eD 6], none⟩, ⟨some 2, .assign (.tmp 14), 3, "uscale.go:289", #[eD 7, eC 6, eP 0, eP 1, eP 2, eP 3, eP 4, eP 5, eP 6, eP 7], none⟩] := rfl
theorem olgp_0 : rlgp_0.toList = [⟨some 2, .assign (.const (.int .i64 0)), 3, "uscale.go:70", #[], none⟩] := rfl
theorem olgp_1 : rlgp_1.toList = [⟨some 3, .move (.tmp 0), 3, "uscale.go:72", #[], none⟩, ⟨some 4, .binOp .mul 3 (.tmp 3) (.const (.int .i64 78913)) 3, 3, "uscale.go:72", #[eD 0], none⟩, ⟨some 5, .binOp .shr 3 (.tmp 4) (.const (.int .u64 18)) 42, 3, "uscale.go:72", #[eD 1], none⟩, ⟨some 2, .assign (.tmp 5), 3, "uscale.go:72", #[eD 2, eP 0, eP 1, eP 2], none⟩] := rfl
theorem ofbt_0 : rfbt_0.toList = [⟨some 17, .move (.tmp 0), 41, "itoa.go:195", #[], none⟩, ⟨some 18, .call { callee := .builtin .len, args := #[.tmp 17], argTypes := #[41] }, 3, "itoa.go:195", #[eD 0], none⟩, ⟨some 4, .assign (.tmp 18), 3, "itoa.go:195", #[eD 1, eP 0, eP 1], none⟩] := rfl
theorem ofbt_1 : rfbt_1.toList = [⟨some 19, .move (.tmp 4), 3, "itoa.go:196", #[], none⟩, ⟨some 20, .binOp .geq 3 (.tmp 19) (.const (.int .i64 8)) 3, 4, "itoa.go:196", #[eD 0], none⟩] := rfl
theorem ofbt_2 : rfbt_2.toList = [⟨some 21, .move (.tmp 1), 22, "itoa.go:198", #[], none⟩, ⟨some 22, .binOp .rem 22 (.tmp 21) (.const (.int .u64 100000000)) 22, 22, "itoa.go:198", #[eD 0], none⟩, ⟨some 23, .convert 22 74 (.tmp 22), 74, "itoa.go:198", #[eD 1], none⟩, ⟨some 5, .assign (.tmp 23), 74, "itoa.go:198", #[eD 2, eP 0, eP 1, eP 2], none⟩] := rfl
theorem ofbt_3 : rfbt_3.toList = [⟨some 24, .move (.tmp 1), 22, "itoa.go:199", #[], none⟩, ⟨some 25, .binOp .quo 22 (.tmp 24) (.const (.int .u64 100000000)) 22, 22, "itoa.go:199", #[eD 0], none⟩, ⟨some 1, .assign (.tmp 25), 22, "itoa.go:199", #[eD 1, eP 0, eP 1], none⟩] := rfl
theorem ofbt_4 : rfbt_4.toList = [⟨some 26, .move (.tmp 5), 74, "itoa.go:200", #[], none⟩, ⟨some 27, .binOp .quo 74 (.tmp 26) (.const (.int .u32 10000)) 74, 74, "itoa.go:200", #[eD 0], none⟩, ⟨some 28, .move (.tmp 5), 74, "itoa.go:200", #[{ on := 4, ground := Ground.gcOnly Departure.lateStores }], none⟩, ⟨some 29, .binOp .rem 74 (.tmp 28) (.const (.int .u32 10000)) 74, 74, "itoa.go:200", #[eD 2, { on := 4, ground := Ground.gcOnly Departure.lateStores }], none⟩, ⟨some 6, .assign (.tmp 27), 74, "itoa.go:200", #[eD 1, eP 0, eP 1, { on := 2, ground := Ground.textOnly Departure.lateStores }, { on := 3, ground := Ground.textOnly Departure.lateStores }], none⟩, ⟨some 7, .assign (.tmp 29), 74, "itoa.go:200", #[eD 3, eC 4, eP 0, eP 1, eP 2, eP 3, eP 4], none⟩] := rfl
theorem ofbt_5 : rfbt_5.toList = [⟨some 30, .move (.tmp 7), 74, "itoa.go:201", #[], none⟩, ⟨some 31, .binOp .quo 74 (.tmp 30) (.const (.int .u32 100)) 74, 74, "itoa.go:201", #[eD 0], none⟩, ⟨some 32, .binOp .mul 74 (.tmp 31) (.const (.int .u32 2)) 74, 74, "itoa.go:201", #[eD 1], none⟩, ⟨some 33, .move (.tmp 7), 74, "itoa.go:201", #[{ on := 6, ground := Ground.gcOnly Departure.lateStores }], none⟩, ⟨some 34, .binOp .rem 74 (.tmp 33) (.const (.int .u32 100)) 74, 74, "itoa.go:201", #[eD 3, { on := 6, ground := Ground.gcOnly Departure.lateStores }], none⟩, ⟨some 35, .binOp .mul 74 (.tmp 34) (.const (.int .u32 2)) 74, 74, "itoa.go:201", #[eD 4, { on := 6, ground := Ground.gcOnly Departure.lateStores }], none⟩, ⟨some 8, .assign (.tmp 32), 74, "itoa.go:201", #[eD 2, eP 0, eP 1, eP 2, { on := 3, ground := Ground.textOnly Departure.lateStores }, { on := 4, ground := Ground.textOnly Departure.lateStores }, { on := 5, ground := Ground.textOnly Departure.lateStores }], none⟩, ⟨some 9, .assign (.tmp 35), 74, "itoa.go:201", #[eD 5, eC 6, eP 0, eP 1, eP 2, eP 3, eP 4, eP 5, eP 6], none⟩] := rfl
theorem ofbt_6 : rfbt_6.toList = [⟨some 36, .move (.tmp 6), 74, "itoa.go:202", #[], none⟩, ⟨some 37, .binOp .quo 74 (.tmp 36) (.const (.int .u32 100)) 74, 74, "itoa.go:202", #[eD 0], none⟩, ⟨some 38, .binOp .mul 74 (.tmp 37) (.const (.int .u32 2)) 74, 74, "itoa.go:202", #[eD 1], none⟩, ⟨some 39, .move (.tmp 6), 74, "itoa.go:202", #[{ on := 6, ground := Ground.gcOnly Departure.lateStores }], none⟩, ⟨some 40, .binOp .rem 74 (.tmp 39) (.const (.int .u32 100)) 74, 74, "itoa.go:202", #[eD 3, { on := 6, ground := Ground.gcOnly Departure.lateStores }], none⟩, ⟨some 41, .binOp .mul 74 (.tmp 40) (.const (.int .u32 2)) 74, 74, "itoa.go:202", #[eD 4, { on := 6, ground := Ground.gcOnly Departure.lateStores }], none⟩, ⟨some 10, .assign (.tmp 38), 74, "itoa.go:202", #[eD 2, eP 0, eP 1, eP 2, { on := 3, ground := Ground.textOnly Departure.lateStores }, { on := 4, ground := Ground.textOnly Departure.lateStores }, { on := 5, ground := Ground.textOnly Departure.lateStores }], none⟩, ⟨some 11, .assign (.tmp 41), 74, "itoa.go:202", #[eD 5, eC 6, eP 0, eP 1, eP 2, eP 3, eP 4, eP 5, eP 6], none⟩] := rfl
theorem ofbt_7 : rfbt_7.toList = [⟨some 42, .move (.tmp 0), 41, "itoa.go:203", #[], none⟩, ⟨some 43, .move (.tmp 4), 3, "itoa.go:203", #[], none⟩, ⟨some 44, .binOp .sub 3 (.tmp 43) (.const (.int .i64 1)) 3, 3, "itoa.go:203", #[eD 1], none⟩, ⟨some 45, .move (.tmp 0), 41, "itoa.go:203", #[{ on := 12, ground := Ground.gcOnly Departure.lateStores }], none⟩, ⟨some 46, .move (.tmp 4), 3, "itoa.go:203", #[{ on := 12, ground := Ground.gcOnly Departure.lateStores }], none⟩, ⟨some 47, .binOp .sub 3 (.tmp 46) (.const (.int .i64 2)) 3, 3, "itoa.go:203", #[eD 4, { on := 12, ground := Ground.gcOnly Departure.lateStores }], none⟩, ⟨some 48, .move (.tmp 9), 74, "itoa.go:203", #[], none⟩, ⟨some 49, .binOp .add 74 (.tmp 48) (.const (.int .u32 1)) 74, 74, "itoa.go:203", #[eD 6], none⟩, ⟨some 50, .index 9 (.const (.string smS)) (.tmp 49), 5, "itoa.go:203", #[eD 7], none⟩, ⟨some 51, .move (.tmp 9), 74, "itoa.go:203", #[], none⟩, ⟨some 52, .index 9 (.const (.string smS)) (.tmp 51), 5, "itoa.go:203", #[eD 9], none⟩, ⟨some 53, .indexAddr 41 (.tmp 42) (.tmp 44), 0, "itoa.go:203", #[eD 0, eD 2, eP 0, eP 1, eP 2, { on := 3, ground := Ground.textOnly Departure.lateStores }, { on := 4, ground := Ground.textOnly Departure.lateStores }, { on := 5, ground := Ground.textOnly Departure.lateStores }, eP 6, eP 7, eP 8, { on := 9, ground := Ground.textOnly Departure.lateStores }, { on := 10, ground := Ground.textOnly Departure.lateStoresUnsure }], none⟩, ⟨none, .store 5 (.tmp 53) (.tmp 50), 0, "itoa.go:203", #[eD 11, eD 8, eP 0, eP 1, eP 2, { on := 3, ground := Ground.textOnly Departure.lateStores }, { on := 4, ground := Ground.textOnly Departure.lateStores }, { on := 5, ground := Ground.textOnly Departure.lateStores }, eP 6, eP 7, eP 8, { on := 9, ground := Ground.textOnly Departure.lateStores }, { on := 10, ground := Ground.textOnly Departure.lateStoresUnsure }], none⟩, ⟨some 54, .indexAddr 41 (.tmp 45) (.tmp 47), 0, "itoa.go:203", #[eD 3, eD 5, eP 0, eP 1, eP 2, eP 3, eP 4, eP 5, eP 6, eP 7, eP 8, eP 9, eP 10, eP 11, eP 12], none⟩, ⟨none, .store 5 (.tmp 54) (.tmp 52), 0, "itoa.go:203", #[eD 13, eD 10, eC 12, eP 0, eP 1, eP 2, eP 3, eP 4, eP 5, eP 6, eP 7, eP 8, eP 9, eP 10, eP 11, eP 12], none⟩] := rfl
theorem ofbt_8 : rfbt_8.toList = [⟨some 55, .move (.tmp 0), 41, "itoa.go:204", #[], none⟩, ⟨some 56, .move (.tmp 4), 3, "itoa.go:204", #[], none⟩, ⟨some 57, .binOp .sub 3 (.tmp 56) (.const (.int .i64 3)) 3, 3, "itoa.go:204", #[eD 1], none⟩, ⟨some 58, .move (.tmp 0), 41, "itoa.go:204", #[{ on := 12, ground := Ground.gcOnly Departure.lateStores }], none⟩, ⟨some 59, .move (.tmp 4), 3, "itoa.go:204", #[{ on := 12, ground := Ground.gcOnly Departure.lateStores }], none⟩, ⟨some 60, .binOp .sub 3 (.tmp 59) (.const (.int .i64 4)) 3, 3, "itoa.go:204", #[eD 4, { on := 12, ground := Ground.gcOnly Departure.lateStores }], none⟩, ⟨some 61, .move (.tmp 8), 74, "itoa.go:204", #[], none⟩, ⟨some 62, .binOp .add 74 (.tmp 61) (.const (.int .u32 1)) 74, 74, "itoa.go:204", #[eD 6], none⟩, ⟨some 63, .index 9 (.const (.string smS)) (.tmp 62), 5, "itoa.go:204", #[eD 7], none⟩, ⟨some 64, .move (.tmp 8), 74, "itoa.go:204", #[], none⟩, ⟨some 65, .index 9 (.const (.string smS)) (.tmp 64), 5, "itoa.go:204", #[eD 9], none⟩, ⟨some 66, .indexAddr 41 (.tmp 55) (.tmp 57), 0, "itoa.go:204", #[eD 0, eD 2, eP 0, eP 1, eP 2, { on := 3, ground := Ground.textOnly Departure.lateStores }, { on := 4, ground := Ground.textOnly Departure.lateStores }, { on := 5, ground := Ground.textOnly Departure.lateStores }, eP 6, eP 7, eP 8, { on := 9, ground := Ground.textOnly Departure.lateStores }, { on := 10, ground := Ground.textOnly Departure.lateStoresUnsure }], none⟩, ⟨none, .store 5 (.tmp 66) (.tmp 63), 0, "itoa.go:204", #[eD 11, eD 8, eP 0, eP 1, eP 2, { on := 3, ground := Ground.textOnly Departure.lateStores }, { on := 4, ground := Ground.textOnly Departure.lateStores }, { on := 5, ground := Ground.textOnly Departure.lateStores }, eP 6, eP 7, eP 8, { on := 9, ground := Ground.textOnly Departure.lateStores }, { on := 10, ground := Ground.textOnly Departure.lateStoresUnsure }], none⟩, ⟨some 67, .indexAddr 41 (.tmp 58) (.tmp 60), 0, "itoa.go:204", #[eD 3, eD 5, eP 0, eP 1, eP 2, eP 3, eP 4, eP 5, eP 6, eP 7, eP 8, eP 9, eP 10, eP 11, eP 12], none⟩, ⟨none, .store 5 (.tmp 67) (.tmp 65), 0, "itoa.go:204", #[eD 13, eD 10, eC 12, eP 0, eP 1, eP 2, eP 3, eP 4, eP 5, eP 6, eP 7, eP 8, eP 9, eP 10, eP 11, eP 12], none⟩] := rfl
theorem ofbt_9 : rfbt_9.toList = [⟨some 68, .move (.tmp 0), 41, "itoa.go:205", #[], none⟩, ⟨some 69, .move (.tmp 4), 3, "itoa.go:205", #[], none⟩, ⟨some 70, .binOp .sub 3 (.tmp 69) (.const (.int .i64 5)) 3, 3, "itoa.go:205", #[eD 1], none⟩, ⟨some 71, .move (.tmp 0), 41, "itoa.go:205", #[{ on := 12, ground := Ground.gcOnly Departure.lateStores }], none⟩, ⟨some 72, .move (.tmp 4), 3, "itoa.go:205", #[{ on := 12, ground := Ground.gcOnly Departure.lateStores }], none⟩, ⟨some 73, .binOp .sub 3 (.tmp 72) (.const (.int .i64 6)) 3, 3, "itoa.go:205", #[eD 4, { on := 12, ground := Ground.gcOnly Departure.lateStores }], none⟩, ⟨some 74, .move (.tmp 11), 74, "itoa.go:205", #[], none⟩, ⟨some 75, .binOp .add 74 (.tmp 74) (.const (.int .u32 1)) 74, 74, "itoa.go:205", #[eD 6], none⟩, ⟨some 76, .index 9 (.const (.string smS)) (.tmp 75), 5, "itoa.go:205", #[eD 7], none⟩, ⟨some 77, .move (.tmp 11), 74, "itoa.go:205", #[], none⟩, ⟨some 78, .index 9 (.const (.string smS)) (.tmp 77), 5, "itoa.go:205", #[eD 9], none⟩, ⟨some 79, .indexAddr 41 (.tmp 68) (.tmp 70), 0, "itoa.go:205", #[eD 0, eD 2, eP 0, eP 1, eP 2, { on := 3, ground := Ground.textOnly Departure.lateStores }, { on := 4, ground := Ground.textOnly Departure.lateStores }, { on := 5, ground := Ground.textOnly Departure.lateStores }, eP 6, eP 7, eP 8, { on := 9, ground := Ground.textOnly Departure.lateStores }, { on := 10, ground := Ground.textOnly Departure.lateStoresUnsure }], none⟩, ⟨none, .store 5 (.tmp 79) (.tmp 76), 0, "itoa.go:205", #[eD 11, eD 8, eP 0, eP 1, eP 2, { on := 3, ground := Ground.textOnly Departure.lateStores }, { on := 4, ground := Ground.textOnly Departure.lateStores }, { on := 5, ground := Ground.textOnly Departure.lateStores }, eP 6, eP 7, eP 8, { on := 9, ground := Ground.textOnly Departure.lateStores }, { on := 10, ground := Ground.textOnly Departure.lateStoresUnsure }], none⟩, ⟨some 80, .indexAddr 41 (.tmp 71) (.tmp 73), 0, "itoa.go:205", #[eD 3, eD 5, eP 0, eP 1, eP 2, eP 3, eP 4, eP 5, eP 6, eP 7, eP 8, eP 9, eP 10, eP 11, eP 12], none⟩, ⟨none, .store 5 (.tmp 80) (.tmp 78), 0, "itoa.go:205", #[eD 13, eD 10, eC 12, eP 0, eP 1, eP 2, eP 3, eP 4, eP 5, eP 6, eP 7, eP 8, eP 9, eP 10, eP 11, eP 12], none⟩] := rfl
theorem ofbt_10 : rfbt_10.toList = [⟨some 81, .move (.tmp 0), 41, "itoa.go:206", #[], none⟩, ⟨some 82, .move (.tmp 4), 3, "itoa.go:206", #[], none⟩, ⟨some 83, .binOp .sub 3 (.tmp 82) (.const (.int .i64 7)) 3, 3, "itoa.go:206", #[eD 1], none⟩, ⟨some 84, .move (.tmp 0), 41, "itoa.go:206", #[{ on := 12, ground := Ground.gcOnly Departure.lateStores }], none⟩, ⟨some 85, .move (.tmp 4), 3, "itoa.go:206", #[{ on := 12, ground := Ground.gcOnly Departure.lateStores }], none⟩, ⟨some 86, .binOp .sub 3 (.tmp 85) (.const (.int .i64 8)) 3, 3, "itoa.go:206", #[eD 4, { on := 12, ground := Ground.gcOnly Departure.lateStores }], none⟩, ⟨some 87, .move (.tmp 10), 74, "itoa.go:206", #[], none⟩, ⟨some 88, .binOp .add 74 (.tmp 87) (.const (.int .u32 1)) 74, 74, "itoa.go:206", #[eD 6], none⟩, ⟨some 89, .index 9 (.const (.string smS)) (.tmp 88), 5, "itoa.go:206", #[eD 7], none⟩, ⟨some 90, .move (.tmp 10), 74, "itoa.go:206", #[], none⟩, ⟨some 91, .index 9 (.const (.string smS)) (.tmp 90), 5, "itoa.go:206", #[eD 9], none⟩, ⟨some 92, .indexAddr 41 (.tmp 81) (.tmp 83), 0, "itoa.go:206", #[eD 0, eD 2, eP 0, eP 1, eP 2, { on := 3, ground := Ground.textOnly Departure.lateStores }, { on := 4, ground := Ground.textOnly Departure.lateStores }, { on := 5, ground := Ground.textOnly Departure.lateStores }, eP 6, eP 7, eP 8, { on := 9, ground := Ground.textOnly Departure.lateStores }, { on := 10, ground := Ground.textOnly Departure.lateStoresUnsure }], none⟩, ⟨none, .store 5 (.tmp 92) (.tmp 89), 0, "itoa.go:206", #[eD 11, eD 8, eP 0, eP 1, eP 2, { on := 3, ground := Ground.textOnly Departure.lateStores }, { on := 4, ground := Ground.textOnly Departure.lateStores }, { on := 5, ground := Ground.textOnly Departure.lateStores }, eP 6, eP 7, eP 8, { on := 9, ground := Ground.textOnly Departure.lateStores }, { on := 10, ground := Ground.textOnly Departure.lateStoresUnsure }], none⟩, ⟨some 93, .indexAddr 41 (.tmp 84) (.tmp 86), 0, "itoa.go:206", #[eD 3, eD 5, eP 0, eP 1, eP 2, eP 3, eP 4, eP 5, eP 6, eP 7, eP 8, eP 9, eP 10, eP 11, eP 12], none⟩, ⟨none, .store 5 (.tmp 93) (.tmp 91), 0, "itoa.go:206", #[eD 13, eD 10, eC 12, eP 0, eP 1, eP 2, eP 3, eP 4, eP 5, eP 6, eP 7, eP 8, eP 9, eP 10, eP 11, eP 12], none⟩] := rfl
theorem ofbt_11 : rfbt_11.toList = [⟨some 94, .move (.tmp 4), 3, "itoa.go:207", #[], none⟩, ⟨some 95, .binOp .sub 3 (.tmp 94) (.const (.int .i64 8)) 3, 3, "itoa.go:207", #[eD 0], none⟩, ⟨some 4, .assign (.tmp 95), 3, "itoa.go:207", #[eD 1, eP 0, eP 1], none⟩] := rfl
theorem ofbt_12 : rfbt_12.toList = [⟨some 96, .move (.tmp 1), 22, "itoa.go:210", #[], none⟩, ⟨some 97, .convert 22 74 (.tmp 96), 74, "itoa.go:210", #[eD 0], none⟩, ⟨some 12, .assign (.tmp 97), 74, "itoa.go:210", #[eD 1, eP 0, eP 1], none⟩] := rfl
theorem ofbt_13 : rfbt_13.toList = [⟨some 98, .move (.tmp 4), 3, "itoa.go:211", #[], none⟩, ⟨some 99, .binOp .geq 3 (.tmp 98) (.const (.int .i64 4)) 3, 4, "itoa.go:211", #[eD 0], none⟩] := rfl
theorem ofbt_14 : rfbt_14.toList = [⟨some 100, .move (.tmp 12), 74, "itoa.go:213", #[], none⟩, ⟨some 101, .binOp .rem 74 (.tmp 100) (.const (.int .u32 10000)) 74, 74, "itoa.go:213", #[eD 0], none⟩, ⟨some 13, .assign (.tmp 101), 74, "itoa.go:213", #[eD 1, eP 0, eP 1], none⟩] := rfl
theorem ofbt_15 : rfbt_15.toList = [⟨some 102, .move (.tmp 12), 74, "itoa.go:214", #[], none⟩, ⟨some 103, .binOp .quo 74 (.tmp 102) (.const (.int .u32 10000)) 74, 74, "itoa.go:214", #[eD 0], none⟩, ⟨some 12, .assign (.tmp 103), 74, "itoa.go:214", #[eD 1, eP 0, eP 1], none⟩] := rfl
theorem ofbt_16 : rfbt_16.toList = [⟨some 104, .move (.tmp 13), 74, "itoa.go:215", #[], none⟩, ⟨some 105, .binOp .quo 74 (.tmp 104) (.const (.int .u32 100)) 74, 74, "itoa.go:215", #[eD 0], none⟩, ⟨some 106, .binOp .mul 74 (.tmp 105) (.const (.int .u32 2)) 74, 74, "itoa.go:215", #[eD 1], none⟩, ⟨some 107, .move (.tmp 13), 74, "itoa.go:215", #[{ on := 6, ground := Ground.gcOnly Departure.lateStores }], none⟩, ⟨some 108, .binOp .rem 74 (.tmp 107) (.const (.int .u32 100)) 74, 74, "itoa.go:215", #[eD 3, { on := 6, ground := Ground.gcOnly Departure.lateStores }], none⟩, ⟨some 109, .binOp .mul 74 (.tmp 108) (.const (.int .u32 2)) 74, 74, "itoa.go:215", #[eD 4, { on := 6, ground := Ground.gcOnly Departure.lateStores }], none⟩, ⟨some 14, .assign (.tmp 106), 74, "itoa.go:215", #[eD 2, eP 0, eP 1, eP 2, { on := 3, ground := Ground.textOnly Departure.lateStores }, { on := 4, ground := Ground.textOnly Departure.lateStores }, { on := 5, ground := Ground.textOnly Departure.lateStores }], none⟩, ⟨some 15, .assign (.tmp 109), 74, "itoa.go:215", #[eD 5, eC 6, eP 0, eP 1, eP 2, eP 3, eP 4, eP 5, eP 6], none⟩] := rfl
theorem ofbt_17 : rfbt_17.toList = [⟨some 110, .move (.tmp 0), 41, "itoa.go:216", #[], none⟩, ⟨some 111, .move (.tmp 4), 3, "itoa.go:216", #[], none⟩, ⟨some 112, .binOp .sub 3 (.tmp 111) (.const (.int .i64 1)) 3, 3, "itoa.go:216", #[eD 1], none⟩, ⟨some 113, .move (.tmp 0), 41, "itoa.go:216", #[{ on := 12, ground := Ground.gcOnly Departure.lateStores }], none⟩, ⟨some 114, .move (.tmp 4), 3, "itoa.go:216", #[{ on := 12, ground := Ground.gcOnly Departure.lateStores }], none⟩, ⟨some 115, .binOp .sub 3 (.tmp 114) (.const (.int .i64 2)) 3, 3, "itoa.go:216", #[eD 4, { on := 12, ground := Ground.gcOnly Departure.lateStores }], none⟩, ⟨some 116, .move (.tmp 15), 74, "itoa.go:216", #[], none⟩, ⟨some 117, .binOp .add 74 (.tmp 116) (.const (.int .u32 1)) 74, 74, "itoa.go:216", #[eD 6], none⟩, ⟨some 118, .index 9 (.const (.string smS)) (.tmp 117), 5, "itoa.go:216", #[eD 7], none⟩, ⟨some 119, .move (.tmp 15), 74, "itoa.go:216", #[], none⟩, ⟨some 120, .index 9 (.const (.string smS)) (.tmp 119), 5, "itoa.go:216", #[eD 9], none⟩, ⟨some 121, .indexAddr 41 (.tmp 110) (.tmp 112), 0, "itoa.go:216", #[eD 0, eD 2, eP 0, eP 1, eP 2, { on := 3, ground := Ground.textOnly Departure.lateStores }, { on := 4, ground := Ground.textOnly Departure.lateStores }, { on := 5, ground := Ground.textOnly Departure.lateStores }, eP 6, eP 7, eP 8, { on := 9, ground := Ground.textOnly Departure.lateStores }, { on := 10, ground := Ground.textOnly Departure.lateStoresUnsure }], none⟩, ⟨none, .store 5 (.tmp 121) (.tmp 118), 0, "itoa.go:216", #[eD 11, eD 8, eP 0, eP 1, eP 2, { on := 3, ground := Ground.textOnly Departure.lateStores }, { on := 4, ground := Ground.textOnly Departure.lateStores }, { on := 5, ground := Ground.textOnly Departure.lateStores }, eP 6, eP 7, eP 8, { on := 9, ground := Ground.textOnly Departure.lateStores }, { on := 10, ground := Ground.textOnly Departure.lateStoresUnsure }], none⟩, ⟨some 122, .indexAddr 41 (.tmp 113) (.tmp 115), 0, "itoa.go:216", #[eD 3, eD 5, eP 0, eP 1, eP 2, eP 3, eP 4, eP 5, eP 6, eP 7, eP 8, eP 9, eP 10, eP 11, eP 12], none⟩, ⟨none, .store 5 (.tmp 122) (.tmp 120), 0, "itoa.go:216", #[eD 13, eD 10, eC 12, eP 0, eP 1, eP 2, eP 3, eP 4, eP 5, eP 6, eP 7, eP 8, eP 9, eP 10, eP 11, eP 12], none⟩] := rfl
theorem ofbt_18 : rfbt_18.toList = [⟨some 123, .move (.tmp 0), 41, "itoa.go:217", #[], none⟩, ⟨some 124, .move (.tmp 4), 3, "itoa.go:217", #[], none⟩, ⟨some 125, .binOp .sub 3 (.tmp 124) (.const (.int .i64 3)) 3, 3, "itoa.go:217", #[eD 1], none⟩, ⟨some 126, .move (.tmp 0), 41, "itoa.go:217", #[{ on := 12, ground := Ground.gcOnly Departure.lateStores }], none⟩, ⟨some 127, .move (.tmp 4), 3, "itoa.go:217", #[{ on := 12, ground := Ground.gcOnly Departure.lateStores }], none⟩, ⟨some 128, .binOp .sub 3 (.tmp 127) (.const (.int .i64 4)) 3, 3, "itoa.go:217", #[eD 4, { on := 12, ground := Ground.gcOnly Departure.lateStores }], none⟩, ⟨some 129, .move (.tmp 14), 74, "itoa.go:217", #[], none⟩, ⟨some 130, .binOp .add 74 (.tmp 129) (.const (.int .u32 1)) 74, 74, "itoa.go:217", #[eD 6], none⟩, ⟨some 131, .index 9 (.const (.string smS)) (.tmp 130), 5, "itoa.go:217", #[eD 7], none⟩, ⟨some 132, .move (.tmp 14), 74, "itoa.go:217", #[], none⟩, ⟨some 133, .index 9 (.const (.string smS)) (.tmp 132), 5, "itoa.go:217", #[eD 9], none⟩, ⟨some 134, .indexAddr 41 (.tmp 123) (.tmp 125), 0, "itoa.go:217", #[eD 0, eD 2, eP 0, eP 1, eP 2, { on := 3, ground := Ground.textOnly Departure.lateStores }, { on := 4, ground := Ground.textOnly Departure.lateStores }, { on := 5, ground := Ground.textOnly Departure.lateStores }, eP 6, eP 7, eP 8, { on := 9, ground := Ground.textOnly Departure.lateStores }, { on := 10, ground := Ground.textOnly Departure.lateStoresUnsure }], none⟩, ⟨none, .store 5 (.tmp 134) (.tmp 131), 0, "itoa.go:217", #[eD 11, eD 8, eP 0, eP 1, eP 2, { on := 3, ground := Ground.textOnly Departure.lateStores }, { on := 4, ground := Ground.textOnly Departure.lateStores }, { on := 5, ground := Ground.textOnly Departure.lateStores }, eP 6, eP 7, eP 8, { on := 9, ground := Ground.textOnly Departure.lateStores }, { on := 10, ground := Ground.textOnly Departure.lateStoresUnsure }], none⟩, ⟨some 135, .indexAddr 41 (.tmp 126) (.tmp 128), 0, "itoa.go:217", #[eD 3, eD 5, eP 0, eP 1, eP 2, eP 3, eP 4, eP 5, eP 6, eP 7, eP 8, eP 9, eP 10, eP 11, eP 12], none⟩, ⟨none, .store 5 (.tmp 135) (.tmp 133), 0, "itoa.go:217", #[eD 13, eD 10, eC 12, eP 0, eP 1, eP 2, eP 3, eP 4, eP 5, eP 6, eP 7, eP 8, eP 9, eP 10, eP 11, eP 12], none⟩] := rfl
theorem ofbt_19 : rfbt_19.toList = [⟨some 136, .move (.tmp 4), 3, "itoa.go:218", #[], none⟩, ⟨some 137, .binOp .sub 3 (.tmp 136) (.const (.int .i64 4)) 3, 3, "itoa.go:218", #[eD 0], none⟩, ⟨some 4, .assign (.tmp 137), 3, "itoa.go:218", #[eD 1, eP 0, eP 1], none⟩] := rfl
theorem ofbt_20 : rfbt_20.toList = [⟨some 138, .move (.tmp 4), 3, "itoa.go:220", #[], none⟩, ⟨some 139, .binOp .geq 3 (.tmp 138) (.const (.int .i64 2)) 3, 4, "itoa.go:220", #[eD 0], none⟩] := rfl
theorem ofbt_21 : rfbt_21.toList = [⟨some 140, .move (.tmp 12), 74, "itoa.go:222", #[], none⟩, ⟨some 141, .binOp .rem 74 (.tmp 140) (.const (.int .u32 100)) 74, 74, "itoa.go:222", #[eD 0], none⟩, ⟨some 142, .binOp .mul 74 (.tmp 141) (.const (.int .u32 2)) 74, 74, "itoa.go:222", #[eD 1], none⟩, ⟨some 16, .assign (.tmp 142), 74, "itoa.go:222", #[eD 2, eP 0, eP 1, eP 2], none⟩] := rfl
theorem ofbt_22 : rfbt_22.toList = [⟨some 143, .move (.tmp 12), 74, "itoa.go:223", #[], none⟩, ⟨some 144, .binOp .quo 74 (.tmp 143) (.const (.int .u32 100)) 74, 74, "itoa.go:223", #[eD 0], none⟩, ⟨some 12, .assign (.tmp 144), 74, "itoa.go:223", #[eD 1, eP 0, eP 1], none⟩] := rfl
theorem ofbt_23 : rfbt_23.toList = [⟨some 145, .move (.tmp 0), 41, "itoa.go:224", #[], none⟩, ⟨some 146, .move (.tmp 4), 3, "itoa.go:224", #[], none⟩, ⟨some 147, .binOp .sub 3 (.tmp 146) (.const (.int .i64 1)) 3, 3, "itoa.go:224", #[eD 1], none⟩, ⟨some 148, .move (.tmp 0), 41, "itoa.go:224", #[{ on := 12, ground := Ground.gcOnly Departure.lateStores }], none⟩, ⟨some 149, .move (.tmp 4), 3, "itoa.go:224", #[{ on := 12, ground := Ground.gcOnly Departure.lateStores }], none⟩, ⟨some 150, .binOp .sub 3 (.tmp 149) (.const (.int .i64 2)) 3, 3, "itoa.go:224", #[eD 4, { on := 12, ground := Ground.gcOnly Departure.lateStores }], none⟩, ⟨some 151, .move (.tmp 16), 74, "itoa.go:224", #[], none⟩, ⟨some 152, .binOp .add 74 (.tmp 151) (.const (.int .u32 1)) 74, 74, "itoa.go:224", #[eD 6], none⟩, ⟨some 153, .index 9 (.const (.string smS)) (.tmp 152), 5, "itoa.go:224", #[eD 7], none⟩, ⟨some 154, .move (.tmp 16), 74, "itoa.go:224", #[], none⟩, ⟨some 155, .index 9 (.const (.string smS)) (.tmp 154), 5, "itoa.go:224", #[eD 9], none⟩, ⟨some 156, .indexAddr 41 (.tmp 145) (.tmp 147), 0, "itoa.go:224", #[eD 0, eD 2, eP 0, eP 1, eP 2, { on := 3, ground := Ground.textOnly Departure.lateStores }, { on := 4, ground := Ground.textOnly Departure.lateStores }, { on := 5, ground := Ground.textOnly Departure.lateStores }, eP 6, eP 7, eP 8, { on := 9, ground := Ground.textOnly Departure.lateStores }, { on := 10, ground := Ground.textOnly Departure.lateStoresUnsure }], none⟩, ⟨none, .store 5 (.tmp 156) (.tmp 153), 0, "itoa.go:224", #[eD 11, eD 8, eP 0, eP 1, eP 2, { on := 3, ground := Ground.textOnly Departure.lateStores }, { on := 4, ground := Ground.textOnly Departure.lateStores }, { on := 5, ground := Ground.textOnly Departure.lateStores }, eP 6, eP 7, eP 8, { on := 9, ground := Ground.textOnly Departure.lateStores }, { on := 10, ground := Ground.textOnly Departure.lateStoresUnsure }], none⟩, ⟨some 157, .indexAddr 41 (.tmp 148) (.tmp 150), 0, "itoa.go:224", #[eD 3, eD 5, eP 0, eP 1, eP 2, eP 3, eP 4, eP 5, eP 6, eP 7, eP 8, eP 9, eP 10, eP 11, eP 12], none⟩, ⟨none, .store 5 (.tmp 157) (.tmp 155), 0, "itoa.go:224", #[eD 13, eD 10, eC 12, eP 0, eP 1, eP 2, eP 3, eP 4, eP 5, eP 6, eP 7, eP 8, eP 9, eP 10, eP 11, eP 12], none⟩] := rfl
theorem ofbt_24 : rfbt_24.toList = [⟨some 158, .move (.tmp 4), 3, "itoa.go:225", #[], none⟩, ⟨some 159, .binOp .sub 3 (.tmp 158) (.const (.int .i64 2)) 3, 3, "itoa.go:225", #[eD 0], none⟩, ⟨some 4, .assign (.tmp 159), 3, "itoa.go:225", #[eD 1, eP 0, eP 1], none⟩] := rfl
theorem ofbt_25 : rfbt_25.toList = [⟨some 160, .move (.tmp 4), 3, "itoa.go:227", #[], none⟩, ⟨some 161, .binOp .gtr 3 (.tmp 160) (.const (.int .i64 0)) 3, 4, "itoa.go:227", #[eD 0], none⟩] := rfl
theorem ofbt_26 : rfbt_26.toList = [⟨some 162, .move (.tmp 0), 41, "itoa.go:229", #[], none⟩, ⟨some 163, .move (.tmp 12), 74, "itoa.go:229", #[], none⟩, ⟨some 164, .binOp .add 74 (.const (.int .u32 48)) (.tmp 163) 74, 74, "itoa.go:229", #[eD 1], none⟩, ⟨some 165, .convert 74 5 (.tmp 164), 5, "itoa.go:229", #[eD 2], none⟩, ⟨some 166, .indexAddr 41 (.tmp 162) (.const (.int .i64 0)), 0, "itoa.go:229", #[eD 0, eP 0, eP 1, eP 2, eP 3], none⟩, ⟨none, .store 5 (.tmp 166) (.tmp 165), 0, "itoa.go:229", #[eD 4, eD 3, eP 0, eP 1, eP 2, eP 3], none⟩] := rfl
theorem ollt_0 : rllt_0.toList = [⟨some 4, .box 24 (.tmp 1), 0, "law.go:68", #[], none⟩, ⟨some 6, .assign (.const (.bool false)), 4, "law.go:68", #[], none⟩] := rfl
theorem ollt_1 : rllt_1.toList = [⟨some 16, .call { callee := .value (.func 4), args := #[], argTypes := #[] }, 4, "law.go:69", #[], none⟩, ⟨some 17, .unOp .not 4 (.tmp 16), 4, "law.go:69", #[eD 0], none⟩] := rfl
theorem ollt_2 : rllt_2.toList = [⟨some 6, .assign (.const (.bool false)), 4, "law.go:70", #[], none⟩] := rfl
theorem ollt_3 : rllt_3.toList = [⟨some 18, .move (.tmp 0), 9, "law.go:72", #[], none⟩, ⟨some 19, .call { callee := .builtin .len, args := #[.tmp 18], argTypes := #[9] }, 3, "law.go:72", #[eD 0], none⟩, ⟨some 20, .binOp .gtr 3 (.tmp 19) (.const (.int .i64 300)) 3, 4, "law.go:72", #[eD 1], none⟩] := rfl
theorem ollt_4 : rllt_4.toList = [⟨some 6, .assign (.const (.bool true)), 4, "law.go:73", #[], none⟩] := rfl
theorem ollt_5 : rllt_5.toList = [⟨some 22, .move (.tmp 0), 9, "law.go:75", #[], none⟩, ⟨some 23, .call { callee := .value (.func 5), args := #[.tmp 22], argTypes := #[9] }, 27, "law.go:75", #[eD 0], none⟩, ⟨some 21, .move (.tmp 23), 27, "law.go:75", #[eD 1], none⟩, ⟨some 24, .extract (.tmp 21) 0, 24, "law.go:75", #[eD 2], none⟩, ⟨some 25, .extract (.tmp 21) 1, 26, "law.go:75", #[eD 2, { on := 6, ground := Ground.gcOnly Departure.lateStores }], none⟩, ⟨some 7, .alloc 24, 0, "law.go:75", #[], none⟩, ⟨none, .store 24 (.tmp 7) (.tmp 24), 0, "law.go:75", #[eD 5, eD 3, eC 1, eP 0, eP 1, eP 2, eP 3, { on := 4, ground := Ground.textOnly Departure.lateStores }, eP 5], none⟩, ⟨some 8, .assign (.tmp 25), 26, "law.go:75", #[eD 4, eC 6, eP 0, eP 1, eP 2, eP 3, eP 4, eP 5, eP 6], none⟩] := rfl
theorem ollt_6 : rllt_6.toList = [⟨some 26, .move (.tmp 0), 9, "law.go:76", #[], none⟩, ⟨some 27, .call { callee := .builtin .len, args := #[.tmp 26], argTypes := #[9] }, 3, "law.go:76", #[eD 0], none⟩, ⟨some 28, .binOp .gtr 3 (.tmp 27) (.const (.int .i64 64)) 3, 4, "law.go:76", #[eD 1], none⟩] := rfl
theorem ollt_7 : rllt_7.toList = [⟨some 29, .move (.tmp 8), 26, "law.go:77", #[], none⟩, ⟨some 30, .binOp .neq 26 (.tmp 29) (.const (.int .i64 5)) 26, 4, "law.go:77", #[eD 0], none⟩, ⟨some 31, .move (.tmp 30), 4, "law.go:77", #[eD 1], none⟩, ⟨some 32, .load 24 (.tmp 7), 24, "law.go:77", #[eGuard 2], some (2, false)⟩, ⟨some 33, .build 24 #[], 24, "law.go:77", #[eGuard 2], some (2, false)⟩, ⟨some 34, .binOp .neq 24 (.tmp 32) (.tmp 33) 24, 4, "law.go:77", #[eD 3, eD 4, eGuard 2], some (2, false)⟩, ⟨some 35, .pick (.tmp 31) (.const (.bool true)) (.tmp 34), 4, "law.go:77", #[eD 2, eD 5], none⟩] := rfl
theorem ollt_8 : rllt_8.toList = [⟨some 6, .assign (.const (.bool false)), 4, "law.go:78", #[], none⟩] := rfl
theorem ollt_9 : rllt_9.toList = [⟨some 36, .move (.tmp 8), 26, "law.go:80", #[], none⟩, ⟨some 37, .binOp .neq 26 (.tmp 36) (.const (.int .i64 0)) 26, 4, "law.go:80", #[eD 0], none⟩, ⟨some 38, .move (.tmp 37), 4, "law.go:80", #[eD 1], none⟩, ⟨some 39, .load 24 (.tmp 7), 24, "law.go:80", #[eGuard 2], some (2, false)⟩, ⟨some 40, .call { callee := .value (.func 7), args := #[.tmp 39], argTypes := #[24] }, 31, "law.go:80", #[eD 3, eC 2, eGuard 2], some (2, false)⟩, ⟨some 41, .move (.tmp 0), 9, "law.go:80", #[eGuard 2], some (2, false)⟩, ⟨some 42, .call { callee := .value (.func 8), args := #[.tmp 41], argTypes := #[9] }, 31, "law.go:80", #[eD 5, eC 4, eGuard 2], some (2, false)⟩, ⟨some 43, .call { callee := .value (.func 6), args := #[.tmp 40, .tmp 42], argTypes := #[31, 31] }, 3, "law.go:80", #[eD 4, eD 6, eC 6, eGuard 2], some (2, false)⟩, ⟨some 44, .binOp .neq 3 (.tmp 43) (.const (.int .i64 0)) 3, 4, "law.go:80", #[eD 7, eGuard 2], some (2, false)⟩, ⟨some 45, .pick (.tmp 38) (.const (.bool true)) (.tmp 44), 4, "law.go:80", #[eD 2, eD 8], none⟩] := rfl
theorem ollt_10 : rllt_10.toList = [⟨some 6, .assign (.const (.bool false)), 4, "law.go:81", #[], none⟩] := rfl
theorem ollt_11 : rllt_11.toList = [⟨some 47, .move (.tmp 0), 9, "law.go:83", #[], none⟩, ⟨some 48, .call { callee := .value (.func 9), args := #[.tmp 47], argTypes := #[9] }, 27, "law.go:83", #[eD 0], none⟩, ⟨some 46, .move (.tmp 48), 27, "law.go:83", #[eD 1], none⟩, ⟨some 49, .extract (.tmp 46) 0, 24, "law.go:83", #[eD 2], none⟩, ⟨some 50, .extract (.tmp 46) 1, 26, "law.go:83", #[eD 2, { on := 6, ground := Ground.gcOnly Departure.lateStores }], none⟩, ⟨some 9, .alloc 24, 0, "law.go:83", #[], none⟩, ⟨none, .store 24 (.tmp 9) (.tmp 49), 0, "law.go:83", #[eD 5, eD 3, eC 1, eP 0, eP 1, eP 2, eP 3, { on := 4, ground := Ground.textOnly Departure.lateStores }, eP 5], none⟩, ⟨some 8, .assign (.tmp 50), 26, "law.go:83", #[eD 4, eC 6, eP 0, eP 1, eP 2, eP 3, eP 4, eP 5, eP 6], none⟩] := rfl
theorem ollt_12 : rllt_12.toList = [⟨some 52, .move (.tmp 0), 9, "law.go:84", #[], none⟩, ⟨some 53, .call { callee := .value (.func 10), args := #[.tmp 52], argTypes := #[9] }, 34, "law.go:84", #[eD 0], none⟩, ⟨some 51, .move (.tmp 53), 34, "law.go:84", #[eD 1], none⟩, ⟨some 54, .extract (.tmp 51) 0, 31, "law.go:84", #[eD 2], none⟩, ⟨some 55, .extract (.tmp 51) 1, 4, "law.go:84", #[eD 2, { on := 5, ground := Ground.gcOnly Departure.lateStores }], none⟩, ⟨some 10, .assign (.tmp 54), 31, "law.go:84", #[eD 3, eC 1, eP 0, eP 1, eP 2, eP 3, { on := 4, ground := Ground.textOnly Departure.lateStores }], none⟩, ⟨some 11, .assign (.tmp 55), 4, "law.go:84", #[eD 4, eC 5, eP 0, eP 1, eP 2, eP 3, eP 4, eP 5], none⟩] := rfl
theorem ollt_15 : rllt_15.toList = [⟨some 66, .move (.tmp 11), 4, "law.go:86", #[], none⟩, ⟨some 67, .unOp .not 4 (.tmp 66), 4, "law.go:86", #[eD 0], none⟩, ⟨some 65, .assign (.tmp 67), 4, "law.go:86", #[eD 1], none⟩] := rfl
theorem ollt_16 : rllt_16.toList = [⟨some 68, .move (.tmp 8), 26, "law.go:87", #[], none⟩, ⟨some 69, .binOp .neq 26 (.tmp 68) (.const (.int .i64 4)) 26, 4, "law.go:87", #[eD 0], none⟩] := rfl
theorem ollt_17 : rllt_17.toList = [⟨some 6, .assign (.const (.bool false)), 4, "law.go:88", #[], none⟩] := rfl
theorem ollt_18 : rllt_18.toList = [⟨some 71, .move (.tmp 10), 31, "law.go:90", #[], none⟩, ⟨some 72, .call { callee := .builtin .len, args := #[.tmp 71], argTypes := #[31] }, 3, "law.go:90", #[eD 0], none⟩, ⟨some 73, .binOp .gtr 3 (.tmp 72) (.const (.int .i64 64)) 3, 4, "law.go:90", #[eD 1], none⟩, ⟨some 70, .assign (.tmp 73), 4, "law.go:90", #[eD 2], none⟩] := rfl
theorem ollt_19 : rllt_19.toList = [⟨some 74, .move (.tmp 8), 26, "law.go:91", #[], none⟩, ⟨some 75, .binOp .neq 26 (.tmp 74) (.const (.int .i64 7)) 26, 4, "law.go:91", #[eD 0], none⟩] := rfl
theorem ollt_20 : rllt_20.toList = [⟨some 6, .assign (.const (.bool false)), 4, "law.go:92", #[], none⟩] := rfl
theorem ollt_13 : rllt_13.toList = [⟨some 56, .move (.tmp 8), 26, "law.go:95", #[], none⟩, ⟨some 57, .binOp .neq 26 (.tmp 56) (.const (.int .i64 0)) 26, 4, "law.go:95", #[eD 0], none⟩, ⟨some 58, .move (.tmp 57), 4, "law.go:95", #[eD 1], none⟩, ⟨some 59, .load 24 (.tmp 9), 24, "law.go:95", #[eGuard 2], some (2, false)⟩, ⟨some 60, .call { callee := .value (.func 7), args := #[.tmp 59], argTypes := #[24] }, 31, "law.go:95", #[eD 3, eC 2, eGuard 2], some (2, false)⟩, ⟨some 61, .move (.tmp 10), 31, "law.go:95", #[eGuard 2], some (2, false)⟩, ⟨some 62, .call { callee := .value (.func 6), args := #[.tmp 60, .tmp 61], argTypes := #[31, 31] }, 3, "law.go:95", #[eD 4, eD 5, eC 4, eGuard 2], some (2, false)⟩, ⟨some 63, .binOp .neq 3 (.tmp 62) (.const (.int .i64 0)) 3, 4, "law.go:95", #[eD 6, eGuard 2], some (2, false)⟩, ⟨some 64, .pick (.tmp 58) (.const (.bool true)) (.tmp 63), 4, "law.go:95", #[eD 2, eD 7], none⟩] := rfl
theorem ollt_14 : rllt_14.toList = [⟨some 6, .assign (.const (.bool false)), 4, "law.go:96", #[], none⟩] := rfl
theorem ollt_21 : rllt_21.toList = [⟨some 77, .load 24 (.tmp 4), 24, "law.go:99", #[], none⟩, ⟨some 78, .call { callee := .value (.func 11), args := #[.tmp 77], argTypes := #[24] }, 9, "law.go:99", #[eD 0], none⟩, ⟨some 79, .call { callee := .value (.func 5), args := #[.tmp 78], argTypes := #[9] }, 27, "law.go:99", #[eD 1, eC 1], none⟩, ⟨some 76, .move (.tmp 79), 27, "law.go:99", #[eD 2], none⟩, ⟨some 80, .extract (.tmp 76) 0, 24, "law.go:99", #[eD 3], none⟩, ⟨some 81, .extract (.tmp 76) 1, 26, "law.go:99", #[eD 3, { on := 7, ground := Ground.gcOnly Departure.lateStores }], none⟩, ⟨some 12, .alloc 24, 0, "law.go:99", #[], none⟩, ⟨none, .store 24 (.tmp 12) (.tmp 80), 0, "law.go:99", #[eD 6, eD 4, eC 2, eP 0, eP 1, eP 2, eP 3, eP 4, { on := 5, ground := Ground.textOnly Departure.lateStores }, eP 6], none⟩, ⟨some 13, .assign (.tmp 81), 26, "law.go:99", #[eD 5, eC 7, eP 0, eP 1, eP 2, eP 3, eP 4, eP 5, eP 6, eP 7], none⟩] := rfl
theorem ollt_22 : rllt_22.toList = [⟨some 83, .load 24 (.tmp 4), 24, "law.go:100", #[], none⟩, ⟨some 84, .call { callee := .value (.func 12), args := #[.tmp 83], argTypes := #[24] }, 9, "law.go:100", #[eD 0], none⟩, ⟨some 85, .call { callee := .value (.func 9), args := #[.tmp 84], argTypes := #[9] }, 27, "law.go:100", #[eD 1, eC 1], none⟩, ⟨some 82, .move (.tmp 85), 27, "law.go:100", #[eD 2], none⟩, ⟨some 86, .extract (.tmp 82) 0, 24, "law.go:100", #[eD 3], none⟩, ⟨some 87, .extract (.tmp 82) 1, 26, "law.go:100", #[eD 3, { on := 7, ground := Ground.gcOnly Departure.lateStores }], none⟩, ⟨some 14, .alloc 24, 0, "law.go:100", #[], none⟩, ⟨none, .store 24 (.tmp 14) (.tmp 86), 0, "law.go:100", #[eD 6, eD 4, eC 2, eP 0, eP 1, eP 2, eP 3, eP 4, { on := 5, ground := Ground.textOnly Departure.lateStores }, eP 6], none⟩, ⟨some 15, .assign (.tmp 87), 26, "law.go:100", #[eD 5, eC 7, eP 0, eP 1, eP 2, eP 3, eP 4, eP 5, eP 6, eP 7], none⟩] := rfl
theorem ollt_23 : rllt_23.toList = [⟨some 88, .load 24 (.tmp 4), 24, "law.go:101", #[], none⟩, ⟨some 89, .call { callee := .value (.func 11), args := #[.tmp 88], argTypes := #[24] }, 9, "law.go:101", #[eD 0], none⟩, ⟨some 90, .load 24 (.tmp 4), 24, "law.go:101", #[], none⟩, ⟨some 91, .call { callee := .value (.func 7), args := #[.tmp 90], argTypes := #[24] }, 31, "law.go:101", #[eD 2, eC 1], none⟩, ⟨some 92, .call { callee := .value (.func 13), args := #[.tmp 91, .const (.int .i64 64)], argTypes := #[31, 3] }, 9, "law.go:101", #[eD 3, eC 3], none⟩, ⟨some 93, .binOp .eql 9 (.tmp 89) (.tmp 92) 9, 4, "law.go:101", #[eD 1, eD 4], none⟩, ⟨some 94, .move (.tmp 93), 4, "law.go:101", #[eD 5, eC 4], none⟩, ⟨some 95, .move (.tmp 13), 26, "law.go:101", #[eGuard 6], some (6, true)⟩, ⟨some 96, .binOp .eql 26 (.tmp 95) (.const (.int .i64 0)) 26, 4, "law.go:101", #[eD 7, eGuard 6], some (6, true)⟩, ⟨some 97, .pick (.tmp 94) (.tmp 96) (.const (.bool false)), 4, "law.go:101", #[eD 6, eD 8], none⟩, ⟨some 98, .move (.tmp 97), 4, "law.go:101", #[eD 9, eC 6], none⟩, ⟨some 99, .load 24 (.tmp 12), 24, "law.go:101", #[eGuard 10], some (10, true)⟩, ⟨some 100, .load 24 (.tmp 4), 24, "law.go:101", #[eGuard 10], some (10, true)⟩, ⟨some 101, .binOp .eql 24 (.tmp 99) (.tmp 100) 24, 4, "law.go:101", #[eD 11, eD 12, eGuard 10], some (10, true)⟩, ⟨some 102, .pick (.tmp 98) (.tmp 101) (.const (.bool false)), 4, "law.go:101", #[eD 10, eD 13], none⟩, ⟨some 103, .move (.tmp 102), 4, "law.go:101", #[eD 14, eC 10], none⟩, ⟨some 104, .move (.tmp 15), 26, "law.go:101", #[eGuard 15], some (15, true)⟩, ⟨some 105, .binOp .eql 26 (.tmp 104) (.const (.int .i64 0)) 26, 4, "law.go:101", #[eD 16, eGuard 15], some (15, true)⟩, ⟨some 106, .pick (.tmp 103) (.tmp 105) (.const (.bool false)), 4, "law.go:101", #[eD 15, eD 17], none⟩, ⟨some 107, .move (.tmp 106), 4, "law.go:101", #[eD 18, eC 15], none⟩, ⟨some 108, .load 24 (.tmp 14), 24, "law.go:101", #[eGuard 19], some (19, true)⟩, ⟨some 109, .load 24 (.tmp 4), 24, "law.go:101", #[eGuard 19], some (19, true)⟩, ⟨some 110, .binOp .eql 24 (.tmp 108) (.tmp 109) 24, 4, "law.go:101", #[eD 20, eD 21, eGuard 19], some (19, true)⟩, ⟨some 111, .pick (.tmp 107) (.tmp 110) (.const (.bool false)), 4, "law.go:101", #[eD 19, eD 22], none⟩, ⟨some 112, .move (.tmp 111), 4, "law.go:101", #[eD 23, eC 19], none⟩, ⟨some 113, .move (.tmp 2), 22, "law.go:101", #[eGuard 24], some (24, true)⟩, ⟨some 114, .call { callee := .value (.func 14), args := #[.tmp 113], argTypes := #[22] }, 24, "law.go:101", #[eD 25, eC 24, eGuard 24], some (24, true)⟩, ⟨some 115, .move (.tmp 2), 22, "law.go:101", #[eGuard 24], some (24, true)⟩, ⟨some 116, .build 24 #[(0, .tmp 115)], 24, "law.go:101", #[eD 27, eGuard 24], some (24, true)⟩, ⟨some 117, .binOp .eql 24 (.tmp 114) (.tmp 116) 24, 4, "law.go:101", #[eD 26, eD 28, eGuard 24], some (24, true)⟩, ⟨some 118, .pick (.tmp 112) (.tmp 117) (.const (.bool false)), 4, "law.go:101", #[eD 24, eD 29], none⟩, ⟨some 6, .assign (.tmp 118), 4, "law.go:101", #[eD 30, eC 26, eP 0, eP 1, eP 2, eP 3, eP 4, eP 5, eP 6, eP 7, eP 8, eP 9, eP 10, eP 11, eP 12, eP 13, eP 14, eP 15, eP 16, eP 17, eP 18, eP 19, eP 20, eP 21, eP 22, eP 23, eP 24, eP 25, eP 26, eP 27, eP 28, eP 29, eP 30], none⟩] := rfl
end Go.Am.Seat
