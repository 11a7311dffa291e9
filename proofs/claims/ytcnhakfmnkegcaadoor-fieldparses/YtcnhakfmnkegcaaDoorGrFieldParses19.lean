import Derived.Test.YtcnhakfmnkegcaaDoorGrFieldParses18
set_option linter.unusedSimpArgs false
set_option linter.unusedVariables false
noncomputable section
set_option maxRecDepth 100000
namespace Go.Am.Seat
open Go.Proofs Go.Am
def rtkt_0:=opR Tryd.f85 [0]
def rtkt_1:=opR Tryd.f85 [1,0]
def rtkt_2:=opR Tryd.f85 [1,1,0,0]
def lptkt_0:Code:=match Tryd.f85.body with
 | some (.seq _ (.seq _ (.seq (.seq _ (.block _ (.loop c))) _)))=>c
 | _=>.skip
def rtkt_3:=opR Tryd.f85 [1,1,0,1,0,0,0]
def rtkt_4:=opR Tryd.f85 [1,1,0,1,0,0,1,1,0,0,0]
def rtkt_5:=opR Tryd.f85 [1,1,0,1,0,0,1,1,0,0,1,0]
def rtkt_6:=opR Tryd.f85 [1,1,0,1,0,0,1,1,0,0,1,1,0]
def rtkt_7:=opR Tryd.f85 [1,1,0,1,0,0,1,1,0,0,1,1,1]
def rtkt_8:=opR Tryd.f85 [1,1,0,1,0,0,1,1,1]
theorem lptkt_0_eq:lptkt_0=(.seq (.region 3 rtkt_3 false) (.seq (.cond (.tmp 15) .skip (.exit 0)) (.seq (.block 1 (.seq (.region 4 rtkt_4 false) (.seq (.region 5 rtkt_5 false) (.seq (.region 6 rtkt_6 false) (.region 7 rtkt_7 false))))) (.region 8 rtkt_8 false)))):=rfl
def rtkt_9:=opR Tryd.f85 [1,1,1,0]
def rtkt_10:=opR Tryd.f85 [1,1,1,1,0]
theorem bodytkt:Tryd.f85.body=some (.seq (.region 0 rtkt_0 false) (.seq (.region 1 rtkt_1 false) (.seq (.seq (.region 2 rtkt_2 false) (.block 0 (.loop lptkt_0))) (.seq (.region 9 rtkt_9 false) (.seq (.region 10 rtkt_10 false) .ret))))):=rfl
def rpbk_0:=opR Tryd.f86 [0]
def rpbk_1:=opR Tryd.f86 [1,0,0]
def lppbk_0:Code:=match Tryd.f86.body with
 | some (.seq _ (.seq (.seq _ (.block _ (.loop c))) _))=>c
 | _=>.skip
def rpbk_2:=opR Tryd.f86 [1,0,1,0,0,0]
def rpbk_3:=opR Tryd.f86 [1,0,1,0,0,1,1,0,0,0]
def rpbk_4:=opR Tryd.f86 [1,0,1,0,0,1,1,0,0,1]
def rpbk_5:=opR Tryd.f86 [1,0,1,0,0,1,1,1]
theorem lppbk_0_eq:lppbk_0=(.seq (.region 2 rpbk_2 false) (.seq (.cond (.tmp 10) .skip (.exit 0)) (.seq (.block 1 (.seq (.region 3 rpbk_3 false) (.region 4 rpbk_4 false))) (.region 5 rpbk_5 false)))):=rfl
def rpbk_6:=opR Tryd.f86 [1,1]
theorem bodypbk:Tryd.f86.body=some (.seq (.region 0 rpbk_0 false) (.seq (.seq (.region 1 rpbk_1 false) (.block 0 (.loop lppbk_0))) (.region 6 rpbk_6 false))):=rfl
def rdst_0:=opR Tryd.f68 [0]
def rdst_1:=opR Tryd.f68 [1,0]
def rdst_2:=opR Tryd.f68 [1,1,0]
theorem ddst_2 {self:Self} {B:Nat} {T:List Value} {m:Mem} {lb:List (Nat×Nat)} {ls:Bool}:adrawN E self rdst_2 B rdst_2.toList 0 T m lb ls=adrawT E self rdst_2 B rdst_2.toList [(false,false),(false,false),(false,false),(false,false),(false,false),(false,false),(false,false),(false,false),(false,false),(false,false),(false,false),(false,false),(false,false),(false,false),(false,false),(false,false),(false,false),(false,false),(false,false),(false,false),(false,false),(false,false),(false,false),(false,false),(false,false),(false,false)] 0 T m lb ls:=adraw_tab (by kernel_rfl)
theorem sdst_2:E.sr 2 rdst_2=false:=by kernel_rfl
def rdst_3:=opR Tryd.f68 [1,1,1,0,0]
def rdst_4:=opR Tryd.f68 [1,1,1,0,1,0,0]
def rdst_5:=opR Tryd.f68 [1,1,1,0,1,0,1]
def rdst_6:=opR Tryd.f68 [1,1,1,1,0]
theorem bodydst:Tryd.f68.body=some (.seq (.region 0 rdst_0 false) (.seq (.region 1 rdst_1 false) (.seq (.region 2 rdst_2 true) (.seq (.seq (.region 3 rdst_3 false) (.cond (.tmp 37) (.seq (.region 4 rdst_4 false) (.region 5 rdst_5 false)) .skip)) (.seq (.region 6 rdst_6 false) .ret))))):=rfl
def rwcmp_0:=opR Tryd.f18 [0]
def rwcmp_1:=opR Tryd.f18 [1,0,0]
def lpwcmp_0:Code:=match Tryd.f18.body with
 | some (.seq _ (.seq (.seq _ (.block _ (.loop c))) _))=>c
 | _=>.skip
def rwcmp_2:=opR Tryd.f18 [1,0,1,0,0,0,0]
def rwcmp_4:=opR Tryd.f18 [1,0,1,0,0,1,0,0,0,0]
theorem dwcmp_4 {self:Self} {B:Nat} {T:List Value} {m:Mem} {lb:List (Nat×Nat)} {ls:Bool}:adrawN E self rwcmp_4 B rwcmp_4.toList 0 T m lb ls=adrawT E self rwcmp_4 B rwcmp_4.toList [(false,false),(false,false),(false,false),(false,false),(false,false),(false,false),(false,false)] 0 T m lb ls:=adraw_tab (by kernel_rfl)
theorem swcmp_4:E.sr 4 rwcmp_4=false:=by kernel_rfl
def rwcmp_5:=opR Tryd.f18 [1,0,1,0,0,1,0,0,0,1,0,0]
def rwcmp_6:=opR Tryd.f18 [1,0,1,0,0,1,0,0,1,0]
theorem dwcmp_6 {self:Self} {B:Nat} {T:List Value} {m:Mem} {lb:List (Nat×Nat)} {ls:Bool}:adrawN E self rwcmp_6 B rwcmp_6.toList 0 T m lb ls=adrawT E self rwcmp_6 B rwcmp_6.toList [(false,false),(false,false),(false,false),(false,false),(false,false),(false,false),(false,false)] 0 T m lb ls:=adraw_tab (by kernel_rfl)
theorem swcmp_6:E.sr 6 rwcmp_6=false:=by kernel_rfl
def rwcmp_7:=opR Tryd.f18 [1,0,1,0,0,1,0,0,1,1,0,0]
def rwcmp_3:=opR Tryd.f18 [1,0,1,0,0,1,1]
theorem lpwcmp_0_eq:lpwcmp_0=(.seq (.seq (.region 2 rwcmp_2 false) (.cond (.tmp 7) .skip (.exit 0))) (.seq (.block 1 (.seq (.seq (.region 4 rwcmp_4 true) (.cond (.tmp 16) (.seq (.region 5 rwcmp_5 false) .ret) .skip)) (.seq (.region 6 rwcmp_6 true) (.cond (.tmp 23) (.seq (.region 7 rwcmp_7 false) .ret) .skip)))) (.region 3 rwcmp_3 false))):=rfl
def rwcmp_8:=opR Tryd.f18 [1,1,0]
theorem bodywcmp:Tryd.f18.body=some (.seq (.region 0 rwcmp_0 false) (.seq (.seq (.region 1 rwcmp_1 false) (.block 0 (.loop lpwcmp_0))) (.seq (.region 8 rwcmp_8 false) .ret))):=rfl
def rwus_0:=opR Tryd.f43 [0]
def rwus_1:=opR Tryd.f43 [1,0]
def lpwus_0:Code:=match Tryd.f43.body with
 | some (.seq _ (.seq _ (.seq (.block _ (.loop c)) _)))=>c
 | _=>.skip
def rwus_2:=opR Tryd.f43 [1,1,0,0,0,0,0]
theorem gwus_2_2 {T:List Value} {dd:Option Tmp} {op:Op} {ty:TypeId} {pos:String} {af:Array Edge} {want:Bool}:agd rwus_2 T { dst:=dd,op:=op,type:=ty,pos:=pos,after:=af,guard:=some (2,want) }=gdAt T 6 want:=agd_at (by kernel_rfl)
def rwus_3:=opR Tryd.f43 [1,1,0,0,0,1,0]
theorem lpwus_0_eq:lpwus_0=(.seq (.seq (.region 2 rwus_2 false) (.cond (.tmp 12) .skip (.exit 0))) (.block 1 (.region 3 rwus_3 false))):=rfl
def rwus_4:=opR Tryd.f43 [1,1,1,0]
theorem bodywus:Tryd.f43.body=some (.seq (.region 0 rwus_0 false) (.seq (.region 1 rwus_1 false) (.seq (.block 0 (.loop lpwus_0)) (.seq (.region 4 rwus_4 false) .ret)))):=rfl
def rspr_0:=opR Tryd.f67 [0]
def rspr_1:=opR Tryd.f67 [1,0]
def rspr_2:=opR Tryd.f67 [1,1,0]
def rspr_3:=opR Tryd.f67 [1,1,1,0]
theorem dspr_3 {self:Self} {B:Nat} {T:List Value} {m:Mem} {lb:List (Nat×Nat)} {ls:Bool}:adrawN E self rspr_3 B rspr_3.toList 0 T m lb ls=adrawT E self rspr_3 B rspr_3.toList [(false,false),(false,false),(false,false)] 0 T m lb ls:=adraw_tab (by kernel_rfl)
theorem sspr_3:E.sr 3 rspr_3=false:=by kernel_rfl
def rspr_4:=opR Tryd.f67 [1,1,1,1,0]
def rspr_5:=opR Tryd.f67 [1,1,1,1,1,0]
theorem bodyspr:Tryd.f67.body=some (.seq (.region 0 rspr_0 false) (.seq (.region 1 rspr_1 false) (.seq (.region 2 rspr_2 false) (.seq (.region 3 rspr_3 true) (.seq (.region 4 rspr_4 false) (.seq (.region 5 rspr_5 false) .ret)))))):=rfl
def rdw_0:=opR Tryd.f46 [0]
def rdw_1:=opR Tryd.f46 [1,0]
def rdw_2:=opR Tryd.f46 [1,1,0]
def rdw_3:=opR Tryd.f46 [1,1,1,0,0]
def lpdw_0:Code:=match Tryd.f46.body with
 | some (.seq _ (.seq _ (.seq _ (.seq (.seq _ (.block _ (.loop c))) _))))=>c
 | _=>.skip
def rdw_4:=opR Tryd.f46 [1,1,1,0,1,0,0,0,0]
def rdw_6:=opR Tryd.f46 [1,1,1,0,1,0,0,1,0,0]
def rdw_5:=opR Tryd.f46 [1,1,1,0,1,0,0,1,1]
theorem lpdw_0_eq:lpdw_0=(.seq (.seq (.region 4 rdw_4 false) (.cond (.tmp 10) .skip (.exit 0))) (.seq (.block 1 (.region 6 rdw_6 false)) (.region 5 rdw_5 false))):=rfl
def rdw_7:=opR Tryd.f46 [1,1,1,1,0]
theorem bodydw:Tryd.f46.body=some (.seq (.region 0 rdw_0 false) (.seq (.region 1 rdw_1 false) (.seq (.region 2 rdw_2 false) (.seq (.seq (.region 3 rdw_3 false) (.block 0 (.loop lpdw_0))) (.seq (.region 7 rdw_7 false) .ret))))):=rfl
def rdlg_0:=opR Tryd.f47 [0]
def rdlg_1:=opR Tryd.f47 [1,0]
def rdlg_2:=opR Tryd.f47 [1,1,0]
def rdlg_3:=opR Tryd.f47 [1,1,1,0]
def rdlg_4:=opR Tryd.f47 [1,1,1,1,0]
def rdlg_5:=opR Tryd.f47 [1,1,1,1,1,0]
def rdlg_6:=opR Tryd.f47 [1,1,1,1,1,1,0,0]
def lpdlg_0:Code:=match Tryd.f47.body with
 | some (.seq _ (.seq _ (.seq _ (.seq _ (.seq _ (.seq _ (.seq (.seq _ (.block _ (.loop c))) _)))))))=>c
 | _=>.skip
def rdlg_7:=opR Tryd.f47 [1,1,1,1,1,1,0,1,0,0,0,0]
def rdlg_9:=opR Tryd.f47 [1,1,1,1,1,1,0,1,0,0,1,0,0]
theorem ddlg_9 {self:Self} {B:Nat} {T:List Value} {m:Mem} {lb:List (Nat×Nat)} {ls:Bool}:adrawN E self rdlg_9 B rdlg_9.toList 0 T m lb ls=adrawT E self rdlg_9 B rdlg_9.toList [(false,false),(false,false),(false,false),(false,false),(false,false),(false,false),(false,false),(false,false),(false,false),(false,false),(false,false),(false,false)] 0 T m lb ls:=adraw_tab (by kernel_rfl)
theorem sdlg_9:E.sr 9 rdlg_9=false:=by kernel_rfl
def rdlg_8:=opR Tryd.f47 [1,1,1,1,1,1,0,1,0,0,1,1]
theorem lpdlg_0_eq:lpdlg_0=(.seq (.seq (.region 7 rdlg_7 false) (.cond (.tmp 28) .skip (.exit 0))) (.seq (.block 1 (.region 9 rdlg_9 true)) (.region 8 rdlg_8 false))):=rfl
def rdlg_10:=opR Tryd.f47 [1,1,1,1,1,1,1,0]
def rdlg_11:=opR Tryd.f47 [1,1,1,1,1,1,1,1,0]
theorem ddlg_11 {self:Self} {B:Nat} {T:List Value} {m:Mem} {lb:List (Nat×Nat)} {ls:Bool}:adrawN E self rdlg_11 B rdlg_11.toList 0 T m lb ls=adrawT E self rdlg_11 B rdlg_11.toList [(false,false),(false,false),(false,false)] 0 T m lb ls:=adraw_tab (by kernel_rfl)
theorem sdlg_11:E.sr 11 rdlg_11=false:=by kernel_rfl
def rdlg_12:=opR Tryd.f47 [1,1,1,1,1,1,1,1,1,0]
theorem ddlg_12 {self:Self} {B:Nat} {T:List Value} {m:Mem} {lb:List (Nat×Nat)} {ls:Bool}:adrawN E self rdlg_12 B rdlg_12.toList 0 T m lb ls=adrawT E self rdlg_12 B rdlg_12.toList [(false,false),(false,false),(false,false),(false,false),(false,false),(false,false)] 0 T m lb ls:=adraw_tab (by kernel_rfl)
theorem sdlg_12:E.sr 12 rdlg_12=false:=by kernel_rfl
theorem bodydlg:Tryd.f47.body=some (.seq (.region 0 rdlg_0 false) (.seq (.region 1 rdlg_1 false) (.seq (.region 2 rdlg_2 false) (.seq (.region 3 rdlg_3 false) (.seq (.region 4 rdlg_4 false) (.seq (.region 5 rdlg_5 false) (.seq (.seq (.region 6 rdlg_6 false) (.block 0 (.loop lpdlg_0))) (.seq (.region 10 rdlg_10 false) (.seq (.region 11 rdlg_11 true) (.seq (.region 12 rdlg_12 true) .ret)))))))))):=rfl
def rdv_0:=opR Tryd.f21 [0]
def rdv_1:=opR Tryd.f21 [1,0,0]
def rdv_2:=opR Tryd.f21 [1,0,1,0,0]
def rdv_3:=opR Tryd.f21 [1,1,0,0]
def rdv_4:=opR Tryd.f21 [1,1,0,1,0,0]
theorem ddv_4 {self:Self} {B:Nat} {T:List Value} {m:Mem} {lb:List (Nat×Nat)} {ls:Bool}:adrawN E self rdv_4 B rdv_4.toList 0 T m lb ls=adrawT E self rdv_4 B rdv_4.toList [(false,false),(false,true),(false,false),(false,false),(false,false)] 0 T m lb ls:=adraw_tab (by kernel_rfl)
theorem sdv_4:E.sr 4 rdv_4=false:=by kernel_rfl
def rdv_5:=opR Tryd.f21 [1,1,1,0,0]
def rdv_6:=opR Tryd.f21 [1,1,1,0,1,0,0]
def rdv_7:=opR Tryd.f21 [1,1,1,0,1,0,1,0]
theorem ddv_7 {self:Self} {B:Nat} {T:List Value} {m:Mem} {lb:List (Nat×Nat)} {ls:Bool}:adrawN E self rdv_7 B rdv_7.toList 0 T m lb ls=adrawT E self rdv_7 B rdv_7.toList [(false,false),(false,false),(false,false),(false,false),(false,false),(false,false)] 0 T m lb ls:=adraw_tab (by kernel_rfl)
theorem sdv_7:E.sr 7 rdv_7=false:=by kernel_rfl
def rdv_8:=opR Tryd.f21 [1,1,1,1,0]
def rdv_9:=opR Tryd.f21 [1,1,1,1,1,0]
theorem ddv_9 {self:Self} {B:Nat} {T:List Value} {m:Mem} {lb:List (Nat×Nat)} {ls:Bool}:adrawN E self rdv_9 B rdv_9.toList 0 T m lb ls=adrawT E self rdv_9 B rdv_9.toList [(false,false),(false,true),(false,false),(false,false),(false,false)] 0 T m lb ls:=adraw_tab (by kernel_rfl)
theorem sdv_9:E.sr 9 rdv_9=false:=by kernel_rfl
theorem bodydv:Tryd.f21.body=some (.seq (.region 0 rdv_0 false) (.seq (.seq (.region 1 rdv_1 false) (.cond (.tmp 13) (.seq (.region 2 rdv_2 false) .ret) .skip)) (.seq (.seq (.region 3 rdv_3 false) (.cond (.tmp 19) (.seq (.region 4 rdv_4 true) .ret) .skip)) (.seq (.seq (.region 5 rdv_5 false) (.cond (.tmp 24) (.seq (.region 6 rdv_6 false) (.seq (.region 7 rdv_7 true) .ret)) .skip)) (.seq (.region 8 rdv_8 false) (.seq (.region 9 rdv_9 true) .ret)))))):=rfl
theorem otkt_0:rtkt_0.toList=[⟨some 6,.assign (.const (.bool false)),4,"reckon.go:162",#[],none⟩]:=rfl
theorem otkt_1:rtkt_1.toList=[⟨some 7,.assign (.const (.int .u64 0)),22,"reckon.go:163",#[],none⟩,⟨some 8,.assign (.const (.int .u64 0)),22,"reckon.go:163",#[eC 0],none⟩]:=rfl
theorem otkt_2:rtkt_2.toList=[⟨some 12,.move (.tmp 1),94,"reckon.go:164",#[],none⟩,⟨some 13,.call { callee:=.builtin .len,args:=#[.tmp 12],argTypes:=#[94] },3,"reckon.go:164",#[eD 0],none⟩,⟨some 14,.move (.const (.int .i64 0)),3,"reckon.go:164",#[],none⟩]:=rfl
theorem otkt_3:rtkt_3.toList=[⟨some 15,.binOp .lss 3 (.tmp 14) (.tmp 13) 3,0,"reckon.go:164",#[],none⟩]:=rfl
theorem otkt_4:rtkt_4.toList=[⟨some 16,.move (.tmp 14),3,"reckon.go:164",#[],none⟩,⟨some 17,.indexAddr 94 (.tmp 12) (.tmp 14),0,"reckon.go:164",#[],none⟩,⟨some 18,.load 22 (.tmp 17),22,"reckon.go:164",#[eD 1],none⟩,⟨some 9,.assign (.tmp 16),3,"reckon.go:164",#[eD 0,eP 0,eP 1,eP 2],none⟩,⟨some 10,.assign (.tmp 18),22,"reckon.go:164",#[eD 2,eC 3,eP 0,eP 1,eP 2,eP 3],none⟩]:=rfl
theorem otkt_5:rtkt_5.toList=[⟨some 11,.assign (.const (.int .u64 0)),22,"reckon.go:165",#[],none⟩]:=rfl
theorem otkt_6:rtkt_6.toList=[⟨some 20,.move (.tmp 10),22,"reckon.go:166",#[],none⟩,⟨some 21,.move (.tmp 2),22,"reckon.go:166",#[],none⟩,⟨some 22,.move (.tmp 7),22,"reckon.go:166",#[],none⟩,⟨some 23,.call { callee:=.value (.func 63),args:=#[.tmp 20,.tmp 21,.const (.int .u64 0),.tmp 22],argTypes:=#[22,22,22,22] },87,"reckon.go:166",#[eD 0,eD 1,eD 2],none⟩,⟨some 19,.move (.tmp 23),87,"reckon.go:166",#[eD 3],none⟩,⟨some 24,.extract (.tmp 19) 0,22,"reckon.go:166",#[eD 4],none⟩,⟨some 25,.extract (.tmp 19) 1,22,"reckon.go:166",#[eD 4,{ on:=7,ground:=Ground.gcOnly Departure.lateStores }],none⟩,⟨some 11,.assign (.tmp 24),22,"reckon.go:166",#[eD 5,eC 3,eP 0,eP 1,eP 2,eP 3,eP 4,eP 5,{ on:=6,ground:=Ground.textOnly Departure.lateStores }],none⟩,⟨some 7,.assign (.tmp 25),22,"reckon.go:166",#[eD 6,eC 7,eP 0,eP 1,eP 2,eP 3,eP 4,eP 5,eP 6,eP 7],none⟩]:=rfl
theorem otkt_7:rtkt_7.toList=[⟨some 27,.move (.tmp 0),94,"reckon.go:167",#[],none⟩,⟨some 28,.move (.tmp 9),3,"reckon.go:167",#[],none⟩,⟨some 29,.move (.tmp 0),94,"reckon.go:167",#[],none⟩,⟨some 30,.move (.tmp 9),3,"reckon.go:167",#[],none⟩,⟨some 31,.indexAddr 94 (.tmp 29) (.tmp 30),0,"reckon.go:167",#[eD 2,eD 3],none⟩,⟨some 32,.load 22 (.tmp 31),22,"reckon.go:167",#[eD 4],none⟩,⟨some 33,.move (.tmp 11),22,"reckon.go:167",#[],none⟩,⟨some 34,.move (.tmp 8),22,"reckon.go:167",#[],none⟩,⟨some 35,.call { callee:=.value (.func 62),args:=#[.tmp 32,.tmp 33,.tmp 34],argTypes:=#[22,22,22] },87,"reckon.go:167",#[eD 5,eD 6,eD 7],none⟩,⟨some 26,.move (.tmp 35),87,"reckon.go:167",#[eD 8],none⟩,⟨some 36,.extract (.tmp 26) 0,22,"reckon.go:167",#[eD 9],none⟩,⟨some 37,.extract (.tmp 26) 1,22,"reckon.go:167",#[eD 9,{ on:=13,ground:=Ground.gcOnly Departure.lateStores }],none⟩,⟨some 38,.indexAddr 94 (.tmp 27) (.tmp 28),0,"reckon.go:167",#[eD 0,eD 1,eP 0,eP 1,eP 2,eP 3,eP 4,eP 5,eP 6,eP 7,eP 8,eP 9,eP 10,{ on:=11,ground:=Ground.textOnly Departure.lateStores }],none⟩,⟨none,.store 22 (.tmp 38) (.tmp 36),0,"reckon.go:167",#[eD 12,eD 10,eC 8,eP 0,eP 1,eP 2,eP 3,eP 4,eP 5,eP 6,eP 7,eP 8,eP 9,eP 10,{ on:=11,ground:=Ground.textOnly Departure.lateStores }],none⟩,⟨some 8,.assign (.tmp 37),22,"reckon.go:167",#[eD 11,eC 13,eP 0,eP 1,eP 2,eP 3,eP 4,eP 5,eP 6,eP 7,eP 8,eP 9,eP 10,eP 11,eP 12,eP 13],none⟩]:=rfl
theorem otkt_8:rtkt_8.toList=[⟨some 39,.binOp .add 3 (.tmp 14) (.const (.int .i64 1)) 3,3,"reckon.go:164",#[],none⟩,⟨some 14,.move (.tmp 39),3,"reckon.go:164",#[eD 0],none⟩]:=rfl
theorem otkt_9:rtkt_9.toList=[⟨some 41,.move (.tmp 0),94,"reckon.go:169",#[],none⟩,⟨some 42,.move (.tmp 1),94,"reckon.go:169",#[],none⟩,⟨some 43,.call { callee:=.builtin .len,args:=#[.tmp 42],argTypes:=#[94] },3,"reckon.go:169",#[eD 1],none⟩,⟨some 44,.move (.tmp 0),94,"reckon.go:169",#[],none⟩,⟨some 45,.move (.tmp 1),94,"reckon.go:169",#[],none⟩,⟨some 46,.call { callee:=.builtin .len,args:=#[.tmp 45],argTypes:=#[94] },3,"reckon.go:169",#[eD 4],none⟩,⟨some 47,.indexAddr 94 (.tmp 44) (.tmp 46),0,"reckon.go:169",#[eD 3,eD 5],none⟩,⟨some 48,.load 22 (.tmp 47),22,"reckon.go:169",#[eD 6],none⟩,⟨some 49,.move (.tmp 7),22,"reckon.go:169",#[],none⟩,⟨some 50,.move (.tmp 8),22,"reckon.go:169",#[],none⟩,⟨some 51,.call { callee:=.value (.func 62),args:=#[.tmp 48,.tmp 49,.tmp 50],argTypes:=#[22,22,22] },87,"reckon.go:169",#[eD 7,eD 8,eD 9],none⟩,⟨some 40,.move (.tmp 51),87,"reckon.go:169",#[eD 10],none⟩,⟨some 52,.extract (.tmp 40) 0,22,"reckon.go:169",#[eD 11],none⟩,⟨some 53,.extract (.tmp 40) 1,22,"reckon.go:169",#[eD 11,{ on:=15,ground:=Ground.gcOnly Departure.lateStores }],none⟩,⟨some 54,.indexAddr 94 (.tmp 41) (.tmp 43),0,"reckon.go:169",#[eD 0,eD 2,eP 0,eP 1,eP 2,eP 3,eP 4,eP 5,eP 6,eP 7,eP 8,eP 9,eP 10,eP 11,eP 12,{ on:=13,ground:=Ground.textOnly Departure.lateStores }],none⟩,⟨none,.store 22 (.tmp 54) (.tmp 52),0,"reckon.go:169",#[eD 14,eD 12,eC 10,eP 0,eP 1,eP 2,eP 3,eP 4,eP 5,eP 6,eP 7,eP 8,eP 9,eP 10,eP 11,eP 12,{ on:=13,ground:=Ground.textOnly Departure.lateStores }],none⟩,⟨some 8,.assign (.tmp 53),22,"reckon.go:169",#[eD 13,eC 15,eP 0,eP 1,eP 2,eP 3,eP 4,eP 5,eP 6,eP 7,eP 8,eP 9,eP 10,eP 11,eP 12,eP 13,eP 14,eP 15],none⟩]:=rfl
theorem otkt_10:rtkt_10.toList=[⟨some 55,.move (.tmp 8),22,"reckon.go:170",#[],none⟩,⟨some 56,.binOp .neq 22 (.tmp 55) (.const (.int .u64 0)) 22,4,"reckon.go:170",#[eD 0],none⟩,⟨some 6,.assign (.tmp 56),4,"reckon.go:170",#[eD 1,eP 0,eP 1],none⟩]:=rfl
theorem opbk_0:rpbk_0.toList=[⟨some 4,.assign (.const (.int .u64 0)),22,"reckon.go:175",#[],none⟩]:=rfl
theorem opbk_1:rpbk_1.toList=[⟨some 7,.move (.tmp 1),94,"reckon.go:176",#[],none⟩,⟨some 8,.call { callee:=.builtin .len,args:=#[.tmp 7],argTypes:=#[94] },3,"reckon.go:176",#[eD 0],none⟩,⟨some 9,.move (.const (.int .i64 0)),3,"reckon.go:176",#[],none⟩]:=rfl
theorem opbk_2:rpbk_2.toList=[⟨some 10,.binOp .lss 3 (.tmp 9) (.tmp 8) 3,0,"reckon.go:176",#[],none⟩]:=rfl
theorem opbk_3:rpbk_3.toList=[⟨some 11,.move (.tmp 9),3,"reckon.go:176",#[],none⟩,⟨some 12,.indexAddr 94 (.tmp 7) (.tmp 9),0,"reckon.go:176",#[],none⟩,⟨some 13,.load 22 (.tmp 12),22,"reckon.go:176",#[eD 1],none⟩,⟨some 5,.assign (.tmp 11),3,"reckon.go:176",#[eD 0,eP 0,eP 1,eP 2],none⟩,⟨some 6,.assign (.tmp 13),22,"reckon.go:176",#[eD 2,eC 3,eP 0,eP 1,eP 2,eP 3],none⟩]:=rfl
theorem opbk_4:rpbk_4.toList=[⟨some 15,.move (.tmp 0),94,"reckon.go:177",#[],none⟩,⟨some 16,.move (.tmp 5),3,"reckon.go:177",#[],none⟩,⟨some 17,.move (.tmp 0),94,"reckon.go:177",#[],none⟩,⟨some 18,.move (.tmp 5),3,"reckon.go:177",#[],none⟩,⟨some 19,.indexAddr 94 (.tmp 17) (.tmp 18),0,"reckon.go:177",#[eD 2,eD 3],none⟩,⟨some 20,.load 22 (.tmp 19),22,"reckon.go:177",#[eD 4],none⟩,⟨some 21,.move (.tmp 6),22,"reckon.go:177",#[],none⟩,⟨some 22,.move (.tmp 4),22,"reckon.go:177",#[],none⟩,⟨some 23,.call { callee:=.value (.func 61),args:=#[.tmp 20,.tmp 21,.tmp 22],argTypes:=#[22,22,22] },87,"reckon.go:177",#[eD 5,eD 6,eD 7],none⟩,⟨some 14,.move (.tmp 23),87,"reckon.go:177",#[eD 8],none⟩,⟨some 24,.extract (.tmp 14) 0,22,"reckon.go:177",#[eD 9],none⟩,⟨some 25,.extract (.tmp 14) 1,22,"reckon.go:177",#[eD 9,{ on:=13,ground:=Ground.gcOnly Departure.lateStores }],none⟩,⟨some 26,.indexAddr 94 (.tmp 15) (.tmp 16),0,"reckon.go:177",#[eD 0,eD 1,eP 0,eP 1,eP 2,eP 3,eP 4,eP 5,eP 6,eP 7,eP 8,eP 9,eP 10,{ on:=11,ground:=Ground.textOnly Departure.lateStores }],none⟩,⟨none,.store 22 (.tmp 26) (.tmp 24),0,"reckon.go:177",#[eD 12,eD 10,eC 8,eP 0,eP 1,eP 2,eP 3,eP 4,eP 5,eP 6,eP 7,eP 8,eP 9,eP 10,{ on:=11,ground:=Ground.textOnly Departure.lateStores }],none⟩,⟨some 4,.assign (.tmp 25),22,"reckon.go:177",#[eD 11,eC 13,eP 0,eP 1,eP 2,eP 3,eP 4,eP 5,eP 6,eP 7,eP 8,eP 9,eP 10,eP 11,eP 12,eP 13],none⟩]:=rfl
theorem opbk_5:rpbk_5.toList=[⟨some 27,.binOp .add 3 (.tmp 9) (.const (.int .i64 1)) 3,3,"reckon.go:176",#[],none⟩,⟨some 9,.move (.tmp 27),3,"reckon.go:176",#[eD 0],none⟩]:=rfl
theorem opbk_6:rpbk_6.toList=[⟨some 28,.move (.tmp 0),94,"reckon.go:179",#[],none⟩,⟨some 29,.move (.tmp 1),94,"reckon.go:179",#[],none⟩,⟨some 30,.call { callee:=.builtin .len,args:=#[.tmp 29],argTypes:=#[94] },3,"reckon.go:179",#[eD 1],none⟩,⟨some 31,.indexAddr 94 (.tmp 28) (.tmp 30),0,"reckon.go:179",#[eD 0,eD 2],none⟩,⟨some 32,.load 22 (.tmp 31),22,"reckon.go:179",#[eD 3],none⟩,⟨some 33,.move (.tmp 4),22,"reckon.go:179",#[],none⟩,⟨some 34,.binOp .add 22 (.tmp 32) (.tmp 33) 22,22,"reckon.go:179",#[eD 4,eD 5],none⟩,⟨some 35,.indexAddr 94 (.tmp 28) (.tmp 30),0,"reckon.go:179",#[eD 0,eD 2,eP 0,eP 1,eP 2,eP 3,eP 4,eP 5,eP 6],none⟩,⟨none,.store 22 (.tmp 35) (.tmp 34),0,"reckon.go:179",#[eD 7,eD 6,eP 0,eP 1,eP 2,eP 3,eP 4,eP 5,eP 6],none⟩]:=rfl
theorem odst_0:rdst_0.toList=[⟨some 4,.assign (.const (.int .u64 0)),22,"reckon.go:131",#[],none⟩]:=rfl
theorem odst_1:rdst_1.toList=[⟨some 7,.move (.tmp 1),94,"reckon.go:132",#[],none⟩,⟨some 8,.call { callee:=.builtin .len,args:=#[.tmp 7],argTypes:=#[94] },3,"reckon.go:132",#[eD 0],none⟩,⟨some 5,.assign (.tmp 8),3,"reckon.go:132",#[eD 1,eP 0,eP 1],none⟩]:=rfl
theorem odst_2:rdst_2.toList=[⟨some 9,.move (.tmp 0),94,"reckon.go:133",#[],none⟩,⟨some 10,.move (.tmp 5),3,"reckon.go:133",#[],none⟩,⟨some 11,.indexAddr 94 (.tmp 9) (.tmp 10),0,"reckon.go:133",#[eD 0,eD 1],none⟩,⟨some 12,.load 22 (.tmp 11),22,"reckon.go:133",#[eD 2],none⟩,⟨some 13,.move (.tmp 0),94,"reckon.go:133",#[],none⟩,⟨some 14,.move (.tmp 5),3,"reckon.go:133",#[],none⟩,⟨some 15,.binOp .sub 3 (.tmp 14) (.const (.int .i64 1)) 3,3,"reckon.go:133",#[eD 5],none⟩,⟨some 16,.indexAddr 94 (.tmp 13) (.tmp 15),0,"reckon.go:133",#[eD 4,eD 6],none⟩,⟨some 17,.load 22 (.tmp 16),22,"reckon.go:133",#[eD 7],none⟩,⟨some 18,.move (.tmp 0),94,"reckon.go:133",#[],none⟩,⟨some 19,.move (.tmp 5),3,"reckon.go:133",#[],none⟩,⟨some 20,.binOp .sub 3 (.tmp 19) (.const (.int .i64 2)) 3,3,"reckon.go:133",#[eD 10],none⟩,⟨some 21,.indexAddr 94 (.tmp 18) (.tmp 20),0,"reckon.go:133",#[eD 9,eD 11],none⟩,⟨some 22,.load 22 (.tmp 21),22,"reckon.go:133",#[eD 12],none⟩,⟨some 23,.move (.tmp 1),94,"reckon.go:133",#[],none⟩,⟨some 24,.move (.tmp 5),3,"reckon.go:133",#[],none⟩,⟨some 25,.binOp .sub 3 (.tmp 24) (.const (.int .i64 1)) 3,3,"reckon.go:133",#[eD 15],none⟩,⟨some 26,.indexAddr 94 (.tmp 23) (.tmp 25),0,"reckon.go:133",#[eD 14,eD 16],none⟩,⟨some 27,.load 22 (.tmp 26),22,"reckon.go:133",#[eD 17],none⟩,⟨some 28,.move (.tmp 1),94,"reckon.go:133",#[],none⟩,⟨some 29,.move (.tmp 5),3,"reckon.go:133",#[],none⟩,⟨some 30,.binOp .sub 3 (.tmp 29) (.const (.int .i64 2)) 3,3,"reckon.go:133",#[eD 20],none⟩,⟨some 31,.indexAddr 94 (.tmp 28) (.tmp 30),0,"reckon.go:133",#[eD 19,eD 21],none⟩,⟨some 32,.load 22 (.tmp 31),22,"reckon.go:133",#[eD 22],none⟩,⟨some 33,.call { callee:=.value (.func 84),args:=#[.tmp 12,.tmp 17,.tmp 22,.tmp 27,.tmp 32],argTypes:=#[22,22,22,22,22] },22,"reckon.go:133",#[eD 3,eD 8,eD 13,eD 18,eD 23],none⟩,⟨some 6,.assign (.tmp 33),22,"reckon.go:133",#[eD 24,eC 24,eP 0,eP 1,eP 2,eP 3,eP 4,eP 5,eP 6,eP 7,eP 8,eP 9,eP 10,eP 11,eP 12,eP 13,eP 14,eP 15,eP 16,eP 17,eP 18,eP 19,eP 20,eP 21,eP 22,eP 23,eP 24],none⟩]:=rfl
theorem odst_3:rdst_3.toList=[⟨some 34,.move (.tmp 0),94,"reckon.go:134",#[],none⟩,⟨some 35,.move (.tmp 1),94,"reckon.go:134",#[],none⟩,⟨some 36,.move (.tmp 6),22,"reckon.go:134",#[],none⟩,⟨some 37,.call { callee:=.value (.func 85),args:=#[.tmp 34,.tmp 35,.tmp 36],argTypes:=#[94,94,22] },4,"reckon.go:134",#[eD 0,eD 1,eD 2],none⟩]:=rfl
theorem odst_4:rdst_4.toList=[⟨some 38,.move (.tmp 6),22,"reckon.go:135",#[],none⟩,⟨some 39,.binOp .sub 22 (.tmp 38) (.const (.int .u64 1)) 22,22,"reckon.go:135",#[eD 0],none⟩,⟨some 6,.assign (.tmp 39),22,"reckon.go:135",#[eD 1,eP 0,eP 1],none⟩]:=rfl
theorem odst_5:rdst_5.toList=[⟨some 40,.move (.tmp 0),94,"reckon.go:136",#[],none⟩,⟨some 41,.move (.tmp 1),94,"reckon.go:136",#[],none⟩,⟨some 42,.call { callee:=.value (.func 86),args:=#[.tmp 40,.tmp 41],argTypes:=#[94,94] },0,"reckon.go:136",#[eD 0,eD 1],none⟩]:=rfl
theorem odst_6:rdst_6.toList=[⟨some 43,.move (.tmp 6),22,"reckon.go:138",#[],none⟩,⟨some 4,.assign (.tmp 43),22,"reckon.go:138",#[eD 0,eP 0],none⟩]:=rfl
theorem owcmp_0:rwcmp_0.toList=[⟨some 2,.box 24 (.tmp 0),0,"limb.go:97",#[],none⟩,⟨some 3,.box 24 (.tmp 1),0,"limb.go:97",#[],none⟩,⟨some 4,.assign (.const (.int .i64 0)),3,"limb.go:97",#[],none⟩]:=rfl
theorem owcmp_1:rwcmp_1.toList=[⟨some 5,.assign (.const (.int .i64 7)),3,"limb.go:98",#[],none⟩]:=rfl
theorem owcmp_2:rwcmp_2.toList=[⟨some 6,.move (.tmp 5),3,"limb.go:98",#[],none⟩,⟨some 7,.binOp .geq 3 (.tmp 6) (.const (.int .i64 0)) 3,4,"limb.go:98",#[eD 0],none⟩]:=rfl
theorem owcmp_4:rwcmp_4.toList=[⟨some 10,.move (.tmp 5),3,"limb.go:99",#[],none⟩,⟨some 11,.indexAddr 24 (.tmp 2) (.tmp 10),0,"limb.go:99",#[eD 0],none⟩,⟨some 12,.load 22 (.tmp 11),22,"limb.go:99",#[eD 1],none⟩,⟨some 13,.move (.tmp 5),3,"limb.go:99",#[],none⟩,⟨some 14,.indexAddr 24 (.tmp 3) (.tmp 13),0,"limb.go:99",#[eD 3],none⟩,⟨some 15,.load 22 (.tmp 14),22,"limb.go:99",#[eD 4],none⟩,⟨some 16,.binOp .lss 22 (.tmp 12) (.tmp 15) 22,4,"limb.go:99",#[eD 2,eD 5],none⟩]:=rfl
theorem owcmp_5:rwcmp_5.toList=[⟨some 4,.assign (.const (.int .i64 (-1))),3,"limb.go:100",#[],none⟩]:=rfl
theorem owcmp_6:rwcmp_6.toList=[⟨some 17,.move (.tmp 5),3,"limb.go:102",#[],none⟩,⟨some 18,.indexAddr 24 (.tmp 2) (.tmp 17),0,"limb.go:102",#[eD 0],none⟩,⟨some 19,.load 22 (.tmp 18),22,"limb.go:102",#[eD 1],none⟩,⟨some 20,.move (.tmp 5),3,"limb.go:102",#[],none⟩,⟨some 21,.indexAddr 24 (.tmp 3) (.tmp 20),0,"limb.go:102",#[eD 3],none⟩,⟨some 22,.load 22 (.tmp 21),22,"limb.go:102",#[eD 4],none⟩,⟨some 23,.binOp .gtr 22 (.tmp 19) (.tmp 22) 22,4,"limb.go:102",#[eD 2,eD 5],none⟩]:=rfl
theorem owcmp_7:rwcmp_7.toList=[⟨some 4,.assign (.const (.int .i64 1)),3,"limb.go:103",#[],none⟩]:=rfl
theorem owcmp_3:rwcmp_3.toList=[⟨some 8,.move (.tmp 5),3,"limb.go:98",#[],none⟩,⟨some 9,.binOp .sub 3 (.tmp 8) (.const (.int .i64 1)) 3,3,"limb.go:98",#[eD 0],none⟩,⟨some 5,.assign (.tmp 9),3,"limb.go:98",#[eD 1,eP 0,eP 1],none⟩]:=rfl
theorem owcmp_8:rwcmp_8.toList=[⟨some 4,.assign (.const (.int .i64 0)),3,"limb.go:106",#[],none⟩]:=rfl
theorem owus_0:rwus_0.toList=[⟨some 1,.box 24 (.tmp 0),0,"limb.go:127",#[],none⟩,⟨some 2,.assign (.const (.int .i64 0)),3,"limb.go:127",#[],none⟩]:=rfl
theorem owus_1:rwus_1.toList=[⟨some 3,.assign (.const (.int .i64 8)),3,"limb.go:128",#[],none⟩]:=rfl
theorem owus_2:rwus_2.toList=[⟨some 4,.move (.tmp 3),3,"limb.go:129",#[],none⟩,⟨some 5,.binOp .gtr 3 (.tmp 4) (.const (.int .i64 0)) 3,4,"limb.go:129",#[eD 0],none⟩,⟨some 6,.move (.tmp 5),4,"limb.go:129",#[eD 1],none⟩,⟨some 7,.move (.tmp 3),3,"limb.go:129",#[eGuard 2],some (2,true)⟩,⟨some 8,.binOp .sub 3 (.tmp 7) (.const (.int .i64 1)) 3,3,"limb.go:129",#[eD 3,eGuard 2],some (2,true)⟩,⟨some 9,.indexAddr 24 (.tmp 1) (.tmp 8),0,"limb.go:129",#[eD 4,eGuard 2],some (2,true)⟩,⟨some 10,.load 22 (.tmp 9),22,"limb.go:129",#[eD 5,eGuard 2],some (2,true)⟩,⟨some 11,.binOp .eql 22 (.tmp 10) (.const (.int .u64 0)) 22,4,"limb.go:129",#[eD 6,eGuard 2],some (2,true)⟩,⟨some 12,.pick (.tmp 6) (.tmp 11) (.const (.bool false)),4,"limb.go:129",#[eD 2,eD 7],none⟩]:=rfl
theorem owus_3:rwus_3.toList=[⟨some 13,.move (.tmp 3),3,"limb.go:130",#[],none⟩,⟨some 14,.binOp .sub 3 (.tmp 13) (.const (.int .i64 1)) 3,3,"limb.go:130",#[eD 0],none⟩,⟨some 3,.assign (.tmp 14),3,"limb.go:130",#[eD 1,eP 0,eP 1],none⟩]:=rfl
theorem owus_4:rwus_4.toList=[⟨some 15,.move (.tmp 3),3,"limb.go:132",#[],none⟩,⟨some 2,.assign (.tmp 15),3,"limb.go:132",#[eD 0,eP 0],none⟩]:=rfl
theorem ospr_0:rspr_0.toList=[⟨some 2,.box 24 (.tmp 0),0,"reckon.go:122",#[],none⟩,⟨some 4,.alloc 91,0,"reckon.go:122",#[],none⟩]:=rfl
theorem ospr_1:rspr_1.toList=[⟨some 5,.alloc 91,0,"reckon.go:123",#[],none⟩]:=rfl
theorem ospr_2:rspr_2.toList=[⟨some 7,.load 24 (.tmp 2),24,"reckon.go:124",#[],none⟩,⟨some 8,.move (.tmp 1),3,"reckon.go:124",#[],none⟩,⟨some 9,.call { callee:=.value (.func 66),args:=#[.tmp 7,.tmp 8],argTypes:=#[24,3] },24,"reckon.go:124",#[eD 0,eD 1],none⟩,⟨some 6,.alloc 24,0,"reckon.go:124",#[],none⟩,⟨none,.store 24 (.tmp 6) (.tmp 9),0,"reckon.go:124",#[eD 3,eD 2,eC 2,eP 0,eP 1,eP 2,eP 3],none⟩]:=rfl
theorem ospr_3:rspr_3.toList=[⟨some 10,.slice 91 (.tmp 5) none none none,94,"reckon.go:125",#[],none⟩,⟨some 11,.slice 24 (.tmp 6) none none none,94,"reckon.go:125",#[],none⟩,⟨some 12,.call { callee:=.builtin .copy,args:=#[.tmp 10,.tmp 11],argTypes:=#[94,94] },3,"reckon.go:125",#[eD 0,eD 1],none⟩]:=rfl
theorem ospr_4:rspr_4.toList=[⟨some 13,.indexAddr 24 (.tmp 2) (.const (.int .i64 7)),0,"reckon.go:126",#[],none⟩,⟨some 14,.load 22 (.tmp 13),22,"reckon.go:126",#[eD 0],none⟩,⟨some 15,.move (.tmp 1),3,"reckon.go:126",#[],none⟩,⟨some 16,.binOp .sub 3 (.const (.int .i64 64)) (.tmp 15) 3,3,"reckon.go:126",#[eD 2],none⟩,⟨some 17,.binOp .shr 22 (.tmp 14) (.tmp 16) 3,22,"reckon.go:126",#[eD 1,eD 3],none⟩,⟨some 18,.indexAddr 91 (.tmp 5) (.const (.int .i64 8)),0,"reckon.go:126",#[eP 0,eP 1,eP 2,eP 3,eP 4],none⟩,⟨none,.store 22 (.tmp 18) (.tmp 17),0,"reckon.go:126",#[eD 5,eD 4,eP 0,eP 1,eP 2,eP 3,eP 4],none⟩]:=rfl
theorem ospr_5:rspr_5.toList=[⟨some 19,.load 91 (.tmp 5),91,"reckon.go:127",#[],none⟩,⟨none,.store 91 (.tmp 4) (.tmp 19),0,"reckon.go:127",#[eD 0,eP 0],none⟩]:=rfl
theorem odw_0:rdw_0.toList=[⟨some 2,.box 24 (.tmp 0),0,"reckon.go:97",#[],none⟩,⟨some 4,.alloc 24,0,"reckon.go:97",#[],none⟩,⟨some 5,.assign (.const (.int .u64 0)),22,"reckon.go:97",#[],none⟩]:=rfl
theorem odw_1:rdw_1.toList=[⟨some 6,.alloc 24,0,"reckon.go:98",#[],none⟩]:=rfl
theorem odw_2:rdw_2.toList=[⟨some 7,.assign (.const (.int .u64 0)),22,"reckon.go:99",#[],none⟩]:=rfl
theorem odw_3:rdw_3.toList=[⟨some 8,.assign (.const (.int .i64 7)),3,"reckon.go:100",#[],none⟩]:=rfl
theorem odw_4:rdw_4.toList=[⟨some 9,.move (.tmp 8),3,"reckon.go:100",#[],none⟩,⟨some 10,.binOp .geq 3 (.tmp 9) (.const (.int .i64 0)) 3,4,"reckon.go:100",#[eD 0],none⟩]:=rfl
theorem odw_6:rdw_6.toList=[⟨some 14,.move (.tmp 8),3,"reckon.go:101",#[],none⟩,⟨some 15,.move (.tmp 7),22,"reckon.go:101",#[],none⟩,⟨some 16,.move (.tmp 8),3,"reckon.go:101",#[],none⟩,⟨some 17,.indexAddr 24 (.tmp 2) (.tmp 16),0,"reckon.go:101",#[eD 2],none⟩,⟨some 18,.load 22 (.tmp 17),22,"reckon.go:101",#[eD 3],none⟩,⟨some 19,.move (.tmp 1),22,"reckon.go:101",#[],none⟩,⟨some 20,.call { callee:=.value (.func 64),args:=#[.tmp 15,.tmp 18,.tmp 19],argTypes:=#[22,22,22] },87,"reckon.go:101",#[eD 1,eD 4,eD 5],none⟩,⟨some 13,.move (.tmp 20),87,"reckon.go:101",#[eD 6],none⟩,⟨some 21,.extract (.tmp 13) 0,22,"reckon.go:101",#[eD 7],none⟩,⟨some 22,.extract (.tmp 13) 1,22,"reckon.go:101",#[eD 7,{ on:=11,ground:=Ground.gcOnly Departure.lateStores }],none⟩,⟨some 23,.indexAddr 24 (.tmp 6) (.tmp 14),0,"reckon.go:101",#[eD 0,eP 0,eP 1,eP 2,eP 3,eP 4,eP 5,eP 6,eP 7,eP 8,{ on:=9,ground:=Ground.textOnly Departure.lateStores }],none⟩,⟨none,.store 22 (.tmp 23) (.tmp 21),0,"reckon.go:101",#[eD 10,eD 8,eC 6,eP 0,eP 1,eP 2,eP 3,eP 4,eP 5,eP 6,eP 7,eP 8,{ on:=9,ground:=Ground.textOnly Departure.lateStores }],none⟩,⟨some 7,.assign (.tmp 22),22,"reckon.go:101",#[eD 9,eC 11,eP 0,eP 1,eP 2,eP 3,eP 4,eP 5,eP 6,eP 7,eP 8,eP 9,eP 10,eP 11],none⟩]:=rfl
theorem odw_5:rdw_5.toList=[⟨some 11,.move (.tmp 8),3,"reckon.go:100",#[],none⟩,⟨some 12,.binOp .sub 3 (.tmp 11) (.const (.int .i64 1)) 3,3,"reckon.go:100",#[eD 0],none⟩,⟨some 8,.assign (.tmp 12),3,"reckon.go:100",#[eD 1,eP 0,eP 1],none⟩]:=rfl
theorem odw_7:rdw_7.toList=[⟨some 24,.load 24 (.tmp 6),24,"reckon.go:103",#[],none⟩,⟨some 25,.move (.tmp 7),22,"reckon.go:103",#[{ on:=2,ground:=Ground.gcOnly Departure.lateStores }],none⟩,⟨none,.store 24 (.tmp 4) (.tmp 24),0,"reckon.go:103",#[eD 0,eP 0,{ on:=1,ground:=Ground.textOnly Departure.lateStores }],none⟩,⟨some 5,.assign (.tmp 25),22,"reckon.go:103",#[eD 1,eC 2,eP 0,eP 1,eP 2],none⟩]:=rfl
theorem odlg_0:rdlg_0.toList=[⟨some 2,.box 24 (.tmp 0),0,"reckon.go:107",#[],none⟩,⟨some 3,.box 24 (.tmp 1),0,"reckon.go:107",#[],none⟩,⟨some 4,.alloc 24,0,"reckon.go:107",#[],none⟩,⟨some 5,.alloc 24,0,"reckon.go:107",#[],none⟩]:=rfl
theorem odlg_1:rdlg_1.toList=[⟨some 12,.load 24 (.tmp 3),24,"reckon.go:108",#[],none⟩,⟨some 13,.call { callee:=.value (.func 43),args:=#[.tmp 12],argTypes:=#[24] },3,"reckon.go:108",#[eD 0],none⟩,⟨some 6,.assign (.tmp 13),3,"reckon.go:108",#[eD 1,eC 1,eP 0,eP 1],none⟩]:=rfl
theorem odlg_2:rdlg_2.toList=[⟨some 14,.move (.tmp 6),3,"reckon.go:109",#[],none⟩,⟨some 15,.binOp .sub 3 (.tmp 14) (.const (.int .i64 1)) 3,3,"reckon.go:109",#[eD 0],none⟩,⟨some 16,.indexAddr 24 (.tmp 3) (.tmp 15),0,"reckon.go:109",#[eD 1],none⟩,⟨some 17,.load 22 (.tmp 16),22,"reckon.go:109",#[eD 2],none⟩,⟨some 18,.call { callee:=.value (.func 65),args:=#[.tmp 17],argTypes:=#[22] },3,"reckon.go:109",#[eD 3],none⟩,⟨some 7,.assign (.tmp 18),3,"reckon.go:109",#[eD 4,eC 4,eP 0,eP 1,eP 2,eP 3,eP 4],none⟩]:=rfl
theorem odlg_3:rdlg_3.toList=[⟨some 19,.load 24 (.tmp 3),24,"reckon.go:110",#[],none⟩,⟨some 20,.move (.tmp 7),3,"reckon.go:110",#[],none⟩,⟨some 21,.call { callee:=.value (.func 66),args:=#[.tmp 19,.tmp 20],argTypes:=#[24,3] },24,"reckon.go:110",#[eD 0,eD 1],none⟩,⟨none,.store 24 (.tmp 3) (.tmp 21),0,"reckon.go:110",#[eD 2,eC 2,eP 0,eP 1,eP 2],none⟩]:=rfl
theorem odlg_4:rdlg_4.toList=[⟨some 22,.load 24 (.tmp 2),24,"reckon.go:111",#[],none⟩,⟨some 23,.move (.tmp 7),3,"reckon.go:111",#[],none⟩,⟨some 24,.call { callee:=.value (.func 67),args:=#[.tmp 22,.tmp 23],argTypes:=#[24,3] },91,"reckon.go:111",#[eD 0,eD 1],none⟩,⟨some 8,.alloc 91,0,"reckon.go:111",#[],none⟩,⟨none,.store 91 (.tmp 8) (.tmp 24),0,"reckon.go:111",#[eD 3,eD 2,eC 2,eP 0,eP 1,eP 2,eP 3],none⟩]:=rfl
theorem odlg_5:rdlg_5.toList=[⟨some 9,.alloc 24,0,"reckon.go:112",#[],none⟩]:=rfl
theorem odlg_6:rdlg_6.toList=[⟨some 25,.move (.tmp 6),3,"reckon.go:113",#[],none⟩,⟨some 26,.binOp .sub 3 (.const (.int .i64 8)) (.tmp 25) 3,3,"reckon.go:113",#[eD 0],none⟩,⟨some 10,.assign (.tmp 26),3,"reckon.go:113",#[eD 1,eP 0,eP 1],none⟩]:=rfl
theorem odlg_7:rdlg_7.toList=[⟨some 27,.move (.tmp 10),3,"reckon.go:113",#[],none⟩,⟨some 28,.binOp .geq 3 (.tmp 27) (.const (.int .i64 0)) 3,4,"reckon.go:113",#[eD 0],none⟩]:=rfl
theorem odlg_9:rdlg_9.toList=[⟨some 31,.move (.tmp 10),3,"reckon.go:114",#[],none⟩,⟨some 32,.move (.tmp 10),3,"reckon.go:114",#[],none⟩,⟨some 33,.move (.tmp 10),3,"reckon.go:114",#[],none⟩,⟨some 34,.move (.tmp 6),3,"reckon.go:114",#[],none⟩,⟨some 35,.binOp .add 3 (.tmp 33) (.tmp 34) 3,3,"reckon.go:114",#[eD 2,eD 3],none⟩,⟨some 36,.binOp .add 3 (.tmp 35) (.const (.int .i64 1)) 3,3,"reckon.go:114",#[eD 4],none⟩,⟨some 37,.slice 91 (.tmp 8) (some (.tmp 32)) (some (.tmp 36)) none,94,"reckon.go:114",#[eD 1,eD 5],none⟩,⟨some 38,.move (.tmp 6),3,"reckon.go:114",#[],none⟩,⟨some 39,.slice 24 (.tmp 3) none (some (.tmp 38)) none,94,"reckon.go:114",#[eD 7],none⟩,⟨some 40,.call { callee:=.value (.func 68),args:=#[.tmp 37,.tmp 39],argTypes:=#[94,94] },22,"reckon.go:114",#[eD 6,eD 8],none⟩,⟨some 41,.indexAddr 24 (.tmp 9) (.tmp 31),0,"reckon.go:114",#[eD 0,eP 0,eP 1,eP 2,eP 3,eP 4,eP 5,eP 6,eP 7,eP 8,eP 9],none⟩,⟨none,.store 22 (.tmp 41) (.tmp 40),0,"reckon.go:114",#[eD 10,eD 9,eC 9,eP 0,eP 1,eP 2,eP 3,eP 4,eP 5,eP 6,eP 7,eP 8,eP 9],none⟩]:=rfl
theorem odlg_8:rdlg_8.toList=[⟨some 29,.move (.tmp 10),3,"reckon.go:113",#[],none⟩,⟨some 30,.binOp .sub 3 (.tmp 29) (.const (.int .i64 1)) 3,3,"reckon.go:113",#[eD 0],none⟩,⟨some 10,.assign (.tmp 30),3,"reckon.go:113",#[eD 1,eP 0,eP 1],none⟩]:=rfl
theorem odlg_10:rdlg_10.toList=[⟨some 11,.alloc 24,0,"reckon.go:116",#[],none⟩]:=rfl
theorem odlg_11:rdlg_11.toList=[⟨some 42,.slice 24 (.tmp 11) none none none,94,"reckon.go:117",#[],none⟩,⟨some 43,.slice 91 (.tmp 8) none none none,94,"reckon.go:117",#[],none⟩,⟨some 44,.call { callee:=.builtin .copy,args:=#[.tmp 42,.tmp 43],argTypes:=#[94,94] },3,"reckon.go:117",#[eD 0,eD 1],none⟩]:=rfl
theorem odlg_12:rdlg_12.toList=[⟨some 45,.load 24 (.tmp 9),24,"reckon.go:118",#[],none⟩,⟨some 46,.load 24 (.tmp 11),24,"reckon.go:118",#[],none⟩,⟨some 47,.move (.tmp 7),3,"reckon.go:118",#[],none⟩,⟨some 48,.call { callee:=.value (.func 69),args:=#[.tmp 46,.tmp 47],argTypes:=#[24,3] },24,"reckon.go:118",#[eD 1,eD 2],none⟩,⟨none,.store 24 (.tmp 4) (.tmp 45),0,"reckon.go:118",#[eD 0,eC 3,eP 0,{ on:=1,ground:=Ground.textOnly Departure.lateStores },{ on:=2,ground:=Ground.textOnly Departure.lateStores },{ on:=3,ground:=Ground.textOnly Departure.lateStoresUnsure }],none⟩,⟨none,.store 24 (.tmp 5) (.tmp 48),0,"reckon.go:118",#[eD 3,eC 4,eP 0,eP 1,eP 2,eP 3,eP 4],none⟩]:=rfl
theorem odv_0:rdv_0.toList=[⟨some 2,.box 24 (.tmp 0),0,"reckon.go:81",#[],none⟩,⟨some 3,.box 24 (.tmp 1),0,"reckon.go:81",#[],none⟩,⟨some 4,.alloc 24,0,"reckon.go:81",#[],none⟩,⟨some 5,.alloc 24,0,"reckon.go:81",#[],none⟩,⟨some 6,.assign (.const (.int .i64 0)),39,"reckon.go:81",#[],none⟩]:=rfl
theorem odv_1:rdv_1.toList=[⟨some 11,.load 24 (.tmp 3),24,"reckon.go:82",#[],none⟩,⟨some 12,.build 24 #[],24,"reckon.go:82",#[],none⟩,⟨some 13,.binOp .eql 24 (.tmp 11) (.tmp 12) 24,4,"reckon.go:82",#[eD 0,eD 1],none⟩]:=rfl
theorem odv_2:rdv_2.toList=[⟨some 14,.build 24 #[],24,"reckon.go:83",#[],none⟩,⟨some 15,.build 24 #[],24,"reckon.go:83",#[{ on:=2,ground:=Ground.gcOnly Departure.lateStores }],none⟩,⟨none,.store 24 (.tmp 4) (.tmp 14),0,"reckon.go:83",#[eD 0,eP 0,{ on:=1,ground:=Ground.textOnly Departure.lateStores }],none⟩,⟨none,.store 24 (.tmp 5) (.tmp 15),0,"reckon.go:83",#[eD 1,eC 2,eP 0,eP 1,eP 2],none⟩,⟨some 6,.assign (.const (.int .i64 9)),39,"reckon.go:83",#[eC 3,eP 0,eP 1,eP 2,eP 3],none⟩]:=rfl
theorem odv_3:rdv_3.toList=[⟨some 16,.load 24 (.tmp 2),24,"reckon.go:85",#[],none⟩,⟨some 17,.load 24 (.tmp 3),24,"reckon.go:85",#[],none⟩,⟨some 18,.call { callee:=.value (.func 18),args:=#[.tmp 16,.tmp 17],argTypes:=#[24,24] },3,"reckon.go:85",#[eD 0,eD 1],none⟩,⟨some 19,.binOp .lss 3 (.tmp 18) (.const (.int .i64 0)) 3,4,"reckon.go:85",#[eD 2],none⟩]:=rfl
theorem odv_4:rdv_4.toList=[⟨some 20,.build 24 #[],24,"reckon.go:86",#[],none⟩,⟨some 21,.load 24 (.tmp 2),24,"reckon.go:86",#[{ on:=2,ground:=Ground.gcOnly Departure.lateStores }],none⟩,⟨none,.store 24 (.tmp 4) (.tmp 20),0,"reckon.go:86",#[eD 0,eP 0,{ on:=1,ground:=Ground.textOnly Departure.lateStores }],none⟩,⟨none,.store 24 (.tmp 5) (.tmp 21),0,"reckon.go:86",#[eD 1,eC 2,eP 0,eP 1,eP 2],none⟩,⟨some 6,.assign (.const (.int .i64 0)),39,"reckon.go:86",#[eC 3,eP 0,eP 1,eP 2,eP 3],none⟩]:=rfl
theorem odv_5:rdv_5.toList=[⟨some 22,.load 24 (.tmp 3),24,"reckon.go:88",#[],none⟩,⟨some 23,.call { callee:=.value (.func 43),args:=#[.tmp 22],argTypes:=#[24] },3,"reckon.go:88",#[eD 0],none⟩,⟨some 24,.binOp .eql 3 (.tmp 23) (.const (.int .i64 1)) 3,4,"reckon.go:88",#[eD 1],none⟩]:=rfl
theorem odv_6:rdv_6.toList=[⟨some 26,.load 24 (.tmp 2),24,"reckon.go:89",#[],none⟩,⟨some 27,.indexAddr 24 (.tmp 3) (.const (.int .i64 0)),0,"reckon.go:89",#[],none⟩,⟨some 28,.load 22 (.tmp 27),22,"reckon.go:89",#[eD 1],none⟩,⟨some 29,.call { callee:=.value (.func 46),args:=#[.tmp 26,.tmp 28],argTypes:=#[24,22] },65,"reckon.go:89",#[eD 0,eD 2],none⟩,⟨some 25,.move (.tmp 29),65,"reckon.go:89",#[eD 3],none⟩,⟨some 30,.extract (.tmp 25) 0,24,"reckon.go:89",#[eD 4],none⟩,⟨some 31,.extract (.tmp 25) 1,22,"reckon.go:89",#[eD 4,{ on:=8,ground:=Ground.gcOnly Departure.lateStores }],none⟩,⟨some 7,.alloc 24,0,"reckon.go:89",#[],none⟩,⟨none,.store 24 (.tmp 7) (.tmp 30),0,"reckon.go:89",#[eD 7,eD 5,eC 3,eP 0,eP 1,eP 2,eP 3,eP 4,eP 5,{ on:=6,ground:=Ground.textOnly Departure.lateStores },eP 7],none⟩,⟨some 8,.assign (.tmp 31),22,"reckon.go:89",#[eD 6,eC 8,eP 0,eP 1,eP 2,eP 3,eP 4,eP 5,eP 6,eP 7,eP 8],none⟩]:=rfl
theorem odv_7:rdv_7.toList=[⟨some 32,.load 24 (.tmp 7),24,"reckon.go:90",#[],none⟩,⟨some 33,.move (.tmp 8),22,"reckon.go:90",#[],none⟩,⟨some 34,.call { callee:=.value (.func 29),args:=#[.tmp 33],argTypes:=#[22] },24,"reckon.go:90",#[eD 1],none⟩,⟨none,.store 24 (.tmp 4) (.tmp 32),0,"reckon.go:90",#[eD 0,eC 2,eP 0,{ on:=1,ground:=Ground.textOnly Departure.lateStores },{ on:=2,ground:=Ground.textOnly Departure.lateStoresUnsure }],none⟩,⟨none,.store 24 (.tmp 5) (.tmp 34),0,"reckon.go:90",#[eD 2,eC 3,eP 0,eP 1,eP 2,eP 3],none⟩,⟨some 6,.assign (.const (.int .i64 0)),39,"reckon.go:90",#[eC 4,eP 0,eP 1,eP 2,eP 3,eP 4],none⟩]:=rfl
theorem odv_8:rdv_8.toList=[⟨some 36,.load 24 (.tmp 2),24,"reckon.go:92",#[],none⟩,⟨some 37,.load 24 (.tmp 3),24,"reckon.go:92",#[],none⟩,⟨some 38,.call { callee:=.value (.func 47),args:=#[.tmp 36,.tmp 37],argTypes:=#[24,24] },68,"reckon.go:92",#[eD 0,eD 1],none⟩,⟨some 35,.move (.tmp 38),68,"reckon.go:92",#[eD 2],none⟩,⟨some 39,.extract (.tmp 35) 0,24,"reckon.go:92",#[eD 3],none⟩,⟨some 40,.extract (.tmp 35) 1,24,"reckon.go:92",#[eD 3,{ on:=8,ground:=Ground.gcOnly Departure.lateStores }],none⟩,⟨some 9,.alloc 24,0,"reckon.go:92",#[],none⟩,⟨some 10,.alloc 24,0,"reckon.go:92",#[],none⟩,⟨none,.store 24 (.tmp 9) (.tmp 39),0,"reckon.go:92",#[eD 6,eD 4,eC 2,eP 0,eP 1,eP 2,eP 3,eP 4,{ on:=5,ground:=Ground.textOnly Departure.lateStores },eP 6,eP 7],none⟩,⟨none,.store 24 (.tmp 10) (.tmp 40),0,"reckon.go:92",#[eD 7,eD 5,eC 8,eP 0,eP 1,eP 2,eP 3,eP 4,eP 5,eP 6,eP 7,eP 8],none⟩]:=rfl
theorem odv_9:rdv_9.toList=[⟨some 41,.load 24 (.tmp 9),24,"reckon.go:93",#[],none⟩,⟨some 42,.load 24 (.tmp 10),24,"reckon.go:93",#[{ on:=2,ground:=Ground.gcOnly Departure.lateStores }],none⟩,⟨none,.store 24 (.tmp 4) (.tmp 41),0,"reckon.go:93",#[eD 0,eP 0,{ on:=1,ground:=Ground.textOnly Departure.lateStores }],none⟩,⟨none,.store 24 (.tmp 5) (.tmp 42),0,"reckon.go:93",#[eD 1,eC 2,eP 0,eP 1,eP 2],none⟩,⟨some 6,.assign (.const (.int .i64 0)),39,"reckon.go:93",#[eC 3,eP 0,eP 1,eP 2,eP 3],none⟩]:=rfl
end Go.Am.Seat
