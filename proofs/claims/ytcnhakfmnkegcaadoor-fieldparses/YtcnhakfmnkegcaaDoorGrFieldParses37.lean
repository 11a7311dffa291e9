import Derived.Test.YtcnhakfmnkegcaaDoorGrFieldParses36
import Derived.Test.YtcnhakfmnkegcaaDoorGrFieldParses32
import Derived.Test.YtcnhakfmnkegcaaDoorGrFieldParses33
set_option linter.unusedSimpArgs false
set_option linter.unusedVariables false
noncomputable section
set_option maxRecDepth 100000
namespace Go.Am.Seat
open Go.Proofs Go.Am Go.Am.Num Go.Am.Kn
theorem ofp_0:rfp_0.toList=[⟨some 2,.box 54 (.tmp 0),0,"law.go:41",#[],none⟩,⟨some 4,.assign (.const (.bool false)),4,"law.go:41",#[],none⟩]:=rfl
theorem ofp_1:rfp_1.toList=[⟨some 11,.call { callee:=.value (.func 30),args:=#[],argTypes:=#[] },4,"law.go:42",#[],none⟩,⟨some 12,.unOp .not 4 (.tmp 11),4,"law.go:42",#[eD 0],none⟩]:=rfl
theorem ofp_2:rfp_2.toList=[⟨some 4,.assign (.const (.bool false)),4,"law.go:43",#[],none⟩]:=rfl
theorem ofp_3:rfp_3.toList=[⟨some 13,.move (.tmp 1),9,"law.go:45",#[],none⟩,⟨some 14,.call { callee:=.builtin .len,args:=#[.tmp 13],argTypes:=#[9] },3,"law.go:45",#[eD 0],none⟩,⟨some 15,.binOp .gtr 3 (.tmp 14) (.const (.int .i64 200)) 3,4,"law.go:45",#[eD 1],none⟩]:=rfl
theorem ofp_4:rfp_4.toList=[⟨some 4,.assign (.const (.bool true)),4,"law.go:46",#[],none⟩]:=rfl
theorem ofp_5:rfp_5.toList=[⟨some 17,.load 54 (.tmp 2),54,"law.go:48",#[],none⟩,⟨some 18,.call { callee:=.value (.func 31),args:=#[.tmp 17],argTypes:=#[54] },57,"law.go:48",#[eD 0],none⟩,⟨some 16,.move (.tmp 18),57,"law.go:48",#[eD 1],none⟩,⟨some 19,.extract (.tmp 16) 0,56,"law.go:48",#[eD 2],none⟩,⟨some 20,.extract (.tmp 16) 1,39,"law.go:48",#[eD 2,{ on:=6,ground:=Ground.gcOnly Departure.lateStores }],none⟩,⟨some 5,.alloc 56,0,"law.go:48",#[],none⟩,⟨none,.store 56 (.tmp 5) (.tmp 19),0,"law.go:48",#[eD 5,eD 3,eC 1,eP 0,eP 1,eP 2,eP 3,{ on:=4,ground:=Ground.textOnly Departure.lateStores },eP 5],none⟩,⟨some 6,.assign (.tmp 20),39,"law.go:48",#[eD 4,eC 6,eP 0,eP 1,eP 2,eP 3,eP 4,eP 5,eP 6],none⟩]:=rfl
theorem ofp_6:rfp_6.toList=[⟨some 21,.makeSlice 35 (.const (.int .i64 32)) (.const (.int .i64 32)),35,"law.go:49",#[],none⟩,⟨some 7,.assign (.tmp 21),35,"law.go:49",#[eD 0,eP 0],none⟩]:=rfl
theorem ofp_7:rfp_7.toList=[⟨some 22,.move (.tmp 7),35,"law.go:50",#[],none⟩,⟨some 23,.call { callee:=.builtin .len,args:=#[.tmp 22],argTypes:=#[35] },3,"law.go:50",#[eD 0],none⟩,⟨some 24,.move (.const (.int .i64 0)),3,"law.go:50",#[],none⟩]:=rfl
theorem ofp_8:rfp_8.toList=[⟨some 25,.binOp .lss 3 (.tmp 24) (.tmp 23) 3,0,"law.go:50",#[],none⟩]:=rfl
theorem ofp_9:rfp_9.toList=[⟨some 26,.move (.tmp 24),3,"law.go:50",#[],none⟩,⟨some 8,.assign (.tmp 26),3,"law.go:50",#[eD 0,eP 0],none⟩]:=rfl
theorem ofp_10:rfp_10.toList=[⟨some 27,.move (.tmp 7),35,"law.go:51",#[],none⟩,⟨some 28,.move (.tmp 8),3,"law.go:51",#[],none⟩,⟨some 29,.move (.tmp 8),3,"law.go:51",#[],none⟩,⟨some 30,.indexAddr 54 (.tmp 2) (.tmp 29),0,"law.go:51",#[eD 2],none⟩,⟨some 31,.load 5 (.tmp 30),5,"law.go:51",#[eD 3],none⟩,⟨some 32,.indexAddr 35 (.tmp 27) (.tmp 28),0,"law.go:51",#[eD 0,eD 1,eP 0,eP 1,eP 2,eP 3,eP 4],none⟩,⟨none,.store 5 (.tmp 32) (.tmp 31),0,"law.go:51",#[eD 5,eD 4,eP 0,eP 1,eP 2,eP 3,eP 4],none⟩]:=rfl
theorem ofp_11:rfp_11.toList=[⟨some 33,.binOp .add 3 (.tmp 24) (.const (.int .i64 1)) 3,3,"law.go:50",#[],none⟩,⟨some 24,.move (.tmp 33),3,"law.go:50",#[eD 0],none⟩]:=rfl
theorem ofp_12:rfp_12.toList=[⟨some 34,.move (.tmp 7),35,"law.go:53",#[],none⟩,⟨some 35,.convert 35 9 (.tmp 34),9,"law.go:53",#[eD 0],none⟩,⟨some 36,.call { callee:=.value (.func 15),args:=#[.tmp 35],argTypes:=#[9] },27,"law.go:53",#[eD 1],none⟩,⟨some 37,.call { callee:=.value (.func 32),args:=#[],argTypes:=#[] },27,"law.go:53",#[eC 2],none⟩,⟨some 38,.call { callee:=.value (.func 11),args:=#[.tmp 36,.tmp 37],argTypes:=#[27,27] },3,"law.go:53",#[eD 2,eD 3,eC 3],none⟩,⟨some 39,.binOp .geq 3 (.tmp 38) (.const (.int .i64 0)) 3,4,"law.go:53",#[eD 4],none⟩]:=rfl
theorem ofp_13:rfp_13.toList=[⟨some 40,.move (.tmp 6),39,"law.go:54",#[],none⟩,⟨some 41,.binOp .neq 39 (.tmp 40) (.const (.int .i64 7)) 39,4,"law.go:54",#[eD 0],none⟩,⟨some 42,.move (.tmp 41),4,"law.go:54",#[eD 1],none⟩,⟨some 43,.load 56 (.tmp 5),56,"law.go:54",#[eGuard 2],some (2,false)⟩,⟨some 44,.call { callee:=.value (.func 33),args:=#[.tmp 43],argTypes:=#[56] },4,"law.go:54",#[eD 3,eC 2,eGuard 2],some (2,false)⟩,⟨some 45,.unOp .not 4 (.tmp 44),4,"law.go:54",#[eD 4,eGuard 2],some (2,false)⟩,⟨some 46,.pick (.tmp 42) (.const (.bool true)) (.tmp 45),4,"law.go:54",#[eD 2,eD 5],none⟩]:=rfl
theorem ofp_14:rfp_14.toList=[⟨some 4,.assign (.const (.bool false)),4,"law.go:55",#[],none⟩]:=rfl
theorem ofp_15:rfp_15.toList=[⟨some 47,.move (.tmp 6),39,"law.go:57",#[],none⟩,⟨some 48,.binOp .neq 39 (.tmp 47) (.const (.int .i64 0)) 39,4,"law.go:57",#[eD 0],none⟩,⟨some 49,.move (.tmp 48),4,"law.go:57",#[eD 1],none⟩,⟨some 50,.load 56 (.tmp 5),56,"law.go:57",#[eGuard 2],some (2,false)⟩,⟨some 51,.call { callee:=.value (.func 34),args:=#[.tmp 50],argTypes:=#[56] },54,"law.go:57",#[eD 3,eC 2,eGuard 2],some (2,false)⟩,⟨some 52,.load 54 (.tmp 2),54,"law.go:57",#[eGuard 2],some (2,false)⟩,⟨some 53,.binOp .neq 54 (.tmp 51) (.tmp 52) 54,4,"law.go:57",#[eD 4,eD 5,eGuard 2],some (2,false)⟩,⟨some 54,.pick (.tmp 49) (.const (.bool true)) (.tmp 53),4,"law.go:57",#[eD 2,eD 6],none⟩]:=rfl
theorem ofp_16:rfp_16.toList=[⟨some 4,.assign (.const (.bool false)),4,"law.go:58",#[],none⟩]:=rfl
theorem ofp_17:rfp_17.toList=[⟨some 56,.move (.tmp 1),9,"law.go:60",#[],none⟩,⟨some 57,.call { callee:=.value (.func 25),args:=#[.tmp 56],argTypes:=#[9] },47,"law.go:60",#[eD 0],none⟩,⟨some 55,.move (.tmp 57),47,"law.go:60",#[eD 1],none⟩,⟨some 58,.extract (.tmp 55) 0,27,"law.go:60",#[eD 2],none⟩,⟨some 59,.extract (.tmp 55) 1,4,"law.go:60",#[eD 2,{ on:=5,ground:=Ground.gcOnly Departure.lateStores }],none⟩,⟨some 9,.assign (.tmp 58),27,"law.go:60",#[eD 3,eC 1,eP 0,eP 1,eP 2,eP 3,{ on:=4,ground:=Ground.textOnly Departure.lateStores }],none⟩,⟨some 10,.assign (.tmp 59),4,"law.go:60",#[eD 4,eC 5,eP 0,eP 1,eP 2,eP 3,eP 4,eP 5],none⟩]:=rfl
theorem ofp_18:rfp_18.toList=[⟨some 60,.move (.tmp 10),4,"law.go:61",#[],none⟩,⟨some 61,.unOp .not 4 (.tmp 60),4,"law.go:61",#[eD 0],none⟩,⟨some 62,.move (.tmp 61),4,"law.go:61",#[eD 1],none⟩,⟨some 63,.move (.tmp 9),27,"law.go:61",#[eGuard 2],some (2,false)⟩,⟨some 64,.call { callee:=.builtin .len,args:=#[.tmp 63],argTypes:=#[27] },3,"law.go:61",#[eD 3,eGuard 2],some (2,false)⟩,⟨some 65,.binOp .gtr 3 (.tmp 64) (.const (.int .i64 64)) 3,4,"law.go:61",#[eD 4,eGuard 2],some (2,false)⟩,⟨some 66,.pick (.tmp 62) (.const (.bool true)) (.tmp 65),4,"law.go:61",#[eD 2,eD 5],none⟩]:=rfl
theorem ofp_19:rfp_19.toList=[⟨some 67,.move (.tmp 1),9,"law.go:62",#[],none⟩,⟨some 68,.call { callee:=.value (.func 35),args:=#[.tmp 67],argTypes:=#[9] },56,"law.go:62",#[eD 0],none⟩,⟨some 69,.call { callee:=.value (.func 33),args:=#[.tmp 68],argTypes:=#[56] },4,"law.go:62",#[eD 1,eC 1],none⟩,⟨some 4,.assign (.tmp 69),4,"law.go:62",#[eD 2,eC 2,eP 0,eP 1,eP 2],none⟩]:=rfl
theorem ofp_20:rfp_20.toList=[⟨some 70,.move (.tmp 1),9,"law.go:64",#[],none⟩,⟨some 71,.call { callee:=.value (.func 35),args:=#[.tmp 70],argTypes:=#[9] },56,"law.go:64",#[eD 0],none⟩,⟨some 72,.move (.tmp 9),27,"law.go:64",#[],none⟩,⟨some 73,.call { callee:=.value (.func 37),args:=#[.tmp 72],argTypes:=#[27] },27,"law.go:64",#[eD 2,eC 1],none⟩,⟨some 74,.call { callee:=.value (.func 36),args:=#[.tmp 71,.tmp 73],argTypes:=#[56,27] },4,"law.go:64",#[eD 1,eD 3,eC 3],none⟩,⟨some 4,.assign (.tmp 74),4,"law.go:64",#[eD 4,eC 4,eP 0,eP 1,eP 2,eP 3,eP 4],none⟩]:=rfl
def neqFp (P:Program) (s:TypeId) (x y:Operand) (u v:Value):Option Value:=match u with
 | .int k a=>(match v with
  | .int k' b=>(match abin .neq k a k' b with
   | some w=>some w
   | none=>neqVal P s x y u v)
  | _=>neqVal P s x y u v)
 | _=>(match neqVal P s x y u v with
  | some w=>some w
  | none=>(match aeq P s u v with
   | some b=>some (.bool !b)
   | none=>none))
theorem afloat_neqP {P:Program} {T:List Value} {d:Option Tmp} {s t ty:TypeId} {x y:Operand} {pos:String} {af:Array Edge} {g:Option (Nat×Bool)} :
  afloat P T { dst:=d,op:=.binOp .neq s x y t,type:=ty,pos:=pos,after:=af,guard:=g }=neqFp P s x y (ev T x) (ev T y):=by
 unfold afloat neqFp
 simp only [apure_neqV]
 rfl
theorem callFDec:callableB E.P 35=true:=by kernel_rfl
theorem geqI9 (a b:Int):abin .geq .i64 a .i64 b=some (.bool (decide (a≥b))):=by kernel_rfl
theorem undB:E.P.underlying 35=some (.slice 5):=Tryd.underlying35
theorem neqI_i64p (a b:Int) {s:TypeId} {x y:Operand}:neqI E.P s x y (.int .i64 a) (.int .i64 b)=some (.bool (a != b)):=by
 unfold neqI
 simp only [show abin .neq .i64 a .i64 b=some (.bool (a != b)) by kernel_rfl]
section
variable {self:Self} {nf:Nat} {m M:Mem} {F:Nat→Value} {s:ByteArray} {p q x n i:Nat} {u v w:Nat→Nat}
theorem fp_0 (h0:F 0=arrK .u8 32 u):∃ F',acodeN E self nf (.region 0 rfp_0 false) (lst F 75) m=some (.normal,lst F' 75,m++[.row false 54 (rowK .u8 32 u)])∧F' 2=.pointer (some ⟨m.length,0,none⟩)∧F' 1=F 1:=by
 have b1:=a46.box (w:=u) (m:=m)
 generalize arrK .u8 32 u=va at *
 simp only [ofp_0,agd_none,gdAt,gdV_bool,gdV_undef,List.append_eq,List.cons_append,List.nil_append,apure_call1,apure_call2,apure_call3,bft,btf,acodeN,List.getElem?_toArray,List.getElem?_cons_zero,List.getElem?_cons_succ,aopsN,adrawT,cls,astep,aop,afloat,ev,nth_lst,get_lst,aput,setAt_lst,upd_at,init_zero,init_succ,init_nil,Nat.reduceLT,Nat.reduceEqDiff,reduceIte,len_N,abuiltin_app,Option.map_some,Option.map_none,orElse_some,apure_add,apure_eqlV,eqlVal_str,eqlVal_bool,eqlVal_ptr,eqlVal_slice,eqlVal_wide,eqlVal_int,allT,↓aop_eqlV,apure_neq,List.map_cons,List.map_nil,List.all_cons,List.all_nil,lit2,lit1,lit0,List.isEmpty_nil,bls,Bool.false_eq_true,if_true,if_false,List.length_map,beq_self_eq_true,uns,h0,b1]
 exact ⟨_,rfl,rfl,rfl⟩
theorem fp_1 (aw:ainv E self 30 [] m=some (.bool true,m)):∃ F',acodeN E self nf (.region 1 rfp_1 false) (lst F 75) m=some (.normal,lst F' 75,m)∧F' 12=.bool false∧∀ j,j<11→F' j=F j:=by
 simp only [ofp_1,agd_none,gdAt,gdV_bool,gdV_undef,List.append_eq,List.cons_append,List.nil_append,apure_call1,apure_call2,apure_call3,bft,btf,acodeN,List.getElem?_toArray,List.getElem?_cons_zero,List.getElem?_cons_succ,aopsN,adrawT,cls,astep,aop,afloat,ev,nth_lst,get_lst,aput,setAt_lst,upd_at,init_zero,init_succ,init_nil,Nat.reduceLT,Nat.reduceEqDiff,reduceIte,abuiltin,alen,Option.map_some,Option.map_none,orElse_some,apure_add,apure_eqlV,eqlVal_str,eqlVal_bool,eqlVal_ptr,eqlVal_slice,eqlVal_wide,eqlVal_int,allT,↓aop_eqlV,apure_neq,List.map_cons,List.map_nil,List.all_cons,List.all_nil,lit2,lit1,lit0,List.isEmpty_nil,bls,Bool.false_eq_true,if_true,if_false,List.length_map,beq_self_eq_true,uns,callAw5,aw]
 exact ⟨_,rfl,rfl,fun j h1=>by repeat rw [upd_ne (by omega)]⟩
theorem fp_3 {b:Bool} (h1:F 1=.string s) (hb:decide (((s.data.toList.length:Nat):Int)>200)=b):∃ F',acodeN E self nf (.region 3 rfp_3 false) (lst F 75) m=some (.normal,lst F' 75,m)∧F' 15=.bool b∧∀ j,j<11→F' j=F j:=by
 simp only [ofp_3,agd_none,gdAt,gdV_bool,gdV_undef,List.append_eq,List.cons_append,List.nil_append,apure_call1,apure_call2,apure_call3,bft,btf,acodeN,List.getElem?_toArray,List.getElem?_cons_zero,List.getElem?_cons_succ,aopsN,adrawT,cls,astep,aop,afloat,ev,nth_lst,get_lst,aput,setAt_lst,upd_at,init_zero,init_succ,init_nil,Nat.reduceLT,Nat.reduceEqDiff,reduceIte,len_N,abuiltin_app,Option.map_some,Option.map_none,orElse_some,apure_add,apure_eqlV,eqlVal_str,eqlVal_bool,eqlVal_ptr,eqlVal_slice,eqlVal_wide,eqlVal_int,allT,↓aop_eqlV,apure_neq,List.map_cons,List.map_nil,List.all_cons,List.all_nil,lit2,lit1,lit0,List.isEmpty_nil,bls,Bool.false_eq_true,if_true,if_false,List.length_map,beq_self_eq_true,uns,h1,len_S,alen,gtr64',hb]
 exact ⟨_,rfl,rfl,fun j h1=>by repeat rw [upd_ne (by omega)]⟩
theorem fp_4:∃ F',acodeN E self nf (.region 4 rfp_4 false) (lst F 75) m=some (.normal,lst F' 75,m)∧F' 4=.bool true:=by
 simp only [ofp_4,agd_none,gdAt,gdV_bool,gdV_undef,List.append_eq,List.cons_append,List.nil_append,apure_call1,apure_call2,apure_call3,bft,btf,acodeN,List.getElem?_toArray,List.getElem?_cons_zero,List.getElem?_cons_succ,aopsN,adrawT,cls,astep,aop,afloat,ev,nth_lst,get_lst,aput,setAt_lst,upd_at,init_zero,init_succ,init_nil,Nat.reduceLT,Nat.reduceEqDiff,reduceIte,abuiltin,alen,Option.map_some,Option.map_none,orElse_some,apure_add,apure_eqlV,eqlVal_str,eqlVal_bool,eqlVal_ptr,eqlVal_slice,eqlVal_wide,eqlVal_int,allT,↓aop_eqlV,apure_neq,List.map_cons,List.map_nil,List.all_cons,List.all_nil,lit2,lit1,lit0,List.isEmpty_nil,bls,Bool.false_eq_true,if_true,if_false,List.length_map,beq_self_eq_true,uns]
 exact ⟨_,rfl,rfl⟩
theorem fp_5 {m1 m2:Mem} {X:Nat} {e:Int} (h2:F 2=.pointer (some ⟨p,0,none⟩)) (gp:m[p]? = some (.row false 54 (rowK .u8 32 u))) (hc:ainv E self 31 [arrK .u8 32 u] m=some (.tuple ⟨[el X,.int .i64 e]⟩,m)) (ha:aalloc E.P 56 m=some (.pointer (some ⟨x,0,none⟩),m1)) (st:astore E.P 56 (.pointer (some ⟨x,0,none⟩)) (el X) m1=some m2) :
  ∃ F',acodeN E self nf (.region 5 rfp_5 false) (lst F 75) m=some (.normal,lst F' 75,m2)∧F' 5=.pointer (some ⟨x,0,none⟩)∧F' 6=.int .i64 e∧∀ j,j≠5→j≠6→j<11→F' j=F j:=by
 have ld:=a46.load gp
 generalize arrK .u8 32 u=va at *
 generalize el X=eX at *
 simp only [ofp_5,agd_none,gdAt,gdV_bool,gdV_undef,List.append_eq,List.cons_append,List.nil_append,apure_call1,apure_call2,apure_call3,bft,btf,acodeN,List.getElem?_toArray,List.getElem?_cons_zero,List.getElem?_cons_succ,aopsN,adrawT,cls,astep,aop,afloat,ev,nth_lst,get_lst,aput,setAt_lst,upd_at,init_zero,init_succ,init_nil,Nat.reduceLT,Nat.reduceEqDiff,reduceIte,abuiltin,alen,Option.map_some,Option.map_none,orElse_some,apure_add,apure_eqlV,eqlVal_str,eqlVal_bool,eqlVal_ptr,eqlVal_slice,eqlVal_wide,eqlVal_int,allT,↓aop_eqlV,apure_neq,List.map_cons,List.map_nil,List.all_cons,List.all_nil,lit2,lit1,lit0,List.isEmpty_nil,bls,Bool.false_eq_true,if_true,if_false,List.length_map,beq_self_eq_true,uns,h2,ld,callPa,hc,ha,st,exW0,exW1]
 exact ⟨_,rfl,rfl,rfl,fun j h1 h2 h3=>by repeat rw [upd_ne (by omega)]⟩
theorem fp_6:∃ F',acodeN E self nf (.region 6 rfp_6 false) (lst F 75) m=some (.normal,lst F' 75,m++[.row false 5 (rowK .u8 32 fun _=>0)])∧F' 7=.slice (some ⟨m.length,0,none⟩) 32 32∧∀ j,j≠7→j<11→F' j=F j:=by
 have b2:=make35n 32 (by omega) m
 rw [rowK_zero,show (((32:Nat):Int))=32 from rfl] at b2
 simp only [ofp_6,agd_none,gdAt,gdV_bool,gdV_undef,List.append_eq,List.cons_append,List.nil_append,apure_call1,apure_call2,apure_call3,bft,btf,acodeN,List.getElem?_toArray,List.getElem?_cons_zero,List.getElem?_cons_succ,aopsN,adrawT,cls,astep,aop,afloat,ev,nth_lst,get_lst,aput,setAt_lst,upd_at,init_zero,init_succ,init_nil,Nat.reduceLT,Nat.reduceEqDiff,reduceIte,abuiltin,alen,Option.map_some,Option.map_none,orElse_some,apure_add,apure_eqlV,eqlVal_str,eqlVal_bool,eqlVal_ptr,eqlVal_slice,eqlVal_wide,eqlVal_int,allT,↓aop_eqlV,apure_neq,List.map_cons,List.map_nil,List.all_cons,List.all_nil,lit2,lit1,lit0,List.isEmpty_nil,bls,Bool.false_eq_true,if_true,if_false,List.length_map,beq_self_eq_true,uns,b2]
 exact ⟨_,rfl,rfl,fun j h1 h2=>by repeat rw [upd_ne (by omega)]⟩
theorem fp_7 (h7:F 7=.slice (some ⟨q,0,none⟩) 32 32):∃ F',acodeN E self nf (.region 7 rfp_7 false) (lst F 75) m=some (.normal,lst F' 75,m)∧F' 23=.int .i64 32∧F' 24=.int .i64 ((0:Nat):Int)∧∀ j,j<11→F' j=F j:=by
 simp only [ofp_7,agd_none,gdAt,gdV_bool,gdV_undef,List.append_eq,List.cons_append,List.nil_append,apure_call1,apure_call2,apure_call3,bft,btf,acodeN,List.getElem?_toArray,List.getElem?_cons_zero,List.getElem?_cons_succ,aopsN,adrawT,cls,astep,aop,afloat,ev,nth_lst,get_lst,aput,setAt_lst,upd_at,init_zero,init_succ,init_nil,Nat.reduceLT,Nat.reduceEqDiff,reduceIte,abuiltin,alen,Option.map_some,Option.map_none,orElse_some,apure_add,apure_eqlV,eqlVal_str,eqlVal_bool,eqlVal_ptr,eqlVal_slice,eqlVal_wide,eqlVal_int,allT,↓aop_eqlV,apure_neq,List.map_cons,List.map_nil,List.all_cons,List.all_nil,lit2,lit1,lit0,List.isEmpty_nil,bls,Bool.false_eq_true,if_true,if_false,List.length_map,beq_self_eq_true,uns,h7,undB]
 exact ⟨_,rfl,by simp only [upd_at,Nat.reduceEqDiff,reduceIte]; rfl,by simp only [upd_at,Nat.reduceEqDiff,reduceIte]; rfl,fun j h1=>by repeat rw [upd_ne (by omega)]⟩
theorem fp_it (h2:F 2=.pointer (some ⟨p,0,none⟩)) (h7:F 7=.slice (some ⟨q,0,none⟩) 32 32) (h23:F 23=.int .i64 32) (h24:F 24=.int .i64 (i:Nat)) (hi:i<32) (hp:M[p]? = some (.row false 54 (rowK .u8 32 w))) (hq:M[q]? = some (.row false 5 (rowK .u8 32 v))) :
  ∃ F',acodeN E self nf lpfp_0 (lst F 75) M=some (.normal,lst F' 75,M.set q (.row false 5 (rowK .u8 32 fun j=>if j=i then w i else v j)))∧F' 24=.int .i64 ((i+1:Nat):Int)∧F' 23=F 23∧∀ j,j≠8→j<11→F' j=F j:=by
 have q2:decide (((i:Nat):Int)<32)=true:=decide_eq_true (by omega)
 have i1:=a46.ix (p:=p) (j:=i) hi
 have c1:=cellK hp hi
 have i2:=ix35 (b:=q) (L:=32) (c:=32) hi
 have st:=a46.storeE (x:=w i) hq hi
 have ld:=a46.loadE p i M
 have e4:=w1 (i:=i) (by omega)
 simp only [lpfp_0_eq,↓dfp_15,↓sfp_15,ofp_0,ofp_1,ofp_2,ofp_3,ofp_4,ofp_5,ofp_6,ofp_7,ofp_8,ofp_9,ofp_10,ofp_11,ofp_12,ofp_13,ofp_14,ofp_15,ofp_16,ofp_17,ofp_18,ofp_19,ofp_20,gfp_13_2,gfp_15_2,gfp_18_2,agd_none,gdAt,gdV_bool,gdV_undef,List.append_eq,List.cons_append,List.nil_append,apure_call1,apure_call2,apure_call3,bft,btf,acodeN,List.getElem?_toArray,List.getElem?_cons_zero,List.getElem?_cons_succ,aopsN,adrawT,cls,astep,aop,afloat,ev,nth_lst,get_lst,aput,setAt_lst,upd_at,init_zero,init_succ,init_nil,Nat.reduceLT,Nat.reduceEqDiff,reduceIte,len_N,abuiltin_app,Option.map_some,Option.map_none,orElse_some,apure_add,apure_eqlV,eqlVal_str,eqlVal_bool,eqlVal_ptr,eqlVal_slice,eqlVal_wide,eqlVal_int,allT,↓aop_eqlV,apure_neq,List.map_cons,List.map_nil,List.all_cons,List.all_nil,lit2,lit1,lit0,List.isEmpty_nil,bls,Bool.false_eq_true,if_true,if_false,List.length_map,beq_self_eq_true,uns,h2,h7,h23,h24,lss64,q2,i1,ld,c1,i2,st,add64',e4]
 exact ⟨_,rfl,rfl,by simp only [upd_at,Nat.reduceEqDiff,reduceIte,h23],fun j h1 h2=>by repeat rw [upd_ne (by omega)]⟩
theorem fp_ex (h23:F 23=.int .i64 32) (h24:F 24=.int .i64 (i:Nat)) (hi:32≤i):∃ F',acodeN E self nf lpfp_0 (lst F 75) M=some (.exit 0,lst F' 75,M)∧∀ j,j<11→F' j=F j:=by
 have q2:decide (((i:Nat):Int)<32)=false:=decide_eq_false (by omega)
 simp only [lpfp_0_eq,↓dfp_15,↓sfp_15,ofp_0,ofp_1,ofp_2,ofp_3,ofp_4,ofp_5,ofp_6,ofp_7,ofp_8,ofp_9,ofp_10,ofp_11,ofp_12,ofp_13,ofp_14,ofp_15,ofp_16,ofp_17,ofp_18,ofp_19,ofp_20,gfp_13_2,gfp_15_2,gfp_18_2,agd_none,gdAt,gdV_bool,gdV_undef,List.append_eq,List.cons_append,List.nil_append,apure_call1,apure_call2,apure_call3,bft,btf,acodeN,List.getElem?_toArray,List.getElem?_cons_zero,List.getElem?_cons_succ,aopsN,adrawT,cls,astep,aop,afloat,ev,nth_lst,get_lst,aput,setAt_lst,upd_at,init_zero,init_succ,init_nil,Nat.reduceLT,Nat.reduceEqDiff,reduceIte,len_N,abuiltin_app,Option.map_some,Option.map_none,orElse_some,apure_add,apure_eqlV,eqlVal_str,eqlVal_bool,eqlVal_ptr,eqlVal_slice,eqlVal_wide,eqlVal_int,allT,↓aop_eqlV,apure_neq,List.map_cons,List.map_nil,List.all_cons,List.all_nil,lit2,lit1,lit0,List.isEmpty_nil,bls,Bool.false_eq_true,if_true,if_false,List.length_map,beq_self_eq_true,uns,h23,h24,lss64,q2]
 exact ⟨_,rfl,fun j h1=>by repeat rw [upd_ne (by omega)]⟩
theorem fp_12 {m1 m2:Mem} {v1 v2:Value} {c:Int} {b:Bool} {t:ByteArray} (h7:F 7=.slice (some ⟨q,0,none⟩) 32 32) (e1:aconvB E.P 35 9 (.slice (some ⟨q,0,none⟩) 32 32) m=some (.string t,m)) (e2:ainv E self 15 [.string t] m=some (v1,m1)) (e3:ainv E self 32 [] m1=some (v2,m2)) (e4:ainv E self 11 [v1,v2] m2=some (.int .i64 c,m2)) (hb:decide (c≥0)=b) :
  ∃ F',acodeN E self nf (.region 12 rfp_12 false) (lst F 75) m=some (.normal,lst F' 75,m2)∧F' 39=.bool b∧∀ j,j<11→F' j=F j:=by
 have c0:=aconv35
 simp only [ofp_12,agd_none,gdAt,gdV_bool,gdV_undef,List.append_eq,List.cons_append,List.nil_append,apure_call1,apure_call2,apure_call3,bft,btf,acodeN,List.getElem?_toArray,List.getElem?_cons_zero,List.getElem?_cons_succ,aopsN,adrawT,cls,astep,aop,afloat,ev,nth_lst,get_lst,aput,setAt_lst,upd_at,init_zero,init_succ,init_nil,Nat.reduceLT,Nat.reduceEqDiff,reduceIte,len_N,abuiltin_app,Option.map_some,Option.map_none,orElse_some,apure_add,apure_eqlV,eqlVal_str,eqlVal_bool,eqlVal_ptr,eqlVal_slice,eqlVal_wide,eqlVal_int,allT,↓aop_eqlV,apure_neq,List.map_cons,List.map_nil,List.all_cons,List.all_nil,lit2,lit1,lit0,List.isEmpty_nil,bls,Bool.false_eq_true,if_true,if_false,List.length_map,beq_self_eq_true,uns,h7,c0,apure_convert,isAddr,e1,callOf,e2,callP5,e3,callCmp5,e4,geqI9,hb]
 exact ⟨_,rfl,rfl,fun j h1=>by repeat rw [upd_ne (by omega)]⟩
theorem fp_13 (h5:F 5=.pointer (some ⟨x,0,none⟩)) (h6:F 6=.int .i64 7) (ld:aload E.P 56 (.pointer (some ⟨x,0,none⟩)) m=some (el 0)) (hz:∀ M,ainv E self 33 [el 0] M=some (.bool true,M)) :
  ∃ F',acodeN E self nf (.region 13 rfp_13 false) (lst F 75) m=some (.normal,lst F' 75,m)∧F' 46=.bool false∧∀ j,j<11→F' j=F j:=by
 have q7:((7:Int) != 7)=false:=rfl
 generalize el 0=Z at *
 simp only [ofp_13,gfp_13_2,agd_none,gdAt,gdV_bool,gdV_undef,List.append_eq,List.cons_append,List.nil_append,apure_call1,apure_call2,apure_call3,bft,btf,acodeN,List.getElem?_toArray,List.getElem?_cons_zero,List.getElem?_cons_succ,aopsN,adrawT,cls,astep,aop,afloat,ev,nth_lst,get_lst,aput,setAt_lst,upd_at,init_zero,init_succ,init_nil,Nat.reduceLT,Nat.reduceEqDiff,reduceIte,abuiltin,alen,Option.map_some,Option.map_none,orElse_some,apure_add,apure_eqlV,eqlVal_str,eqlVal_bool,eqlVal_ptr,eqlVal_slice,eqlVal_wide,eqlVal_int,allT,↓aop_eqlV,apure_neq,List.map_cons,List.map_nil,List.all_cons,List.all_nil,lit2,lit1,lit0,List.isEmpty_nil,bls,Bool.false_eq_true,if_true,if_false,List.length_map,beq_self_eq_true,uns,↓aop_neqI,h5,h6,neqI_i64p,q7,ld,callZeF,hz]
 exact ⟨_,rfl,rfl,fun j h1=>by repeat rw [upd_ne (by omega)]⟩
theorem fp_15 {X:Nat} (h2:F 2=.pointer (some ⟨p,0,none⟩)) (h5:F 5=.pointer (some ⟨x,0,none⟩)) (h6:F 6=.int .i64 0) (ld:aload E.P 56 (.pointer (some ⟨x,0,none⟩)) (m.map sealed)=some (el X)) (ld2:aload E.P 54 (.pointer (some ⟨p,0,none⟩)) (m.map sealed)=some (arrK .u8 32 u)) (hby:∀ M,ainv E self 34 [el X] M=some (arrK .u8 32 v,M)) (hq:∀ x y,neqVal E.P 54 x y (arrK .u8 32 v) (arrK .u8 32 u)=some (.bool false)) :
  ∃ F',acodeN E self nf (.region 15 rfp_15 true) (lst F 75) m=some (.normal,lst F' 75,m)∧F' 54=.bool false∧∀ j,j<11→F' j=F j:=by
 have q0:((0:Int) != 0)=false:=rfl
 have hq2:∀ x y,neqFp E.P 54 x y (arrK .u8 32 v) (arrK .u8 32 u)=some (.bool false):=fun x y=>by
  have:=hq x y
  unfold neqFp arrK
  unfold arrK at this
  simp only [this]
 have q00:∀ x y,neqFp E.P 39 x y (.int .i64 0) (.int .i64 0)=some (.bool false):=fun x y=>by
  unfold neqFp
  simp only [show abin .neq .i64 0 .i64 0=some (.bool false) by kernel_rfl]
 generalize arrK .u8 32 u=va at *
 generalize arrK .u8 32 v=vb at *
 generalize el X=eX at *
 simp only [↓dfp_15,↓sfp_15,ofp_15,gfp_15_2,agd_none,gdAt,gdV_bool,gdV_undef,List.append_eq,List.cons_append,List.nil_append,apure_call1,apure_call2,apure_call3,bft,btf,acodeN,List.getElem?_toArray,List.getElem?_cons_zero,List.getElem?_cons_succ,aopsN,adrawT,cls,astep,aop,afloat,ev,nth_lst,get_lst,aput,setAt_lst,upd_at,init_zero,init_succ,init_nil,Nat.reduceLT,Nat.reduceEqDiff,reduceIte,abuiltin,alen,Option.map_some,Option.map_none,orElse_some,apure_add,apure_eqlV,eqlVal_str,eqlVal_bool,eqlVal_ptr,eqlVal_slice,eqlVal_wide,eqlVal_int,allT,↓aop_eqlV,apure_neq,List.map_cons,List.map_nil,List.all_cons,List.all_nil,lit2,lit1,lit0,List.isEmpty_nil,bls,Bool.false_eq_true,if_true,if_false,List.length_map,beq_self_eq_true,uns,↓afloat_neqP,h2,h5,h6,q00,ld,ld2,callBy,wrBy,addr46,hby,hq2]
 exact ⟨_,rfl,rfl,fun j h1=>by repeat rw [upd_ne (by omega)]⟩
theorem fp_17 {m1:Mem} {N:Value} {b:Bool} (h1:F 1=.string s) (e1:ainv E self 25 [.string s] m=some (.tuple ⟨[N,.bool b]⟩,m1)):∃ F',acodeN E self nf (.region 17 rfp_17 false) (lst F 75) m=some (.normal,lst F' 75,m1)∧F' 9=N∧F' 10=.bool b∧∀ j,j<9→F' j=F j:=by
 simp only [ofp_17,agd_none,gdAt,gdV_bool,gdV_undef,List.append_eq,List.cons_append,List.nil_append,apure_call1,apure_call2,apure_call3,bft,btf,acodeN,List.getElem?_toArray,List.getElem?_cons_zero,List.getElem?_cons_succ,aopsN,adrawT,cls,astep,aop,afloat,ev,nth_lst,get_lst,aput,setAt_lst,upd_at,init_zero,init_succ,init_nil,Nat.reduceLT,Nat.reduceEqDiff,reduceIte,len_N,abuiltin_app,Option.map_some,Option.map_none,orElse_some,apure_add,apure_eqlV,eqlVal_str,eqlVal_bool,eqlVal_ptr,eqlVal_slice,eqlVal_wide,eqlVal_int,allT,↓aop_eqlV,apure_neq,List.map_cons,List.map_nil,List.all_cons,List.all_nil,lit2,lit1,lit0,List.isEmpty_nil,bls,Bool.false_eq_true,if_true,if_false,List.length_map,beq_self_eq_true,uns,h1,callDec,e1,exW0,exW1]
 exact ⟨_,rfl,rfl,rfl,fun j h1=>by repeat rw [upd_ne (by omega)]⟩
theorem fp_18n (h10:F 10=.bool false):∃ F',acodeN E self nf (.region 18 rfp_18 false) (lst F 75) m=some (.normal,lst F' 75,m)∧F' 66=.bool true∧∀ j,j<11→F' j=F j:=by
 simp only [ofp_18,gfp_18_2,agd_none,gdAt,gdV_bool,gdV_undef,List.append_eq,List.cons_append,List.nil_append,apure_call1,apure_call2,apure_call3,bft,btf,acodeN,List.getElem?_toArray,List.getElem?_cons_zero,List.getElem?_cons_succ,aopsN,adrawT,cls,astep,aop,afloat,ev,nth_lst,get_lst,aput,setAt_lst,upd_at,init_zero,init_succ,init_nil,Nat.reduceLT,Nat.reduceEqDiff,reduceIte,abuiltin,alen,Option.map_some,Option.map_none,orElse_some,apure_add,apure_eqlV,eqlVal_str,eqlVal_bool,eqlVal_ptr,eqlVal_slice,eqlVal_wide,eqlVal_int,allT,↓aop_eqlV,apure_neq,List.map_cons,List.map_nil,List.all_cons,List.all_nil,lit2,lit1,lit0,List.isEmpty_nil,bls,Bool.false_eq_true,if_true,if_false,List.length_map,beq_self_eq_true,uns,h10]
 exact ⟨_,rfl,rfl,fun j h1=>by repeat rw [upd_ne (by omega)]⟩
theorem fp_18 {N:Value} {b:Bool} (h9:F 9=N) (h10:F 10=.bool true) (hN:lenV N=some ((n:Nat):Int)) (hb:decide (((n:Nat):Int)>64)=b):∃ F',acodeN E self nf (.region 18 rfp_18 false) (lst F 75) m=some (.normal,lst F' 75,m)∧F' 66=.bool b∧∀ j,j<11→F' j=F j:=by
 simp only [ofp_18,gfp_18_2,agd_none,gdAt,gdV_bool,gdV_undef,List.append_eq,List.cons_append,List.nil_append,apure_call1,apure_call2,apure_call3,bft,btf,acodeN,List.getElem?_toArray,List.getElem?_cons_zero,List.getElem?_cons_succ,aopsN,adrawT,cls,astep,aop,afloat,ev,nth_lst,get_lst,aput,setAt_lst,upd_at,init_zero,init_succ,init_nil,Nat.reduceLT,Nat.reduceEqDiff,reduceIte,len_N,abuiltin_app,Option.map_some,Option.map_none,orElse_some,apure_add,apure_eqlV,eqlVal_str,eqlVal_bool,eqlVal_ptr,eqlVal_slice,eqlVal_wide,eqlVal_int,allT,↓aop_eqlV,apure_neq,List.map_cons,List.map_nil,List.all_cons,List.all_nil,lit2,lit1,lit0,List.isEmpty_nil,bls,Bool.false_eq_true,if_true,if_false,List.length_map,beq_self_eq_true,uns,h9,h10,hN,gtr64',hb]
 exact ⟨_,rfl,rfl,fun j h1=>by repeat rw [upd_ne (by omega)]⟩
theorem fp_19 (h1:F 1=.string s) (e1:ainv E self 35 [.string s] m=some (el 0,m)) (hz:∀ M,ainv E self 33 [el 0] M=some (.bool true,M)):∃ F',acodeN E self nf (.region 19 rfp_19 false) (lst F 75) m=some (.normal,lst F' 75,m)∧F' 4=.bool true:=by
 generalize el 0=Z at *
 simp only [ofp_19,agd_none,gdAt,gdV_bool,gdV_undef,List.append_eq,List.cons_append,List.nil_append,apure_call1,apure_call2,apure_call3,bft,btf,acodeN,List.getElem?_toArray,List.getElem?_cons_zero,List.getElem?_cons_succ,aopsN,adrawT,cls,astep,aop,afloat,ev,nth_lst,get_lst,aput,setAt_lst,upd_at,init_zero,init_succ,init_nil,Nat.reduceLT,Nat.reduceEqDiff,reduceIte,abuiltin,alen,Option.map_some,Option.map_none,orElse_some,apure_add,apure_eqlV,eqlVal_str,eqlVal_bool,eqlVal_ptr,eqlVal_slice,eqlVal_wide,eqlVal_int,allT,↓aop_eqlV,apure_neq,List.map_cons,List.map_nil,List.all_cons,List.all_nil,lit2,lit1,lit0,List.isEmpty_nil,bls,Bool.false_eq_true,if_true,if_false,List.length_map,beq_self_eq_true,uns,h1,callFDec,e1,callZeF,hz]
 exact ⟨_,rfl,rfl⟩
theorem fp_20 {m1:Mem} {N R:Value} {X:Nat} (h1:F 1=.string s) (h9:F 9=N) (e1:ainv E self 35 [.string s] m=some (el X,m)) (e2:ainv E self 37 [N] m=some (R,m1)) (e3:ainv E self 36 [el X,R] m1=some (.bool true,m1)):∃ F',acodeN E self nf (.region 20 rfp_20 false) (lst F 75) m=some (.normal,lst F' 75,m1)∧F' 4=.bool true:=by
 generalize el X=eX at *
 simp only [ofp_20,agd_none,gdAt,gdV_bool,gdV_undef,List.append_eq,List.cons_append,List.nil_append,apure_call1,apure_call2,apure_call3,bft,btf,acodeN,List.getElem?_toArray,List.getElem?_cons_zero,List.getElem?_cons_succ,aopsN,adrawT,cls,astep,aop,afloat,ev,nth_lst,get_lst,aput,setAt_lst,upd_at,init_zero,init_succ,init_nil,Nat.reduceLT,Nat.reduceEqDiff,reduceIte,len_N,abuiltin_app,Option.map_some,Option.map_none,orElse_some,apure_add,apure_eqlV,eqlVal_str,eqlVal_bool,eqlVal_ptr,eqlVal_slice,eqlVal_wide,eqlVal_int,allT,↓aop_eqlV,apure_neq,List.map_cons,List.map_nil,List.all_cons,List.all_nil,lit2,lit1,lit0,List.isEmpty_nil,bls,Bool.false_eq_true,if_true,if_false,List.length_map,beq_self_eq_true,uns,h1,h9,callFDec,e1,callRed,e2,callIs5,e3]
 exact ⟨_,rfl,rfl⟩
end
end Go.Am.Seat
namespace Go.Am.Seat
open Go.Proofs Go.Am
section
variable {self:Self} {nf:Nat} {m:Mem}
end
section
variable {self:Self} {nf:Nat} {m:Mem} {F:Nat→Value} {a b:Value} {x y k:Nat}
end
end Go.Am.Seat
