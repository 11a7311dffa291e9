import Derived.Test.YtcnhakfmnkegcaaDoorGrFieldParses17
import Derived.Test.YtcnhakfmnkegcaaDoorGrFieldParses15
set_option linter.unusedSimpArgs false
set_option linter.unusedVariables false
noncomputable section
set_option maxRecDepth 100000
namespace Go.Am.Seat
open Go.Proofs Go.Am Go.Am.Num Go.Am.Kn
def rms_0:=opR Tryd.f63 [0]
def lms_0:List Oper:=match Tryd.f63.body with
 | some (.seq (.region _ o _) _)=>o.toList
 | _=>[]
theorem ems_0:rms_0.toList=lms_0:=rfl
def rms_1:=opR Tryd.f63 [1,0]
def lms_1:List Oper:=match Tryd.f63.body with
 | some (.seq _ (.seq (.region _ o _) _))=>o.toList
 | _=>[]
theorem ems_1:rms_1.toList=lms_1:=rfl
def rms_2:=opR Tryd.f63 [1,1,0]
def lms_2:List Oper:=match Tryd.f63.body with
 | some (.seq _ (.seq _ (.seq (.region _ o _) _)))=>o.toList
 | _=>[]
theorem ems_2:rms_2.toList=lms_2:=rfl
def rms_3:=opR Tryd.f63 [1,1,1,0]
def lms_3:List Oper:=match Tryd.f63.body with
 | some (.seq _ (.seq _ (.seq _ (.seq (.region _ o _) _))))=>o.toList
 | _=>[]
theorem ems_3:rms_3.toList=lms_3:=rfl
def rms_4:=opR Tryd.f63 [1,1,1,1,0]
def lms_4:List Oper:=match Tryd.f63.body with
 | some (.seq _ (.seq _ (.seq _ (.seq _ (.seq (.region _ o _) _)))))=>o.toList
 | _=>[]
theorem ems_4:rms_4.toList=lms_4:=rfl
def rms_5:=opR Tryd.f63 [1,1,1,1,1,0]
def lms_5:List Oper:=match Tryd.f63.body with
 | some (.seq _ (.seq _ (.seq _ (.seq _ (.seq _ (.seq (.region _ o _) _))))))=>o.toList
 | _=>[]
theorem ems_5:rms_5.toList=lms_5:=rfl
theorem bodyms:Tryd.f63.body=some (.seq (.region 0 rms_0 false) (.seq (.region 1 rms_1 false) (.seq (.region 2 rms_2 false) (.seq (.region 3 rms_3 false) (.seq (.region 4 rms_4 false) (.seq (.region 5 rms_5 false) .ret)))))):=rfl
def rgue_0:=opR Tryd.f84 [0]
def lgue_0:List Oper:=match Tryd.f84.body with
 | some (.seq (.region _ o _) _)=>o.toList
 | _=>[]
theorem egue_0:rgue_0.toList=lgue_0:=rfl
def rgue_1:=opR Tryd.f84 [1,0,0]
def lgue_1:List Oper:=match Tryd.f84.body with
 | some (.seq _ (.seq (.seq (.region _ o _) _) _))=>o.toList
 | _=>[]
theorem egue_1:rgue_1.toList=lgue_1:=rfl
def rgue_2:=opR Tryd.f84 [1,0,1,0,0]
def lgue_2:List Oper:=match Tryd.f84.body with
 | some (.seq _ (.seq (.seq _ (.cond _ (.seq (.region _ o _) _) _)) _))=>o.toList
 | _=>[]
theorem egue_2:rgue_2.toList=lgue_2:=rfl
def rgue_3:=opR Tryd.f84 [1,1,0]
def lgue_3:List Oper:=match Tryd.f84.body with
 | some (.seq _ (.seq _ (.seq (.region _ o _) _)))=>o.toList
 | _=>[]
theorem egue_3:rgue_3.toList=lgue_3:=rfl
def lpgue_0:Code:=match Tryd.f84.body with
 | some (.seq _ (.seq _ (.seq _ (.block _ (.loop c)))))=>c
 | _=>.skip
def rgue_4:=opR Tryd.f84 [1,1,1,0,0,0,0]
def lgue_4:List Oper:=match Tryd.f84.body with
 | some (.seq _ (.seq _ (.seq _ (.block _ (.loop (.block _ (.seq (.region _ o _) _)))))))=>o.toList
 | _=>[]
theorem egue_4:rgue_4.toList=lgue_4:=rfl
def rgue_5:=opR Tryd.f84 [1,1,1,0,0,0,1,0,0]
def lgue_5:List Oper:=match Tryd.f84.body with
 | some (.seq _ (.seq _ (.seq _ (.block _ (.loop (.block _ (.seq _ (.seq (.seq (.region _ o _) _) _))))))))=>o.toList
 | _=>[]
theorem egue_5:rgue_5.toList=lgue_5:=rfl
theorem ggue_5_3 {T:List Value} {dd:Option Tmp} {op:Op} {ty:TypeId} {pos:String} {af:Array Edge} {want:Bool}:agd rgue_5 T { dst:=dd,op:=op,type:=ty,pos:=pos,after:=af,guard:=some (3,want) }=gdAt T 35 want:=agd_at (by kernel_rfl)
theorem ggue_5_7 {T:List Value} {dd:Option Tmp} {op:Op} {ty:TypeId} {pos:String} {af:Array Edge} {want:Bool}:agd rgue_5 T { dst:=dd,op:=op,type:=ty,pos:=pos,after:=af,guard:=some (7,want) }=gdAt T 39 want:=agd_at (by kernel_rfl)
def rgue_6:=opR Tryd.f84 [1,1,1,0,0,0,1,0,1,0,0]
def lgue_6:List Oper:=match Tryd.f84.body with
 | some (.seq _ (.seq _ (.seq _ (.block _ (.loop (.block _ (.seq _ (.seq (.seq _ (.cond _ (.seq (.region _ o _) _) _)) _))))))))=>o.toList
 | _=>[]
theorem egue_6:rgue_6.toList=lgue_6:=rfl
def rgue_7:=opR Tryd.f84 [1,1,1,0,0,0,1,1,0]
def lgue_7:List Oper:=match Tryd.f84.body with
 | some (.seq _ (.seq _ (.seq _ (.block _ (.loop (.block _ (.seq _ (.seq _ (.seq (.region _ o _) _)))))))))=>o.toList
 | _=>[]
theorem egue_7:rgue_7.toList=lgue_7:=rfl
def rgue_8:=opR Tryd.f84 [1,1,1,0,0,0,1,1,1,0]
def lgue_8:List Oper:=match Tryd.f84.body with
 | some (.seq _ (.seq _ (.seq _ (.block _ (.loop (.block _ (.seq _ (.seq _ (.seq _ (.seq (.region _ o _) _))))))))))=>o.toList
 | _=>[]
theorem egue_8:rgue_8.toList=lgue_8:=rfl
def rgue_9:=opR Tryd.f84 [1,1,1,0,0,0,1,1,1,1,0]
def lgue_9:List Oper:=match Tryd.f84.body with
 | some (.seq _ (.seq _ (.seq _ (.block _ (.loop (.block _ (.seq _ (.seq _ (.seq _ (.seq _ (.seq (.region _ o _) _)))))))))))=>o.toList
 | _=>[]
theorem egue_9:rgue_9.toList=lgue_9:=rfl
def rgue_10:=opR Tryd.f84 [1,1,1,0,0,0,1,1,1,1,1,0]
def lgue_10:List Oper:=match Tryd.f84.body with
 | some (.seq _ (.seq _ (.seq _ (.block _ (.loop (.block _ (.seq _ (.seq _ (.seq _ (.seq _ (.seq _ (.seq (.region _ o _) _))))))))))))=>o.toList
 | _=>[]
theorem egue_10:rgue_10.toList=lgue_10:=rfl
def rgue_11:=opR Tryd.f84 [1,1,1,0,0,0,1,1,1,1,1,1,0,0]
def lgue_11:List Oper:=match Tryd.f84.body with
 | some (.seq _ (.seq _ (.seq _ (.block _ (.loop (.block _ (.seq _ (.seq _ (.seq _ (.seq _ (.seq _ (.seq _ (.cond _ (.seq (.region _ o _) _) _)))))))))))))=>o.toList
 | _=>[]
theorem egue_11:rgue_11.toList=lgue_11:=rfl
theorem lpgue_0_eq:lpgue_0=(.block 1 (.seq (.region 4 rgue_4 false) (.seq (.seq (.region 5 rgue_5 false) (.cond (.tmp 44) (.seq (.region 6 rgue_6 false) .ret) .skip)) (.seq (.region 7 rgue_7 false) (.seq (.region 8 rgue_8 false) (.seq (.region 9 rgue_9 false) (.seq (.region 10 rgue_10 false) (.cond (.tmp 55) (.seq (.region 11 rgue_11 false) .ret) .skip)))))))):=rfl
theorem bodygue:Tryd.f84.body=some (.seq (.region 0 rgue_0 false) (.seq (.seq (.region 1 rgue_1 false) (.cond (.tmp 18) (.seq (.region 2 rgue_2 false) .ret) .skip)) (.seq (.region 3 rgue_3 false) (.block 0 (.loop lpgue_0))))):=rfl
theorem callMs:callableB E.P 63=true:=by kernel_rfl
theorem callDv64:callableB E.P 64=true:=by kernel_rfl
abbrev Ml64 (self:Self):Prop:=∀ x y,x<18446744073709551616→y<18446744073709551616→Ans self 83 [U x,U y] (pair64 (x*y / 18446744073709551616) (x*y%18446744073709551616))
theorem prod_le {x y:Nat} (hx:x<18446744073709551616) (hy:y<18446744073709551616):x*y≤340282366920938463426481119284349108225:=by
 have:x*y≤18446744073709551615*18446744073709551615:=Nat.mul_le_mul (by omega) (by omega)
 omega
section
variable {self:Self} {nf:Nat} {m:Mem} {F:Nat→Value} {x y a c:Nat}
theorem ms_body (hml:Ml64 self) (hx:x<18446744073709551616) (hy:y<18446744073709551616) (ha:a<18446744073709551616) (hc:c<18446744073709551616) :
  abody E self nf 63 [U x,U y,U a,U c] m=some (pair64 ((x*y+a+c)%18446744073709551616) ((x*y+a+c) / 18446744073709551616),m):=by
 rw [abody_eqF (by kernel_rfl) Tryd.func63 bodyms (by kernel_rfl) (Nat.le_of_ble_eq_true rfl)]
 rw [show Tryd.f63.ntmps=38 from rfl]
 have hp:=prod_le hx hy
 have m0:=hml x y hx hy
 unfold Ans at m0
 generalize x*y=p at *
 have e1:((p%18446744073709551616+a)%18446744073709551616+c)%18446744073709551616=(p+a+c)%18446744073709551616:=by omega
 have e2:((p / 18446744073709551616+(p%18446744073709551616+a) / 18446744073709551616)%18446744073709551616+((p%18446744073709551616+a)%18446744073709551616+c) / 18446744073709551616)%18446744073709551616=(p+a+c) / 18446744073709551616:=by omega
 simp only [ems_0,ems_1,ems_2,ems_3,ems_4,ems_5,lms_0,lms_1,lms_2,lms_3,lms_4,lms_5,agd_none,Tryd.f63,List.cons_append,List.nil_append,acodeN,aopsN,astep,aop,ev,nth_lst,aput,setAt_lst,upd_at,init_zero,init_succ,init_nil,Nat.reduceLT,Nat.reduceEqDiff,Option.map_some,List.map_cons,List.map_nil,List.isEmpty_nil,bls,if_true,if_false,callMl,m0,ex0,ex1,callAdd,extAdd,add64O,addN,e1,e2,finish,ares,aresL,ares1]
 rfl
end
theorem splitP {P l t:Nat} (ht:t<18446744073709551616):(P / 18446744073709551616<l∨P / 18446744073709551616=l∧P%18446744073709551616≤t)↔P≤18446744073709551616*l+t:=by omega
section
variable {self:Self} {nf:Nat} {m:Mem} {F:Nat→Value} {q l t v1 v2:Nat}
theorem gue_4 (hml:Ml64 self) (h11:F 11=U q) (h4:F 4=U v2) (hq:q<18446744073709551616) (h2:v2<18446744073709551616) :
  ∃ F',acodeN E self nf (.region 4 rgue_4 false) (lst F 57) m=some (.normal,lst F' 57,m)∧F' 13=U (q*v2 / 18446744073709551616)∧F' 14=U (q*v2%18446744073709551616)∧∀ j,j<13→F' j=F j:=by
 have m0:=hml q v2 hq h2
 unfold Ans at m0
 simp only [egue_4,lgue_4,agd_none,Tryd.f84,List.cons_append,List.nil_append,acodeN,aopsN,astep,aop,ev,nth_lst,aput,setAt_lst,upd_at,Nat.reduceLT,Nat.reduceEqDiff,Option.map_some,List.map_cons,List.map_nil,List.isEmpty_nil,bls,if_true,if_false,h11,h4,callMl,m0,ex0,ex1]
 exact ⟨_,rfl,rfl,rfl,fun j h1=>by repeat rw [upd_ne (by omega)]⟩
theorem gue_5 {hi lo:Nat} {c:Bool} (h13:F 13=U hi) (h14:F 14=U lo) (h12:F 12=U l) (h2:F 2=U t) (hc:(hi<l∨hi=l∧lo≤t)↔c=true) :
  ∃ F',acodeN E self nf (.region 5 rgue_5 false) (lst F 57) m=some (.normal,lst F' 57,m)∧F' 44=.bool c∧∀ j,j<16→F' j=F j:=by
 by_cases h1:hi<l
 ·have d1:decide (((hi:Nat):Int)<((l:Nat):Int))=true:=decide_eq_true (by omega)
  have c1:c=true:=hc.1 (.inl h1)
  subst c1
  simp only [egue_5,lgue_5,ggue_5_3,ggue_5_7,agd_none,gdAt,gdV_bool,gdV_undef,Tryd.f84,btf,acodeN,aopsN,astep,aop,ev,nth_lst,get_lst,aput,setAt_lst,upd_at,Nat.reduceLT,Nat.reduceEqDiff,if_true,if_false,h13,h12,lssU',d1]
  exact ⟨_,rfl,rfl,fun j h1=>by repeat rw [upd_ne (by omega)]⟩
 ·have d1:decide (((hi:Nat):Int)<((l:Nat):Int))=false:=decide_eq_false (by omega)
  by_cases h3:hi=l
  ·have d2:(((hi:Nat):Int)==((l:Nat):Int))=true:=by rw [h3]; simp
   have d3:decide (((lo:Nat):Int)≤((t:Nat):Int))=c:=by
    cases c with
    | true=>exact decide_eq_true (by have:=hc.2 rfl; omega)
    | false=>exact decide_eq_false (by intro h; have h9:=hc.1 (.inr ⟨h3,by omega⟩); simp at h9)
   simp only [egue_5,lgue_5,ggue_5_3,ggue_5_7,agd_none,gdAt,gdV_bool,Tryd.f84,acodeN,aopsN,astep,aop,ev,nth_lst,get_lst,aput,setAt_lst,upd_at,Nat.reduceLT,Nat.reduceEqDiff,Option.map_some,eqlVal_int,↓aop_eqlV,Bool.false_eq_true,if_true,if_false,beq_self_eq_true,h13,h14,h12,h2,lssU',d1,d2,leqU',d3]
   exact ⟨_,rfl,rfl,fun j h1=>by repeat rw [upd_ne (by omega)]⟩
  ·have d2:(((hi:Nat):Int)==((l:Nat):Int))=false:=by rw [beq_eq_false_iff_ne]; omega
   have c1:c=false:=by
    cases c with
    | false=>rfl
    | true=>have:=hc.2 rfl; omega
   subst c1
   simp only [egue_5,lgue_5,ggue_5_3,ggue_5_7,agd_none,gdAt,gdV_bool,Tryd.f84,bft,acodeN,aopsN,astep,aop,ev,nth_lst,get_lst,aput,setAt_lst,upd_at,Nat.reduceLT,Nat.reduceEqDiff,Option.map_some,eqlVal_int,↓aop_eqlV,Bool.false_eq_true,if_true,if_false,beq_self_eq_true,h13,h12,lssU',d1,d2]
   exact ⟨_,rfl,rfl,fun j h1=>by repeat rw [upd_ne (by omega)]⟩
theorem gue_6 (h11:F 11=U q):∃ F',acodeN E self nf (.region 6 rgue_6 false) (lst F 57) m=some (.normal,lst F' 57,m)∧F' 10=U q:=by
 simp only [egue_6,lgue_6,agd_none,Tryd.f84,acodeN,aopsN,astep,aop,ev,nth_lst,aput,setAt_lst,upd_at,Nat.reduceLT,if_true,h11]
 exact ⟨_,rfl,rfl⟩
theorem gue_11 (h11:F 11=U q):∃ F',acodeN E self nf (.region 11 rgue_11 false) (lst F 57) m=some (.normal,lst F' 57,m)∧F' 10=U q:=by
 simp only [egue_11,lgue_11,agd_none,Tryd.f84,acodeN,aopsN,astep,aop,ev,nth_lst,aput,setAt_lst,upd_at,Nat.reduceLT,if_true,h11]
 exact ⟨_,rfl,rfl⟩
theorem gue_7 (h11:F 11=U q) (hq1:1≤q) (hq:q<18446744073709551616):∃ F',acodeN E self nf (.region 7 rgue_7 false) (lst F 57) m=some (.normal,lst F' 57,m)∧F' 11=U (q-1)∧∀ j,j≠11→j<16→F' j=F j:=by
 have e:=subC1 hq1 hq
 simp only [egue_7,lgue_7,agd_none,Tryd.f84,acodeN,aopsN,astep,aop,ev,nth_lst,aput,setAt_lst,upd_at,Nat.reduceLT,Nat.reduceEqDiff,if_true,if_false,h11,subU,e]
 exact ⟨_,rfl,rfl,fun j h1 h2=>by repeat rw [upd_ne (by omega)]⟩
theorem gue_8:∃ F',acodeN E self nf (.region 8 rgue_8 false) (lst F 57) m=some (.normal,lst F' 57,m)∧∀ j,j≠15→j<16→F' j=F j:=by
 simp only [egue_8,lgue_8,agd_none,Tryd.f84,acodeN,aopsN,astep,aop,ev,aput,setAt_lst]
 exact ⟨_,rfl,fun j h1 h2=>by repeat rw [upd_ne (by omega)]⟩
theorem gue_9 (h12:F 12=U l) (h3:F 3=U v1):∃ F',acodeN E self nf (.region 9 rgue_9 false) (lst F 57) m=some (.normal,lst F' 57,m)∧F' 12=U ((l+v1)%18446744073709551616)∧F' 15=U ((l+v1) / 18446744073709551616)∧∀ j,j≠12→j≠15→j<16→F' j=F j:=by
 simp only [egue_9,lgue_9,agd_none,Tryd.f84,acodeN,aopsN,astep,aop,ev,nth_lst,aput,setAt_lst,upd_at,Nat.reduceLT,Nat.reduceEqDiff,Option.map_some,List.map_cons,List.map_nil,List.isEmpty_nil,bls,if_true,if_false,h12,h3,callAdd,extAdd,add64O,ex0,ex1]
 exact ⟨_,rfl,rfl,rfl,fun j h1 h2 h3=>by repeat rw [upd_ne (by omega)]⟩
theorem gue_10 {o:Nat} {e:Bool} (h15:F 15=U o) (he:(((o:Nat):Int) != 0)=e):∃ F',acodeN E self nf (.region 10 rgue_10 false) (lst F 57) m=some (.normal,lst F' 57,m)∧F' 55=.bool e∧∀ j,j<16→F' j=F j:=by
 simp only [egue_10,lgue_10,agd_none,Tryd.f84,acodeN,aopsN,astep,aop,ev,nth_lst,aput,setAt_lst,upd_at,Nat.reduceLT,if_true,h15,neqU',he]
 exact ⟨_,rfl,rfl,fun j h1=>by repeat rw [upd_ne (by omega)]⟩
theorem gue_it (hml:Ml64 self) (h2:F 2=U t) (h3:F 3=U v1) (h4:F 4=U v2) (h11:F 11=U q) (h12:F 12=U l) (hq:q<18446744073709551616) (hl:l<18446744073709551616) (ht:t<18446744073709551616) (hv1:v1<18446744073709551616) (hv2:v2<18446744073709551616) (c e:Bool) (hc:(q*v2≤18446744073709551616*l+t)↔c=true) (he:e=decide (18446744073709551616≤l+v1)) (hq1:c=false→1≤q) :
  ∃ F',acodeN E self nf lpgue_0 (lst F 57) m=some (if c||e then .ret else .normal,lst F' 57,m)∧(c=true→F' 10=U q)∧(c=false→e=true→F' 10=U (q-1))∧(c=false→e=false→F' 11=U (q-1)∧F' 12=U (l+v1)∧F' 2=U t∧F' 3=U v1∧F' 4=U v2):=by
 obtain ⟨A,ra,a13,a14,ak⟩:=gue_4 (self:=self) (nf:=nf) (m:=m) hml h11 h4 hq hv2
 obtain ⟨B,rb,b44,bk⟩:=gue_5 (self:=self) (nf:=nf) (m:=m) (c:=c) a13 a14 ((ak 12 (by omega)).trans h12) ((ak 2 (by omega)).trans h2) ((splitP ht).trans hc)
 have b11:B 11=U q:=(bk 11 (by omega)).trans ((ak 11 (by omega)).trans h11)
 cases c with
 | true =>
  obtain ⟨C,rc,c10⟩:=gue_6 (self:=self) (nf:=nf) (m:=m) b11
  refine ⟨C,?_,fun _=>c10,fun h=>(by cases h),fun h=>(by cases h)⟩
  rw [lpgue_0_eq]
  generalize Code.region 4 rgue_4 false=C4 at *
  generalize Code.region 5 rgue_5 false=C5 at *
  generalize Code.region 6 rgue_6 false=C6 at *
  simp only [acodeN,ra,rb,ev,nth_lst,Nat.reduceLT,if_true,b44,rc,Bool.true_or]
 | false =>
  have hq1:=hq1 rfl
  obtain ⟨D,rd,d11,dk⟩:=gue_7 (self:=self) (nf:=nf) (m:=m) b11 hq1 hq
  obtain ⟨G,re,gk⟩:=gue_8 (self:=self) (nf:=nf) (m:=m) (F:=D)
  have kk:∀ j,j<11→G j=F j:=fun j hj=>(gk j (by omega) (by omega)).trans ((dk j (by omega) (by omega)).trans ((bk j (by omega)).trans (ak j (by omega))))
  have g12:G 12=U l:=(gk 12 (by omega) (by omega)).trans ((dk 12 (by omega) (by omega)).trans ((bk 12 (by omega)).trans ((ak 12 (by omega)).trans h12)))
  have g11:G 11=U (q-1):=(gk 11 (by omega) (by omega)).trans d11
  obtain ⟨H,rf,x12,x15,hk⟩:=gue_9 (self:=self) (nf:=nf) (m:=m) g12 ((kk 3 (by omega)).trans h3)
  have hk9:∀ j,j<11→H j=F j:=fun j hj=>(hk j (by omega) (by omega) (by omega)).trans (kk j hj)
  have x11:H 11=U (q-1):=(hk 11 (by omega) (by omega) (by omega)).trans g11
  have he2:((((l+v1) / 18446744073709551616:Nat):Int) != 0)=e:=by
   rw [he]
   by_cases h:18446744073709551616≤l+v1
   ·rw [decide_eq_true h,bne_iff_ne]; omega
   ·rw [decide_eq_false h]
    have:(l+v1) / 18446744073709551616=0:=by omega
    rw [this]; rfl
  obtain ⟨I,rg,i55,ik⟩:=gue_10 (self:=self) (nf:=nf) (m:=m) x15 he2
  cases e with
  | true =>
   obtain ⟨J,rh,j10⟩:=gue_11 (self:=self) (nf:=nf) (m:=m) ((ik 11 (by omega)).trans x11)
   refine ⟨J,?_,fun h=>(by cases h),fun _ _=>j10,fun _ h=>(by cases h)⟩
   rw [lpgue_0_eq]
   generalize Code.region 4 rgue_4 false=C4 at *
   generalize Code.region 5 rgue_5 false=C5 at *
   generalize Code.region 7 rgue_7 false=C7 at *
   generalize Code.region 8 rgue_8 false=C8 at *
   generalize Code.region 9 rgue_9 false=C9 at *
   generalize Code.region 10 rgue_10 false=C10 at *
   generalize Code.region 11 rgue_11 false=C11 at *
   simp only [acodeN,ra,rb,rd,re,rf,rg,rh,ev,nth_lst,Nat.reduceLT,if_true,b44,i55,Bool.or_true]
  | false =>
   have hs:(l+v1)%18446744073709551616=l+v1:=by
    have:¬ 18446744073709551616≤l+v1:=by simpa using he.symm
    omega
   rw [hs] at x12
   refine ⟨I,?_,fun h=>(by cases h),fun _ h=>(by cases h),fun _ _=>⟨(ik 11 (by omega)).trans x11,(ik 12 (by omega)).trans x12,(ik 2 (by omega)).trans ((hk9 2 (by omega)).trans h2),(ik 3 (by omega)).trans ((hk9 3 (by omega)).trans h3),(ik 4 (by omega)).trans ((hk9 4 (by omega)).trans h4)⟩⟩
   rw [lpgue_0_eq]
   generalize Code.region 4 rgue_4 false=C4 at *
   generalize Code.region 5 rgue_5 false=C5 at *
   generalize Code.region 7 rgue_7 false=C7 at *
   generalize Code.region 8 rgue_8 false=C8 at *
   generalize Code.region 9 rgue_9 false=C9 at *
   generalize Code.region 10 rgue_10 false=C10 at *
   simp only [acodeN,ra,rb,rd,re,rf,rg,ev,nth_lst,Nat.reduceLT,if_true,b44,i55,Bool.or_self,Bool.false_eq_true,if_false]
def guessV (top next t v1 v2:Nat):Nat:=if v1≤top then 18446744073709551615 else ((top*18446744073709551616+next)*18446744073709551616+t) / (v1*18446744073709551616+v2)
theorem gue_loop {u:Nat} (hml:Ml64 self) (h2:F 2=U t) (h3:F 3=U v1) (h4:F 4=U v2) (h11:F 11=U (u / v1)) (h12:F 12=U (u%v1)) (ht:t<18446744073709551616) (hb:9223372036854775808≤v1) (hv1:v1<18446744073709551616) (hv2:v2<18446744073709551616) (hu:u<v1*18446744073709551616) (hnf:10<nf) :
  ∃ F',aloop (acodeN E self nf lpgue_0) nf (lst F 57) m=some (.ret,lst F' 57,m)∧F' 10=U ((u*18446744073709551616+t) / (v1*18446744073709551616+v2)):=by
 have hY:0<v1*18446744073709551616+v2:=by omega
 have huY:u<v1*18446744073709551616+v2:=Nat.lt_of_lt_of_le hu (Nat.le_add_right _ _)
 have hF:=two_digits huY ht
 have hq0:u / v1<18446744073709551616:=Nat.div_lt_of_lt_mul hu
 have hloop:=aloop_inv (body:=acodeN E self nf lpgue_0) (N:=2)
  (I:=fun k T m'=>m'=m∧∃ G q r,T=lst G 57∧G 11=U q∧G 12=U r∧G 2=U t∧G 3=U v1∧G 4=U v2∧q<18446744073709551616∧DI 18446744073709551616 u t v1 v2 q r k)
  (Q:=fun x T m'=>x=.ret∧m'=m∧∃ G,T=lst G 57∧G 10=U ((u*18446744073709551616+t) / (v1*18446744073709551616+v2))) (fun k T m' hk hI=>by
   obtain ⟨rfl,G,q,r,rfl,gq,gr,g2,g3,g4,hq,hD⟩:=hI
   have hk2:=hD.rounds2 (by omega)
   obtain ⟨c,hc⟩:∃ c:Bool,c=decide (q*v2≤18446744073709551616*r+t):=⟨_,rfl⟩
   obtain ⟨e,he⟩:∃ e:Bool,e=decide (18446744073709551616≤r+v1):=⟨_,rfl⟩
   have hc':(q*v2≤18446744073709551616*r+t)↔c=true:=by rw [hc]; exact decide_eq_true_iff.symm
   have hgt:c=false→18446744073709551616≤q∨18446744073709551616*r+t<q*v2:=fun h=>.inr (Nat.lt_of_not_le fun h9=>by rw [hc'.1 h9] at h; cases h)
   obtain ⟨F',hr,f1,f2,f3⟩:=gue_it (self:=self) (nf:=nf) (m:=m') hml g2 g3 g4 gq gr hq hD.small ht hv1 hv2 c e hc' he (fun h=>by
    have:=Nat.lt_of_le_of_lt (Nat.zero_le _) (hD.gt hF (hgt h))
    omega)
   cases c with
   | true =>
    right
    have h2:=hD.stop hY (hc'.2 rfl)
    exact ⟨_,_,_,hr,by simp,by simp,rfl,F',rfl,by rw [f1 rfl,h2]⟩
   | false =>
    have h1:=hgt rfl
    cases e with
    | false =>
     left
     have h3:¬ 18446744073709551616≤r+v1:=by simpa using he.symm
     have h4:=hD.next hF h1 (by omega)
     obtain ⟨y1,y2,y3,y4,y5⟩:=f3 rfl rfl
     exact ⟨_,_,hr,hk2,rfl,F',q-1,r+v1,rfl,y1,y2,y3,y4,y5,by omega,h4⟩
    | true =>
     right
     have h3:18446744073709551616≤r+v1:=by simpa using he.symm
     have h4:=hD.break hY hv2 hF h1 h3
     exact ⟨_,_,_,hr,by simp,by simp,rfl,F',rfl,by rw [f2 rfl rfl,h4]⟩)
 obtain ⟨x,T',m',hr,rfl,rfl,G,rfl,g⟩:=hloop 2 0 nf (lst F 57) m (by omega) (by omega) ⟨rfl,F,u / v1,u%v1,rfl,h11,h12,h2,h3,h4,hq0,DI.init (by omega) hv1 hv2 ht huY⟩
 exact ⟨G,hr,g⟩
theorem gue_1 {top:Nat} {c:Bool} (h0:F 0=U top) (h3:F 3=U v1) (hc:decide (v1≤top)=c) :
  ∃ F',acodeN E self nf (.seq (.region 1 rgue_1 false) (.cond (.tmp 18) (.seq (.region 2 rgue_2 false) .ret) .skip)) (lst F 57) m=some (if c then .ret else .normal,lst F' 57,m)∧(c=true→F' 10=U 18446744073709551615)∧∀ j,j<10→F' j=F j:=by
 have q:decide (((top:Nat):Int)≥((v1:Nat):Int))=c:=by rw [←hc]; congr 1; simp only [ge_iff_le,eq_iff_iff]; omega
 cases c with
 | true =>
  simp only [egue_1,egue_2,lgue_1,lgue_2,agd_none,Tryd.f84,acodeN,aopsN,astep,aop,ev,nth_lst,aput,setAt_lst,upd_at,Nat.reduceLT,Nat.reduceEqDiff,if_true,if_false,h0,h3,geqU,q]
  exact ⟨_,rfl,fun _=>by simp only [upd_at,Nat.reduceEqDiff,reduceIte]; rfl,fun j h1=>by repeat rw [upd_ne (by omega)]⟩
 | false =>
  simp only [egue_1,lgue_1,agd_none,Tryd.f84,acodeN,aopsN,astep,aop,ev,nth_lst,aput,setAt_lst,upd_at,Nat.reduceLT,Nat.reduceEqDiff,Bool.false_eq_true,if_true,if_false,h0,h3,geqU,q]
  exact ⟨_,rfl,fun h=>(by cases h),fun j h1=>by repeat rw [upd_ne (by omega)]⟩
theorem gue_3 {top next a b:Nat} (h0:F 0=U top) (h1:F 1=U next) (h3:F 3=U v1) (hdv:Ans self 64 [U top,U next,U v1] (pair64 a b)) :
  ∃ F',acodeN E self nf (.region 3 rgue_3 false) (lst F 57) m=some (.normal,lst F' 57,m)∧F' 11=U a∧F' 12=U b∧∀ j,j<10→F' j=F j:=by
 unfold Ans at hdv
 simp only [egue_3,lgue_3,agd_none,Tryd.f84,List.cons_append,List.nil_append,acodeN,aopsN,astep,aop,ev,nth_lst,aput,setAt_lst,upd_at,Nat.reduceLT,Nat.reduceEqDiff,Option.map_some,List.map_cons,List.map_nil,List.isEmpty_nil,bls,if_true,if_false,h0,h1,h3,callDv64,hdv,ex0,ex1]
 exact ⟨_,rfl,rfl,rfl,fun j h1=>by repeat rw [upd_ne (by omega)]⟩
theorem gue_0:∃ F',acodeN E self nf (.region 0 rgue_0 false) (lst F 57) m=some (.normal,lst F' 57,m)∧∀ j,j<10→F' j=F j:=by
 simp only [egue_0,lgue_0,agd_none,Tryd.f84,acodeN,aopsN,astep,aop,ev,aput,setAt_lst]
 exact ⟨_,rfl,fun j h1=>by repeat rw [upd_ne (by omega)]⟩
theorem gue_body {top next:Nat} (hml:Ml64 self) (hdv:∀ hi lo y,hi<y→y<18446744073709551616→lo<18446744073709551616→Ans self 64 [U hi,U lo,U y] (pair64 ((hi*18446744073709551616+lo) / y) ((hi*18446744073709551616+lo)%y)))
  (hn:next<18446744073709551616) (ht:t<18446744073709551616) (hb:9223372036854775808≤v1) (hv1:v1<18446744073709551616) (hv2:v2<18446744073709551616) (hnf:10<nf) :
  abody E self nf 84 [U top,U next,U t,U v1,U v2] m=some (U (guessV top next t v1 v2),m):=by
 rw [abody_eqF (by kernel_rfl) Tryd.func84 bodygue (by kernel_rfl) (Nat.le_of_ble_eq_true rfl)]
 rw [show Tryd.f84.ntmps=57 from rfl]
 obtain ⟨A,ra,ak⟩:=gue_0 (self:=self) (nf:=nf) (m:=m) (F:=init [U top,U next,U t,U v1,U v2])
 have a0:A 0=U top:=ak 0 (by omega)
 have a1:A 1=U next:=ak 1 (by omega)
 have a2:A 2=U t:=ak 2 (by omega)
 have a3:A 3=U v1:=ak 3 (by omega)
 have a4:A 4=U v2:=ak 4 (by omega)
 obtain ⟨c,hc⟩:∃ c:Bool,decide (v1≤top)=c:=⟨_,rfl⟩
 obtain ⟨B,rb,b10,bk⟩:=gue_1 (self:=self) (nf:=nf) (m:=m) a0 a3 hc
 unfold guessV
 cases c with
 | true =>
  rw [if_pos (of_decide_eq_true hc)]
  have b10:=b10 rfl
  generalize Code.region 0 rgue_0 false=C0 at *
  generalize Code.seq (Code.region 1 rgue_1 false) (Code.cond (Operand.tmp 18) (Code.seq (Code.region 2 rgue_2 false) Code.ret) Code.skip)=C1 at *
  simp only [acodeN,ra,rb,if_true,finish,ares,aresL,ares1,Tryd.f84,nth_lst,Nat.reduceLT,b10,Option.map_some]
 | false =>
  have hlt:¬ v1≤top:=of_decide_eq_false hc
  rw [if_neg hlt]
  obtain ⟨C,rc,c11,c12,ck⟩:=gue_3 (self:=self) (nf:=nf) (m:=m) ((bk 0 (by omega)).trans a0) ((bk 1 (by omega)).trans a1) ((bk 3 (by omega)).trans a3) (hdv top next v1 (by omega) hv1 hn)
  obtain ⟨D,rd,d10⟩:=gue_loop (self:=self) (nf:=nf) (m:=m) (u:=top*18446744073709551616+next) hml ((ck 2 (by omega)).trans ((bk 2 (by omega)).trans a2)) ((ck 3 (by omega)).trans ((bk 3 (by omega)).trans a3)) ((ck 4 (by omega)).trans ((bk 4 (by omega)).trans a4)) c11 c12 ht hb hv1 hv2 (by omega) hnf
  obtain ⟨QQ,hQQ⟩:∃ QQ,QQ=((top*18446744073709551616+next)*18446744073709551616+t) / (v1*18446744073709551616+v2):=⟨_,rfl⟩
  rw [←hQQ] at d10⊢
  clear hQQ
  generalize Code.region 0 rgue_0 false=C0 at *
  generalize Code.seq (Code.region 1 rgue_1 false) (Code.cond (Operand.tmp 18) (Code.seq (Code.region 2 rgue_2 false) Code.ret) Code.skip)=C1 at *
  generalize Code.region 3 rgue_3 false=C3 at *
  simp only [acodeN,ra,rb,rc,rd,if_true,Bool.false_eq_true,if_false,finish,ares,aresL,ares1,Tryd.f84,nth_lst,Nat.reduceLT,d10,Option.map_some]
end
end Go.Am.Seat
