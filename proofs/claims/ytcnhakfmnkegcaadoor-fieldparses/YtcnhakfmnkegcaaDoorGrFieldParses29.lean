import Derived.Test.YtcnhakfmnkegcaaDoorGrFieldParses28
import Derived.Test.YtcnhakfmnkegcaaDoorGrFieldParses26
set_option linter.unusedSimpArgs false
set_option linter.unusedVariables false
noncomputable section
set_option maxRecDepth 100000
namespace Go.Am.Seat
open Go.Proofs Go.Am
theorem head_at (l:List Nat):l.head? = l[0]? := by cases l<;>rfl
theorem rdec_body {self:Self} {nf:Nat} {m:Mem} {s:ByteArray} (cm:CMul self) (cs:CSmall self) (ca:CAdd self) (hs:s.data.toList.length≤390) (hnf:1000<nf) :
  ∃ v m1,abody E self nf 25 [.string s] m=some (.tuple ⟨[v,.bool (decOk (natsOf s))]⟩,m1)∧((decOk (natsOf s)=false∧v=.slice none 0 0)∨(decOk (natsOf s)=true∧NumB m.length v m1 (decV (natsOf s)))):=by
 rw [abody_eqF (by kernel_rfl) Tryd.func25 bodyrdec (by kernel_rfl) (Nat.le_of_ble_eq_true rfl)]
 rw [show Tryd.f25.ntmps=46 from rfl]
 have hnl:=natsOf_len s
 by_cases l0:s.data.toList.length=0
 ·have q0:(((s.data.toList.length:Nat):Int)==0)=true:=by rw [l0]; rfl
  have hd:decOk (natsOf s)=false:=by
   have d0:decide ((natsOf s).length≠0)=false:=decide_eq_false (by omega)
   unfold decOk
   rw [d0]
   rfl
  refine ⟨.slice none 0 0,m,?_,.inl ⟨hd,rfl⟩⟩
  rw [hd]
  simp only [erdec_0,erdec_1,erdec_2,lrdec_0,lrdec_1,lrdec_2,grdec_1_3,grdec_1_7,agd_none,gdAt,gdV_bool,gdV_undef,Tryd.f25,btf,acodeN,aopsN,astep,aop,ev,nth_lst,get_lst,aput,setAt_lst,upd_at,init_zero,init_succ,init_nil,Nat.reduceLT,Nat.reduceEqDiff,Option.map_some,eqlVal_int,↓aop_eqlV,if_true,if_false,uns,len_S,alen,q0,finish,ares,aresL,ares1]
 ·have q0:(((s.data.toList.length:Nat):Int)==0)=false:=by
   have:((s.data.toList.length:Nat):Int)≠0:=by omega
   simpa using this
  by_cases l1:1<s.data.toList.length
  ·have q1:decide (((s.data.toList.length:Nat):Int)>1)=true:=decide_eq_true (by omega)
   have hx:s.data.toList[0]? = some (s.data.toList[0]'(by omega)):=by simp [show 0<s.data.toList.length by omega]
   have hn:(natsOf s)[0]? = some (s.data.toList[0]'(by omega)).toNat:=by unfold natsOf; rw [List.getElem?_map,hx]; rfl
   generalize s.data.toList[0]'(by omega)=ch at hx hn
   have hi9:=index9 hx
   rw [show (((0:Nat):Int))=0 from rfl] at hi9
   by_cases hc:ch.toNat=48
   ·have q2:(((ch.toNat:Nat):Int)==48)=true:=by rw [hc]; rfl
    have hd:decOk (natsOf s)=false:=by
     have d1:decide (1<(natsOf s).length)=true:=decide_eq_true (by omega)
     unfold decOk
     rw [d1,head_at,hn,hc]
     simp
    refine ⟨.slice none 0 0,m,?_,.inl ⟨hd,rfl⟩⟩
    rw [hd]
    simp only [erdec_0,erdec_1,erdec_2,lrdec_0,lrdec_1,lrdec_2,grdec_1_3,grdec_1_7,agd_none,gdAt,gdV_bool,Tryd.f25,acodeN,aopsN,astep,aop,ev,nth_lst,get_lst,aput,setAt_lst,upd_at,init_zero,init_succ,init_nil,Nat.reduceLT,Nat.reduceEqDiff,Option.map_some,eqlVal_int,↓aop_eqlV,Bool.false_eq_true,if_true,if_false,beq_self_eq_true,uns,len_S,alen,q0,gtr64',q1,hi9,q2,finish,ares,aresL,ares1]
   ·have q2:(((ch.toNat:Nat):Int)==48)=false:=by
     have:((ch.toNat:Nat):Int)≠48:=by omega
     simpa using this
    have hd:decOk (natsOf s)=digitsOk (natsOf s):=by
     have d0:decide ((natsOf s).length≠0)=true:=decide_eq_true (by omega)
     have d2:decide ((some ch.toNat)=some 48)=false:=decide_eq_false (by simpa using hc)
     unfold decOk
     rw [d0,head_at,hn,d2]
     simp
    obtain ⟨e,F',m',hr,hq⟩:=rdec_loop (self:=self) (nf:=nf) (m:=m) (s:=s) cm cs ca hs hnf (F:=upd (upd (upd (upd (upd (upd (upd (upd (upd (upd (upd (upd (upd (upd (upd (upd (upd (init [.string s]) 2 (.slice none 0 0)) 3 (.bool false)) 6 (.string s)) 7 (.int .i64 ((s.data.toList.length:Nat):Int))) 8 (.bool false)) 9 (.bool false)) 10 (.string s)) 11 (.int .i64 ((s.data.toList.length:Nat):Int))) 12 (.bool true)) 13 (.bool true)) 14 (.string s)) 15 (.int .u8 ((ch.toNat:Nat):Int))) 16 (.bool false)) 17 (.bool false)) 18 (.bool false)) 4 (.slice none 0 0)) 5 (.int .i64 0)) rfl rfl rfl
    rcases hq with ⟨rfl,h1,h2⟩ | ⟨rfl,h1,f2,f3⟩
    ·refine ⟨F' 4,m',?_,.inr ⟨by rw [hd,h1],h2⟩⟩
     rw [hd,h1]
     simp only [erdec_0,erdec_1,erdec_10,erdec_3,erdec_4,lrdec_0,lrdec_1,lrdec_3,lrdec_4,lrdec_10,grdec_1_3,grdec_1_7,agd_none,gdAt,gdV_bool,Tryd.f25,acodeN,aopsN,astep,aop,ev,nth_lst,get_lst,aput,setAt_lst,upd_at,init_zero,init_succ,init_nil,Nat.reduceLT,Nat.reduceEqDiff,Option.map_some,eqlVal_int,↓aop_eqlV,Bool.false_eq_true,if_true,if_false,beq_self_eq_true,uns,len_S,alen,q0,gtr64',q1,hi9,q2,hr,finish,ares,aresL,ares1]
    ·refine ⟨.slice none 0 0,m',?_,.inl ⟨by rw [hd,h1],rfl⟩⟩
     rw [hd,h1]
     simp only [erdec_0,erdec_1,erdec_3,erdec_4,lrdec_0,lrdec_1,lrdec_3,lrdec_4,grdec_1_3,grdec_1_7,agd_none,gdAt,gdV_bool,Tryd.f25,acodeN,aopsN,astep,aop,ev,nth_lst,get_lst,aput,setAt_lst,upd_at,init_zero,init_succ,init_nil,Nat.reduceLT,Nat.reduceEqDiff,Option.map_some,eqlVal_int,↓aop_eqlV,Bool.false_eq_true,if_true,if_false,beq_self_eq_true,uns,len_S,alen,q0,gtr64',q1,hi9,q2,hr,f2,f3,finish,ares,aresL,ares1]
  ·have q1:decide (((s.data.toList.length:Nat):Int)>1)=false:=decide_eq_false (by omega)
   have hd:decOk (natsOf s)=digitsOk (natsOf s):=by
    have d0:decide ((natsOf s).length≠0)=true:=decide_eq_true (by omega)
    have d1:decide (1<(natsOf s).length)=false:=decide_eq_false (by omega)
    unfold decOk
    rw [d0,d1]
    simp
   obtain ⟨e,F',m',hr,hq⟩:=rdec_loop (self:=self) (nf:=nf) (m:=m) (s:=s) cm cs ca hs hnf (F:=upd (upd (upd (upd (upd (upd (upd (upd (upd (upd (upd (upd (upd (upd (upd (upd (upd (init [.string s]) 2 (.slice none 0 0)) 3 (.bool false)) 6 (.string s)) 7 (.int .i64 ((s.data.toList.length:Nat):Int))) 8 (.bool false)) 9 (.bool false)) 10 (.string s)) 11 (.int .i64 ((s.data.toList.length:Nat):Int))) 12 (.bool false)) 13 (.bool false)) 14 (undef)) 15 (undef)) 16 (undef)) 17 (.bool false)) 18 (.bool false)) 4 (.slice none 0 0)) 5 (.int .i64 0)) rfl rfl rfl
   rcases hq with ⟨rfl,h1,h2⟩ | ⟨rfl,h1,f2,f3⟩
   ·refine ⟨F' 4,m',?_,.inr ⟨by rw [hd,h1],h2⟩⟩
    rw [hd,h1]
    simp only [erdec_0,erdec_1,erdec_10,erdec_3,erdec_4,lrdec_0,lrdec_1,lrdec_3,lrdec_4,lrdec_10,grdec_1_3,grdec_1_7,agd_none,gdAt,gdV_bool,Tryd.f25,bft,acodeN,aopsN,astep,aop,ev,nth_lst,get_lst,aput,setAt_lst,upd_at,init_zero,init_succ,init_nil,Nat.reduceLT,Nat.reduceEqDiff,Option.map_some,eqlVal_int,↓aop_eqlV,Bool.false_eq_true,if_true,if_false,beq_self_eq_true,uns,len_S,alen,q0,gtr64',q1,hr,finish,ares,aresL,ares1]
   ·refine ⟨.slice none 0 0,m',?_,.inl ⟨by rw [hd,h1],rfl⟩⟩
    rw [hd,h1]
    simp only [erdec_0,erdec_1,erdec_3,erdec_4,lrdec_0,lrdec_1,lrdec_3,lrdec_4,grdec_1_3,grdec_1_7,agd_none,gdAt,gdV_bool,Tryd.f25,bft,acodeN,aopsN,astep,aop,ev,nth_lst,get_lst,aput,setAt_lst,upd_at,init_zero,init_succ,init_nil,Nat.reduceLT,Nat.reduceEqDiff,Option.map_some,eqlVal_int,↓aop_eqlV,Bool.false_eq_true,if_true,if_false,beq_self_eq_true,uns,len_S,alen,q0,gtr64',q1,hr,f2,f3,finish,ares,aresL,ares1]
def CDec (self:Self):Prop:=∀ (m:Mem) (s:ByteArray),s.data.toList.length≤390→∃ v m',ainv E self 25 [.string s] m=some (.tuple ⟨[v,.bool (decOk (natsOf s))]⟩,m')∧((decOk (natsOf s)=false∧v=.slice none 0 0∧m'=m)∨(decOk (natsOf s)=true∧NumR m v m' (decV (natsOf s))))
theorem cdec {R:Nat→Self} {K:List Fact} (hR:Runs R K) {n:Nat} (k1:hasF K 25=false) (k2:hasF K 14=false) (k3:hasF K 50=false) (k4:hasF K 10=false) (k5:hasF K 40=false) (hn:1000≤n):CDec (R (n+3)):=by
 intro m s hs
 obtain ⟨v,m1,h1,h2⟩:=rdec_body (self:=R (n+2)) (nf:=n+3) (m:=(m.take E.G).map onlyTab) (s:=s) (cmul hR k2 k5 hn) (csmall (n:=n+1) hR k3 (by omega)) (cadd hR k4 k5 hn) hs (by omega)
 unfold ainv
 rw [show ([Value.string s].all lit2)=true from rfl,show E.fast 25=none from by kernel_rfl]
 simp only [if_true,hR.b k1 h1]
 rcases h2 with ⟨h3,rfl⟩ | ⟨h3,h4⟩
 ·exact ⟨.slice none 0 0,m,by unfold acoll; exact if_pos rfl,.inl ⟨h3,rfl,rfl⟩⟩
 ·obtain ⟨v',m',h5,h6⟩:=h4.coll2 (m:=m) (t:=decOk (natsOf s))
  exact ⟨v',m',h5,.inr ⟨h3,h6⟩⟩
def risn_0:=opR Tryd.f48 [0]
def risn_1:=opR Tryd.f48 [1,0,0]
theorem gisn_1_2 {T:List Value} {dd:Option Tmp} {op:Op} {ty:TypeId} {pos:String} {af:Array Edge} {want:Bool}:agd risn_1 T { dst:=dd,op:=op,type:=ty,pos:=pos,after:=af,guard:=some (2,want) }=gdAt T 6 want:=agd_at (by kernel_rfl)
theorem gisn_1_6 {T:List Value} {dd:Option Tmp} {op:Op} {ty:TypeId} {pos:String} {af:Array Edge} {want:Bool}:agd risn_1 T { dst:=dd,op:=op,type:=ty,pos:=pos,after:=af,guard:=some (6,want) }=gdAt T 10 want:=agd_at (by kernel_rfl)
def risn_2:=opR Tryd.f48 [1,0,1,0,0]
def risn_3:=opR Tryd.f48 [1,1,0,0]
def lpisn_0:Code:=match Tryd.f48.body with
 | some (.seq _ (.seq _ (.seq (.seq _ (.block _ (.loop c))) _)))=>c
 | _=>.skip
def risn_4:=opR Tryd.f48 [1,1,0,1,0,0,0]
def risn_5:=opR Tryd.f48 [1,1,0,1,0,0,1,1,0,0,0]
def risn_6:=opR Tryd.f48 [1,1,0,1,0,0,1,1,0,0,1,0]
theorem gisn_6_4 {T:List Value} {dd:Option Tmp} {op:Op} {ty:TypeId} {pos:String} {af:Array Edge} {want:Bool}:agd risn_6 T { dst:=dd,op:=op,type:=ty,pos:=pos,after:=af,guard:=some (4,want) }=gdAt T 25 want:=agd_at (by kernel_rfl)
def risn_7:=opR Tryd.f48 [1,1,0,1,0,0,1,1,0,0,1,1,0,0]
def risn_8:=opR Tryd.f48 [1,1,0,1,0,0,1,1,1]
theorem lpisn_0_eq:lpisn_0=(.seq (.region 4 risn_4 false) (.seq (.cond (.tmp 19) .skip (.exit 0)) (.seq (.block 1 (.seq (.region 5 risn_5 false) (.seq (.region 6 risn_6 false) (.cond (.tmp 30) (.seq (.region 7 risn_7 false) .ret) .skip)))) (.region 8 risn_8 false)))):=rfl
def risn_9:=opR Tryd.f48 [1,1,1,0]
theorem bodyisn:Tryd.f48.body=some (.seq (.region 0 risn_0 false) (.seq (.seq (.region 1 risn_1 false) (.cond (.tmp 15) (.seq (.region 2 risn_2 false) .ret) .skip)) (.seq (.seq (.region 3 risn_3 false) (.block 0 (.loop lpisn_0))) (.seq (.region 9 risn_9 false) .ret)))):=rfl
def rmwo_0:=opR Tryd.f49 [0]
def rmwo_1:=opR Tryd.f49 [1,0]
def rmwo_2:=opR Tryd.f49 [1,1,0,0]
def lpmwo_0:Code:=match Tryd.f49.body with
 | some (.seq _ (.seq _ (.seq (.seq _ (.block _ (.loop c))) _)))=>c
 | _=>.skip
def rmwo_3:=opR Tryd.f49 [1,1,0,1,0,0,0]
def rmwo_4:=opR Tryd.f49 [1,1,0,1,0,0,1,1,0,0,0]
def rmwo_5:=opR Tryd.f49 [1,1,0,1,0,0,1,1,0,0,1]
def rmwo_6:=opR Tryd.f49 [1,1,0,1,0,0,1,1,1]
theorem lpmwo_0_eq:lpmwo_0=(.seq (.region 3 rmwo_3 false) (.seq (.cond (.tmp 11) .skip (.exit 0)) (.seq (.block 1 (.seq (.region 4 rmwo_4 false) (.region 5 rmwo_5 false))) (.region 6 rmwo_6 false)))):=rfl
def rmwo_7:=opR Tryd.f49 [1,1,1,0]
theorem bodymwo:Tryd.f49.body=some (.seq (.region 0 rmwo_0 false) (.seq (.region 1 rmwo_1 false) (.seq (.seq (.region 2 rmwo_2 false) (.block 0 (.loop lpmwo_0))) (.seq (.region 7 rmwo_7 false) .ret)))):=rfl
def rwdc_0:=opR Tryd.f24 [0]
def rwdc_1:=opR Tryd.f24 [1,0,0]
def rwdc_2:=opR Tryd.f24 [1,0,1,0,0]
def rwdc_3:=opR Tryd.f24 [1,1,0]
def rwdc_4:=opR Tryd.f24 [1,1,1,0,0]
def lpwdc_0:Code:=match Tryd.f24.body with
 | some (.seq _ (.seq _ (.seq _ (.seq (.seq _ (.block _ (.loop c))) _))))=>c
 | _=>.skip
def rwdc_5:=opR Tryd.f24 [1,1,1,0,1,0,0,0]
def rwdc_6:=opR Tryd.f24 [1,1,1,0,1,0,0,1,1,0,0,0]
def rwdc_7:=opR Tryd.f24 [1,1,1,0,1,0,0,1,1,0,0,1,0]
theorem dwdc_7 {self:Self} {B:Nat} {T:List Value} {m:Mem} {lb:List (Nat×Nat)} {ls:Bool}:adrawN E self rwdc_7 B rwdc_7.toList 0 T m lb ls=adrawT E self rwdc_7 B rwdc_7.toList [(false,true),(false,false),(false,false),(false,false),(false,false),(false,false),(false,true),(false,false),(false,false),(false,false),(false,false),(false,false),(false,false)] 0 T m lb ls:=adraw_tab (by kernel_rfl)
theorem swdc_7:E.sr 7 rwdc_7=false:=by kernel_rfl
def rwdc_8:=opR Tryd.f24 [1,1,1,0,1,0,0,1,1,0,0,1,1,0,0]
def rwdc_9:=opR Tryd.f24 [1,1,1,0,1,0,0,1,1,0,0,1,1,0,1,0,0]
def rwdc_10:=opR Tryd.f24 [1,1,1,0,1,0,0,1,1,0,0,1,1,1]
def rwdc_11:=opR Tryd.f24 [1,1,1,0,1,0,0,1,1,1]
theorem lpwdc_0_eq:lpwdc_0=(.seq (.region 5 rwdc_5 false) (.seq (.cond (.tmp 15) .skip (.exit 0)) (.seq (.block 1 (.seq (.region 6 rwdc_6 false) (.seq (.region 7 rwdc_7 true) (.seq (.seq (.region 8 rwdc_8 false) (.cond (.tmp 28) (.seq (.region 9 rwdc_9 false) .ret) .skip)) (.region 10 rwdc_10 false))))) (.region 11 rwdc_11 false)))):=rfl
def rwdc_12:=opR Tryd.f24 [1,1,1,1,0]
theorem bodywdc:Tryd.f24.body=some (.seq (.region 0 rwdc_0 false) (.seq (.seq (.region 1 rwdc_1 false) (.cond (.tmp 10) (.seq (.region 2 rwdc_2 false) .ret) .skip)) (.seq (.region 3 rwdc_3 false) (.seq (.seq (.region 4 rwdc_4 false) (.block 0 (.loop lpwdc_0))) (.seq (.region 12 rwdc_12 false) .ret))))):=rfl
def rfdc_0:=opR Tryd.f35 [0]
def rfdc_1:=opR Tryd.f35 [1,0]
def rfdc_2:=opR Tryd.f35 [1,1,0]
def rfdc_3:=opR Tryd.f35 [1,1,1,0]
theorem bodyfdc:Tryd.f35.body=some (.seq (.region 0 rfdc_0 false) (.seq (.region 1 rfdc_1 false) (.seq (.region 2 rfdc_2 false) (.seq (.region 3 rfdc_3 false) .ret)))):=rfl
def rfp_0:=opR Tryd.f6 [0]
def rfp_1:=opR Tryd.f6 [1,0,0]
def rfp_2:=opR Tryd.f6 [1,0,1,0,0]
def rfp_3:=opR Tryd.f6 [1,1,0,0]
def rfp_4:=opR Tryd.f6 [1,1,0,1,0,0]
def rfp_5:=opR Tryd.f6 [1,1,1,0]
def rfp_6:=opR Tryd.f6 [1,1,1,1,0]
def rfp_7:=opR Tryd.f6 [1,1,1,1,1,0,0]
def lpfp_0:Code:=match Tryd.f6.body with
 | some (.seq _ (.seq _ (.seq _ (.seq _ (.seq _ (.seq (.seq _ (.block _ (.loop c))) _))))))=>c
 | _=>.skip
def rfp_8:=opR Tryd.f6 [1,1,1,1,1,0,1,0,0,0]
def rfp_9:=opR Tryd.f6 [1,1,1,1,1,0,1,0,0,1,1,0,0,0]
def rfp_10:=opR Tryd.f6 [1,1,1,1,1,0,1,0,0,1,1,0,0,1]
def rfp_11:=opR Tryd.f6 [1,1,1,1,1,0,1,0,0,1,1,1]
theorem lpfp_0_eq:lpfp_0=(.seq (.region 8 rfp_8 false) (.seq (.cond (.tmp 25) .skip (.exit 0)) (.seq (.block 1 (.seq (.region 9 rfp_9 false) (.region 10 rfp_10 false))) (.region 11 rfp_11 false)))):=rfl
def rfp_12:=opR Tryd.f6 [1,1,1,1,1,1,0,0]
def rfp_13:=opR Tryd.f6 [1,1,1,1,1,1,0,1,0,0]
theorem gfp_13_2 {T:List Value} {dd:Option Tmp} {op:Op} {ty:TypeId} {pos:String} {af:Array Edge} {want:Bool}:agd rfp_13 T { dst:=dd,op:=op,type:=ty,pos:=pos,after:=af,guard:=some (2,want) }=gdAt T 42 want:=agd_at (by kernel_rfl)
def rfp_14:=opR Tryd.f6 [1,1,1,1,1,1,0,1,0,1,0,0]
def rfp_15:=opR Tryd.f6 [1,1,1,1,1,1,0,1,1,0]
theorem gfp_15_2 {T:List Value} {dd:Option Tmp} {op:Op} {ty:TypeId} {pos:String} {af:Array Edge} {want:Bool}:agd rfp_15 T { dst:=dd,op:=op,type:=ty,pos:=pos,after:=af,guard:=some (2,want) }=gdAt T 49 want:=agd_at (by kernel_rfl)
theorem dfp_15 {self:Self} {B:Nat} {T:List Value} {m:Mem} {lb:List (Nat×Nat)} {ls:Bool}:adrawN E self rfp_15 B rfp_15.toList 0 T m lb ls=adrawT E self rfp_15 B rfp_15.toList [(false,false),(false,false),(false,false),(false,false),(false,false),(false,false),(false,false),(false,false)] 0 T m lb ls:=adraw_tab (by kernel_rfl)
theorem sfp_15:E.sr 15 rfp_15=false:=by kernel_rfl
def rfp_16:=opR Tryd.f6 [1,1,1,1,1,1,0,1,1,1,0,0]
def rfp_17:=opR Tryd.f6 [1,1,1,1,1,1,1,0]
def rfp_18:=opR Tryd.f6 [1,1,1,1,1,1,1,1,0,0]
theorem gfp_18_2 {T:List Value} {dd:Option Tmp} {op:Op} {ty:TypeId} {pos:String} {af:Array Edge} {want:Bool}:agd rfp_18 T { dst:=dd,op:=op,type:=ty,pos:=pos,after:=af,guard:=some (2,want) }=gdAt T 62 want:=agd_at (by kernel_rfl)
def rfp_19:=opR Tryd.f6 [1,1,1,1,1,1,1,1,0,1,0,0]
def rfp_20:=opR Tryd.f6 [1,1,1,1,1,1,1,1,1,0]
theorem bodyfp:Tryd.f6.body=some (.seq (.region 0 rfp_0 false) (.seq (.seq (.region 1 rfp_1 false) (.cond (.tmp 12) (.seq (.region 2 rfp_2 false) .ret) .skip)) (.seq (.seq (.region 3 rfp_3 false) (.cond (.tmp 15) (.seq (.region 4 rfp_4 false) .ret) .skip)) (.seq (.region 5 rfp_5 false) (.seq (.region 6 rfp_6 false) (.seq (.seq (.region 7 rfp_7 false) (.block 0 (.loop lpfp_0))) (.seq (.seq (.region 12 rfp_12 false) (.cond (.tmp 39) (.seq (.region 13 rfp_13 false) (.cond (.tmp 46) (.seq (.region 14 rfp_14 false) .ret) .skip)) (.seq (.region 15 rfp_15 true) (.cond (.tmp 54) (.seq (.region 16 rfp_16 false) .ret) .skip)))) (.seq (.region 17 rfp_17 false) (.seq (.seq (.region 18 rfp_18 false) (.cond (.tmp 66) (.seq (.region 19 rfp_19 false) .ret) .skip)) (.seq (.region 20 rfp_20 false) .ret)))))))))):=rfl
end Go.Am.Seat
namespace Go.Am.Seat
open Go.Proofs Go.Am Go.Am.Num Go.Am.Kn
theorem omwo_0:rmwo_0.toList=[⟨some 3,.box 24 (.tmp 0),0,"reckon.go:72",#[],none⟩,⟨some 6,.alloc 24,0,"reckon.go:72",#[],none⟩,⟨some 7,.assign (.const (.int .u64 0)),22,"reckon.go:72",#[],none⟩]:=rfl
theorem omwo_1:rmwo_1.toList=[⟨some 8,.alloc 24,0,"reckon.go:73",#[],none⟩]:=rfl
theorem omwo_2:rmwo_2.toList=[⟨some 10,.move (.const (.int .i64 0)),3,"reckon.go:74",#[],none⟩]:=rfl
theorem omwo_3:rmwo_3.toList=[⟨some 11,.binOp .lss 3 (.tmp 10) (.const (.int .i64 8)) 3,4,"reckon.go:74",#[],none⟩]:=rfl
theorem omwo_4:rmwo_4.toList=[⟨some 12,.move (.tmp 10),3,"reckon.go:74",#[],none⟩,⟨some 9,.assign (.tmp 12),3,"reckon.go:74",#[eD 0,eP 0],none⟩]:=rfl
theorem omwo_5:rmwo_5.toList=[⟨some 14,.move (.tmp 9),3,"reckon.go:75",#[],none⟩,⟨some 15,.move (.tmp 9),3,"reckon.go:75",#[],none⟩,⟨some 16,.indexAddr 24 (.tmp 3) (.tmp 15),0,"reckon.go:75",#[eD 1],none⟩,⟨some 17,.load 22 (.tmp 16),22,"reckon.go:75",#[eD 2],none⟩,⟨some 18,.move (.tmp 1),22,"reckon.go:75",#[],none⟩,⟨some 19,.move (.tmp 2),22,"reckon.go:75",#[],none⟩,⟨some 20,.call { callee:=.value (.func 63),args:=#[.tmp 17,.tmp 18,.const (.int .u64 0),.tmp 19],argTypes:=#[22,22,22,22] },87,"reckon.go:75",#[eD 3,eD 4,eD 5],none⟩,⟨some 13,.move (.tmp 20),87,"reckon.go:75",#[eD 6],none⟩,⟨some 21,.extract (.tmp 13) 0,22,"reckon.go:75",#[eD 7],none⟩,⟨some 22,.extract (.tmp 13) 1,22,"reckon.go:75",#[eD 7,{ on:=11,ground:=Ground.gcOnly Departure.lateStores }],none⟩,⟨some 23,.indexAddr 24 (.tmp 8) (.tmp 14),0,"reckon.go:75",#[eD 0,eP 0,eP 1,eP 2,eP 3,eP 4,eP 5,eP 6,eP 7,eP 8,{ on:=9,ground:=Ground.textOnly Departure.lateStores }],none⟩,⟨none,.store 22 (.tmp 23) (.tmp 21),0,"reckon.go:75",#[eD 10,eD 8,eC 6,eP 0,eP 1,eP 2,eP 3,eP 4,eP 5,eP 6,eP 7,eP 8,{ on:=9,ground:=Ground.textOnly Departure.lateStores }],none⟩,⟨some 2,.assign (.tmp 22),22,"reckon.go:75",#[eD 9,eC 11,eP 0,eP 1,eP 2,eP 3,eP 4,eP 5,eP 6,eP 7,eP 8,eP 9,eP 10,eP 11],none⟩]:=rfl
theorem omwo_6:rmwo_6.toList=[⟨some 24,.binOp .add 3 (.tmp 10) (.const (.int .i64 1)) 3,3,"reckon.go:74",#[],none⟩,⟨some 10,.move (.tmp 24),3,"reckon.go:74",#[eD 0],none⟩]:=rfl
theorem omwo_7:rmwo_7.toList=[⟨some 25,.load 24 (.tmp 8),24,"reckon.go:77",#[],none⟩,⟨some 26,.move (.tmp 2),22,"reckon.go:77",#[{ on:=2,ground:=Ground.gcOnly Departure.lateStores }],none⟩,⟨none,.store 24 (.tmp 6) (.tmp 25),0,"reckon.go:77",#[eD 0,eP 0,{ on:=1,ground:=Ground.textOnly Departure.lateStores }],none⟩,⟨some 7,.assign (.tmp 26),22,"reckon.go:77",#[eD 1,eC 2,eP 0,eP 1,eP 2],none⟩]:=rfl
section
variable {self:Self} {nf:Nat} {m m':Mem} {F:Nat→Value} {p r s k n c a b x:Nat} {w o:Nat→Nat} {be:TypeId}
theorem mwo_0 {m1 m2:Mem} (hb:abox E.P 24 (wide w) m=some (.pointer (some ⟨p,0,none⟩),m1)) (hc:aalloc E.P 24 m1=some (.pointer (some ⟨r,0,none⟩),m2)) (h0:F 0=wide w):∃ F',acodeN E self nf (.region 0 rmwo_0 false) (lst F 27) m=some (.normal,lst F' 27,m2)∧F' 3=.pointer (some ⟨p,0,none⟩)∧F' 6=.pointer (some ⟨r,0,none⟩)∧F' 1=F 1∧F' 2=F 2:=by
 simp only [omwo_0,agd_none,acodeN,aopsN,astep,aop,ev,nth_lst,aput,setAt_lst,Nat.reduceLT,if_true,h0,hb,hc]
 exact ⟨_,rfl,rfl,rfl,rfl,rfl⟩
theorem mwo_1 {m1:Mem} (hc:aalloc E.P 24 m=some (.pointer (some ⟨s,0,none⟩),m1)):∃ F',acodeN E self nf (.region 1 rmwo_1 false) (lst F 27) m=some (.normal,lst F' 27,m1)∧F' 8=.pointer (some ⟨s,0,none⟩)∧∀ j,j<8→F' j=F j:=by
 simp only [omwo_1,agd_none,acodeN,aopsN,astep,aop,aput,setAt_lst,hc]
 exact ⟨_,rfl,rfl,fun j h1=>by repeat rw [upd_ne (by omega)]⟩
theorem mwo_2:∃ F',acodeN E self nf (.region 2 rmwo_2 false) (lst F 27) m=some (.normal,lst F' 27,m)∧F' 10=.int .i64 ((0:Nat):Int)∧∀ j,j<10→F' j=F j:=by
 simp only [omwo_2,agd_none,acodeN,aopsN,astep,aop,ev,aput,setAt_lst]
 exact ⟨_,rfl,by simp only [upd_at,reduceIte]; rfl,fun j h1=>by repeat rw [upd_ne (by omega)]⟩
theorem mwo_3 {b:Bool} (h10:F 10=.int .i64 ((k:Nat):Int)) (hb:decide (((k:Nat):Int)<8)=b):∃ F',acodeN E self nf (.region 3 rmwo_3 false) (lst F 27) m=some (.normal,lst F' 27,m)∧F' 11=.bool b∧∀ j,j<11→F' j=F j:=by
 simp only [omwo_3,agd_none,acodeN,aopsN,astep,aop,ev,nth_lst,aput,setAt_lst,Nat.reduceLT,if_true,h10,lss64,hb]
 exact ⟨_,rfl,rfl,fun j h1=>by repeat rw [upd_ne (by omega)]⟩
theorem mwo_4 (h10:F 10=.int .i64 ((k:Nat):Int)):∃ F',acodeN E self nf (.region 4 rmwo_4 false) (lst F 27) m=some (.normal,lst F' 27,m)∧F' 9=.int .i64 ((k:Nat):Int)∧∀ j,j≠9→j<11→F' j=F j:=by
 simp only [omwo_4,agd_none,acodeN,aopsN,astep,aop,ev,nth_lst,aput,setAt_lst,upd_at,Nat.reduceLT,if_true,h10]
 exact ⟨_,rfl,rfl,fun j h1 h2=>by repeat rw [upd_ne (by omega)]⟩
theorem mwo_5 {m1:Mem} (h3:F 3=.pointer (some ⟨p,0,none⟩)) (h8:F 8=.pointer (some ⟨s,0,none⟩)) (h9:F 9=.int .i64 ((k:Nat):Int)) (h1:F 1=U n) (h2:F 2=U c) (hk:k<8) (cp:cellAt m p k=some (U x)) (hc:∀ M,ainv E self 63 [U x,U n,.int .u64 0,U c] M=some (pair64 a b,M)) (st:astore E.P 22 (.pointer (some ⟨s,k,none⟩)) (U a) m=some m1) :
  ∃ F',acodeN E self nf (.region 5 rmwo_5 false) (lst F 27) m=some (.normal,lst F' 27,m1)∧F' 2=U b∧∀ j,j≠2→j<11→F' j=F j:=by
 have i1:=ix24 (p:=p) (k:=k) hk
 have i2:=ix24 (p:=s) (k:=k) hk
 simp only [omwo_5,agd_none,List.cons_append,List.nil_append,acodeN,aopsN,astep,aop,ev,nth_lst,aput,setAt_lst,upd_at,Nat.reduceLT,Nat.reduceEqDiff,Option.map_some,List.map_cons,List.map_nil,List.isEmpty_nil,bls,if_true,if_false,h1,h2,h3,h8,h9,i1,i2,load22,cp,callMs,hc,ex0,ex1,st]
 exact ⟨_,rfl,rfl,fun j h1 h2=>by repeat rw [upd_ne (by omega)]⟩
theorem mwo_6 (h10:F 10=.int .i64 ((k:Nat):Int)) (hk:k<8):∃ F',acodeN E self nf (.region 6 rmwo_6 false) (lst F 27) m=some (.normal,lst F' 27,m)∧F' 10=.int .i64 ((k+1:Nat):Int)∧∀ j,j<10→F' j=F j:=by
 have e:wrapF .i64 (((k:Nat):Int)+1)=((k+1:Nat):Int):=by rw [wrap_i64 (by omega) (by omega)]; omega
 simp only [omwo_6,agd_none,acodeN,aopsN,astep,aop,ev,nth_lst,aput,setAt_lst,upd_at,Nat.reduceLT,if_true,h10,add64',e]
 exact ⟨_,rfl,rfl,fun j h1=>by repeat rw [upd_ne (by omega)]⟩
theorem mwo_7 {m1:Mem} {v:Value} (h2:F 2=v) (h6:F 6=.pointer (some ⟨r,0,none⟩)) (h8:F 8=.pointer (some ⟨s,0,none⟩)) (ld:aload E.P 24 (.pointer (some ⟨s,0,none⟩)) m=some (wide o)) (st:astore E.P 24 (.pointer (some ⟨r,0,none⟩)) (wide o) m=some m1):∃ F',acodeN E self nf (.region 7 rmwo_7 false) (lst F 27) m=some (.normal,lst F' 27,m1)∧F' 6=.pointer (some ⟨r,0,none⟩)∧F' 7=v:=by
 simp only [omwo_7,agd_none,acodeN,aopsN,astep,aop,ev,nth_lst,aput,setAt_lst,upd_at,Nat.reduceLT,Nat.reduceEqDiff,Option.map_some,if_true,if_false,h2,h6,h8,ld,st]
 exact ⟨_,rfl,by simp only [upd_at,Nat.reduceEqDiff,reduceIte,h6],rfl⟩
theorem mwo_it (hms:CMs self) (h1:F 1=U n) (h2:F 2=U c) (h3:F 3=.pointer (some ⟨p,0,none⟩)) (h8:F 8=.pointer (some ⟨s,0,none⟩)) (h10:F 10=.int .i64 ((k:Nat):Int)) (hk:k<8) (gp:m[p]? = some (.row false be (rowOf w))) (gs:m[s]? = some (.row false 24 (rowOf o))) (hw:w k<18446744073709551616) (hn:n<18446744073709551616) (hc:c<18446744073709551616) :
  ∃ F',acodeN E self nf lpmwo_0 (lst F 27) m=some (.normal,lst F' 27,m.set s (.row false 24 (rowOf (putW o k ((w k*n+0+c)%18446744073709551616)))))∧F' 2=U ((w k*n+0+c) / 18446744073709551616)∧F' 10=.int .i64 ((k+1:Nat):Int)∧∀ j,j≠2→j<9→F' j=F j:=by
 have cp:cellAt m p k=some (U (w k)):=by rw [cellAt_row gp,rowOf_get hk]
 have hs:∀ M,ainv E self 63 [U (w k),U n,.int .u64 0,U c] M=some (pair64 ((w k*n+0+c)%18446744073709551616) ((w k*n+0+c) / 18446744073709551616),M):=hms (w k) n 0 c hw hn (by decide) hc
 have st:=store22 (x:=(w k*n+0+c)%18446744073709551616) gs hk
 obtain ⟨a,ha⟩:∃ a,a=(w k*n+0+c)%18446744073709551616:=⟨_,rfl⟩
 obtain ⟨b,hb⟩:∃ b,b=(w k*n+0+c) / 18446744073709551616:=⟨_,rfl⟩
 rw [←ha] at st
 simp only [←ha,←hb] at hs⊢
 change astore E.P _ _ _ m=some (m.set s (.row false 24 (rowOf (putW o k a)))) at st
 clear ha hb
 obtain ⟨A,ra,a11,ak⟩:=mwo_3 (self:=self) (nf:=nf) (m:=m) h10 (b:=true) (decide_eq_true (by omega))
 obtain ⟨B,rb,b9,bk⟩:=mwo_4 (self:=self) (nf:=nf) (m:=m) ((ak 10 (by omega)).trans h10)
 have kb:∀ j,j<9→B j=F j:=fun j hj=>(bk j (by omega) (by omega)).trans (ak j (by omega))
 obtain ⟨C,rc,c2,ck⟩:=mwo_5 (self:=self) (nf:=nf) (m:=m) ((kb 3 (by omega)).trans h3) ((kb 8 (by omega)).trans h8) b9 ((kb 1 (by omega)).trans h1) ((kb 2 (by omega)).trans h2) hk cp hs st
 obtain ⟨D,rd,d10,dk⟩:=mwo_6 (self:=self) (nf:=nf) (m:=m.set s (.row false 24 (rowOf (putW o k a)))) ((ck 10 (by omega) (by omega)).trans ((bk 10 (by omega) (by omega)).trans ((ak 10 (by omega)).trans h10))) hk
 refine ⟨D,?_,(dk 2 (by omega)).trans c2,d10,fun j h1 hj=>(dk j (by omega)).trans ((ck j h1 (by omega)).trans (kb j hj))⟩
 rw [lpmwo_0_eq]
 generalize m.set s (.row false 24 (rowOf (putW o k a)))=M1 at *
 generalize Code.region 3 rmwo_3 false=C3 at *
 generalize Code.region 4 rmwo_4 false=C4 at *
 generalize Code.region 5 rmwo_5 false=C5 at *
 generalize Code.region 6 rmwo_6 false=C6 at *
 simp only [acodeN,ra,rb,rc,rd,ev,nth_lst,Nat.reduceLT,if_true,a11]
theorem mwo_end (h10:F 10=.int .i64 ((8:Nat):Int)):∃ F',acodeN E self nf lpmwo_0 (lst F 27) m=some (.exit 0,lst F' 27,m)∧∀ j,j<11→F' j=F j:=by
 obtain ⟨A,ra,a11,ak⟩:=mwo_3 (self:=self) (nf:=nf) (m:=m) h10 (b:=false) (by decide)
 rw [lpmwo_0_eq]
 refine ⟨A,?_,ak⟩
 generalize Code.region 3 rmwo_3 false=C3 at *
 simp only [acodeN,ra,ev,nth_lst,Nat.reduceLT,if_true,a11]
theorem mwo_num {P a c c' c0 n w v o B:Nat} (h:o+P*c=v*n+c0) (h2:a+B*c'=w*n+0+c):o+P*a+P*B*c'=(v+P*w)*n+c0:=by
 have e1:P*(a+B*c')=P*(w*n+0+c):=by rw [h2]
 rw [Nat.mul_add,Nat.mul_add,Nat.add_zero] at e1
 rw [Nat.add_mul,Nat.mul_assoc P B c',Nat.mul_assoc P w n]
 omega
theorem mwo_body {c0:Nat} (hms:CMs self) (hw:∀ j,w j<18446744073709551616) (hn:n<18446744073709551616) (hc0:c0<18446744073709551616) (hnf:10<nf) :
  ∃ o c m',vN o 8+W8*c=vN w 8*n+c0∧(∀ j,o j<18446744073709551616)∧abody E self nf 49 [wide w,U n,U c0] m=some (.tuple ⟨[wide o,U c]⟩,m'):=by
 rw [abody_eqF (by kernel_rfl) Tryd.func49 bodymwo (by kernel_rfl) (Nat.le_of_ble_eq_true rfl)]
 rw [show Tryd.f49.ntmps=27 from rfl]
 have l1:(m++[Blk.row false 24 (rowOf w)]).length=m.length+1:=by simp
 have l2:(m++[Blk.row false 24 (rowOf w)]++[Blk.row false 24 (rowOf fun _=>0)]).length=m.length+2:=by simp
 have b2:=alloc24 (m++[.row false 24 (rowOf w)])
 have b3:=alloc24 (m++[Blk.row false 24 (rowOf w)]++[.row false 24 (rowOf fun _=>0)])
 rw [l1] at b2
 rw [l2] at b3
 obtain ⟨A,ra,a3,a6,a1,a2⟩:=mwo_0 (self:=self) (nf:=nf) (m:=m) (F:=init [wide w,U n,U c0]) (box24 w m) b2 rfl
 obtain ⟨B,rb,b8,bk⟩:=mwo_1 (self:=self) (nf:=nf) (F:=A) b3
 obtain ⟨M,hM⟩:∃ M,M=m++[Blk.row false 24 (rowOf w)]++[.row false 24 (rowOf fun _=>0)]++[.row false 24 (rowOf fun _=>0)]:=⟨_,rfl⟩
 rw [←hM] at rb
 have hp:M[m.length]? = some (.row false 24 (rowOf w)):=by
  rw [hM,List.getElem?_append_left (by simp),List.getElem?_append_left (by simp)]; simp
 have hr:M[m.length+1]? = some (.row false 24 (rowOf fun _=>0)):=by
  rw [hM,List.getElem?_append_left (by simp),List.getElem?_append_right (by simp)]; simp
 have hq:M[m.length+2]? = some (.row false 24 (rowOf fun _=>0)):=by
  rw [hM,List.getElem?_append_right (by simp)]; simp
 clear hM b2 b3 l1 l2
 obtain ⟨C,rc,c10,ck⟩:=mwo_2 (self:=self) (nf:=nf) (m:=M) (F:=B)
 have kc:∀ j,j<8→C j=A j:=fun j hj=>(ck j (by omega)).trans (bk j hj)
 have hloop:=aloop_inv (body:=acodeN E self nf lpmwo_0) (N:=8)
  (I:=fun k T m'=>∃ G o c,T=lst G 27∧G 1=U n∧G 2=U c∧G 3=.pointer (some ⟨m.length,0,none⟩)∧G 6=.pointer (some ⟨m.length+1,0,none⟩)∧G 8=.pointer (some ⟨m.length+2,0,none⟩)∧G 10=.int .i64 ((k:Nat):Int)∧
   m'[m.length]? = some (.row false 24 (rowOf w))∧m'[m.length+1]? = some (.row false 24 (rowOf fun _=>0))∧m'[m.length+2]? = some (.row false 24 (rowOf o))∧c<18446744073709551616∧(∀ j,o j<18446744073709551616)∧vN o k+18446744073709551616^k*c=vN w k*n+c0)
  (Q:=fun x T m'=>x=.exit 0∧∃ G o c,T=lst G 27∧G 2=U c∧G 6=.pointer (some ⟨m.length+1,0,none⟩)∧G 8=.pointer (some ⟨m.length+2,0,none⟩)∧m'[m.length+1]? = some (.row false 24 (rowOf fun _=>0))∧m'[m.length+2]? = some (.row false 24 (rowOf o))∧(∀ j,o j<18446744073709551616)∧vN o 8+W8*c=vN w 8*n+c0) (fun k T m' hk hI=>by
   obtain ⟨G,o,c,rfl,g1,g2,g3,g6,g8,g10,gp,gr,gs,hc,ho,hs⟩:=hI
   by_cases h0:k=8
   ·right
    subst h0
    obtain ⟨H,rh,hk⟩:=mwo_end (self:=self) (nf:=nf) (m:=m') g10
    exact ⟨_,_,_,rh,by simp,rfl,H,o,c,rfl,(hk 2 (by omega)).trans g2,(hk 6 (by omega)).trans g6,(hk 8 (by omega)).trans g8,gr,gs,ho,hs⟩
   ·left
    have hk8:k<8:=by omega
    obtain ⟨H,rh,h2,h10,hk2⟩:=mwo_it (self:=self) (nf:=nf) (m:=m') hms g1 g2 g3 g8 g10 hk8 gp gs (hw k) hn hc
    have hpl:=prod_le (hw k) hn
    have hq9:(w k*n+0+c) / 18446744073709551616<18446744073709551616:=Nat.div_lt_of_lt_mul (by omega)
    have hdm:=Nat.mod_add_div (w k*n+0+c) 18446744073709551616
    have hlt:(w k*n+0+c)%18446744073709551616<18446744073709551616:=Nat.mod_lt _ (by decide)
    obtain ⟨a,ha⟩:∃ a,a=(w k*n+0+c)%18446744073709551616:=⟨_,rfl⟩
    obtain ⟨b,hb⟩:∃ b,b=(w k*n+0+c) / 18446744073709551616:=⟨_,rfl⟩
    rw [←ha] at rh hdm hlt
    rw [←hb] at h2 hq9 hdm
    refine ⟨_,_,rh,by omega,H,putW o k a,b,rfl,(hk2 1 (by omega) (by omega)).trans g1,h2,(hk2 3 (by omega) (by omega)).trans g3,(hk2 6 (by omega) (by omega)).trans g6,(hk2 8 (by omega) (by omega)).trans g8,h10,?_,?_,?_,hq9,putW_lt ho hlt,?_⟩
    ·rw [List.getElem?_set_ne (by omega)]; exact gp
    ·rw [List.getElem?_set_ne (by omega)]; exact gr
    ·rw [List.getElem?_set_self (lt_of_at gs)]
    ·have e1:vN (putW o k a) k=vN o k:=vN_put (Nat.le_refl k)
     have e2:putW o k a k=a:=by unfold putW; rw [if_pos rfl]
     rw [vN,vN,e1,e2,Nat.pow_succ]
     exact mwo_num hs hdm)
 obtain ⟨x,T',m',hlp,rfl,G,o,c,rfl,g2,g6,g8,gr,gs,ho,hs⟩:=hloop 8 0 nf (lst C 27) M (by omega) (by omega) ⟨C,fun _=>0,c0,rfl,(kc 1 (by omega)).trans a1,(kc 2 (by omega)).trans a2,(kc 3 (by omega)).trans a3,(kc 6 (by omega)).trans a6,(ck 8 (by omega)).trans b8,c10,hp,hr,hq,hc0,fun _=>(by show 0<18446744073709551616; decide),by simp [vN]⟩
 have st:=store24 (w:=o) gr (rowOf_length _)
 obtain ⟨H,rh,h6,h7⟩:=mwo_7 (self:=self) (nf:=nf) (m:=m') g2 g6 g8 (load24 gs) st
 have ld2:aload E.P 24 (.pointer (some ⟨m.length+1,0,none⟩)) (m'.set (m.length+1) (.row false 24 (rowOf o)))=some (wide o):=load24 (by rw [List.getElem?_set_self (lt_of_at gr)])
 refine ⟨o,c,m'.set (m.length+1) (.row false 24 (rowOf o)),hs,ho,?_⟩
 clear hs ho
 generalize m'.set (m.length+1) (.row false 24 (rowOf o))=M2 at *
 generalize Code.region 0 rmwo_0 false=C0 at *
 generalize Code.region 1 rmwo_1 false=C1 at *
 generalize Code.region 2 rmwo_2 false=C2 at *
 generalize Code.region 7 rmwo_7 false=C7 at *
 simp only [acodeN,ra,rb,rc,hlp,rh,finish,ares,aresL,ares1,Tryd.f49,nth_lst,Nat.reduceLT,if_true,h6,h7,ld2,Option.map_some]
end
def CMw (self:Self):Prop:=∀ x n c,x<W8→n<18446744073709551616→c<18446744073709551616→Ans self 49 [wdK x,U n,U c] (.tuple ⟨[wdK ((x*n+c)%W8),U ((x*n+c) / W8)]⟩)
theorem kMw {R:Nat→Self} {K:List Fact} (hR:Runs R K) (hK:NoL K) {n:Nat} (hK2:hasF K 49=false) (hn:1003≤n):CMw (R n):=by
 obtain ⟨j,rfl⟩:∃ j,n=j+1:=⟨n-1,by omega⟩
 intro x y c hx hy hc
 refine ans_of rfl (by kernel_rfl) rfl fun m=>?_
 obtain ⟨o,c',m',hs,ho,h⟩:=mwo_body (self:=R j) (nf:=j+1) (m:=m) (kMs hR hK (by omega)) (wN_lt x) hy hc (by omega)
 rw [vN_wN8 hx] at hs
 have hl:=vN_lt ho 8
 change _<W8 at hl
 have e1:(x*y+c)%W8=vN o 8:=by rw [←hs,Nat.add_mul_mod_self_left,Nat.mod_eq_of_lt hl]
 have e2:(x*y+c) / W8=c':=by rw [←hs,Nat.add_mul_div_left _ _ W8_pos,Nat.div_eq_of_lt hl,Nat.zero_add]
 rw [e1,e2,←wide_num ho]
 exact ⟨m',hR.b hK2 h⟩
end Go.Am.Seat
