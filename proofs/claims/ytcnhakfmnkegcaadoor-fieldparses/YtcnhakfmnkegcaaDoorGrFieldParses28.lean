import Derived.Test.YtcnhakfmnkegcaaDoorGrFieldParses27
import Derived.Test.YtcnhakfmnkegcaaDoorGrFieldParses8
set_option linter.unusedSimpArgs false
set_option linter.unusedVariables false
set_option maxRecDepth 100000
namespace Go.Am.Seat
open Go.Proofs Go.Am
noncomputable def rrsub_0:=opR Tryd.f16 [0]
noncomputable def lrsub_0:List Oper:=match Tryd.f16.body with
 | some (.seq (.region _ o _) _)=>o.toList
 | _=>[]
theorem ersub_0:rrsub_0.toList=lrsub_0:=rfl
noncomputable def rrsub_1:=opR Tryd.f16 [1,0]
noncomputable def lrsub_1:List Oper:=match Tryd.f16.body with
 | some (.seq _ (.seq (.region _ o _) _))=>o.toList
 | _=>[]
theorem ersub_1:rrsub_1.toList=lrsub_1:=rfl
noncomputable def rrsub_2:=opR Tryd.f16 [1,1,0]
noncomputable def lrsub_2:List Oper:=match Tryd.f16.body with
 | some (.seq _ (.seq _ (.seq (.region _ o _) _)))=>o.toList
 | _=>[]
theorem ersub_2:rrsub_2.toList=lrsub_2:=rfl
noncomputable def rrsub_3:=opR Tryd.f16 [1,1,1,0,0]
noncomputable def lrsub_3:List Oper:=match Tryd.f16.body with
 | some (.seq _ (.seq _ (.seq _ (.seq (.seq (.region _ o _) _) _))))=>o.toList
 | _=>[]
theorem ersub_3:rrsub_3.toList=lrsub_3:=rfl
noncomputable def lprsub_0:Code:=match Tryd.f16.body with
 | some (.seq _ (.seq _ (.seq _ (.seq (.seq _ (.block _ (.loop c))) _))))=>c
 | _=>.skip
noncomputable def rrsub_4:=opR Tryd.f16 [1,1,1,0,1,0,0,0,0]
noncomputable def lrsub_4:List Oper:=match Tryd.f16.body with
 | some (.seq _ (.seq _ (.seq _ (.seq (.seq _ (.block _ (.loop (.seq (.seq (.region _ o _) _) _)))) _))))=>o.toList
 | _=>[]
theorem ersub_4:rrsub_4.toList=lrsub_4:=rfl
noncomputable def rrsub_6:=opR Tryd.f16 [1,1,1,0,1,0,0,1,0,0,0]
noncomputable def lrsub_6:List Oper:=match Tryd.f16.body with
 | some (.seq _ (.seq _ (.seq _ (.seq (.seq _ (.block _ (.loop (.seq _ (.seq (.block _ (.seq (.region _ o _) _)) _))))) _))))=>o.toList
 | _=>[]
theorem ersub_6:rrsub_6.toList=lrsub_6:=rfl
noncomputable def rrsub_7:=opR Tryd.f16 [1,1,1,0,1,0,0,1,0,0,1,0,0]
noncomputable def lrsub_7:List Oper:=match Tryd.f16.body with
 | some (.seq _ (.seq _ (.seq _ (.seq (.seq _ (.block _ (.loop (.seq _ (.seq (.block _ (.seq _ (.seq (.seq (.region _ o _) _) _))) _))))) _))))=>o.toList
 | _=>[]
theorem ersub_7:rrsub_7.toList=lrsub_7:=rfl
noncomputable def rrsub_8:=opR Tryd.f16 [1,1,1,0,1,0,0,1,0,0,1,0,1,0]
noncomputable def lrsub_8:List Oper:=match Tryd.f16.body with
 | some (.seq _ (.seq _ (.seq _ (.seq (.seq _ (.block _ (.loop (.seq _ (.seq (.block _ (.seq _ (.seq (.seq _ (.cond _ (.region _ o _) _)) _))) _))))) _))))=>o.toList
 | _=>[]
theorem ersub_8:rrsub_8.toList=lrsub_8:=rfl
noncomputable def rrsub_9:=opR Tryd.f16 [1,1,1,0,1,0,0,1,0,0,1,1,0]
noncomputable def lrsub_9:List Oper:=match Tryd.f16.body with
 | some (.seq _ (.seq _ (.seq _ (.seq (.seq _ (.block _ (.loop (.seq _ (.seq (.block _ (.seq _ (.seq _ (.seq (.region _ o _) _)))) _))))) _))))=>o.toList
 | _=>[]
theorem ersub_9:rrsub_9.toList=lrsub_9:=rfl
noncomputable def rrsub_10:=opR Tryd.f16 [1,1,1,0,1,0,0,1,0,0,1,1,1,0,0]
noncomputable def lrsub_10:List Oper:=match Tryd.f16.body with
 | some (.seq _ (.seq _ (.seq _ (.seq (.seq _ (.block _ (.loop (.seq _ (.seq (.block _ (.seq _ (.seq _ (.seq _ (.seq (.seq (.region _ o _) _) _))))) _))))) _))))=>o.toList
 | _=>[]
theorem ersub_10:rrsub_10.toList=lrsub_10:=rfl
noncomputable def rrsub_11:=opR Tryd.f16 [1,1,1,0,1,0,0,1,0,0,1,1,1,0,1,0,0]
noncomputable def lrsub_11:List Oper:=match Tryd.f16.body with
 | some (.seq _ (.seq _ (.seq _ (.seq (.seq _ (.block _ (.loop (.seq _ (.seq (.block _ (.seq _ (.seq _ (.seq _ (.seq (.seq _ (.cond _ (.seq (.region _ o _) _) _)) _))))) _))))) _))))=>o.toList
 | _=>[]
theorem ersub_11:rrsub_11.toList=lrsub_11:=rfl
noncomputable def rrsub_12:=opR Tryd.f16 [1,1,1,0,1,0,0,1,0,0,1,1,1,0,1,0,1]
noncomputable def lrsub_12:List Oper:=match Tryd.f16.body with
 | some (.seq _ (.seq _ (.seq _ (.seq (.seq _ (.block _ (.loop (.seq _ (.seq (.block _ (.seq _ (.seq _ (.seq _ (.seq (.seq _ (.cond _ (.seq _ (.region _ o _)) _)) _))))) _))))) _))))=>o.toList
 | _=>[]
theorem ersub_12:rrsub_12.toList=lrsub_12:=rfl
noncomputable def rrsub_13:=opR Tryd.f16 [1,1,1,0,1,0,0,1,0,0,1,1,1,1]
noncomputable def lrsub_13:List Oper:=match Tryd.f16.body with
 | some (.seq _ (.seq _ (.seq _ (.seq (.seq _ (.block _ (.loop (.seq _ (.seq (.block _ (.seq _ (.seq _ (.seq _ (.seq _ (.region _ o _)))))) _))))) _))))=>o.toList
 | _=>[]
theorem ersub_13:rrsub_13.toList=lrsub_13:=rfl
noncomputable def rrsub_5:=opR Tryd.f16 [1,1,1,0,1,0,0,1,1]
noncomputable def lrsub_5:List Oper:=match Tryd.f16.body with
 | some (.seq _ (.seq _ (.seq _ (.seq (.seq _ (.block _ (.loop (.seq _ (.seq _ (.region _ o _)))))) _))))=>o.toList
 | _=>[]
theorem ersub_5:rrsub_5.toList=lrsub_5:=rfl
theorem lprsub_0_eq:lprsub_0=(.seq (.seq (.region 4 rrsub_4 false) (.cond (.tmp 12) .skip (.exit 0))) (.seq (.block 1 (.seq (.region 6 rrsub_6 false) (.seq (.seq (.region 7 rrsub_7 false) (.cond (.tmp 24) (.region 8 rrsub_8 false) .skip)) (.seq (.region 9 rrsub_9 false) (.seq (.seq (.region 10 rrsub_10 false) (.cond (.tmp 32) (.seq (.region 11 rrsub_11 false) (.region 12 rrsub_12 false)) .skip)) (.region 13 rrsub_13 false)))))) (.region 5 rrsub_5 false))):=rfl
noncomputable def rrsub_14:=opR Tryd.f16 [1,1,1,1,0]
noncomputable def lrsub_14:List Oper:=match Tryd.f16.body with
 | some (.seq _ (.seq _ (.seq _ (.seq _ (.seq (.region _ o _) _)))))=>o.toList
 | _=>[]
theorem ersub_14:rrsub_14.toList=lrsub_14:=rfl
theorem bodyrsub:Tryd.f16.body=some (.seq (.region 0 rrsub_0 false) (.seq (.region 1 rrsub_1 false) (.seq (.region 2 rrsub_2 false) (.seq (.seq (.region 3 rrsub_3 false) (.block 0 (.loop lprsub_0))) (.seq (.region 14 rrsub_14 false) .ret))))):=rfl
section
variable {self:Self} {nf B:Nat} {m:Mem} {F:Nat→Value} {a b:Value} {la lb L:List Nat} {i c x y:Nat}
theorem rsub_P1 (h0:F 0=a) (h1:F 1=b) (h6:F 6=.int .i64 (c:Nat)) (h7:F 7=.int .i64 (i:Nat)) (hi9:i<100000) (ha:NumA m a la) (hb:NumA m b lb) (hx:la[i]? = some x) (hx9:x<256) (hc9:c≤1) (hy:lb[i]? = some y) (hy9:y<256) (hn:c+y≤x) (hS:GN B m (F 5) L) (hB:B≤m.length) (hl:L.length≤100000) :
  ∃ F' m',acodeN E self nf lprsub_0 (lst F 41) m=some (.normal,lst F' 41,m')∧F' 0=a∧F' 1=b∧F' 6=.int .i64 ((0:Nat):Int)∧F' 7=.int .i64 ((i+1:Nat):Int)∧GN B m' (F' 5) (L++[(x-(c+y))])∧m.length≤m'.length∧∀ k,k<B→m'[k]? = m[k]? := by
 obtain ⟨ba,oa,ia,ca⟩:=ha.2 i x hx
 have hil:=(List.getElem?_eq_some_iff.1 hx).1
 obtain ⟨bb,ob,ib,cb⟩:=hb.2 i y hy
 have hjl:=(List.getElem?_eq_some_iff.1 hy).1
 have q1:decide (((i:Nat):Int)<((la.length:Nat):Int))=true:=decide_eq_true (by omega)
 have q2:decide (((i:Nat):Int)<((lb.length:Nat):Int))=true:=decide_eq_true (by omega)
 have e1:wrapF .i64 (((x:Nat):Int)-((c:Nat):Int))=((x:Nat):Int)-((c:Nat):Int):=by simp only [wrapF]; omega
 have e2:wrapF .i64 (((x:Nat):Int)-((c:Nat):Int)-((y:Nat):Int))=(((x-(c+y)):Nat):Int):=by simp only [wrapF]; omega
 have q3:decide ((((x-(c+y)):Nat):Int)<0)=false:=decide_eq_false (by omega)
 have e5:=w1 (i:=i) (by omega)
 have la9:=ha.1
 have lb9:=hb.1
 generalize hv:F 5=v at hS
 obtain ⟨v',m',happ,hS',hle,hfr⟩:=appN (x:=(x-(c+y))) hS hB hl
 simp only [lprsub_0_eq,ersub_10,ersub_13,ersub_4,ersub_5,ersub_6,ersub_7,ersub_8,ersub_9,lrsub_4,lrsub_5,lrsub_6,lrsub_7,lrsub_8,lrsub_9,lrsub_10,lrsub_13,agd_none,Tryd.f16,acodeN,aopsN,astep,aop,ev,nth_lst,aput,setAt_lst,upd_at,Nat.reduceLT,Nat.reduceEqDiff,len_N,abuiltin_app,Option.map_some,List.map_cons,List.map_nil,if_true,if_false,h0,h1,h6,h7,hv,la9,lb9,lss64,sub64',add64',q1,q2,e1,e2,q3,ia,load3,ca,ib,cb,build27,happ,e5]
 exact ⟨_,_,rfl,by simp only [upd_at,Nat.reduceEqDiff,reduceIte,h0],by simp only [upd_at,Nat.reduceEqDiff,reduceIte,h1],by simp only [upd_at,Nat.reduceEqDiff,reduceIte]; rfl,rfl,by simp only [upd_at,Nat.reduceEqDiff,reduceIte]; exact hS',hle,hfr⟩
theorem rsub_N1 (h0:F 0=a) (h1:F 1=b) (h6:F 6=.int .i64 (c:Nat)) (h7:F 7=.int .i64 (i:Nat)) (hi9:i<100000) (ha:NumA m a la) (hb:NumA m b lb) (hx:la[i]? = some x) (hx9:x<256) (hc9:c≤1) (hy:lb[i]? = some y) (hy9:y<256) (hn:x<c+y) (hS:GN B m (F 5) L) (hB:B≤m.length) (hl:L.length≤100000) :
  ∃ F' m',acodeN E self nf lprsub_0 (lst F 41) m=some (.normal,lst F' 41,m')∧F' 0=a∧F' 1=b∧F' 6=.int .i64 ((1:Nat):Int)∧F' 7=.int .i64 ((i+1:Nat):Int)∧GN B m' (F' 5) (L++[(x+256-(c+y))])∧m.length≤m'.length∧∀ k,k<B→m'[k]? = m[k]? := by
 obtain ⟨ba,oa,ia,ca⟩:=ha.2 i x hx
 have hil:=(List.getElem?_eq_some_iff.1 hx).1
 obtain ⟨bb,ob,ib,cb⟩:=hb.2 i y hy
 have hjl:=(List.getElem?_eq_some_iff.1 hy).1
 have q1:decide (((i:Nat):Int)<((la.length:Nat):Int))=true:=decide_eq_true (by omega)
 have q2:decide (((i:Nat):Int)<((lb.length:Nat):Int))=true:=decide_eq_true (by omega)
 have e1:wrapF .i64 (((x:Nat):Int)-((c:Nat):Int))=((x:Nat):Int)-((c:Nat):Int):=by simp only [wrapF]; omega
 have e2:wrapF .i64 (((x:Nat):Int)-((c:Nat):Int)-((y:Nat):Int))=((x:Nat):Int)-((c:Nat):Int)-((y:Nat):Int):=by simp only [wrapF]; omega
 have q3:decide (((x:Nat):Int)-((c:Nat):Int)-((y:Nat):Int)<0)=true:=decide_eq_true (by omega)
 have e4:wrapF .i64 (((x:Nat):Int)-((c:Nat):Int)-((y:Nat):Int)+256)=(((x+256-(c+y)):Nat):Int):=by simp only [wrapF]; omega
 have e5:=w1 (i:=i) (by omega)
 have la9:=ha.1
 have lb9:=hb.1
 generalize hv:F 5=v at hS
 obtain ⟨v',m',happ,hS',hle,hfr⟩:=appN (x:=(x+256-(c+y))) hS hB hl
 simp only [lprsub_0_eq,ersub_10,ersub_11,ersub_12,ersub_13,ersub_4,ersub_5,ersub_6,ersub_7,ersub_8,ersub_9,lrsub_4,lrsub_5,lrsub_6,lrsub_7,lrsub_8,lrsub_9,lrsub_10,lrsub_11,lrsub_12,lrsub_13,agd_none,Tryd.f16,acodeN,aopsN,astep,aop,ev,nth_lst,aput,setAt_lst,upd_at,Nat.reduceLT,Nat.reduceEqDiff,len_N,abuiltin_app,Option.map_some,List.map_cons,List.map_nil,if_true,if_false,h0,h1,h6,h7,hv,la9,lb9,lss64,sub64',add64',q1,q2,e1,e2,q3,e4,ia,load3,ca,ib,cb,build27,happ,e5]
 exact ⟨_,_,rfl,by simp only [upd_at,Nat.reduceEqDiff,reduceIte,h0],by simp only [upd_at,Nat.reduceEqDiff,reduceIte,h1],by simp only [upd_at,Nat.reduceEqDiff,reduceIte]; rfl,rfl,by simp only [upd_at,Nat.reduceEqDiff,reduceIte]; exact hS',hle,hfr⟩
theorem rsub_P0 (h0:F 0=a) (h1:F 1=b) (h6:F 6=.int .i64 (c:Nat)) (h7:F 7=.int .i64 (i:Nat)) (hi9:i<100000) (ha:NumA m a la) (hb:NumA m b lb) (hx:la[i]? = some x) (hx9:x<256) (hc9:c≤1) (hj:lb.length≤i) (hn:c≤x) (hS:GN B m (F 5) L) (hB:B≤m.length) (hl:L.length≤100000) :
  ∃ F' m',acodeN E self nf lprsub_0 (lst F 41) m=some (.normal,lst F' 41,m')∧F' 0=a∧F' 1=b∧F' 6=.int .i64 ((0:Nat):Int)∧F' 7=.int .i64 ((i+1:Nat):Int)∧GN B m' (F' 5) (L++[(x-(c))])∧m.length≤m'.length∧∀ k,k<B→m'[k]? = m[k]? := by
 obtain ⟨ba,oa,ia,ca⟩:=ha.2 i x hx
 have hil:=(List.getElem?_eq_some_iff.1 hx).1
 have q1:decide (((i:Nat):Int)<((la.length:Nat):Int))=true:=decide_eq_true (by omega)
 have q2:decide (((i:Nat):Int)<((lb.length:Nat):Int))=false:=decide_eq_false (by omega)
 have e1:wrapF .i64 (((x:Nat):Int)-((c:Nat):Int))=(((x-(c)):Nat):Int):=by simp only [wrapF]; omega
 have q3:decide ((((x-(c)):Nat):Int)<0)=false:=decide_eq_false (by omega)
 have e5:=w1 (i:=i) (by omega)
 have la9:=ha.1
 have lb9:=hb.1
 generalize hv:F 5=v at hS
 obtain ⟨v',m',happ,hS',hle,hfr⟩:=appN (x:=(x-(c))) hS hB hl
 simp only [lprsub_0_eq,ersub_10,ersub_13,ersub_4,ersub_5,ersub_6,ersub_7,ersub_9,lrsub_4,lrsub_5,lrsub_6,lrsub_7,lrsub_9,lrsub_10,lrsub_13,agd_none,Tryd.f16,acodeN,aopsN,astep,aop,ev,nth_lst,aput,setAt_lst,upd_at,Nat.reduceLT,Nat.reduceEqDiff,len_N,abuiltin_app,Option.map_some,List.map_cons,List.map_nil,if_true,if_false,h0,h1,h6,h7,hv,la9,lb9,lss64,sub64',add64',q1,q2,e1,q3,ia,load3,ca,build27,happ,e5]
 exact ⟨_,_,rfl,by simp only [upd_at,Nat.reduceEqDiff,reduceIte,h0],by simp only [upd_at,Nat.reduceEqDiff,reduceIte,h1],by simp only [upd_at,Nat.reduceEqDiff,reduceIte]; rfl,rfl,by simp only [upd_at,Nat.reduceEqDiff,reduceIte]; exact hS',hle,hfr⟩
theorem rsub_N0 (h0:F 0=a) (h1:F 1=b) (h6:F 6=.int .i64 (c:Nat)) (h7:F 7=.int .i64 (i:Nat)) (hi9:i<100000) (ha:NumA m a la) (hb:NumA m b lb) (hx:la[i]? = some x) (hx9:x<256) (hc9:c≤1) (hj:lb.length≤i) (hn:x<c) (hS:GN B m (F 5) L) (hB:B≤m.length) (hl:L.length≤100000) :
  ∃ F' m',acodeN E self nf lprsub_0 (lst F 41) m=some (.normal,lst F' 41,m')∧F' 0=a∧F' 1=b∧F' 6=.int .i64 ((1:Nat):Int)∧F' 7=.int .i64 ((i+1:Nat):Int)∧GN B m' (F' 5) (L++[(x+256-(c))])∧m.length≤m'.length∧∀ k,k<B→m'[k]? = m[k]? := by
 obtain ⟨ba,oa,ia,ca⟩:=ha.2 i x hx
 have hil:=(List.getElem?_eq_some_iff.1 hx).1
 have q1:decide (((i:Nat):Int)<((la.length:Nat):Int))=true:=decide_eq_true (by omega)
 have q2:decide (((i:Nat):Int)<((lb.length:Nat):Int))=false:=decide_eq_false (by omega)
 have e1:wrapF .i64 (((x:Nat):Int)-((c:Nat):Int))=((x:Nat):Int)-((c:Nat):Int):=by simp only [wrapF]; omega
 have q3:decide (((x:Nat):Int)-((c:Nat):Int)<0)=true:=decide_eq_true (by omega)
 have e4:wrapF .i64 (((x:Nat):Int)-((c:Nat):Int)+256)=(((x+256-(c)):Nat):Int):=by simp only [wrapF]; omega
 have e5:=w1 (i:=i) (by omega)
 have la9:=ha.1
 have lb9:=hb.1
 generalize hv:F 5=v at hS
 obtain ⟨v',m',happ,hS',hle,hfr⟩:=appN (x:=(x+256-(c))) hS hB hl
 simp only [lprsub_0_eq,ersub_10,ersub_11,ersub_12,ersub_13,ersub_4,ersub_5,ersub_6,ersub_7,ersub_9,lrsub_4,lrsub_5,lrsub_6,lrsub_7,lrsub_9,lrsub_10,lrsub_11,lrsub_12,lrsub_13,agd_none,Tryd.f16,acodeN,aopsN,astep,aop,ev,nth_lst,aput,setAt_lst,upd_at,Nat.reduceLT,Nat.reduceEqDiff,len_N,abuiltin_app,Option.map_some,List.map_cons,List.map_nil,if_true,if_false,h0,h1,h6,h7,hv,la9,lb9,lss64,sub64',add64',q1,q2,e1,q3,e4,ia,load3,ca,build27,happ,e5]
 exact ⟨_,_,rfl,by simp only [upd_at,Nat.reduceEqDiff,reduceIte,h0],by simp only [upd_at,Nat.reduceEqDiff,reduceIte,h1],by simp only [upd_at,Nat.reduceEqDiff,reduceIte]; rfl,rfl,by simp only [upd_at,Nat.reduceEqDiff,reduceIte]; exact hS',hle,hfr⟩
theorem rsub_E (h0:F 0=a) (h7:F 7=.int .i64 (i:Nat)) (ha:NumA m a la) (hi:la.length≤i) :
  ∃ F',acodeN E self nf lprsub_0 (lst F 41) m=some (.exit 0,lst F' 41,m)∧F' 5=F 5:=by
 have q1:decide (((i:Nat):Int)<((la.length:Nat):Int))=false:=decide_eq_false (by omega)
 have la9:=ha.1
 simp only [lprsub_0_eq,ersub_4,lrsub_4,agd_none,Tryd.f16,acodeN,aopsN,astep,aop,ev,nth_lst,aput,setAt_lst,upd_at,Nat.reduceLT,Nat.reduceEqDiff,len_N,if_true,if_false,h0,h7,la9,lss64,q1]
 exact ⟨_,rfl,rfl⟩
end
theorem mem_app9 {L:List Nat} {s:Nat} (h:∀ x∈L,x<256) (hs:s<256):∀ x∈L++[s],x<256:=by
 intro x hx
 rcases List.mem_append.1 hx with h1 | h1
 ·exact h x h1
 ·simp only [List.mem_singleton] at h1
  omega
theorem rsub_body {self:Self} {nf:Nat} {m:Mem} {a b:Value} {x y:Nat} (ct:CTrim self) (ha:NumA m a (dig x)) (hb:NumA m b (dig y)) (hyx:y≤x) (hlx:(dig x).length≤800) (hnf:1000<nf) :
  ∃ v m1,abody E self nf 16 [a,b] m=some (v,m1)∧NumB m.length v m1 (x-y):=by
 rw [abody_eqF (by kernel_rfl) Tryd.func16 bodyrsub (by kernel_rfl) (Nat.le_of_ble_eq_true rfl)]
 rw [show Tryd.f16.ntmps=41 from rfl]
 have hlen:(dig y).length≤(dig x).length:=dig_len_le (Nat.lt_of_le_of_lt hyx (lt_dig_len x))
 have vx:=val_dig x
 have vy:=val_dig y
 have dx:=dig_lt x
 have dy:=dig_lt y
 generalize hla:dig x=la at *
 generalize hlb:dig y=lb at *
 have hloop:=aloop_inv (body:=acodeN E self nf lprsub_0) (N:=la.length)
  (I:=fun i T m'=>∃ G L c,T=lst G 41∧m.length≤m'.length∧(∀ k,k<m.length→m'[k]? = m[k]?)∧G 0=a∧G 1=b∧G 6=.int .i64 (c:Nat)∧G 7=.int .i64 (i:Nat)∧GN m.length m' (G 5) L∧L.length=i∧(∀ x∈L,x<256)∧c≤1∧
   val L+val (lb.take i)=val (la.take i)+256^i*c)
  (Q:=fun e T m'=>e=.exit 0∧∃ G L,T=lst G 41∧GN m.length m' (G 5) L∧L.length≤1000∧(∀ x∈L,x<256)∧val L=x-y) (fun i T m' hi hI=>by
   obtain ⟨G,L,c,rfl,hle,hfr,g0,g1,g6,g7,gS,gl,gd,gc,gv⟩:=hI
   have ha':=ha.keep hfr
   have hb':=hb.keep hfr
   have hpow:256^(i+1)=256^i*256:=Nat.pow_succ ..
   by_cases h1:i<la.length
   ·left
    have hx:la[i]? = some la[i]:=by simp [h1]
    have hx9:=dx _ (List.mem_of_getElem? hx)
    have sx:=val_step hx
    generalize la[i]=xi at *
    have hP:∀ u v w:Nat,u+v=w→256^i*u+256^i*v=256^i*w:=fun u v w h=>by rw [←Nat.mul_add,h]
    by_cases h2:i<lb.length
    ·have hy:lb[i]? = some lb[i]:=by simp [h2]
     have hy9:=dy _ (List.mem_of_getElem? hy)
     have sy:=val_step hy
     generalize lb[i]=yi at *
     by_cases h3:c+yi≤xi
     ·obtain ⟨F',m2,hr,f0,f1,f6,f7,fS,fle,ffr⟩:=rsub_P1 (self:=self) (nf:=nf) g0 g1 g6 g7 (by omega) ha' hb' hx hx9 gc hy hy9 h3 gS hle (by omega)
      refine ⟨_,_,hr,h1,F',_,0,rfl,by omega,fun k hk=>by rw [ffr k hk,hfr k hk],f0,f1,f6,f7,fS,by simp [gl],mem_app9 gd (by omega),by omega,?_⟩
      have p1:=hP (xi-(c+yi)) (c+yi) xi (by omega)
      have p2:=hP c yi (c+yi) rfl
      rw [val_app1,gl,sx,sy]
      omega
     ·obtain ⟨F',m2,hr,f0,f1,f6,f7,fS,fle,ffr⟩:=rsub_N1 (self:=self) (nf:=nf) g0 g1 g6 g7 (by omega) ha' hb' hx hx9 gc hy hy9 (by omega) gS hle (by omega)
      refine ⟨_,_,hr,h1,F',_,1,rfl,by omega,fun k hk=>by rw [ffr k hk,hfr k hk],f0,f1,f6,f7,fS,by simp [gl],mem_app9 gd (by omega),by omega,?_⟩
      have p1:=hP (xi+256-(c+yi)) (c+yi) (xi+256) (by omega)
      have p2:=hP c yi (c+yi) rfl
      have p3:=hP xi 256 (xi+256) rfl
      rw [val_app1,gl,sx,sy,hpow]
      omega
    ·have sy:=val_same (l:=lb) (i:=i) (by omega)
     by_cases h3:c≤xi
     ·obtain ⟨F',m2,hr,f0,f1,f6,f7,fS,fle,ffr⟩:=rsub_P0 (self:=self) (nf:=nf) g0 g1 g6 g7 (by omega) ha' hb' hx hx9 gc (by omega) h3 gS hle (by omega)
      refine ⟨_,_,hr,h1,F',_,0,rfl,by omega,fun k hk=>by rw [ffr k hk,hfr k hk],f0,f1,f6,f7,fS,by simp [gl],mem_app9 gd (by omega),by omega,?_⟩
      have p1:=hP (xi-c) c xi (by omega)
      rw [val_app1,gl,sx,sy]
      omega
     ·obtain ⟨F',m2,hr,f0,f1,f6,f7,fS,fle,ffr⟩:=rsub_N0 (self:=self) (nf:=nf) g0 g1 g6 g7 (by omega) ha' hb' hx hx9 gc (by omega) (by omega) gS hle (by omega)
      refine ⟨_,_,hr,h1,F',_,1,rfl,by omega,fun k hk=>by rw [ffr k hk,hfr k hk],f0,f1,f6,f7,fS,by simp [gl],mem_app9 gd (by omega),by omega,?_⟩
      have p1:=hP (xi+256-c) c (xi+256) (by omega)
      have p3:=hP xi 256 (xi+256) rfl
      rw [val_app1,gl,sx,sy,hpow]
      omega
   ·right
    have hie:i=la.length:=by omega
    obtain ⟨F',hr,f5⟩:=rsub_E (self:=self) (nf:=nf) (m:=m') g0 g7 ha' (by omega)
    have tx:val (la.take i)=x:=by rw [List.take_of_length_le (by omega)]; exact vx
    have ty:val (lb.take i)=y:=by rw [List.take_of_length_le (by omega)]; exact vy
    have hlt:=val_lt gd
    rw [gl] at hlt
    refine ⟨_,_,_,hr,by simp,rfl,F',L,rfl,by rw [f5]; exact gS,by omega,gd,?_⟩
    rw [tx,ty] at gv
    have hc:c=0∨c=1:=by omega
    rcases hc with rfl | rfl
    ·omega
    ·omega)
 obtain ⟨e,T',m',hr,rfl,G,L,rfl,gS,gl,gd,gv⟩:=hloop la.length 0 nf (lst (upd (upd (upd (upd (init [a,b]) 4 (.slice none 0 0)) 5 (.slice none 0 0)) 6 (.int .i64 0)) 7 (.int .i64 0)) 41) m (by omega) (by omega) ⟨_,[],0,rfl,Nat.le_refl _,fun _ _=>rfl,rfl,rfl,rfl,rfl,.inl ⟨rfl,rfl⟩,rfl,(fun x hx=>by cases hx),by omega,by simp [val]⟩
 generalize hv:G 5=v at gS
 obtain ⟨v',ht,hB⟩:=ct m.length m' v L (x-y) gS gl gd gv
 simp only [ersub_0,ersub_1,ersub_14,ersub_2,ersub_3,lrsub_0,lrsub_1,lrsub_2,lrsub_3,lrsub_14,agd_none,Tryd.f16,List.cons_append,List.nil_append,acodeN,aopsN,astep,aop,ev,nth_lst,aput,setAt_lst,upd_at,Nat.reduceLT,Nat.reduceEqDiff,Option.map_some,List.map_cons,List.map_nil,List.isEmpty_nil,bls,if_true,if_false,hr,hv,calltrim,ht,finish,ares,aresL,ares1]
 exact ⟨_,_,rfl,hB⟩
def CSub (self:Self):Prop:=∀ (m:Mem) (a b:Value) (x y:Nat),NumA m a (dig x)→NumA m b (dig y)→y≤x→(dig x).length≤800→∃ v m',ainv E self 16 [a,b] m=some (v,m')∧NumR m v m' (x-y)
theorem csub {R:Nat→Self} {K:List Fact} (hR:Runs R K) {n:Nat} (hK:hasF K 16=false) (hK':hasF K 40=false) (hn:1000≤n):CSub (R (n+2)):=by
 intro m a b x y ha hb hyx hlx
 refine num2_call (by kernel_rfl) (by kernel_rfl) ha hb fun M' ha hb=>?_
 obtain ⟨v,m1,h1,h2⟩:=rsub_body (self:=(R (n+1))) (nf:=n+2) (ctrim hR hK' hn) ha hb hyx hlx (by omega)
 exact ⟨v,m1,hR.b hK h1,h2⟩
end Go.Am.Seat
namespace Go.Am
noncomputable section
section
variable {E:Env} {self:Self} {ops:Array Oper} {m m1:Mem} {o:Oper} {l:List Oper} {i c:Nat} {T:List Value} {nb bs:List Blk} {ow:List Nat} {v v':Value}
theorem u_float (hg:agd ops T o=some true) (hok:okOp E.P o.op=true) (hc:cls E.P E.wr o=0) (hf:afloat E.P T o=some v):amkUT E self ops m (o::l) i T nb ow=amkUT E self ops m l (i+1) (aput T o.dst v) nb ow:=by
 rw [amkUT,hg]
 simp only
 rw [if_pos hok,hc]
 simp only [hf]
theorem u_make (hg:agd ops T o=some true) (hok:okOp E.P o.op=true) (hc:cls E.P E.wr o=c+1) (hp:opsP (pW ops i m.length ow) T o=true) (hr:rowsP (pW ops i m.length ow) (maskN ops i nb ow)=true)
  (hs:astep E self T ((m++maskN ops i nb ow).map sealed) o=some (v,m1)) (ha:acollAt (m.length+nb.length) (m.length+nb.length) v m1=some (v',bs)) (hw:(bs.isEmpty||isW E.P E.wr ops i)=true) :
  amkUT E self ops m (o::l) i T nb ow=amkUT E self ops m l (i+1) (aput T o.dst v') (nb++bs) (ow++List.replicate bs.length i):=by
 rw [amkUT,hg]
 simp only
 rw [if_pos hok,hc]
 simp only [hp,hr,Bool.and_self,if_true,hs,ha,hw]
theorem u_end:amkUT E self ops m [] i T nb ow=some (T,nb):=rfl
theorem amk_of {T1:List Value} {nb1:List Blk} (hd:depB E.P E.wr ops=true) (h:amkUT E self ops m ops.toList 0 T [] []=some (T1,nb1)):amk E self ops T m=some (T1,m++nb1):=by
 unfold amk
 rw [hd]
 simp only
 unfold amkU
 rw [h]
end
theorem acollAt_lit {n N:Nat} {v:Value} {m1:Mem} (h:lit2 v=true):acollAt n N v m1=some (v,[]):=by
 unfold acollAt
 rw [if_pos h]
end
end Go.Am
namespace Go.Am.Seat
open Go.Proofs Go.Am
theorem acollAt_new {m1:Mem} {n N b o k c:Nat} {ro:Bool} {e:TypeId} {cs:List Value} (hb:n≤b) (hm:m1[b]? = some (.row ro e cs)) (hc:cs.all lit0=true) :
  acollAt n N (.slice (some ⟨b,o,none⟩) k c) m1=some (.slice (some ⟨N,o,none⟩) k c,[.row ro e cs]):=by
 have hnb:¬ b<n:=by omega
 unfold acollAt
 rw [if_neg (by simp [lit2,lit1,lit0])]
 have h1:idsL n (partsOf (.slice (some ⟨b,o,none⟩) k c)) []=[b]:=by
  simp [partsOf,idsL,idOf,addIds,hnb]
 have h2:closeIds n m1 2 [b]=[b]:=by
  simp only [closeIds,List.foldl_cons,List.foldl_nil,hm,idsL_lit cs [b] hc]
 simp only [h1,h2]
 rw [if_pos (by simp [nodupB,hb])]
 have h3:rid n N [b] b=some N:=by
  unfold rid
  rw [if_neg hnb]
  simp [List.idxOf?]
 simp only [renB,hm,renL_id cs hc,ren3,ren2,ren1,h3]
def NumIn (n:Nat) (v:Value):Prop:=v=.slice none 0 0∨∃ b k c,v=.slice (some ⟨b,0,none⟩) k c∧b<n
theorem num_at2 {M M':Mem} {v:Value} {r:Nat} (h:NumR M v M' r):∃ bs,acollAt M.length M.length v M'=some (v,bs)∧(bs=[]∨∃ L,bs=[.row false 3 (cellsN L)])∧(∀ A C:Mem,A.length=M.length→NumA (A++bs++C) v (dig r)∧NumIn (A++bs++C).length v∧NumB A.length v (A++bs++C) r):=by
 rcases h with ⟨rfl,rfl,rfl⟩ | ⟨L,n,h1,h2,rfl,rfl,hne⟩
 ·exact ⟨[],acollAt_lit rfl,.inl rfl,fun A C hA=>⟨by rw [dig_zero]; exact NumA.nil _,.inl rfl,.inl ⟨rfl,rfl⟩⟩⟩
 ·refine ⟨[.row false 3 (cellsN L)],acollAt_new (Nat.le_refl _) (by simp) (cellsN_lits L),.inr ⟨L,rfl⟩,fun A C hA=>?_⟩
  have hrow:(A++[Blk.row false 3 (cellsN L)]++C)[M.length]? = some (.row false 3 (cellsN L)):=by
   rw [←hA,List.append_assoc,List.getElem?_append_right (Nat.le_refl _)]
   simp
  refine ⟨?_,.inr ⟨_,_,_,rfl,by simp; omega⟩,.inr ⟨L,n,M.length,false,h1,h2,by omega,rfl,hrow,hne⟩⟩
  rw [←h2]
  exact NumA.row (ro:=false) hrow h1
theorem NumR.in {m m':Mem} {v:Value} {r:Nat} (h:NumR m v m' r):NumIn m'.length v:=by
 rcases h with ⟨rfl,rfl,rfl⟩ | ⟨L,n,h1,h2,rfl,rfl,hne⟩
 ·exact .inl rfl
 ·exact .inr ⟨_,_,_,rfl,by simp⟩
theorem NumB.mono {B B' r:Nat} {v:Value} {m:Mem} (h:NumB B v m r) (hB:B'≤B):NumB B' v m r:=by
 rcases h with h | ⟨L,n,b,ro,h1,h2,h3,h4,h5,hne⟩
 ·exact .inl h
 ·exact .inr ⟨L,n,b,ro,h1,h2,by omega,h4,h5,hne⟩
theorem NumIn.mono {n n':Nat} {v:Value} (h:NumIn n v) (hn:n≤n'):NumIn n' v:=by
 rcases h with h | ⟨b,k,c,h1,h2⟩
 ·exact .inl h
 ·exact .inr ⟨b,k,c,h1,by omega⟩
theorem NumIn.below {n:Nat} {v:Value} (h:NumIn n v) {p:Nat→Bool} (hp:∀ k,k<n→p k=true):belowP p 4 v=true:=by
 rcases h with rfl | ⟨b,k,c,rfl,h2⟩
 ·rfl
 ·exact hp b h2
theorem cellsN_below (p:Nat→Bool) (L:List Nat):(cellsN L).all (belowP p 4)=true:=by
 unfold cellsN
 rw [List.all_map,List.all_eq_true]
 intro x _
 rfl
noncomputable def rrdec_0:=opR Tryd.f25 [0]
noncomputable def lrdec_0:List Oper:=match Tryd.f25.body with
 | some (.seq (.region _ o _) _)=>o.toList
 | _=>[]
theorem erdec_0:rrdec_0.toList=lrdec_0:=rfl
noncomputable def rrdec_1:=opR Tryd.f25 [1,0,0]
noncomputable def lrdec_1:List Oper:=match Tryd.f25.body with
 | some (.seq _ (.seq (.seq (.region _ o _) _) _))=>o.toList
 | _=>[]
theorem erdec_1:rrdec_1.toList=lrdec_1:=rfl
theorem grdec_1_3 {T:List Value} {dd:Option Tmp} {op:Op} {ty:TypeId} {pos:String} {af:Array Edge} {want:Bool}:agd rrdec_1 T { dst:=dd,op:=op,type:=ty,pos:=pos,after:=af,guard:=some (3,want) }=gdAt T 9 want:=agd_at (by kernel_rfl)
theorem grdec_1_7 {T:List Value} {dd:Option Tmp} {op:Op} {ty:TypeId} {pos:String} {af:Array Edge} {want:Bool}:agd rrdec_1 T { dst:=dd,op:=op,type:=ty,pos:=pos,after:=af,guard:=some (7,want) }=gdAt T 13 want:=agd_at (by kernel_rfl)
noncomputable def rrdec_2:=opR Tryd.f25 [1,0,1,0,0]
noncomputable def lrdec_2:List Oper:=match Tryd.f25.body with
 | some (.seq _ (.seq (.seq _ (.cond _ (.seq (.region _ o _) _) _)) _))=>o.toList
 | _=>[]
theorem erdec_2:rrdec_2.toList=lrdec_2:=rfl
noncomputable def rrdec_3:=opR Tryd.f25 [1,1,0]
noncomputable def lrdec_3:List Oper:=match Tryd.f25.body with
 | some (.seq _ (.seq _ (.seq (.region _ o _) _)))=>o.toList
 | _=>[]
theorem erdec_3:rrdec_3.toList=lrdec_3:=rfl
noncomputable def rrdec_4:=opR Tryd.f25 [1,1,1,0,0]
noncomputable def lrdec_4:List Oper:=match Tryd.f25.body with
 | some (.seq _ (.seq _ (.seq _ (.seq (.seq (.region _ o _) _) _))))=>o.toList
 | _=>[]
theorem erdec_4:rrdec_4.toList=lrdec_4:=rfl
noncomputable def lprdec_0:Code:=match Tryd.f25.body with
 | some (.seq _ (.seq _ (.seq _ (.seq (.seq _ (.block _ (.loop c))) _))))=>c
 | _=>.skip
noncomputable def rrdec_5:=opR Tryd.f25 [1,1,1,0,1,0,0,0,0]
noncomputable def lrdec_5:List Oper:=match Tryd.f25.body with
 | some (.seq _ (.seq _ (.seq _ (.seq (.seq _ (.block _ (.loop (.seq (.seq (.region _ o _) _) _)))) _))))=>o.toList
 | _=>[]
theorem erdec_5:rrdec_5.toList=lrdec_5:=rfl
noncomputable def rrdec_7:=opR Tryd.f25 [1,1,1,0,1,0,0,1,0,0,0,0]
noncomputable def lrdec_7:List Oper:=match Tryd.f25.body with
 | some (.seq _ (.seq _ (.seq _ (.seq (.seq _ (.block _ (.loop (.seq _ (.seq (.block _ (.seq (.seq (.region _ o _) _) _)) _))))) _))))=>o.toList
 | _=>[]
theorem erdec_7:rrdec_7.toList=lrdec_7:=rfl
theorem grdec_7_4 {T:List Value} {dd:Option Tmp} {op:Op} {ty:TypeId} {pos:String} {af:Array Edge} {want:Bool}:agd rrdec_7 T { dst:=dd,op:=op,type:=ty,pos:=pos,after:=af,guard:=some (4,want) }=gdAt T 29 want:=agd_at (by kernel_rfl)
noncomputable def rrdec_8:=opR Tryd.f25 [1,1,1,0,1,0,0,1,0,0,0,1,0,0]
noncomputable def lrdec_8:List Oper:=match Tryd.f25.body with
 | some (.seq _ (.seq _ (.seq _ (.seq (.seq _ (.block _ (.loop (.seq _ (.seq (.block _ (.seq (.seq _ (.cond _ (.seq (.region _ o _) _) _)) _)) _))))) _))))=>o.toList
 | _=>[]
theorem erdec_8:rrdec_8.toList=lrdec_8:=rfl
noncomputable def rrdec_9:=opR Tryd.f25 [1,1,1,0,1,0,0,1,0,0,1]
noncomputable def lrdec_9:List Oper:=match Tryd.f25.body with
 | some (.seq _ (.seq _ (.seq _ (.seq (.seq _ (.block _ (.loop (.seq _ (.seq (.block _ (.seq _ (.region _ o _))) _))))) _))))=>o.toList
 | _=>[]
theorem erdec_9:rrdec_9.toList=lrdec_9:=rfl
noncomputable def rrdec_6:=opR Tryd.f25 [1,1,1,0,1,0,0,1,1]
noncomputable def lrdec_6:List Oper:=match Tryd.f25.body with
 | some (.seq _ (.seq _ (.seq _ (.seq (.seq _ (.block _ (.loop (.seq _ (.seq _ (.region _ o _)))))) _))))=>o.toList
 | _=>[]
theorem erdec_6:rrdec_6.toList=lrdec_6:=rfl
theorem lprdec_0_eq:lprdec_0=(.seq (.seq (.region 5 rrdec_5 false) (.cond (.tmp 22) .skip (.exit 0))) (.seq (.block 1 (.seq (.seq (.region 7 rrdec_7 false) (.cond (.tmp 34) (.seq (.region 8 rrdec_8 false) .ret) .skip)) (.region 9 rrdec_9 true))) (.region 6 rrdec_6 false))):=rfl
noncomputable def rrdec_10:=opR Tryd.f25 [1,1,1,1,0]
noncomputable def lrdec_10:List Oper:=match Tryd.f25.body with
 | some (.seq _ (.seq _ (.seq _ (.seq _ (.seq (.region _ o _) _)))))=>o.toList
 | _=>[]
theorem erdec_10:rrdec_10.toList=lrdec_10:=rfl
theorem bodyrdec:Tryd.f25.body=some (.seq (.region 0 rrdec_0 false) (.seq (.seq (.region 1 rrdec_1 false) (.cond (.tmp 18) (.seq (.region 2 rrdec_2 false) .ret) .skip)) (.seq (.region 3 rrdec_3 false) (.seq (.seq (.region 4 rrdec_4 false) (.block 0 (.loop lprdec_0))) (.seq (.region 10 rrdec_10 false) .ret))))):=rfl
theorem callMulR:callableB E.P 14=true:=by kernel_rfl
theorem callAddR:callableB E.P 10=true:=by kernel_rfl
theorem callSml:callableB E.P 50=true:=by kernel_rfl
theorem dig10:dig 10=[10]:=by rw [dig_pos (by omega)]; rw [show 10 / 256=0 from rfl,dig_zero]
theorem ch21:chainB rrdec_9 4 2 1=true:=by kernel_rfl
theorem ch81:chainB rrdec_9 4 8 1=true:=by kernel_rfl
theorem ch82:chainB rrdec_9 4 8 2=true:=by kernel_rfl
theorem ch91:chainB rrdec_9 4 9 1=true:=by kernel_rfl
theorem ch92:chainB rrdec_9 4 9 2=true:=by kernel_rfl
theorem ch98:chainB rrdec_9 4 9 8=true:=by kernel_rfl
theorem dep9:depB E.P E.wr rrdec_9=true:=by kernel_rfl
theorem mask_all {ops:Array Oper} {i:Nat}:∀ {nb:List Blk} {ow:List Nat},nb.length=ow.length→(∀ j∈ow,chainB ops 4 i j=true)→maskN ops i nb ow=nb
 | [],[],_,_=>rfl
 | b::nb,j::ow,hl,h=>by
  have h1:=h j (by simp)
  have ih:=mask_all (ops:=ops) (i:=i) (nb:=nb) (ow:=ow) (by simpa using hl) (fun k hk=>h k (by simp [hk]))
  unfold maskN at ih⊢
  rw [List.zip_cons_cons,List.map_cons,ih]
  simp [h1]
theorem pw_all {ops:Array Oper} {i n:Nat} {ow:List Nat} (h:∀ j∈ow,chainB ops 4 i j=true):∀ k,k<n+ow.length→pW ops i n ow k=true:=by
 intro k hk
 unfold pW
 by_cases h1:k<n
 ·simp [h1]
 ·have h2:k-n<ow.length:=by omega
  rw [List.getElem?_eq_getElem h2]
  simp only [h _ (List.getElem_mem h2),Bool.or_true]
theorem rows_num (p:Nat→Bool):∀ (l:List Blk),(∀ b∈l,∃ L,b=.row false 3 (cellsN L))→rowsP p l=true:=by
 intro l h
 unfold rowsP
 rw [List.all_eq_true]
 intro b hb
 obtain ⟨L,rfl⟩:=h b hb
 exact cellsN_below p L
theorem acollAt_row {M:Mem} {ro:Bool} {e:TypeId} {cs:List Value} {k c N:Nat} (hN:N=M.length) (hc:cs.all lit0=true):acollAt N N (.slice (some ⟨M.length,0,none⟩) k c) (M++[.row ro e cs])=some (.slice (some ⟨N,0,none⟩) k c,[.row ro e cs]):=by
 subst hN
 exact acollAt_new (Nat.le_refl _) (by simp) hc
theorem sub48 {x:Nat} (h:48≤x):abin .sub .u8 ((x:Nat):Int) .u8 48=some (.int .u8 (wrapF .u8 (((x:Nat):Int)-48))):=by
 have h2:∀ k:Int,abin .sub .u8 k .u8 48=some (.int .u8 (wrapF .u8 (k-48))):=fun k=>by kernel_rfl
 exact h2 _
theorem wr48 {x:Nat} (h:48≤x) (h9:x<256):wrapF .u8 (((x:Nat):Int)-48)=((x-48:Nat):Int):=by
 simp only [wrapF]
 omega
theorem conv5u {x:Nat} (h:x<256):aconv E.P 5 22 (.int .u8 ((x:Nat):Int))=some (.int .u64 ((x:Nat):Int)):=by
 have h2:∀ k:Int,aconv E.P 5 22 (.int .u8 k)=some (.int .u64 (wrapF .u64 k)):=fun k=>by kernel_rfl
 rw [h2]
 have:wrapF .u64 ((x:Nat):Int)=((x:Nat):Int):=by
  simp only [wrapF]
  omega
 rw [this]
theorem rows_app {l l':List Blk} (h:∀ b∈l,∃ L,b=.row false 3 (cellsN L)) (h':l'=[]∨∃ L,l'=[.row false 3 (cellsN L)]):∀ b∈l++l',∃ L,b=Blk.row false 3 (cellsN L):=by
 intro b hb
 rcases List.mem_append.1 hb with h1 | h1
 ·exact h b h1
 ·rcases h' with rfl | ⟨L,rfl⟩
  ·cases h1
  ·exact ⟨L,by simpa using h1⟩
theorem dig_times10 {x k:Nat} (h:(dig x).length≤k):(dig (x*10)).length≤k+1:=by
 refine dig_len_le ?_
 have h1:=lt_dig_len x
 have h9:256^(dig x).length≤256^k:=Nat.pow_le_pow_right (by omega) h
 rw [Nat.pow_succ]
 omega
theorem dec9 {self:Self} {m:Mem} {F:Nat→Value} {v:Value} {s:ByteArray} {i x:Nat} {ch:UInt8} (cm:CMul self) (cs:CSmall self) (ca:CAdd self) (h4:F 4=v) (h0:F 0=.string s) (h5:F 5=.int .i64 (i:Nat)) (hx:s.data.toList[i]? = some ch) (hc1:48≤ch.toNat) (hc2:ch.toNat≤57)
  (hv:NumA m v (dig x)) (hin:NumIn m.length v) (hl:(dig x).length≤390) :
  ∃ F' m',amk E self rrdec_9 (lst F 46) m=some (lst F' 46,m')∧F' 0=F 0∧F' 5=F 5∧NumA m' (F' 4) (dig (x*10+(ch.toNat-48)))∧NumIn m'.length (F' 4)∧NumB m.length (F' 4) m' (x*10+(ch.toNat-48))∧m.length≤m'.length∧∀ k,k<m.length→m'[k]? = m[k]? := by
 suffices key:∃ F' nb,amkUT E self rrdec_9 m rrdec_9.toList 0 (lst F 46) [] []=some (lst F' 46,nb)∧F' 0=F 0∧F' 5=F 5∧NumA (m++nb) (F' 4) (dig (x*10+(ch.toNat-48)))∧NumIn (m++nb).length (F' 4)∧NumB m.length (F' 4) (m++nb) (x*10+(ch.toNat-48)) by
  obtain ⟨F',nb,h1,h2,h3,h4,h5,h6⟩:=key
  exact ⟨F',m++nb,amk_of dep9 h1,h2,h3,h4,h5,h6,by simp,fun k hk=>List.getElem?_append_left hk⟩
 have hk1:∀ k,k<m.length→(m++[Blk.row false 3 (cellsN [10])])[k]? = m[k]? := fun k hk=>List.getElem?_append_left hk
 have nv:=(hv.keep hk1).sealed
 have n10:NumA ((m++[Blk.row false 3 (cellsN [10])]).map sealed) (.slice (some ⟨m.length,0,none⟩) 1 1) (dig 10):=by
  rw [dig10]
  exact (NumA.row (ro:=false) (n:=1) (L:=[10]) (by simp) (by simp)).sealed
 obtain ⟨v2,M2,e2,r2⟩:=cm _ v _ x 10 nv n10 (by omega) (by rw [dig10]; simp)
 obtain ⟨b2,a2,s2,p2⟩:=num_at2 r2
 have l2:((m++[Blk.row false 3 (cellsN [10])]).map sealed).length=m.length+1:=by simp
 rw [l2] at a2
 obtain ⟨v8,M8,e8,r8⟩:=cs ((m++([Blk.row false 3 (cellsN [10])]++b2)).map sealed) (ch.toNat-48) (by omega)
 obtain ⟨b8,a8,s8,p8⟩:=num_at2 r8
 have l8:((m++([Blk.row false 3 (cellsN [10])]++b2)).map sealed).length=m.length+([Blk.row false 3 (cellsN [10])]++b2).length:=by simp
 rw [l8] at a8
 have n2:=(p2 (m++[Blk.row false 3 (cellsN [10])]) b8 (by simp)).1
 have n8:=(p8 (m++([Blk.row false 3 (cellsN [10])]++b2)) [] (by simp)).1
 have i2:=(p2 (m++[Blk.row false 3 (cellsN [10])]) b8 (by simp)).2.1
 have i8:=(p8 (m++([Blk.row false 3 (cellsN [10])]++b2)) [] (by simp)).2.1
 have hM:m++[Blk.row false 3 (cellsN [10])]++b2++b8=m++([Blk.row false 3 (cellsN [10])]++b2++b8):=by simp
 have hM':m++([Blk.row false 3 (cellsN [10])]++b2)++b8++[]=m++([Blk.row false 3 (cellsN [10])]++b2++b8):=by simp
 rw [hM] at n2 i2
 rw [hM'] at n8 i8
 have hd8:(dig (ch.toNat-48)).length≤1:=dig_len_le (by omega)
 have hd2:(dig (x*10)).length≤391:=dig_times10 hl
 obtain ⟨v9,M9,e9,r9⟩:=ca _ v2 v8 (x*10) (ch.toNat-48) n2.sealed n8.sealed (by omega) (by omega)
 obtain ⟨b9,a9,s9,p9⟩:=num_at2 r9
 have l9:((m++([Blk.row false 3 (cellsN [10])]++b2++b8)).map sealed).length=m.length+([Blk.row false 3 (cellsN [10])]++b2++b8).length:=by simp
 rw [l9] at a9
 have n9:=p9 (m++([Blk.row false 3 (cellsN [10])]++b2++b8)) [] (by simp)
 have rn2:∀ b∈[Blk.row false 3 (cellsN [10])],∃ L,b=Blk.row false 3 (cellsN L):=by simp; exact ⟨[10],rfl⟩
 have rn8:=rows_app rn2 s2
 have rn9:=rows_app rn8 s8
 rw [erdec_9]
 simp only [lrdec_9,Tryd.f25]
 rw [u_float (v:=v)]
 rotate_left 1
 ·exact agd_none
 ·kernel_rfl
 ·kernel_rfl
 ·simp only [afloat,ev,nth_lst,Nat.reduceLT,if_true,h4]
 simp only [aput,setAt_lst,Nat.reduceAdd]
 rw [u_make (c:=1) (v:=.slice (some ⟨m.length,0,none⟩) 1 1) (m1:=(m.map sealed)++[.row false 3 [.int .i64 10]]) (v':=.slice (some ⟨m.length,0,none⟩) 1 1) (bs:=[Blk.row false 3 (cellsN [10])])]
 rotate_left 1
 ·exact agd_none
 ·kernel_rfl
 ·kernel_rfl
 ·rfl
 ·rfl
 ·simp only [maskN,List.zip_nil_left,List.map_nil,List.append_nil,astep,ev,nth_lst,upd_at,List.map_cons,List.map_nil,List.length_map,build27]
 ·have:=acollAt_row (M:=m.map sealed) (ro:=false) (e:=3) (cs:=[.int .i64 10]) (k:=1) (c:=1) (N:=m.length) (by simp) rfl
  rw [List.length_map] at this
  exact this
 ·kernel_rfl
 simp only [aput,setAt_lst,Nat.reduceAdd,List.nil_append,List.length_cons,List.length_nil,List.replicate_succ,List.replicate_zero]
 have c2:∀ j∈[1],chainB rrdec_9 4 2 j=true:=by simp; exact ch21
 have q2:=pw_all (n:=m.length) c2
 have f2:∀ g,belowP (pW rrdec_9 2 m.length ([1])) 4 (.func (.func g) #[] #[])=true:=fun _=>rfl
 have b2x:belowP (pW rrdec_9 2 m.length ([1])) 4 v=true:=hin.below (fun k hk=>q2 k (by omega))
 have b2y:belowP (pW rrdec_9 2 m.length ([1])) 4 (.slice (some ⟨m.length,0,none⟩) 1 1)=true:=q2 m.length (by simp)
 rw [u_make (c:=1) (v:=v2) (m1:=M2) (v':=v2) (bs:=b2)]
 rotate_left 1
 ·exact agd_none
 ·kernel_rfl
 ·kernel_rfl
 ·simp only [opsP,Op.operands,Call.operands,Array.toList_append,List.cons_append,List.nil_append,List.all_cons,List.all_nil,ev,nth_lst,upd_at,Nat.reduceEqDiff,reduceIte,Nat.reduceLT,if_true,Bool.and_self,f2,b2x,b2y]
 ·rw [mask_all rfl c2]
  exact rows_num _ _ (by simp; exact ⟨[10],rfl⟩)
 ·rw [mask_all rfl c2]
  simp only [List.cons_append,List.nil_append,astep,ev,nth_lst,upd_at,Nat.reduceLT,Nat.reduceEqDiff,List.map_cons,List.map_nil,List.isEmpty_nil,bls,if_true,if_false,callMulR]
  exact e2
 ·exact a2
 ·rw [show isW E.P E.wr rrdec_9 2=true from by kernel_rfl,Bool.or_true]
 simp only [aput,setAt_lst,Nat.reduceAdd]
 rw [u_float (v:=.string s)]
 rotate_left 1
 ·exact agd_none
 ·kernel_rfl
 ·kernel_rfl
 ·simp only [afloat,ev,nth_lst,upd_at,Nat.reduceLT,Nat.reduceEqDiff,if_true,if_false,h0]
 simp only [aput,setAt_lst,Nat.reduceAdd]
 rw [u_float (v:=.int .i64 (i:Nat))]
 rotate_left 1
 ·exact agd_none
 ·kernel_rfl
 ·kernel_rfl
 ·simp only [afloat,ev,nth_lst,upd_at,Nat.reduceLT,Nat.reduceEqDiff,if_true,if_false,h5]
 simp only [aput,setAt_lst,Nat.reduceAdd]
 rw [u_float (v:=.int .u8 ((ch.toNat:Nat):Int))]
 rotate_left 1
 ·exact agd_none
 ·kernel_rfl
 ·kernel_rfl
 ·simp only [afloat,ev,nth_lst,upd_at,Nat.reduceLT,Nat.reduceEqDiff,if_true,if_false,index9 hx]
 simp only [aput,setAt_lst,Nat.reduceAdd]
 rw [u_float (v:=.int .u8 ((ch.toNat-48:Nat):Int))]
 rotate_left 1
 ·exact agd_none
 ·kernel_rfl
 ·kernel_rfl
 ·simp only [afloat,ev,nth_lst,upd_at,Nat.reduceLT,Nat.reduceEqDiff,if_true,if_false,sub48 hc1,wr48 hc1 (show ch.toNat<256 by omega)]
 simp only [aput,setAt_lst,Nat.reduceAdd]
 rw [u_float (v:=.int .u64 ((ch.toNat-48:Nat):Int))]
 rotate_left 1
 ·exact agd_none
 ·kernel_rfl
 ·kernel_rfl
 ·simp only [afloat,ev,nth_lst,upd_at,Nat.reduceLT,Nat.reduceEqDiff,if_true,if_false,conv5u (show ch.toNat-48<256 by omega)]
 simp only [aput,setAt_lst,Nat.reduceAdd]
 have c8:∀ j∈[1]++List.replicate b2.length 2,chainB rrdec_9 4 8 j=true:=by intro j hj; rcases List.mem_append.1 hj with h | h; (simp at h; subst h; exact ch81); (have:=List.eq_of_mem_replicate h; subst this; exact ch82)
 have q8:=pw_all (n:=m.length) c8
 have f8:∀ g,belowP (pW rrdec_9 8 m.length ([1]++List.replicate b2.length 2)) 4 (.func (.func g) #[] #[])=true:=fun _=>rfl
 have b8x:belowP (pW rrdec_9 8 m.length ([1]++List.replicate b2.length 2)) 4 (.int .u64 ((ch.toNat-48:Nat):Int))=true:=rfl
 have g8:=f8
 simp only [List.cons_append,List.nil_append] at g8 b8x
 rw [u_make (c:=1) (v:=v8) (m1:=M8) (v':=v8) (bs:=b8)]
 rotate_left 1
 ·exact agd_none
 ·kernel_rfl
 ·kernel_rfl
 ·simp only [opsP,Op.operands,Call.operands,Array.toList_append,List.cons_append,List.nil_append,List.all_cons,List.all_nil,ev,nth_lst,upd_at,Nat.reduceEqDiff,reduceIte,Nat.reduceLT,if_true,Bool.and_self,g8,b8x]
 ·rw [mask_all (by simp) c8]
  exact rows_num _ _ (rn8)
 ·rw [mask_all (by simp) c8]
  simp only [List.cons_append,List.nil_append,astep,ev,nth_lst,upd_at,Nat.reduceLT,Nat.reduceEqDiff,List.map_cons,List.map_nil,List.isEmpty_nil,bls,if_true,if_false,callSml]
  exact e8
 ·exact a8
 ·rw [show isW E.P E.wr rrdec_9 8=true from by kernel_rfl,Bool.or_true]
 simp only [aput,setAt_lst,Nat.reduceAdd]
 have c9:∀ j∈[1]++List.replicate b2.length 2++List.replicate b8.length 8,chainB rrdec_9 4 9 j=true:=by intro j hj; rcases List.mem_append.1 hj with h | h; (rcases List.mem_append.1 h with h | h; (simp at h; subst h; exact ch91); (have:=List.eq_of_mem_replicate h; subst this; exact ch92)); (have:=List.eq_of_mem_replicate h; subst this; exact ch98)
 have q9:=pw_all (n:=m.length) c9
 have f9:∀ g,belowP (pW rrdec_9 9 m.length ([1]++List.replicate b2.length 2++List.replicate b8.length 8)) 4 (.func (.func g) #[] #[])=true:=fun _=>rfl
 have b9x:belowP (pW rrdec_9 9 m.length ([1]++List.replicate b2.length 2++List.replicate b8.length 8)) 4 v2=true:=i2.below (fun k hk=>q9 k (by simp at hk⊢; omega))
 have b9y:belowP (pW rrdec_9 9 m.length ([1]++List.replicate b2.length 2++List.replicate b8.length 8)) 4 v8=true:=i8.below (fun k hk=>q9 k (by simp at hk⊢; omega))
 have g9:=f9
 simp only [List.cons_append,List.nil_append] at g9 b9x b9y
 rw [u_make (c:=1) (v:=v9) (m1:=M9) (v':=v9) (bs:=b9)]
 rotate_left 1
 ·exact agd_none
 ·kernel_rfl
 ·kernel_rfl
 ·simp only [opsP,Op.operands,Call.operands,Array.toList_append,List.cons_append,List.nil_append,List.all_cons,List.all_nil,ev,nth_lst,upd_at,Nat.reduceEqDiff,reduceIte,Nat.reduceLT,if_true,Bool.and_self,g9,b9x,b9y]
 ·rw [mask_all (by simp) c9]
  exact rows_num _ _ (rn9)
 ·rw [mask_all (by simp) c9]
  simp only [List.cons_append,List.nil_append,astep,ev,nth_lst,upd_at,Nat.reduceLT,Nat.reduceEqDiff,List.map_cons,List.map_nil,List.isEmpty_nil,bls,if_true,if_false,callAddR]
  exact e9
 ·exact a9
 ·rw [show isW E.P E.wr rrdec_9 9=true from by kernel_rfl,Bool.or_true]
 simp only [aput,setAt_lst,Nat.reduceAdd]
 rw [u_float (v:=v9)]
 rotate_left 1
 ·exact agd_none
 ·kernel_rfl
 ·kernel_rfl
 ·simp only [afloat,ev,nth_lst,upd_at,Nat.reduceLT,Nat.reduceEqDiff,if_true,if_false]
 simp only [aput,setAt_lst,Nat.reduceAdd]
 have hM9:m++([Blk.row false 3 (cellsN [10])]++b2++b8)++b9++[]=m++([Blk.row false 3 (cellsN [10])]++b2++b8++b9):=by simp
 rw [hM9] at n9
 rw [u_end]
 exact ⟨_,_,rfl,rfl,rfl,by simp only [upd_at,Nat.reduceEqDiff,reduceIte]; exact n9.1,by simp only [upd_at,Nat.reduceEqDiff,reduceIte]; exact n9.2.1,by simp only [upd_at,Nat.reduceEqDiff,reduceIte]; exact n9.2.2.mono (by simp)⟩
theorem lssU8 (a b:Int):abin .lss .u8 a .u8 b=some (.bool (decide (a<b))):=by kernel_rfl
theorem gtrU8 (a b:Int):abin .gtr .u8 a .u8 b=some (.bool (decide (a>b))):=by kernel_rfl
theorem sr9:E.sr 9 rrdec_9=true:=by kernel_rfl
theorem mk9:E.mkr 9 rrdec_9=true:=by kernel_rfl
theorem len_S {T:List Value} {m:Mem} {o:Oper} {j:Nat}:abuiltin E.P T m o .len [.tmp j] [9]=match alen E.P 9 (nth T j) with
  | some v=>some (v,m)
  | none=>(apure E.P T o).map (·,m):=rfl
section
variable {self:Self} {nf:Nat} {m:Mem} {F:Nat→Value} {v:Value} {s:ByteArray} {i x:Nat} {ch:UInt8}
theorem rdec_iter (cm:CMul self) (cs:CSmall self) (ca:CAdd self) (h4:F 4=v) (h0:F 0=.string s) (h5:F 5=.int .i64 (i:Nat)) (hx:s.data.toList[i]? = some ch) (hc1:48≤ch.toNat) (hc2:ch.toNat≤57) (hs:s.data.toList.length≤100000)
  (hv:NumA m v (dig x)) (hin:NumIn m.length v) (hl:(dig x).length≤390) :
  ∃ F' m',acodeN E self nf lprdec_0 (lst F 46) m=some (.normal,lst F' 46,m')∧F' 0=F 0∧F' 5=.int .i64 ((i+1:Nat):Int)∧NumA m' (F' 4) (dig (x*10+(ch.toNat-48)))∧NumIn m'.length (F' 4)∧NumB m.length (F' 4) m' (x*10+(ch.toNat-48))∧m.length≤m'.length∧∀ k,k<m.length→m'[k]? = m[k]? := by
 have hil:=(List.getElem?_eq_some_iff.1 hx).1
 have q0:decide (((i:Nat):Int)<((s.data.toList.length:Nat):Int))=true:=decide_eq_true (by omega)
 have q1:decide (((ch.toNat:Nat):Int)<48)=false:=decide_eq_false (by omega)
 have q2:decide (((ch.toNat:Nat):Int)>57)=false:=decide_eq_false (by omega)
 have e1:=w1 (i:=i) (by omega)
 have hi9:=index9 hx
 obtain ⟨F',m',hr,f0,f5,fn,fi,fB,fle,ffr⟩:=dec9 (self:=self) (m:=m) (F:=upd (upd (upd (upd (upd (upd (upd (upd (upd (upd (upd (upd (upd (upd (F) 19 (.int .i64 (i:Nat))) 20 (.string s)) 21 (.int .i64 ((s.data.toList.length:Nat):Int))) 22 (.bool true)) 25 (.string s)) 26 (.int .i64 (i:Nat))) 27 (.int .u8 ((ch.toNat:Nat):Int))) 28 (.bool false)) 29 (.bool false)) 30 (.string s)) 31 (.int .i64 (i:Nat))) 32 (.int .u8 ((ch.toNat:Nat):Int))) 33 (.bool false)) 34 (.bool false)) (v:=v) (s:=s) (i:=i) cm cs ca (by simp only [upd_at,Nat.reduceEqDiff,reduceIte,h4]) (by simp only [upd_at,Nat.reduceEqDiff,reduceIte,h0]) (by simp only [upd_at,Nat.reduceEqDiff,reduceIte,h5]) hx hc1 hc2 hv hin hl
 simp only [upd_at,Nat.reduceEqDiff,reduceIte] at f0 f5
 rw [h5] at f5
 simp only [lprdec_0_eq,erdec_5,erdec_6,erdec_7,lrdec_5,lrdec_6,lrdec_7,grdec_7_4,agd_none,gdAt,gdV_bool,Tryd.f25,acodeN,aopsN,astep,aop,ev,nth_lst,get_lst,aput,setAt_lst,upd_at,Nat.reduceLT,Nat.reduceEqDiff,Bool.false_eq_true,if_true,if_false,beq_self_eq_true,uns,len_S,alen,h0,h5,lss64,q0,hi9,lssU8,q1,gtrU8,q2,sr9,mk9,hr,f5,add64',e1]
 exact ⟨_,m',rfl,by simp only [upd_at,Nat.reduceEqDiff,reduceIte,f0,h0],rfl,by simp only [upd_at,Nat.reduceEqDiff,reduceIte]; exact fn,by simp only [upd_at,Nat.reduceEqDiff,reduceIte]; exact fi,by simp only [upd_at,Nat.reduceEqDiff,reduceIte]; exact fB,fle,ffr⟩
theorem rdec_bad (h0:F 0=.string s) (h5:F 5=.int .i64 (i:Nat)) (hx:s.data.toList[i]? = some ch) (hc:ch.toNat<48∨57<ch.toNat) :
  ∃ F',acodeN E self nf lprdec_0 (lst F 46) m=some (.ret,lst F' 46,m)∧F' 2=.slice none 0 0∧F' 3=.bool false:=by
 have hil:=(List.getElem?_eq_some_iff.1 hx).1
 have q0:decide (((i:Nat):Int)<((s.data.toList.length:Nat):Int))=true:=decide_eq_true (by omega)
 have hi9:=index9 hx
 by_cases h1:ch.toNat<48
 ·have q1:decide (((ch.toNat:Nat):Int)<48)=true:=decide_eq_true (by omega)
  simp only [lprdec_0_eq,erdec_5,erdec_7,erdec_8,lrdec_5,lrdec_7,lrdec_8,grdec_7_4,agd_none,gdAt,gdV_bool,Tryd.f25,btf,acodeN,aopsN,astep,aop,ev,nth_lst,get_lst,aput,setAt_lst,upd_at,Nat.reduceLT,Nat.reduceEqDiff,if_true,if_false,uns,len_S,alen,h0,h5,lss64,q0,hi9,lssU8,q1]
  exact ⟨_,rfl,rfl,rfl⟩
 ·have q1:decide (((ch.toNat:Nat):Int)<48)=false:=decide_eq_false (by omega)
  have q2:decide (((ch.toNat:Nat):Int)>57)=true:=decide_eq_true (by omega)
  simp only [lprdec_0_eq,erdec_5,erdec_7,erdec_8,lrdec_5,lrdec_7,lrdec_8,grdec_7_4,agd_none,gdAt,gdV_bool,Tryd.f25,acodeN,aopsN,astep,aop,ev,nth_lst,get_lst,aput,setAt_lst,upd_at,Nat.reduceLT,Nat.reduceEqDiff,Bool.false_eq_true,if_true,if_false,beq_self_eq_true,uns,len_S,alen,h0,h5,lss64,q0,hi9,lssU8,q1,gtrU8,q2]
  exact ⟨_,rfl,rfl,rfl⟩
theorem rdec_last (h0:F 0=.string s) (h5:F 5=.int .i64 (i:Nat)) (hi:s.data.toList.length≤i) :
  ∃ F',acodeN E self nf lprdec_0 (lst F 46) m=some (.exit 0,lst F' 46,m)∧F' 4=F 4:=by
 have q0:decide (((i:Nat):Int)<((s.data.toList.length:Nat):Int))=false:=decide_eq_false (by omega)
 simp only [lprdec_0_eq,erdec_5,lrdec_5,agd_none,Tryd.f25,acodeN,aopsN,astep,aop,ev,nth_lst,aput,setAt_lst,upd_at,Nat.reduceLT,Nat.reduceEqDiff,if_true,if_false,uns,len_S,alen,h0,h5,lss64,q0]
 exact ⟨_,rfl,rfl⟩
end
theorem acoll_truth {m m1:Mem} {n b k c:Nat} {ro t:Bool} {e:TypeId} {cs:List Value} (hb:n≤b) (hm:m1[b]? = some (.row ro e cs)) (hc:cs.all lit0=true) :
  acoll m n (.tuple ⟨[.slice (some ⟨b,0,none⟩) k c,.bool t]⟩) m1=some (.tuple ⟨[.slice (some ⟨m.length,0,none⟩) k c,.bool t]⟩,m++[.row ro e cs]):=by
 have hnb:¬ b<n:=by omega
 unfold acoll
 rw [if_neg (by simp [lit2,lit1,lit0])]
 have h1:idsL n (partsOf (.tuple ⟨[.slice (some ⟨b,0,none⟩) k c,.bool t]⟩)) []=[b]:=by
  show idsL n [.bool t] (addIds (idOf n (.slice (some ⟨b,0,none⟩) k c)) [])=[b]
  have e2:addIds (idOf n (.slice (some ⟨b,0,none⟩) k c)) []=[b]:=by simp [idOf,hnb,addIds]
  rw [e2]
  rfl
 have h2:closeIds n m1 2 [b]=[b]:=by
  simp only [closeIds,List.foldl_cons,List.foldl_nil,hm,idsL_lit cs [b] hc]
 simp only [h1,h2]
 rw [if_pos (by simp [nodupB,hb])]
 have h3:rid n m.length [b] b=some m.length:=by
  unfold rid
  rw [if_neg hnb]
  simp [List.idxOf?]
 have h4:ren2 n m.length [b] (.bool t)=some (.bool t):=rfl
 have h5:ren2 n m.length [b] (.slice (some ⟨b,0,none⟩) k c)=some (.slice (some ⟨m.length,0,none⟩) k c):=by simp only [ren2,ren1,h3]
 simp only [renB,hm,renL_id cs hc,ren3,renT,h4,h5]
theorem NumB.coll2 {m m1:Mem} {B:Nat} {v:Value} {r:Nat} {t:Bool} (h:NumB B v m1 r):∃ v' m',acoll m B (.tuple ⟨[v,.bool t]⟩) m1=some (.tuple ⟨[v',.bool t]⟩,m')∧NumR m v' m' r:=by
 rcases h with ⟨rfl,rfl⟩ | ⟨L,n,b,ro,h1,h2,h3,rfl,h4,hne⟩
 ·exact ⟨_,m,by unfold acoll; exact if_pos rfl,.inl ⟨rfl,rfl,rfl⟩⟩
 ·exact ⟨_,_,acoll_truth h3 h4 (cellsN_lits L),.inr ⟨L,n,h1,h2,rfl,rfl,hne⟩⟩
def decV (l:List Nat):Nat:=l.foldl (fun a c=>a*10+(c-48)) 0
theorem decV_step {l:List Nat} {i c:Nat} (h:l[i]? = some c):decV (l.take (i+1))=decV (l.take i)*10+(c-48):=by
 unfold decV
 rw [List.take_add_one,h]
 simp
def digitsOk (l:List Nat):Bool:=l.all fun c=>decide (48≤c∧c≤57)
def decOk (l:List Nat):Bool:=decide (l.length≠0)&&(!(decide (1<l.length)&&decide (l.head? = some 48))&&digitsOk l)
theorem rdec_loop {self:Self} {nf:Nat} {m:Mem} {s:ByteArray} (cm:CMul self) (cs:CSmall self) (ca:CAdd self) (hs:s.data.toList.length≤390) (hnf:1000<nf) {F:Nat→Value} (h0:F 0=.string s) (h4:F 4=.slice none 0 0) (h5:F 5=.int .i64 (0:Nat)) :
  ∃ e F' m',aloop (acodeN E self nf lprdec_0) nf (lst F 46) m=some (e,lst F' 46,m')∧((e=.exit 0∧digitsOk (natsOf s)=true∧NumB m.length (F' 4) m' (decV (natsOf s)))∨(e=.ret∧digitsOk (natsOf s)=false∧F' 2=.slice none 0 0∧F' 3=.bool false)):=by
 have hnl:=natsOf_len s
 have hloop:=aloop_inv (body:=acodeN E self nf lprdec_0) (N:=s.data.toList.length)
  (I:=fun i T m'=>∃ G,T=lst G 46∧G 0=.string s∧G 5=.int .i64 (i:Nat)∧NumA m' (G 4) (dig (decV ((natsOf s).take i)))∧NumIn m'.length (G 4)∧NumB m.length (G 4) m' (decV ((natsOf s).take i))∧m.length≤m'.length∧decV ((natsOf s).take i)<256^i∧∀ (j c:Nat),j<i→(natsOf s)[j]? = some c→48≤c∧c≤57)
  (Q:=fun e T m'=>∃ F',T=lst F' 46∧((e=.exit 0∧digitsOk (natsOf s)=true∧NumB m.length (F' 4) m' (decV (natsOf s)))∨(e=.ret∧digitsOk (natsOf s)=false∧F' 2=.slice none 0 0∧F' 3=.bool false))) (fun i T m' hi hI=>by
   obtain ⟨G,rfl,g0,g5,gn,gi,gB,gle,glt,gall⟩:=hI
   by_cases hlt:i<s.data.toList.length
   ·have hx:s.data.toList[i]? = some s.data.toList[i]:=by simp [hlt]
    have hn:(natsOf s)[i]? = some s.data.toList[i].toNat:=by unfold natsOf; rw [List.getElem?_map,hx]; rfl
    generalize s.data.toList[i]=ch at hx hn
    by_cases hc:48≤ch.toNat∧ch.toNat≤57
    ·left
     have hlen:=dig_len_le glt
     obtain ⟨F',m2,hr,f0,f5,fn,fi,fB,fle,ffr⟩:=rdec_iter (self:=self) (nf:=nf) cm cs ca rfl g0 g5 hx hc.1 hc.2 (by omega) gn gi (by omega)
     have hst:=decV_step hn
     refine ⟨_,_,hr,hlt,F',rfl,f0.trans g0,f5,by rw [hst]; exact fn,fi,by rw [hst]; exact fB.mono gle,by omega,?_,fun j c hj h1=>?_⟩
     ·rw [hst,Nat.pow_succ]
      omega
     ·by_cases hji:j<i
      ·exact gall j c hji h1
      ·have:j=i:=by omega
       subst this
       rw [hn] at h1; cases h1
       exact hc
    ·right
     obtain ⟨F',hr,f2,f3⟩:=rdec_bad (self:=self) (nf:=nf) (m:=m') g0 g5 hx (by omega)
     refine ⟨_,_,_,hr,by simp,F',rfl,.inr ⟨rfl,?_,f2,f3⟩⟩
     unfold digitsOk
     rw [List.all_eq_false]
     exact ⟨ch.toNat,List.mem_of_getElem? hn,by simpa using hc⟩
   ·right
    obtain ⟨F',hr,f4⟩:=rdec_last (self:=self) (nf:=nf) (m:=m') g0 g5 (by omega)
    rw [List.take_of_length_le (by omega)] at gB
    refine ⟨_,_,_,hr,by simp,F',rfl,.inl ⟨rfl,?_,by rw [f4]; exact gB⟩⟩
    unfold digitsOk
    rw [List.all_eq_true]
    intro c hc
    obtain ⟨j,hj⟩:=List.getElem?_of_mem hc
    exact decide_eq_true (gall j c (by have:=(List.getElem?_eq_some_iff.1 hj).1; omega) hj))
 obtain ⟨e,T',m',hr,F',rfl,hq⟩:=hloop s.data.toList.length 0 nf (lst F 46) m (by omega) (by omega) ⟨F,rfl,h0,h5,by rw [h4]; show NumA m _ (dig 0); rw [dig_zero]; exact NumA.nil _,.inl h4,.inl ⟨h4,rfl⟩,Nat.le_refl _,by simp [decV],fun j c hj=>by omega⟩
 exact ⟨e,F',m',hr,hq⟩
end Go.Am.Seat
