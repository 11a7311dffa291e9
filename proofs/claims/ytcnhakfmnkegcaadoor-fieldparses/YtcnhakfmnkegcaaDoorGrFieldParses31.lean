import Derived.Test.YtcnhakfmnkegcaaDoorGrFieldParses30
set_option linter.unusedSimpArgs false
set_option linter.unusedVariables false
noncomputable section
set_option maxRecDepth 100000
namespace Go.Am.Seat
open Go.Proofs Go.Am Go.Am.Num
set_option maxHeartbeats 4000000
def rss_0:=opR Tryd.f77 [0]
def lss_0:List Oper:=match Tryd.f77.body with
 | some (.seq (.region _ o _) _)=>o.toList
 | _=>[]
theorem ess_0:rss_0.toList=lss_0:=rfl
def rss_1:=opR Tryd.f77 [1,0,0]
def lss_1:List Oper:=match Tryd.f77.body with
 | some (.seq _ (.seq (.seq (.region _ o _) _) _))=>o.toList
 | _=>[]
theorem ess_1:rss_1.toList=lss_1:=rfl
def lpss_0:Code:=match Tryd.f77.body with
 | some (.seq _ (.seq (.seq _ (.block _ (.loop c))) _))=>c
 | _=>.skip
def rss_2:=opR Tryd.f77 [1,0,1,0,0,0]
def lss_2:List Oper:=match Tryd.f77.body with
 | some (.seq _ (.seq (.seq _ (.block _ (.loop (.seq (.region _ o _) _)))) _))=>o.toList
 | _=>[]
theorem ess_2:rss_2.toList=lss_2:=rfl
def rss_3:=opR Tryd.f77 [1,0,1,0,0,1,1,0,0]
def lss_3:List Oper:=match Tryd.f77.body with
 | some (.seq _ (.seq (.seq _ (.block _ (.loop (.seq _ (.seq _ (.seq (.block _ (.region _ o _)) _)))))) _))=>o.toList
 | _=>[]
theorem ess_3:rss_3.toList=lss_3:=rfl
def rss_4:=opR Tryd.f77 [1,0,1,0,0,1,1,1]
def lss_4:List Oper:=match Tryd.f77.body with
 | some (.seq _ (.seq (.seq _ (.block _ (.loop (.seq _ (.seq _ (.seq _ (.region _ o _))))))) _))=>o.toList
 | _=>[]
theorem ess_4:rss_4.toList=lss_4:=rfl
theorem lpss_0_eq:lpss_0=(.seq (.region 2 rss_2 false) (.seq (.cond (.tmp 7) .skip (.exit 0)) (.seq (.block 1 (.region 3 rss_3 false)) (.region 4 rss_4 false)))):=rfl
def rss_5:=opR Tryd.f77 [1,1,0]
def lss_5:List Oper:=match Tryd.f77.body with
 | some (.seq _ (.seq _ (.seq (.region _ o _) _)))=>o.toList
 | _=>[]
theorem ess_5:rss_5.toList=lss_5:=rfl
theorem bodyss:Tryd.f77.body=some (.seq (.region 0 rss_0 false) (.seq (.seq (.region 1 rss_1 false) (.block 0 (.loop lpss_0))) (.seq (.region 5 rss_5 false) .ret))):=rfl
def ron_0:=opR Tryd.f79 [0]
def lon_0:List Oper:=match Tryd.f79.body with
 | some (.seq (.region _ o _) _)=>o.toList
 | _=>[]
theorem eon_0:ron_0.toList=lon_0:=rfl
def ron_1:=opR Tryd.f79 [1,0]
def lon_1:List Oper:=match Tryd.f79.body with
 | some (.seq _ (.seq (.region _ o _) _))=>o.toList
 | _=>[]
theorem eon_1:ron_1.toList=lon_1:=rfl
def ron_2:=opR Tryd.f79 [1,1,0,0]
def lon_2:List Oper:=match Tryd.f79.body with
 | some (.seq _ (.seq _ (.seq (.seq (.region _ o _) _) _)))=>o.toList
 | _=>[]
theorem eon_2:ron_2.toList=lon_2:=rfl
def lpon_0:Code:=match Tryd.f79.body with
 | some (.seq _ (.seq _ (.seq (.seq _ (.block _ (.loop c))) _)))=>c
 | _=>.skip
def ron_3:=opR Tryd.f79 [1,1,0,1,0,0,0,0]
def lon_3:List Oper:=match Tryd.f79.body with
 | some (.seq _ (.seq _ (.seq (.seq _ (.block _ (.loop (.seq (.seq (.region _ o _) _) _)))) _)))=>o.toList
 | _=>[]
theorem eon_3:ron_3.toList=lon_3:=rfl
def ron_5:=opR Tryd.f79 [1,1,0,1,0,0,1,0,0,0]
def lon_5:List Oper:=match Tryd.f79.body with
 | some (.seq _ (.seq _ (.seq (.seq _ (.block _ (.loop (.seq _ (.seq (.block _ (.seq (.region _ o _) _)) _))))) _)))=>o.toList
 | _=>[]
theorem eon_5:ron_5.toList=lon_5:=rfl
theorem don_5 {self:Self} {B:Nat} {T:List Value} {m:Mem} {lb:List (Nat×Nat)} {ls:Bool}:adrawN E self ron_5 B ron_5.toList 0 T m lb ls=adrawT E self ron_5 B ron_5.toList [(false,false),(false,false),(false,false),(false,false),(false,false),(false,false),(false,false),(false,false),(false,false)] 0 T m lb ls:=adraw_tab (by kernel_rfl)
theorem son_5:E.sr 5 ron_5=false:=by kernel_rfl
def ron_6:=opR Tryd.f79 [1,1,0,1,0,0,1,0,0,1,0]
def lon_6:List Oper:=match Tryd.f79.body with
 | some (.seq _ (.seq _ (.seq (.seq _ (.block _ (.loop (.seq _ (.seq (.block _ (.seq _ (.seq (.region _ o _) _))) _))))) _)))=>o.toList
 | _=>[]
theorem eon_6:ron_6.toList=lon_6:=rfl
def ron_7:=opR Tryd.f79 [1,1,0,1,0,0,1,0,0,1,1,0]
def lon_7:List Oper:=match Tryd.f79.body with
 | some (.seq _ (.seq _ (.seq (.seq _ (.block _ (.loop (.seq _ (.seq (.block _ (.seq _ (.seq _ (.cond _ (.region _ o _) _)))) _))))) _)))=>o.toList
 | _=>[]
theorem eon_7:ron_7.toList=lon_7:=rfl
theorem don_7 {self:Self} {B:Nat} {T:List Value} {m:Mem} {lb:List (Nat×Nat)} {ls:Bool}:adrawN E self ron_7 B ron_7.toList 0 T m lb ls=adrawT E self ron_7 B ron_7.toList [(false,false),(false,false),(false,false),(false,false),(false,false),(false,false),(false,false),(false,false)] 0 T m lb ls:=adraw_tab (by kernel_rfl)
theorem son_7:E.sr 7 ron_7=false:=by kernel_rfl
def ron_4:=opR Tryd.f79 [1,1,0,1,0,0,1,1]
def lon_4:List Oper:=match Tryd.f79.body with
 | some (.seq _ (.seq _ (.seq (.seq _ (.block _ (.loop (.seq _ (.seq _ (.region _ o _)))))) _)))=>o.toList
 | _=>[]
theorem eon_4:ron_4.toList=lon_4:=rfl
theorem lpon_0_eq:lpon_0=(.seq (.seq (.region 3 ron_3 false) (.cond (.tmp 10) .skip (.exit 0))) (.seq (.block 1 (.seq (.region 5 ron_5 true) (.seq (.region 6 ron_6 false) (.cond (.tmp 23) (.region 7 ron_7 true) .skip)))) (.region 4 ron_4 false))):=rfl
def ron_8:=opR Tryd.f79 [1,1,1,0]
def lon_8:List Oper:=match Tryd.f79.body with
 | some (.seq _ (.seq _ (.seq _ (.seq (.region _ o _) _))))=>o.toList
 | _=>[]
theorem eon_8:ron_8.toList=lon_8:=rfl
theorem bodyon:Tryd.f79.body=some (.seq (.region 0 ron_0 false) (.seq (.region 1 ron_1 false) (.seq (.seq (.region 2 ron_2 false) (.block 0 (.loop lpon_0))) (.seq (.region 8 ron_8 false) .ret)))):=rfl
def riv_0:=opR Tryd.f54 [0]
def liv_0:List Oper:=match Tryd.f54.body with
 | some (.seq (.region _ o _) _)=>o.toList
 | _=>[]
theorem eiv_0:riv_0.toList=liv_0:=rfl
def riv_1:=opR Tryd.f54 [1,0]
def liv_1:List Oper:=match Tryd.f54.body with
 | some (.seq _ (.seq (.region _ o _) _))=>o.toList
 | _=>[]
theorem eiv_1:riv_1.toList=liv_1:=rfl
theorem capsLit0 (f:Fn):capsLit (.func f #[] #[])=true:=rfl
theorem qiv_1:E.sr 1 riv_1=true:=by kernel_rfl
theorem ziv_1:E.mkr 1 riv_1=false:=by kernel_rfl
theorem qiv_101:srTab riv_1=[(56,some (56,.tmp 10))]:=by kernel_rfl
def riv_2:=opR Tryd.f54 [1,1,0]
def liv_2:List Oper:=match Tryd.f54.body with
 | some (.seq _ (.seq _ (.seq (.region _ o _) _)))=>o.toList
 | _=>[]
theorem eiv_2:riv_2.toList=liv_2:=rfl
theorem div_2 {self:Self} {B:Nat} {T:List Value} {m:Mem} {lb:List (Nat×Nat)} {ls:Bool}:adrawN E self riv_2 B riv_2.toList 0 T m lb ls=adrawT E self riv_2 B riv_2.toList [(false,false),(false,false),(false,false),(false,false),(false,false),(false,false)] 0 T m lb ls:=adraw_tab (by kernel_rfl)
theorem siv_2:E.sr 2 riv_2=false:=by kernel_rfl
theorem bodyiv:Tryd.f54.body=some (.seq (.region 0 riv_0 false) (.seq (.region 1 riv_1 true) (.seq (.region 2 riv_2 true) .ret))):=rfl
def pw (X e:Nat):Nat:=X^e%P25519
theorem pw_lt (X e:Nat):pw X e<P25519:=Nat.mod_lt _ (by decide)
theorem pw_mul (X a b:Nat):pw X a*pw X b%P25519=pw X (a+b):=by unfold pw; rw [←Nat.mul_mod,←Nat.pow_add]
theorem pw_sq (X a:Nat):pw X a*pw X a%P25519=pw X (2*a):=by rw [pw_mul,Nat.two_mul]
theorem pw_pow (X a b:Nat):pw (pw X a) b=pw X (a*b):=by unfold pw; rw [←Nat.pow_mod,←Nat.pow_mul]
theorem pw_one {X:Nat} (h:X<P25519):pw X 1=X:=by unfold pw; rw [Nat.pow_one,Nat.mod_eq_of_lt h]
theorem p_lt4 {X:Nat} (h:X<P25519):X<115792089237316195423570985008687907853269984665640564039457584007913129639936:=by have:=p_lt; omega
def MulOk (self:Self):Prop:=∀ A B:Nat,A<P25519→B<P25519→Ans self 56 [el A,el B] (el (A*B%P25519))
def SquareOk (self:Self):Prop:=∀ A:Nat,A<P25519→Ans self 78 [el A] (el (A*A%P25519))
theorem callSq:callableB E.P 78=true:=by kernel_rfl
section
variable {self:Self} {nf:Nat} {M:Mem} {F:Nat→Value} {A i n p:Nat}
theorem iterSs (h2:F 2=.pointer (some ⟨p,0,none⟩)) (h5:F 5=.int .i64 (n:Nat)) (h6:F 6=.int .i64 (i:Nat)) (hi:i<n) (hn:n<1000)
  (hp:M[p]? = some (.row false 56 (c4 (wd 0 A) (wd 1 A) (wd 2 A) (wd 3 A)))) (hA:A<P25519) (hsq:SquareOk self) :
  ∃ F' B,acodeN E self nf lpss_0 (lst F 12) M=some (.normal,lst F' 12,M.set p (.row false 56 (c4 (wd 0 B) (wd 1 B) (wd 2 B) (wd 3 B))))∧B=A*A%P25519∧F' 2=F 2∧F' 4=F 4∧F' 5=F 5∧F' 6=.int .i64 ((i+1:Nat):Int):=by
 have hlt:decide (((i:Nat):Int)<((n:Nat):Int))=true:=decide_eq_true (by omega)
 have e1:=w1 (i:=i) (by omega)
 have lx:=load48 hp
 have cs:=hsq A hA
 obtain ⟨B,hB⟩:∃ B,B=A*A%P25519:=⟨_,rfl⟩
 rw [←hB] at cs
 have st:=store48 (a:=wd 0 B) (b:=wd 1 B) (c:=wd 2 B) (d:=wd 3 B) hp rfl
 rw [←el_st] at lx st
 unfold Ans at cs
 simp only [lpss_0_eq,ess_0,ess_1,ess_2,ess_3,ess_4,ess_5,lss_0,lss_1,lss_2,lss_3,lss_4,lss_5,agd_none,gdAt,gdV_bool,gdV_undef,Tryd.f77,List.append_eq,List.cons_append,List.nil_append,apure_call1,apure_call2,apure_call3,bft,btf,acodeN,List.getElem?_toArray,List.getElem?_cons_zero,List.getElem?_cons_succ,aopsN,adrawT,cls,astep,aop,afloat,ev,nth_lst,get_lst,aput,setAt_lst,upd_at,init_zero,init_succ,init_nil,Nat.reduceLT,Nat.reduceEqDiff,reduceIte,abuiltin,alen,Option.map_some,Option.map_none,orElse_some,apure_add,apure_eqlV,eqlVal_str,eqlVal_bool,eqlVal_ptr,eqlVal_slice,eqlVal_wide,eqlVal_int,allT,↓aop_eqlV,apure_neq,List.map_cons,List.map_nil,List.all_cons,List.all_nil,lit2,lit1,lit0,List.isEmpty_nil,bls,Bool.false_eq_true,if_true,if_false,List.length_map,beq_self_eq_true,uns,h2,h5,h6,lss64,hlt,lx,callSq,cs,st,add64',e1]
 exact ⟨_,B,rfl,hB,by simp only [upd_at,Nat.reduceEqDiff,reduceIte,h2],rfl,by simp only [upd_at,Nat.reduceEqDiff,reduceIte,h5],rfl⟩
theorem lastSs (h5:F 5=.int .i64 (n:Nat)) (h6:F 6=.int .i64 (i:Nat)) (hi:n≤i):∃ F',acodeN E self nf lpss_0 (lst F 12) M=some (.exit 0,lst F' 12,M)∧F' 2=F 2∧F' 4=F 4:=by
 have hlt:decide (((i:Nat):Int)<((n:Nat):Int))=false:=decide_eq_false (by omega)
 simp only [lpss_0_eq,ess_0,ess_1,ess_2,ess_3,ess_4,ess_5,lss_0,lss_1,lss_2,lss_3,lss_4,lss_5,agd_none,gdAt,gdV_bool,gdV_undef,Tryd.f77,List.append_eq,List.cons_append,List.nil_append,apure_call1,apure_call2,apure_call3,bft,btf,acodeN,List.getElem?_toArray,List.getElem?_cons_zero,List.getElem?_cons_succ,aopsN,adrawT,cls,astep,aop,afloat,ev,nth_lst,get_lst,aput,setAt_lst,upd_at,init_zero,init_succ,init_nil,Nat.reduceLT,Nat.reduceEqDiff,reduceIte,abuiltin,alen,Option.map_some,Option.map_none,orElse_some,apure_add,apure_eqlV,eqlVal_str,eqlVal_bool,eqlVal_ptr,eqlVal_slice,eqlVal_wide,eqlVal_int,allT,↓aop_eqlV,apure_neq,List.map_cons,List.map_nil,List.all_cons,List.all_nil,lit2,lit1,lit0,List.isEmpty_nil,bls,Bool.false_eq_true,if_true,if_false,List.length_map,beq_self_eq_true,uns,h5,h6,lss64,hlt]
 exact ⟨_,rfl,rfl,rfl⟩
theorem loopSs (h2:F 2=.pointer (some ⟨p,0,none⟩)) (h5:F 5=.int .i64 (n:Nat)) (h6:F 6=.int .i64 0) (hn:n<1000)
  (hp:M[p]? = some (.row false 56 (c4 (wd 0 A) (wd 1 A) (wd 2 A) (wd 3 A)))) (hA:A<P25519) (hsq:SquareOk self) (hf:1000<nf) :
  ∃ F' M',aloop (acodeN E self nf lpss_0) nf (lst F 12) M=some (.exit 0,lst F' 12,M')∧F' 2=F 2∧F' 4=F 4∧(∃ B,B=pw A (2^n)∧M'[p]? = some (.row false 56 (c4 (wd 0 B) (wd 1 B) (wd 2 B) (wd 3 B))))∧(∀ b,b≠p→M'[b]? = M[b]?):=by
 have hloop:=aloop_inv (body:=acodeN E self nf lpss_0) (N:=n)
  (I:=fun i T m'=>(∃ B,B=pw A (2^i)∧m'[p]? = some (.row false 56 (c4 (wd 0 B) (wd 1 B) (wd 2 B) (wd 3 B))))∧(∀ b,b≠p→m'[b]? = M[b]?)∧∃ G,T=lst G 12∧G 2=F 2∧G 4=F 4∧G 5=F 5∧G 6=.int .i64 (i:Nat))
  (Q:=fun e T m'=>e=.exit 0∧(∃ B,B=pw A (2^n)∧m'[p]? = some (.row false 56 (c4 (wd 0 B) (wd 1 B) (wd 2 B) (wd 3 B))))∧(∀ b,b≠p→m'[b]? = M[b]?)∧∃ G,T=lst G 12∧G 2=F 2∧G 4=F 4) (fun i T m' hi hI=>by
   obtain ⟨⟨B,hB,gp⟩,ho,G,rfl,g2,g4,g5,g6⟩:=hI
   by_cases hlt:i<n
   ·left
    obtain ⟨F',B',hr,hB',f2,f4,f5,f6⟩:=iterSs (self:=self) (nf:=nf) (g2.trans h2) (g5.trans h5) g6 hlt hn gp (hB▸pw_lt _ _) hsq
    refine ⟨_,_,hr,hlt,⟨B',?_,by rw [List.getElem?_set_self (lt_of_at gp)]⟩,fun b hb=>by rw [List.getElem?_set_ne (fun e=>hb e.symm),ho b hb],F',rfl,f2.trans g2,f4.trans g4,f5.trans g5,f6⟩
    rw [hB',hB,pw_sq,Nat.pow_succ,Nat.mul_comm]
   ·right
    have:i=n:=by omega
    subst this
    obtain ⟨F',hr,f2,f4⟩:=lastSs (self:=self) (nf:=nf) (M:=m') (g5.trans h5) g6 (Nat.le_refl _)
    exact ⟨_,_,_,hr,by simp,rfl,⟨B,hB,gp⟩,ho,F',rfl,f2.trans g2,f4.trans g4⟩)
 obtain ⟨e,T',M',hr,rfl,gp,ho,G,rfl,g2,g4⟩:=hloop n 0 nf (lst F 12) M (by omega) (by omega) ⟨⟨A,by rw [Nat.pow_zero,pw_one hA],hp⟩,fun _ _=>rfl,F,rfl,rfl,rfl,rfl,h6⟩
 exact ⟨G,M',hr,g2,g4,gp,ho⟩
theorem ss_body {m:Mem} (hA:A<P25519) (hn:n<1000) (hsq:SquareOk self) (hf:1000<nf):∃ m',abody E self nf 77 [el A,.int .i64 (n:Nat)] m=some (el (pw A (2^n)),m'):=by
 rw [abody_eqF (by kernel_rfl) Tryd.func77 bodyss (by kernel_rfl) (Nat.le_of_ble_eq_true rfl)]
 rw [show Tryd.f77.ntmps=12 from rfl]
 have b1:=box48 (wd 0 A) (wd 1 A) (wd 2 A) (wd 3 A) m
 generalize hX:m++[Blk.row false 56 (c4 (wd 0 A) (wd 1 A) (wd 2 A) (wd 3 A))]=X at b1
 have lX:X.length=m.length+1:=by rw [←hX]; simp
 have b3:=alloc48 X
 rw [lX] at b3
 generalize hC:X++[Blk.row false 56 (c4 0 0 0 0)]=C at b3
 have gx:C[m.length]? = some (.row false 56 (c4 (wd 0 A) (wd 1 A) (wd 2 A) (wd 3 A))):=by
  rw [←hC,List.getElem?_append_left (by omega),←hX]; simp
 have gr:C[m.length+1]? = some (.row false 56 (c4 0 0 0 0)):=by
  rw [←hC,List.getElem?_append_right (by omega),lX]; simp
 obtain ⟨G,M1,hl,g2,g4,⟨B,hB,gp⟩,ho⟩:=loopSs (self:=self) (nf:=nf) (M:=C) (p:=m.length) (n:=n) (F:=upd (upd (upd (upd (init [el A,.int .i64 (n:Nat)]) 2 (.pointer (some ⟨m.length,0,none⟩))) 4 (.pointer (some ⟨m.length+1,0,none⟩))) 5 (.int .i64 (n:Nat))) 6 (.int .i64 0)) rfl rfl rfl hn gx hA hsq hf
 have g2':G 2=.pointer (some ⟨m.length,0,none⟩):=g2
 have g4':G 4=.pointer (some ⟨m.length+1,0,none⟩):=g4
 have kr:M1[m.length+1]? = some (.row false 56 (c4 0 0 0 0)):=by rw [ho _ (by omega)]; exact gr
 have ld:=load48 gp
 have st:=store48 (a:=wd 0 B) (b:=wd 1 B) (c:=wd 2 B) (d:=wd 3 B) kr rfl
 have ld2:=load48 (m:=M1.set (m.length+1) (.row false 56 (c4 (wd 0 B) (wd 1 B) (wd 2 B) (wd 3 B)))) (p:=m.length+1) (a:=wd 0 B) (b:=wd 1 B) (c:=wd 2 B) (d:=wd 3 B) (by rw [List.getElem?_set_self (lt_of_at kr)])
 rw [←el_st] at b1 ld st ld2
 rw [←hB]
 simp only [ess_0,ess_1,ess_2,ess_3,ess_4,ess_5,lss_0,lss_1,lss_2,lss_3,lss_4,lss_5,agd_none,gdAt,gdV_bool,gdV_undef,Tryd.f77,List.append_eq,List.cons_append,List.nil_append,apure_call1,apure_call2,apure_call3,bft,btf,acodeN,List.getElem?_toArray,List.getElem?_cons_zero,List.getElem?_cons_succ,aopsN,adrawT,cls,astep,aop,afloat,ev,nth_lst,get_lst,aput,setAt_lst,upd_at,init_zero,init_succ,init_nil,Nat.reduceLT,Nat.reduceEqDiff,reduceIte,abuiltin,alen,Option.map_some,Option.map_none,orElse_some,apure_add,apure_eqlV,eqlVal_str,eqlVal_bool,eqlVal_ptr,eqlVal_slice,eqlVal_wide,eqlVal_int,allT,↓aop_eqlV,apure_neq,List.map_cons,List.map_nil,List.all_cons,List.all_nil,lit2,lit1,lit0,List.isEmpty_nil,bls,Bool.false_eq_true,if_true,if_false,List.length_map,beq_self_eq_true,uns,b1,b3,hl,g2',g4',ld,st,ld2,finish,ares,aresL,ares1]
 exact ⟨_,rfl⟩
end
set_option maxHeartbeats 4000000
theorem callSs:callableB E.P 77=true:=by kernel_rfl
theorem wrSs:E.wr 77=false:=by kernel_rfl
theorem wrSq:E.wr 78=false:=by kernel_rfl
theorem wrMul:E.wr 56=false:=by kernel_rfl
theorem callOn:callableB E.P 79=true:=by kernel_rfl
theorem wrOn:E.wr 79=false:=by kernel_rfl
theorem callLen:callableB E.P 95=true:=by kernel_rfl
def SquaresOk (self:Self):Prop:=∀ A n:Nat,A<P25519→n<1000→Ans self 77 [el A,.int .i64 (n:Nat)] (el (pw A (2^n)))
theorem mul2c (a:Int):abin .mul .i64 2 .i64 a=some (.int .i64 (wrapF .i64 (2*a))):=by kernel_rfl
theorem shr250 {n:Nat} (hn:n≤64):abin .shr .i64 250 .i64 ((n:Nat):Int)=some (.int .i64 ((250 / 2^n:Nat):Int)):=by
 unfold abin
 simp only
 rw [if_neg (by omega),Int.toNat_natCast,show IntKind.i64.bits=64 from rfl,Nat.min_eq_left hn,Int.fdiv_eq_ediv_of_nonneg _ (by exact Int.natCast_nonneg _)]
 first
  | rfl
  | (congr 2)
def hv:Nat→Nat
 | 0=>1
 | r+1=>if 2*hv r<250 / 2^(6-r) then 2*hv r+1 else 2*hv r
section
variable {self:Self} {nf:Nat} {M:Mem} {F:Nat→Value} {X h r p q:Nat}
theorem iterOn (h1:F 1=.pointer (some ⟨p,0,none⟩)) (h3:F 3=.pointer (some ⟨q,0,none⟩)) (h4:F 4=.int .i64 (h:Nat)) (h5:F 5=.int .i64 (6-((r:Nat):Int))) (hr:r<7) (hh:h<400) (hh0:0<h) (hpq:p≠q) (hX:X<P25519)
  (hp:M[p]? = some (.row false 56 (c4 (wd 0 X) (wd 1 X) (wd 2 X) (wd 3 X)))) {A:Nat} (hA:A=pw X (2^h-1)) (hq:M[q]? = some (.row false 56 (c4 (wd 0 A) (wd 1 A) (wd 2 A) (wd 3 A))))
  (hsq:SquareOk self) (hmu:MulOk self) (hss:SquaresOk self) :
  ∃ F' M' h' B,acodeN E self nf lpon_0 (lst F 31) M=some (.normal,lst F' 31,M')∧h'=(if 2*h<250 / 2^(6-r) then 2*h+1 else 2*h)∧B=pw X (2^h'-1)∧F' 1=F 1∧F' 2=F 2∧F' 3=F 3∧F' 4=.int .i64 (h':Nat)∧F' 5=.int .i64 (6-((r+1:Nat):Int))∧
   M'[q]? = some (.row false 56 (c4 (wd 0 B) (wd 1 B) (wd 2 B) (wd 3 B)))∧(∀ b,b≠q→M'[b]? = M[b]?):=by
 have hg:decide ((6-((r:Nat):Int))≥0)=true:=decide_eq_true (by omega)
 have e5:(6-((r:Nat):Int))=((6-r:Nat):Int):=by omega
 have e6:wrapF .i64 (((6-r:Nat):Int)-1)=6-((r+1:Nat):Int):=by
  by_cases hr6:r=6
  ·subst hr6; exact wrap_neg1
  ·rw [wrap_i64 (by omega) (by omega)]; omega
 rw [e5] at h5 hg
 have e2:wrapF .i64 (2*((h:Nat):Int))=((2*h:Nat):Int):=by rw [wrap_i64 (by omega) (by omega)]; omega
 have e1:wrapF .i64 (((2*h:Nat):Int)+1)=((2*h+1:Nat):Int):=by rw [wrap_i64 (by omega) (by omega)]; omega
 have hAl:A<P25519:=by rw [hA]; exact pw_lt _ _
 have lq:aload E.P 56 (.pointer (some ⟨q,0,none⟩)) (M.map sealed)=some (st4 (wd 0 A) (wd 1 A) (wd 2 A) (wd 3 A)):=load48 (ro:=true) (e:=56) (by rw [List.getElem?_map,hq]; rfl)
 have cs:=hss A h hAl (by omega)
 obtain ⟨S,hS⟩:∃ S,S=pw A (2^h):=⟨_,rfl⟩
 rw [←hS] at cs
 have cm:=hmu S A (by rw [hS]; exact pw_lt _ _) hAl
 obtain ⟨N,hN⟩:∃ N,N=S*A%P25519:=⟨_,rfl⟩
 rw [←hN] at cm
 have hN2:N=pw X (2^(2*h)-1):=by
  rw [hN,hS,hA,pw_pow,pw_mul]
  congr 1
  have hpos:1≤2^h:=Nat.one_le_two_pow
  rw [Nat.two_mul,Nat.pow_add,Nat.sub_mul,Nat.one_mul]
  have:2^h≤2^h*2^h:=Nat.le_mul_of_pos_right _ hpos
  omega
 have st1:=store48 (a:=wd 0 N) (b:=wd 1 N) (c:=wd 2 N) (d:=wd 3 N) hq rfl
 obtain ⟨M1,hM1⟩:∃ M1,M1=M.set q (.row false 56 (c4 (wd 0 N) (wd 1 N) (wd 2 N) (wd 3 N))):=⟨_,rfl⟩
 rw [←hM1] at st1
 have gq1:M1[q]? = some (.row false 56 (c4 (wd 0 N) (wd 1 N) (wd 2 N) (wd 3 N))):=by rw [hM1,List.getElem?_set_self (lt_of_at hq)]
 have gp1:M1[p]? = some (.row false 56 (c4 (wd 0 X) (wd 1 X) (wd 2 X) (wd 3 X))):=by rw [hM1,List.getElem?_set_ne (fun e=>hpq e.symm)]; exact hp
 have ho1:∀ b,b≠q→M1[b]? = M[b]? := fun b hb=>by rw [hM1,List.getElem?_set_ne (fun e=>hb e.symm)]
 have s250:=shr250 (n:=6-r) (by omega)
 unfold Ans at cs cm
 by_cases hc:2*h<250 / 2^(6-r)
 ·have hlt:decide (((2*h:Nat):Int)<((250 / 2^(6-r):Nat):Int))=true:=decide_eq_true (by omega)
  have lq1:aload E.P 56 (.pointer (some ⟨q,0,none⟩)) (M1.map sealed)=some (st4 (wd 0 N) (wd 1 N) (wd 2 N) (wd 3 N)):=load48 (ro:=true) (e:=56) (by rw [List.getElem?_map,gq1]; rfl)
  have lp1:aload E.P 56 (.pointer (some ⟨p,0,none⟩)) (M1.map sealed)=some (st4 (wd 0 X) (wd 1 X) (wd 2 X) (wd 3 X)):=load48 (ro:=true) (e:=56) (by rw [List.getElem?_map,gp1]; rfl)
  have hNl:N<P25519:=by rw [hN2]; exact pw_lt _ _
  have cq:=hsq N hNl
  obtain ⟨Y,hY⟩:∃ Y,Y=N*N%P25519:=⟨_,rfl⟩
  rw [←hY] at cq
  have cm2:=hmu Y X (by rw [hY]; exact Nat.mod_lt _ (by decide)) hX
  obtain ⟨Z,hZ⟩:∃ Z,Z=Y*X%P25519:=⟨_,rfl⟩
  rw [←hZ] at cm2
  have hZ2:Z=pw X (2^(2*h+1)-1):=by
   have hx:Y*X%P25519=Y*pw X 1%P25519:=by rw [pw_one hX]
   rw [hZ,hx,hY,hN2,pw_sq,pw_mul]
   congr 1
   have:1≤2^(2*h):=Nat.one_le_two_pow
   rw [Nat.pow_succ]
   omega
  have st2:=store48 (a:=wd 0 Z) (b:=wd 1 Z) (c:=wd 2 Z) (d:=wd 3 Z) gq1 rfl
  rw [←el_st] at lq st1 lq1 lp1 st2
  unfold Ans at cq cm2
  clear hS hN hN2 hY hZ hM1
  simp only [lpon_0_eq,↓don_5,↓don_7,↓son_5,↓son_7,eon_0,eon_1,eon_2,eon_3,eon_4,eon_5,eon_6,eon_7,eon_8,lon_0,lon_1,lon_2,lon_3,lon_4,lon_5,lon_6,lon_7,lon_8,agd_none,gdAt,gdV_bool,gdV_undef,Tryd.f79,List.append_eq,List.cons_append,List.nil_append,apure_call1,apure_call2,apure_call3,bft,btf,acodeN,List.getElem?_toArray,List.getElem?_cons_zero,List.getElem?_cons_succ,aopsN,adrawT,cls,astep,aop,afloat,ev,nth_lst,get_lst,aput,setAt_lst,upd_at,init_zero,init_succ,init_nil,Nat.reduceLT,Nat.reduceEqDiff,reduceIte,abuiltin,alen,Option.map_some,Option.map_none,orElse_some,apure_add,apure_eqlV,eqlVal_str,eqlVal_bool,eqlVal_ptr,eqlVal_slice,eqlVal_wide,eqlVal_int,allT,↓aop_eqlV,apure_neq,List.map_cons,List.map_nil,List.all_cons,List.all_nil,lit2,lit1,lit0,List.isEmpty_nil,bls,Bool.false_eq_true,if_true,if_false,List.length_map,beq_self_eq_true,uns,h1,h3,h4,h5,geq0,hg,lq,callSs,wrSs,addr48,cs,callMul,wrMul,cm,mul2c,e2,st1,s250,lss64,hlt,lq1,lp1,callSq,wrSq,cq,cm2,add64',e1,st2,sub1c,e6]
  refine ⟨_,_,2*h+1,Z,rfl,by rw [if_pos hc],hZ2,by simp only [upd_at,Nat.reduceEqDiff,reduceIte,h1],rfl,by simp only [upd_at,Nat.reduceEqDiff,reduceIte,h3],rfl,rfl,by rw [List.getElem?_set_self (lt_of_at gq1)],fun b hb=>by rw [List.getElem?_set_ne (fun e=>hb e.symm),ho1 b hb]⟩
 ·have hlt:decide (((2*h:Nat):Int)<((250 / 2^(6-r):Nat):Int))=false:=decide_eq_false (by omega)
  rw [←el_st] at lq st1
  clear hS hN hM1
  simp only [lpon_0_eq,↓don_5,↓don_7,↓son_5,↓son_7,eon_0,eon_1,eon_2,eon_3,eon_4,eon_5,eon_6,eon_7,eon_8,lon_0,lon_1,lon_2,lon_3,lon_4,lon_5,lon_6,lon_7,lon_8,agd_none,gdAt,gdV_bool,gdV_undef,Tryd.f79,List.append_eq,List.cons_append,List.nil_append,apure_call1,apure_call2,apure_call3,bft,btf,acodeN,List.getElem?_toArray,List.getElem?_cons_zero,List.getElem?_cons_succ,aopsN,adrawT,cls,astep,aop,afloat,ev,nth_lst,get_lst,aput,setAt_lst,upd_at,init_zero,init_succ,init_nil,Nat.reduceLT,Nat.reduceEqDiff,reduceIte,abuiltin,alen,Option.map_some,Option.map_none,orElse_some,apure_add,apure_eqlV,eqlVal_str,eqlVal_bool,eqlVal_ptr,eqlVal_slice,eqlVal_wide,eqlVal_int,allT,↓aop_eqlV,apure_neq,List.map_cons,List.map_nil,List.all_cons,List.all_nil,lit2,lit1,lit0,List.isEmpty_nil,bls,Bool.false_eq_true,if_true,if_false,List.length_map,beq_self_eq_true,uns,h1,h3,h4,h5,geq0,hg,lq,callSs,wrSs,addr48,cs,callMul,wrMul,cm,mul2c,e2,st1,s250,lss64,hlt,sub1c,e6]
  refine ⟨_,_,2*h,N,rfl,by rw [if_neg hc],hN2,by simp only [upd_at,Nat.reduceEqDiff,reduceIte,h1],rfl,by simp only [upd_at,Nat.reduceEqDiff,reduceIte,h3],rfl,rfl,gq1,ho1⟩
theorem lastOn (h5:F 5=.int .i64 (-1)):∃ F',acodeN E self nf lpon_0 (lst F 31) M=some (.exit 0,lst F' 31,M)∧F' 2=F 2∧F' 3=F 3:=by
 have hg:decide ((-1:Int)≥0)=false:=rfl
 simp only [lpon_0_eq,↓don_5,↓don_7,↓son_5,↓son_7,eon_0,eon_1,eon_2,eon_3,eon_4,eon_5,eon_6,eon_7,eon_8,lon_0,lon_1,lon_2,lon_3,lon_4,lon_5,lon_6,lon_7,lon_8,agd_none,gdAt,gdV_bool,gdV_undef,Tryd.f79,List.append_eq,List.cons_append,List.nil_append,apure_call1,apure_call2,apure_call3,bft,btf,acodeN,List.getElem?_toArray,List.getElem?_cons_zero,List.getElem?_cons_succ,aopsN,adrawT,cls,astep,aop,afloat,ev,nth_lst,get_lst,aput,setAt_lst,upd_at,init_zero,init_succ,init_nil,Nat.reduceLT,Nat.reduceEqDiff,reduceIte,abuiltin,alen,Option.map_some,Option.map_none,orElse_some,apure_add,apure_eqlV,eqlVal_str,eqlVal_bool,eqlVal_ptr,eqlVal_slice,eqlVal_wide,eqlVal_int,allT,↓aop_eqlV,apure_neq,List.map_cons,List.map_nil,List.all_cons,List.all_nil,lit2,lit1,lit0,List.isEmpty_nil,bls,Bool.false_eq_true,if_true,if_false,List.length_map,beq_self_eq_true,uns,h5,geq0,hg]
 exact ⟨_,rfl,rfl,rfl⟩
theorem hv_le:∀ r,r≤7→hv r<400∧0<hv r:=by decide
theorem hv7:hv 7=250:=by decide
theorem loopOn (h1:F 1=.pointer (some ⟨p,0,none⟩)) (h3:F 3=.pointer (some ⟨q,0,none⟩)) (h4:F 4=.int .i64 1) (h5:F 5=.int .i64 6) (hpq:p≠q) (hX:X<P25519)
  (hp:M[p]? = some (.row false 56 (c4 (wd 0 X) (wd 1 X) (wd 2 X) (wd 3 X)))) (hq:M[q]? = some (.row false 56 (c4 (wd 0 X) (wd 1 X) (wd 2 X) (wd 3 X))))
  (hsq:SquareOk self) (hmu:MulOk self) (hss:SquaresOk self) (hf:20<nf) :
  ∃ F' M',aloop (acodeN E self nf lpon_0) nf (lst F 31) M=some (.exit 0,lst F' 31,M')∧F' 2=F 2∧F' 3=F 3∧(∃ B,B=pw X (2^250-1)∧M'[q]? = some (.row false 56 (c4 (wd 0 B) (wd 1 B) (wd 2 B) (wd 3 B))))∧(∀ b,b≠q→M'[b]? = M[b]?):=by
 have hloop:=aloop_inv (body:=acodeN E self nf lpon_0) (N:=7)
  (I:=fun r T m'=>(∃ B,B=pw X (2^hv r-1)∧m'[q]? = some (.row false 56 (c4 (wd 0 B) (wd 1 B) (wd 2 B) (wd 3 B))))∧(∀ b,b≠q→m'[b]? = M[b]?)∧∃ G,T=lst G 31∧G 1=F 1∧G 2=F 2∧G 3=F 3∧G 4=.int .i64 (hv r:Nat)∧G 5=.int .i64 (6-((r:Nat):Int)))
  (Q:=fun e T m'=>e=.exit 0∧(∃ B,B=pw X (2^250-1)∧m'[q]? = some (.row false 56 (c4 (wd 0 B) (wd 1 B) (wd 2 B) (wd 3 B))))∧(∀ b,b≠q→m'[b]? = M[b]?)∧∃ G,T=lst G 31∧G 2=F 2∧G 3=F 3) (fun r T m' hi hI=>by
   obtain ⟨⟨B,hB,gq⟩,ho,G,rfl,g1,g2,g3,g4,g5⟩:=hI
   by_cases hlt:r<7
   ·left
    obtain ⟨F',M',h',B',hr,hh',hB',f1,f2,f3,f4,f5,k1,k2⟩:=iterOn (self:=self) (nf:=nf) (g1.trans h1) (g3.trans h3) g4 g5 hlt (hv_le r hi).1 (hv_le r hi).2 hpq hX (by rw [ho p hpq]; exact hp) hB gq hsq hmu hss
    have hhv:h'=hv (r+1):=hh'
    rw [hhv] at hB' f4
    exact ⟨_,_,hr,hlt,⟨B',hB',k1⟩,fun b hb=>by rw [k2 b hb,ho b hb],F',rfl,f1.trans g1,f2.trans g2,f3.trans g3,f4,f5⟩
   ·right
    have:r=7:=by omega
    subst this
    rw [hv7] at hB
    obtain ⟨F',hr,f2,f3⟩:=lastOn (self:=self) (nf:=nf) (M:=m') (F:=G) g5
    exact ⟨_,_,_,hr,by simp,rfl,⟨B,hB,gq⟩,ho,F',rfl,f2.trans g2,f3.trans g3⟩)
 obtain ⟨e,T',M',hr,rfl,gq,ho,G,rfl,g2,g3⟩:=hloop 7 0 nf (lst F 31) M (by omega) (by omega) ⟨⟨X,by rw [show 2^hv 0-1=1 from rfl,pw_one hX],hq⟩,fun _ _=>rfl,F,rfl,rfl,rfl,rfl,h4,h5⟩
 exact ⟨G,M',hr,g2,g3,gq,ho⟩
theorem sub2c:abin .sub .i64 8 .i64 2=some (.int .i64 6):=by kernel_rfl
theorem on_body {m:Mem} (hX:X<P25519) (hsq:SquareOk self) (hmu:MulOk self) (hss:SquaresOk self) (hlen:Ans self 95 [.int .u64 250] (.int .i64 8)) (hf:20<nf) :
  ∃ m',abody E self nf 79 [el X] m=some (el (pw X (2^250-1)),m'):=by
 rw [abody_eqF (by kernel_rfl) Tryd.func79 bodyon (by kernel_rfl) (Nat.le_of_ble_eq_true rfl)]
 rw [show Tryd.f79.ntmps=31 from rfl]
 have b1:=box48 (wd 0 X) (wd 1 X) (wd 2 X) (wd 3 X) m
 generalize hA:m++[Blk.row false 56 (c4 (wd 0 X) (wd 1 X) (wd 2 X) (wd 3 X))]=A at b1
 have lA:A.length=m.length+1:=by rw [←hA]; simp
 have b2:=alloc48 A
 rw [lA] at b2
 generalize hB:A++[Blk.row false 56 (c4 0 0 0 0)]=B at b2
 have lB:B.length=m.length+2:=by rw [←hB]; simp [lA]
 have gx:B[m.length]? = some (.row false 56 (c4 (wd 0 X) (wd 1 X) (wd 2 X) (wd 3 X))):=by
  rw [←hB,List.getElem?_append_left (by omega),←hA]; simp
 have gr:B[m.length+1]? = some (.row false 56 (c4 0 0 0 0)):=by
  rw [←hB,List.getElem?_append_right (by omega),lA]; simp
 have lx:=load48 gx
 have b3:=alloc48 B
 rw [lB] at b3
 generalize hC:B++[Blk.row false 56 (c4 0 0 0 0)]=C at b3
 have gc:C[m.length+2]? = some (.row false 56 (c4 0 0 0 0)):=by
  rw [←hC,List.getElem?_append_right (by omega),lB]; simp
 have st1:=store48 (a:=wd 0 X) (b:=wd 1 X) (c:=wd 2 X) (d:=wd 3 X) gc rfl
 obtain ⟨D,hD⟩:∃ D,D=C.set (m.length+2) (.row false 56 (c4 (wd 0 X) (wd 1 X) (wd 2 X) (wd 3 X))):=⟨_,rfl⟩
 rw [←hD] at st1
 have dx:D[m.length]? = some (.row false 56 (c4 (wd 0 X) (wd 1 X) (wd 2 X) (wd 3 X))):=by
  rw [hD,List.getElem?_set_ne (by omega),←hC,List.getElem?_append_left (by omega)]; exact gx
 have dr:D[m.length+1]? = some (.row false 56 (c4 0 0 0 0)):=by
  rw [hD,List.getElem?_set_ne (by omega),←hC,List.getElem?_append_left (by omega)]; exact gr
 have dc:D[m.length+2]? = some (.row false 56 (c4 (wd 0 X) (wd 1 X) (wd 2 X) (wd 3 X))):=by
  rw [hD,List.getElem?_set_self (lt_of_at gc)]
 obtain ⟨G,M1,hl,g2,g3,⟨Z,hZ,gq⟩,ho⟩:=loopOn (self:=self) (nf:=nf) (M:=D) (p:=m.length) (q:=m.length+2) (F:=upd (upd (upd (upd (upd (upd (upd (upd (init [el X]) 1 (.pointer (some ⟨m.length,0,none⟩))) 2 (.pointer (some ⟨m.length+1,0,none⟩))) 6 (el X)) 3 (.pointer (some ⟨m.length+2,0,none⟩))) 4 (.int .i64 1)) 7 (.int .i64 8)) 8 (.int .i64 6)) 5 (.int .i64 6)) rfl rfl rfl rfl (by omega) hX dx dc hsq hmu hss hf
 have g2':G 2=.pointer (some ⟨m.length+1,0,none⟩):=g2
 have g3':G 3=.pointer (some ⟨m.length+2,0,none⟩):=g3
 have kr:M1[m.length+1]? = some (.row false 56 (c4 0 0 0 0)):=by rw [ho _ (by omega)]; exact dr
 have ld:=load48 gq
 have st:=store48 (a:=wd 0 Z) (b:=wd 1 Z) (c:=wd 2 Z) (d:=wd 3 Z) kr rfl
 have ld2:=load48 (m:=M1.set (m.length+1) (.row false 56 (c4 (wd 0 Z) (wd 1 Z) (wd 2 Z) (wd 3 Z)))) (p:=m.length+1) (a:=wd 0 Z) (b:=wd 1 Z) (c:=wd 2 Z) (d:=wd 3 Z) (by rw [List.getElem?_set_self (lt_of_at kr)])
 rw [←el_st] at b1 lx st1 ld st ld2
 rw [←hZ]
 unfold Ans at hlen
 simp only [↓don_5,↓don_7,↓son_5,↓son_7,eon_0,eon_1,eon_2,eon_3,eon_4,eon_5,eon_6,eon_7,eon_8,lon_0,lon_1,lon_2,lon_3,lon_4,lon_5,lon_6,lon_7,lon_8,agd_none,gdAt,gdV_bool,gdV_undef,Tryd.f79,List.append_eq,List.cons_append,List.nil_append,apure_call1,apure_call2,apure_call3,bft,btf,acodeN,List.getElem?_toArray,List.getElem?_cons_zero,List.getElem?_cons_succ,aopsN,adrawT,cls,astep,aop,afloat,ev,nth_lst,get_lst,aput,setAt_lst,upd_at,init_zero,init_succ,init_nil,Nat.reduceLT,Nat.reduceEqDiff,reduceIte,abuiltin,alen,Option.map_some,Option.map_none,orElse_some,apure_add,apure_eqlV,eqlVal_str,eqlVal_bool,eqlVal_ptr,eqlVal_slice,eqlVal_wide,eqlVal_int,allT,↓aop_eqlV,apure_neq,List.map_cons,List.map_nil,List.all_cons,List.all_nil,lit2,lit1,lit0,List.isEmpty_nil,bls,Bool.false_eq_true,if_true,if_false,List.length_map,beq_self_eq_true,uns,b1,b2,lx,b3,st1,callLen,hlen,sub2c,hl,g2',g3',ld,st,ld2,finish,ares,aresL,ares1]
 exact ⟨_,rfl⟩
theorem len64_body {m:Mem}:abody E self nf 44 [.int .u64 250] m=some (.int .i64 8,m):=by kernel_rfl
theorem z48:zeroB E.P 56=some (.row false 56 (c4 0 0 0 0)):=by kernel_rfl
theorem el_lit (V:Nat):lit2 (el V)=true:=rfl
theorem lay48 (V:Nat):astore E.P 56 (.pointer (some ⟨0,0,none⟩)) (el V) [.row false 56 (c4 0 0 0 0)]=some [.row false 56 (c4 (wd 0 V) (wd 1 V) (wd 2 V) (wd 3 V))]:=store48 rfl rfl
theorem iv_body {m:Mem} (hX:X<P25519) (hG:E.G≤m.length) (hsq:SquareOk self) (hmu:MulOk self) (hss:SquaresOk self) (hon:Ans self 79 [el X] (el (pw X (2^250-1)))) :
  ∃ m',abody E self nf 54 [el X] m=some (el (pw X (P25519-2)),m'):=by
 rw [abody_eqF (by kernel_rfl) Tryd.func54 bodyiv (by kernel_rfl) (Nat.le_of_ble_eq_true rfl)]
 rw [show Tryd.f54.ntmps=16 from rfl]
 have b1:=box48 (wd 0 X) (wd 1 X) (wd 2 X) (wd 3 X) m
 generalize hA:m++[Blk.row false 56 (c4 (wd 0 X) (wd 1 X) (wd 2 X) (wd 3 X))]=A at b1
 have lA:A.length=m.length+1:=by rw [←hA]; simp
 have b2:=alloc48 A
 rw [lA] at b2
 generalize hB:A++[Blk.row false 56 (c4 0 0 0 0)]=B at b2
 have lB:B.length=m.length+2:=by rw [←hB]; simp [lA]
 have gx:B[m.length]? = some (.row false 56 (c4 (wd 0 X) (wd 1 X) (wd 2 X) (wd 3 X))):=by
  rw [←hB,List.getElem?_append_left (by omega),←hA]; simp
 have gr:B[m.length+1]? = some (.row false 56 (c4 0 0 0 0)):=by
  rw [←hB,List.getElem?_append_right (by omega),lA]; simp
 have lx:aload E.P 56 (.pointer (some ⟨m.length,0,none⟩)) (B.map sealed)=some (st4 (wd 0 X) (wd 1 X) (wd 2 X) (wd 3 X)):=load48 (ro:=true) (e:=56) (by rw [List.getElem?_map,gx]; rfl)
 have db:decide (m.length<B.length)=true:=decide_eq_true (by omega)
 have dG:decide (E.G≤B.length)=true:=decide_eq_true (by omega)
 have c1:=hss X 3 hX (by omega)
 have c2:=hsq X hX
 rw [show X*X%P25519=pw X 2 by unfold pw; rw [Nat.pow_two]] at c2
 have c3:=hmu (pw X (2^3)) (pw X 2) (pw_lt _ _) (pw_lt _ _)
 rw [pw_mul] at c3
 have c4':=hmu (pw X (2^3+2)) X (pw_lt _ _) hX
 rw [show pw X (2^3+2)*X%P25519=pw X (2^3+2+1) by have:=pw_mul X (2^3+2) 1; rw [pw_one hX] at this; exact this] at c4'
 have c5:=hss (pw X (2^250-1)) 5 (pw_lt _ _) (by omega)
 rw [pw_pow] at c5
 have c6:=hmu (pw X ((2^250-1)*2^5)) (pw X (2^3+2+1)) (pw_lt _ _) (pw_lt _ _)
 rw [pw_mul,show (2^250-1)*2^5+(2^3+2+1)=P25519-2 by decide] at c6
 unfold Ans at c1 c2 c3 c4' c5 c6 hon
 rw [show (((3:Nat)):Int)=3 from rfl] at c1
 rw [show (((5:Nat)):Int)=5 from rfl] at c5
 generalize pw X (2^3)=Y1 at *
 generalize pw X 2=Y2 at *
 generalize pw X (2^3+2)=Y3 at *
 generalize pw X (2^3+2+1)=Y4 at *
 generalize pw X (2^250-1)=Y5 at *
 generalize pw X ((2^250-1)*2^5)=Y6 at *
 generalize pw X (P25519-2)=Z at *
 obtain ⟨D,hD⟩:∃ D,D=B++[Blk.row false 56 (c4 (wd 0 Y4) (wd 1 Y4) (wd 2 Y4) (wd 3 Y4))]:=⟨_,rfl⟩
 have dx:D[m.length]? = some (.row false 56 (c4 (wd 0 X) (wd 1 X) (wd 2 X) (wd 3 X))):=by
  rw [hD,List.getElem?_append_left (by omega)]; exact gx
 have dr:D[m.length+1]? = some (.row false 56 (c4 0 0 0 0)):=by
  rw [hD,List.getElem?_append_left (by omega)]; exact gr
 have dy:D[m.length+2]? = some (.row false 56 (c4 (wd 0 Y4) (wd 1 Y4) (wd 2 Y4) (wd 3 Y4))):=by
  rw [hD,List.getElem?_append_right (by omega),lB]; simp
 have l2:aload E.P 56 (.pointer (some ⟨m.length,0,none⟩)) (D.map sealed)=some (st4 (wd 0 X) (wd 1 X) (wd 2 X) (wd 3 X)):=load48 (ro:=true) (e:=56) (by rw [List.getElem?_map,dx]; rfl)
 have l3:aload E.P 56 (.pointer (some ⟨m.length+2,0,none⟩)) (D.map sealed)=some (st4 (wd 0 Y4) (wd 1 Y4) (wd 2 Y4) (wd 3 Y4)):=load48 (ro:=true) (e:=56) (by rw [List.getElem?_map,dy]; rfl)
 have st:=store48 (a:=wd 0 Z) (b:=wd 1 Z) (c:=wd 2 Z) (d:=wd 3 Z) dr rfl
 have ld2:=load48 (m:=D.set (m.length+1) (.row false 56 (c4 (wd 0 Z) (wd 1 Z) (wd 2 Z) (wd 3 Z)))) (p:=m.length+1) (a:=wd 0 Z) (b:=wd 1 Z) (c:=wd 2 Z) (d:=wd 3 Z) (by rw [List.getElem?_set_self (lt_of_at dr)])
 rw [←el_st] at b1 lx l2 l3 st ld2
 rw [←lB] at l3
 simp only [↓div_2,↓siv_2,↓ziv_1,qiv_1,qiv_101,eiv_0,eiv_1,eiv_2,liv_0,liv_1,liv_2,agd_none,gdAt,gdV_bool,gdV_undef,Tryd.f54,List.append_eq,List.cons_append,List.nil_append,apure_call1,apure_call2,apure_call3,bft,btf,acodeN,List.getElem?_toArray,List.getElem?_cons_zero,List.getElem?_cons_succ,aopsN,adrawT,cls,astep,aop,afloat,ev,nth_lst,get_lst,aput,setAt_lst,upd_at,init_zero,init_succ,init_nil,Nat.reduceLT,Nat.reduceEqDiff,reduceIte,abuiltin,alen,Option.map_some,Option.map_none,orElse_some,apure_add,apure_eqlV,eqlVal_str,eqlVal_bool,eqlVal_ptr,eqlVal_slice,eqlVal_wide,eqlVal_int,allT,↓aop_eqlV,apure_neq,List.map_cons,List.map_nil,List.all_cons,List.all_nil,lit2,lit1,lit0,List.isEmpty_nil,bls,Bool.false_eq_true,if_true,if_false,List.length_map,beq_self_eq_true,uns,capsLit0,asr,asrT,contents,content,belowB,isCall,laterOk,eq_self,decide_true,Bool.and_self,b1,b2,lx,db,dG,callSs,wrSs,addr48,c1,callSq,wrSq,c2,callMul,wrMul,c3,c4',↓el_lit,z48,lay48,Nat.add_zero,←hD,l2,l3,callOn,wrOn,hon,c5,c6,st,ld2,finish,ares,aresL,ares1]
 exact ⟨_,rfl⟩
end
set_option maxHeartbeats 4000000
def rle_0:=opR Tryd.f95 [0]
def lle_0:List Oper:=match Tryd.f95.body with
 | some (.seq (.region _ o _) _)=>o.toList
 | _=>[]
theorem ele_0:rle_0.toList=lle_0:=rfl
def rle_1:=opR Tryd.f95 [1,0,0,0]
def lle_1:List Oper:=match Tryd.f95.body with
 | some (.seq _ (.seq (.cond _ (.seq (.region _ o _) _) _) _))=>o.toList
 | _=>[]
theorem ele_1:rle_1.toList=lle_1:=rfl
def rle_2:=opR Tryd.f95 [1,1,0]
def lle_2:List Oper:=match Tryd.f95.body with
 | some (.seq _ (.seq _ (.seq (.region _ o _) _)))=>o.toList
 | _=>[]
theorem ele_2:rle_2.toList=lle_2:=rfl
theorem bodyle:Tryd.f95.body=some (.seq (.region 0 rle_0 false) (.seq (.cond (.const (.bool false)) (.seq (.region 1 rle_1 false) .ret) .skip) (.seq (.region 2 rle_2 false) .ret))):=rfl
theorem callLen64:callableB E.P 44=true:=by kernel_rfl
theorem len_body {self:Self} {nf:Nat} {m:Mem} (h:Ans self 44 [.int .u64 250] (.int .i64 8)):∃ m',abody E self nf 95 [.int .u64 250] m=some (.int .i64 8,m'):=by
 rw [abody_eqF (by kernel_rfl) Tryd.func95 bodyle (by kernel_rfl) (Nat.le_of_ble_eq_true rfl)]
 rw [show Tryd.f95.ntmps=8 from rfl]
 unfold Ans at h
 simp only [ele_0,ele_1,ele_2,lle_0,lle_1,lle_2,agd_none,gdAt,gdV_bool,gdV_undef,Tryd.f95,List.append_eq,List.cons_append,List.nil_append,apure_call1,apure_call2,apure_call3,bft,btf,acodeN,List.getElem?_toArray,List.getElem?_cons_zero,List.getElem?_cons_succ,aopsN,adrawT,cls,astep,aop,afloat,ev,nth_lst,get_lst,aput,setAt_lst,upd_at,init_zero,init_succ,init_nil,Nat.reduceLT,Nat.reduceEqDiff,reduceIte,abuiltin,alen,Option.map_some,Option.map_none,orElse_some,apure_add,apure_eqlV,eqlVal_str,eqlVal_bool,eqlVal_ptr,eqlVal_slice,eqlVal_wide,eqlVal_int,allT,↓aop_eqlV,apure_neq,List.map_cons,List.map_nil,List.all_cons,List.all_nil,lit2,lit1,lit0,List.isEmpty_nil,bls,Bool.false_eq_true,if_true,if_false,List.length_map,beq_self_eq_true,uns,callLen64,h,finish,ares,aresL,ares1]
 exact ⟨_,rfl⟩
def AnsG (self:Self) (f:FuncId) (args:List Value) (v:Value):Prop:=∀ M:Mem,E.G≤M.length→ainv E self f args M=some (v,M)
theorem Ans.g {self:Self} {f:FuncId} {args:List Value} {v:Value} (h:Ans self f args v):AnsG self f args v:=fun M _=>h M
theorem ans_ofG {self:Self} {f:FuncId} {args:List Value} {v:Value} (ha:args.all lit2=true) (hf:E.fast f=none) (hv:lit2 v=true) (h:∀ m,E.G≤m.length→∃ m',self f args m=some (v,m')):AnsG self f args v:=by
 intro M hM
 obtain ⟨m',h'⟩:=h ((M.take E.G).map onlyTab) (by rw [List.length_map,List.length_take]; omega)
 exact ainv_lit ha hf h' hv
def fieldFs:List FuncId:=[83,96,81,80,56,78,77,95,44,79,54,82,58,34,31,33,57,53]
def NoF (K:List Fact):Prop:=∀ f∈fieldFs,hasF K f=false
section
variable {MM:Mem} {K:List Fact} (hK:NoF K) {n:Nat}
include hK
theorem rk {f:FuncId} (hf:f∈fieldFs) {args:List Value} {m:Mem}:runK E MM K (n+1) f args m=abody E (runK E MM K n) (n+1) f args m:=by
 rw [runK]
 simp only [hK f hf]
theorem L_ml (x y:Nat) (hx:x<18446744073709551616) (hy:y<18446744073709551616):Ans (runK E MM K (n+1)) 83 [.int .u64 (x:Nat),.int .u64 (y:Nat)] (pair64 (x*y / 18446744073709551616) (x*y%18446744073709551616)) :=
 ans_of rfl (by kernel_rfl) rfl fun m=>⟨_,by rw [rk hK (by decide)]; exact ml_body hx hy⟩
theorem L_pl (V k:Nat) (hk:k<18446744073709551616):Ans (runK E MM K (n+1)) 96 [.int .u64 (wd 0 V:Nat),.int .u64 (wd 1 V:Nat),.int .u64 (wd 2 V:Nat),.int .u64 (wd 3 V:Nat),.int .u64 (k:Nat)] (tup4 (wd 0 (V+k)) (wd 1 (V+k)) (wd 2 (V+k)) (wd 3 (V+k))) :=
 ans_of rfl (by kernel_rfl) rfl fun m=>⟨_,by rw [rk hK (by decide)]; exact pl_body hk⟩
theorem L_se:SettleOk (runK E MM K (n+2)):=fun a b c d more ha hb hc hd hm=>ans_of rfl (by kernel_rfl) rfl fun m=>by
 rw [rk hK (by decide)]; exact se_body ha hb hc hd hm (fun V k hk=>L_pl hK V k hk)
theorem L_tm:TimesOk (runK E MM K (n+2)):=fun x0 x1 x2 x3 k a b c d V h0 h1 h2 h3 hk ha hb hc hd hV=>ans_of rfl (by kernel_rfl) rfl fun m=>by
 rw [rk hK (by decide)]; exact tm_body h0 h1 h2 h3 hk ha hb hc hd (fun x y hx hy=>L_ml hK x y hx hy) hV
theorem L_mul (h:10≤n):MulOk (runK E MM K (n+3)):=fun A B hA hB=>ans_of rfl (by kernel_rfl) rfl fun m=>by
 rw [rk hK (by decide)]; exact fm_body (p_lt4 hA) (p_lt4 hB) (L_tm hK) (L_se hK) (by omega)
theorem L_sq (h:10≤n):SquareOk (runK E MM K (n+4)):=fun A hA=>ans_of rfl (by kernel_rfl) rfl fun m=>by
 rw [rk hK (by decide)]; exact sq_body (L_mul hK h A A hA hA)
theorem L_ss (h:1000≤n):SquaresOk (runK E MM K (n+5)):=fun A k hA hk=>ans_of rfl (by kernel_rfl) rfl fun m=>by
 rw [rk hK (by decide)]; exact ss_body hA hk (L_sq hK (by omega)) (by omega)
theorem L_len64:Ans (runK E MM K (n+1)) 44 [.int .u64 250] (.int .i64 8):=ans_of rfl (by kernel_rfl) rfl fun m=>⟨_,by rw [rk hK (by decide)]; exact len64_body⟩
theorem L_len:Ans (runK E MM K (n+2)) 95 [.int .u64 250] (.int .i64 8):=ans_of rfl (by kernel_rfl) rfl fun m=>by
 rw [rk hK (by decide)]; exact len_body (L_len64 hK)
theorem L_on (h:1000≤n) (A:Nat) (hA:A<P25519):Ans (runK E MM K (n+6)) 79 [el A] (el (pw A (2^250-1))):=ans_of rfl (by kernel_rfl) rfl fun m=>by
 rw [rk hK (by decide)]; exact on_body hA (L_sq hK (by omega)) (L_mul hK (by omega)) (L_ss hK h) (L_len hK) (by omega)
theorem L_wo (h:20≤n) (b:Nat→Nat) (hb:∀ i,b i<256) (k:Nat) (hk:k<4):Ans (runK E MM K (n+1)) 82 [arrK .u8 32 b,.int .i64 (k:Nat)] (.int .u64 ((accW b k 8:Nat):Int)):=ans_of (by simp only [List.all_cons,arrK_lit]; rfl) (by kernel_rfl) rfl fun m=>by
 rw [rk hK (by decide)]; exact wo_body hk hb (by omega)
theorem L_lo (h:20≤n) (b:Nat→Nat) (hb:∀ i,b i<256):Ans (runK E MM K (n+3)) 58 [arrK .u8 32 b] (el (looseF b)):=ans_of (by simp only [List.all_cons,arrK_lit]; rfl) (by kernel_rfl) rfl fun m=>by
 rw [rk hK (by decide)]; exact lo_body hb (fun k hk=>L_wo hK (by omega) b hb k hk) (L_se hK)
theorem L_by (h:40≤n) (X:Nat):Ans (runK E MM K (n+1)) 34 [el X] (arrK .u8 32 (byteX X)):=ans_of rfl (by kernel_rfl) (arrK_lit _ _ _) fun m=>by
 rw [rk hK (by decide)]; exact by_body (by omega)
theorem L_ze (X:Nat) (hX:X<P25519):Ans (runK E MM K (n+1)) 33 [el X] (.bool (decide (X=0))):=ans_of rfl (by kernel_rfl) rfl fun m=>by
 rw [rk hK (by decide)]; exact ze_body (p_lt4 hX)
end
end Go.Am.Seat
namespace Go.Am.Seat
open Go.Proofs Go.Am Go.Am.Num Go.Am.Kn
theorem owdc_0:rwdc_0.toList=[⟨some 2,.alloc 24,0,"limb.go:54",#[],none⟩,⟨some 3,.assign (.const (.int .i64 0)),39,"limb.go:54",#[],none⟩]:=rfl
theorem owdc_1:rwdc_1.toList=[⟨some 8,.move (.tmp 0),9,"limb.go:56",#[],none⟩,⟨some 9,.call { callee:=.value (.func 48),args:=#[.tmp 8],argTypes:=#[9] },4,"limb.go:56",#[eD 0],none⟩,⟨some 10,.unOp .not 4 (.tmp 9),4,"limb.go:56",#[eD 1],none⟩]:=rfl
theorem owdc_2:rwdc_2.toList=[⟨some 11,.build 24 #[],24,"limb.go:57",#[],none⟩,⟨none,.store 24 (.tmp 2) (.tmp 11),0,"limb.go:57",#[eD 0,eP 0],none⟩,⟨some 3,.assign (.const (.int .i64 4)),39,"limb.go:57",#[eC 1,eP 0,eP 1],none⟩]:=rfl
theorem owdc_3:rwdc_3.toList=[⟨some 4,.alloc 24,0,"limb.go:59",#[],none⟩]:=rfl
theorem owdc_4:rwdc_4.toList=[⟨some 12,.move (.tmp 0),9,"limb.go:60",#[],none⟩,⟨some 13,.call { callee:=.builtin .len,args:=#[.tmp 12],argTypes:=#[9] },3,"limb.go:60",#[eD 0],none⟩,⟨some 14,.move (.const (.int .i64 0)),3,"limb.go:60",#[],none⟩]:=rfl
theorem owdc_5:rwdc_5.toList=[⟨some 15,.binOp .lss 3 (.tmp 14) (.tmp 13) 3,4,"limb.go:60",#[],none⟩]:=rfl
theorem owdc_6:rwdc_6.toList=[⟨some 16,.move (.tmp 14),3,"limb.go:60",#[],none⟩,⟨some 5,.assign (.tmp 16),3,"limb.go:60",#[eD 0,eP 0],none⟩]:=rfl
theorem owdc_7:rwdc_7.toList=[⟨some 18,.load 24 (.tmp 4),24,"limb.go:61",#[],none⟩,⟨some 19,.move (.tmp 0),9,"limb.go:61",#[],none⟩,⟨some 20,.move (.tmp 5),3,"limb.go:61",#[],none⟩,⟨some 21,.index 9 (.tmp 19) (.tmp 20),5,"limb.go:61",#[eD 1,eD 2],none⟩,⟨some 22,.binOp .sub 5 (.tmp 21) (.const (.int .u8 48)) 5,5,"limb.go:61",#[eD 3],none⟩,⟨some 23,.convert 5 22 (.tmp 22),22,"limb.go:61",#[eD 4],none⟩,⟨some 24,.call { callee:=.value (.func 49),args:=#[.tmp 18,.const (.int .u64 10),.tmp 23],argTypes:=#[24,22,22] },65,"limb.go:61",#[eD 0,eD 5],none⟩,⟨some 17,.move (.tmp 24),65,"limb.go:61",#[eD 6],none⟩,⟨some 25,.extract (.tmp 17) 0,24,"limb.go:61",#[eD 7],none⟩,⟨some 26,.extract (.tmp 17) 1,22,"limb.go:61",#[eD 7,{ on:=11,ground:=Ground.gcOnly Departure.lateStores }],none⟩,⟨some 6,.alloc 24,0,"limb.go:61",#[],none⟩,⟨none,.store 24 (.tmp 6) (.tmp 25),0,"limb.go:61",#[eD 10,eD 8,eC 6,eP 0,eP 1,eP 2,eP 3,eP 4,eP 5,eP 6,eP 7,eP 8,{ on:=9,ground:=Ground.textOnly Departure.lateStores },eP 10],none⟩,⟨some 7,.assign (.tmp 26),22,"limb.go:61",#[eD 9,eC 11,eP 0,eP 1,eP 2,eP 3,eP 4,eP 5,eP 6,eP 7,eP 8,eP 9,eP 10,eP 11],none⟩]:=rfl
theorem owdc_8:rwdc_8.toList=[⟨some 27,.move (.tmp 7),22,"limb.go:62",#[],none⟩,⟨some 28,.binOp .neq 22 (.tmp 27) (.const (.int .u64 0)) 22,4,"limb.go:62",#[eD 0],none⟩]:=rfl
theorem owdc_9:rwdc_9.toList=[⟨some 29,.build 24 #[],24,"limb.go:63",#[],none⟩,⟨none,.store 24 (.tmp 2) (.tmp 29),0,"limb.go:63",#[eD 0,eP 0],none⟩,⟨some 3,.assign (.const (.int .i64 7)),39,"limb.go:63",#[eC 1,eP 0,eP 1],none⟩]:=rfl
theorem owdc_10:rwdc_10.toList=[⟨some 30,.load 24 (.tmp 6),24,"limb.go:65",#[],none⟩,⟨none,.store 24 (.tmp 4) (.tmp 30),0,"limb.go:65",#[eD 0,eP 0],none⟩]:=rfl
theorem owdc_11:rwdc_11.toList=[⟨some 31,.binOp .add 3 (.tmp 14) (.const (.int .i64 1)) 3,3,"limb.go:60",#[],none⟩,⟨some 14,.move (.tmp 31),3,"limb.go:60",#[eD 0],none⟩]:=rfl
theorem owdc_12:rwdc_12.toList=[⟨some 32,.load 24 (.tmp 4),24,"limb.go:67",#[],none⟩,⟨none,.store 24 (.tmp 2) (.tmp 32),0,"limb.go:67",#[eD 0,eP 0],none⟩,⟨some 3,.assign (.const (.int .i64 0)),39,"limb.go:67",#[eC 1,eP 0,eP 1],none⟩]:=rfl
theorem callIsn:callableB E.P 48=true:=by kernel_rfl
theorem callMw:callableB E.P 49=true:=by kernel_rfl
theorem wrMw:E.wr 49=false:=by kernel_rfl
theorem addrMw:addrT E.P 4 65=false:=by kernel_rfl
theorem ahead_wdc_7a:aheadB E.P E.wr rwdc_7 0 11=true:=by kernel_rfl
theorem lit_mw (x b:Nat):lit2 (.tuple ⟨[wdK x,U b]⟩)=true:=rfl
section
variable {self:Self} {nf:Nat} {m:Mem} {F:Nat→Value} {s:ByteArray} {k r q x n:Nat} {w o:Nat→Nat}
theorem wdc_0 {m1:Mem} (ha:aalloc E.P 24 m=some (.pointer (some ⟨r,0,none⟩),m1)):∃ F',acodeN E self nf (.region 0 rwdc_0 false) (lst F 33) m=some (.normal,lst F' 33,m1)∧F' 2=.pointer (some ⟨r,0,none⟩)∧F' 0=F 0:=by
 simp only [owdc_0,agd_none,gdAt,gdV_bool,gdV_undef,List.append_eq,List.cons_append,List.nil_append,apure_call1,apure_call2,apure_call3,bft,btf,acodeN,List.getElem?_toArray,List.getElem?_cons_zero,List.getElem?_cons_succ,aopsN,adrawT,cls,astep,aop,afloat,ev,nth_lst,get_lst,aput,setAt_lst,upd_at,init_zero,init_succ,init_nil,Nat.reduceLT,Nat.reduceEqDiff,reduceIte,abuiltin,alen,Option.map_some,Option.map_none,orElse_some,apure_add,apure_eqlV,eqlVal_str,eqlVal_bool,eqlVal_ptr,eqlVal_slice,eqlVal_wide,eqlVal_int,allT,↓aop_eqlV,apure_neq,List.map_cons,List.map_nil,List.all_cons,List.all_nil,lit2,lit1,lit0,List.isEmpty_nil,bls,Bool.false_eq_true,if_true,if_false,List.length_map,beq_self_eq_true,uns,ha]
 exact ⟨_,rfl,rfl,rfl⟩
theorem wdc_1 {b:Bool} (h0:F 0=.string s) (hc:∀ M,ainv E self 48 [.string s] M=some (.bool b,M)):∃ F',acodeN E self nf (.region 1 rwdc_1 false) (lst F 33) m=some (.normal,lst F' 33,m)∧F' 10=.bool (!b)∧∀ j,j<8→F' j=F j:=by
 simp only [owdc_1,agd_none,gdAt,gdV_bool,gdV_undef,List.append_eq,List.cons_append,List.nil_append,apure_call1,apure_call2,apure_call3,bft,btf,acodeN,List.getElem?_toArray,List.getElem?_cons_zero,List.getElem?_cons_succ,aopsN,adrawT,cls,astep,aop,afloat,ev,nth_lst,get_lst,aput,setAt_lst,upd_at,init_zero,init_succ,init_nil,Nat.reduceLT,Nat.reduceEqDiff,reduceIte,abuiltin,alen,Option.map_some,Option.map_none,orElse_some,apure_add,apure_eqlV,eqlVal_str,eqlVal_bool,eqlVal_ptr,eqlVal_slice,eqlVal_wide,eqlVal_int,allT,↓aop_eqlV,apure_neq,List.map_cons,List.map_nil,List.all_cons,List.all_nil,lit2,lit1,lit0,List.isEmpty_nil,bls,Bool.false_eq_true,if_true,if_false,List.length_map,beq_self_eq_true,uns,h0,callIsn,hc]
 exact ⟨_,rfl,rfl,fun j h1=>by repeat rw [upd_ne (by omega)]⟩
theorem wdc_2 {m1:Mem} (h2:F 2=.pointer (some ⟨r,0,none⟩)) (st:astore E.P 24 (.pointer (some ⟨r,0,none⟩)) (wide fun _=>0) m=some m1):∃ F',acodeN E self nf (.region 2 rwdc_2 false) (lst F 33) m=some (.normal,lst F' 33,m1)∧F' 2=.pointer (some ⟨r,0,none⟩)∧F' 3=.int .i64 4:=by
 simp only [owdc_2,agd_none,gdAt,gdV_bool,gdV_undef,List.append_eq,List.cons_append,List.nil_append,apure_call1,apure_call2,apure_call3,bft,btf,acodeN,List.getElem?_toArray,List.getElem?_cons_zero,List.getElem?_cons_succ,aopsN,adrawT,cls,astep,aop,afloat,ev,nth_lst,get_lst,aput,setAt_lst,upd_at,init_zero,init_succ,init_nil,Nat.reduceLT,Nat.reduceEqDiff,reduceIte,abuiltin,alen,Option.map_some,Option.map_none,orElse_some,apure_add,apure_eqlV,eqlVal_str,eqlVal_bool,eqlVal_ptr,eqlVal_slice,eqlVal_wide,eqlVal_int,allT,↓aop_eqlV,apure_neq,List.map_cons,List.map_nil,List.all_cons,List.all_nil,lit2,lit1,lit0,List.isEmpty_nil,bls,Bool.false_eq_true,if_true,if_false,List.length_map,beq_self_eq_true,uns,h2,apure24,abuild24,st]
 exact ⟨_,rfl,by simp only [upd_at,Nat.reduceEqDiff,reduceIte,h2],rfl⟩
theorem wdc_3 {m1:Mem} (ha:aalloc E.P 24 m=some (.pointer (some ⟨q,0,none⟩),m1)):∃ F',acodeN E self nf (.region 3 rwdc_3 false) (lst F 33) m=some (.normal,lst F' 33,m1)∧F' 4=.pointer (some ⟨q,0,none⟩)∧∀ j,j<4→F' j=F j:=by
 simp only [owdc_3,agd_none,gdAt,gdV_bool,gdV_undef,List.append_eq,List.cons_append,List.nil_append,apure_call1,apure_call2,apure_call3,bft,btf,acodeN,List.getElem?_toArray,List.getElem?_cons_zero,List.getElem?_cons_succ,aopsN,adrawT,cls,astep,aop,afloat,ev,nth_lst,get_lst,aput,setAt_lst,upd_at,init_zero,init_succ,init_nil,Nat.reduceLT,Nat.reduceEqDiff,reduceIte,abuiltin,alen,Option.map_some,Option.map_none,orElse_some,apure_add,apure_eqlV,eqlVal_str,eqlVal_bool,eqlVal_ptr,eqlVal_slice,eqlVal_wide,eqlVal_int,allT,↓aop_eqlV,apure_neq,List.map_cons,List.map_nil,List.all_cons,List.all_nil,lit2,lit1,lit0,List.isEmpty_nil,bls,Bool.false_eq_true,if_true,if_false,List.length_map,beq_self_eq_true,uns,ha]
 exact ⟨_,rfl,rfl,fun j h1=>by repeat rw [upd_ne (by omega)]⟩
theorem wdc_4 (h0:F 0=.string s):∃ F',acodeN E self nf (.region 4 rwdc_4 false) (lst F 33) m=some (.normal,lst F' 33,m)∧F' 13=.int .i64 ((s.data.toList.length:Nat):Int)∧F' 14=.int .i64 ((0:Nat):Int)∧∀ j,j<8→F' j=F j:=by
 simp only [owdc_4,agd_none,gdAt,gdV_bool,gdV_undef,List.append_eq,List.cons_append,List.nil_append,apure_call1,apure_call2,apure_call3,bft,btf,acodeN,List.getElem?_toArray,List.getElem?_cons_zero,List.getElem?_cons_succ,aopsN,adrawT,cls,astep,aop,afloat,ev,nth_lst,get_lst,aput,setAt_lst,upd_at,init_zero,init_succ,init_nil,Nat.reduceLT,Nat.reduceEqDiff,reduceIte,len_N,abuiltin_app,Option.map_some,Option.map_none,orElse_some,apure_add,apure_eqlV,eqlVal_str,eqlVal_bool,eqlVal_ptr,eqlVal_slice,eqlVal_wide,eqlVal_int,allT,↓aop_eqlV,apure_neq,List.map_cons,List.map_nil,List.all_cons,List.all_nil,lit2,lit1,lit0,List.isEmpty_nil,bls,Bool.false_eq_true,if_true,if_false,List.length_map,beq_self_eq_true,uns,h0,len_S,alen]
 exact ⟨_,rfl,rfl,by simp only [upd_at,Nat.reduceEqDiff,reduceIte]; rfl,fun j h1=>by repeat rw [upd_ne (by omega)]⟩
theorem wdc_5 {b:Bool} (h13:F 13=.int .i64 ((n:Nat):Int)) (h14:F 14=.int .i64 ((k:Nat):Int)) (hb:decide (((k:Nat):Int)<((n:Nat):Int))=b):∃ F',acodeN E self nf (.region 5 rwdc_5 false) (lst F 33) m=some (.normal,lst F' 33,m)∧F' 15=.bool b∧∀ j,j<15→F' j=F j:=by
 simp only [owdc_5,agd_none,gdAt,gdV_bool,gdV_undef,List.append_eq,List.cons_append,List.nil_append,apure_call1,apure_call2,apure_call3,bft,btf,acodeN,List.getElem?_toArray,List.getElem?_cons_zero,List.getElem?_cons_succ,aopsN,adrawT,cls,astep,aop,afloat,ev,nth_lst,get_lst,aput,setAt_lst,upd_at,init_zero,init_succ,init_nil,Nat.reduceLT,Nat.reduceEqDiff,reduceIte,abuiltin,alen,Option.map_some,Option.map_none,orElse_some,apure_add,apure_eqlV,eqlVal_str,eqlVal_bool,eqlVal_ptr,eqlVal_slice,eqlVal_wide,eqlVal_int,allT,↓aop_eqlV,apure_neq,List.map_cons,List.map_nil,List.all_cons,List.all_nil,lit2,lit1,lit0,List.isEmpty_nil,bls,Bool.false_eq_true,if_true,if_false,List.length_map,beq_self_eq_true,uns,h13,h14,lss64,hb]
 exact ⟨_,rfl,rfl,fun j h1=>by repeat rw [upd_ne (by omega)]⟩
theorem wdc_6 (h14:F 14=.int .i64 ((k:Nat):Int)):∃ F',acodeN E self nf (.region 6 rwdc_6 false) (lst F 33) m=some (.normal,lst F' 33,m)∧F' 5=.int .i64 ((k:Nat):Int)∧∀ j,j≠5→j<15→F' j=F j:=by
 simp only [owdc_6,agd_none,gdAt,gdV_bool,gdV_undef,List.append_eq,List.cons_append,List.nil_append,apure_call1,apure_call2,apure_call3,bft,btf,acodeN,List.getElem?_toArray,List.getElem?_cons_zero,List.getElem?_cons_succ,aopsN,adrawT,cls,astep,aop,afloat,ev,nth_lst,get_lst,aput,setAt_lst,upd_at,init_zero,init_succ,init_nil,Nat.reduceLT,Nat.reduceEqDiff,reduceIte,abuiltin,alen,Option.map_some,Option.map_none,orElse_some,apure_add,apure_eqlV,eqlVal_str,eqlVal_bool,eqlVal_ptr,eqlVal_slice,eqlVal_wide,eqlVal_int,allT,↓aop_eqlV,apure_neq,List.map_cons,List.map_nil,List.all_cons,List.all_nil,lit2,lit1,lit0,List.isEmpty_nil,bls,Bool.false_eq_true,if_true,if_false,List.length_map,beq_self_eq_true,uns,h14]
 exact ⟨_,rfl,rfl,fun j h1 h2=>by repeat rw [upd_ne (by omega)]⟩
theorem wdc_7 {m1 m2:Mem} {ch:UInt8} {a y c:Nat} (dG:decide (E.G≤m.length)=true) (h0:F 0=.string s) (h4:F 4=.pointer (some ⟨q,0,none⟩)) (h5:F 5=.int .i64 ((k:Nat):Int)) (hx:s.data.toList[k]? = some ch) (hd:48≤ch.toNat) (ld:aload E.P 24 (.pointer (some ⟨q,0,none⟩)) (m.map sealed)=some (wdK x)) (hc:∀ M,ainv E self 49 [wdK x,.int .u64 10,U (ch.toNat-48)] M=some (.tuple ⟨[wdK y,U c]⟩,M)) (ha:aalloc E.P 24 m=some (.pointer (some ⟨a,0,none⟩),m1)) (st:astore E.P 24 (.pointer (some ⟨a,0,none⟩)) (wdK y) m1=some m2) :
  ∃ F',acodeN E self nf (.region 7 rwdc_7 true) (lst F 33) m=some (.normal,lst F' 33,m2)∧F' 6=.pointer (some ⟨a,0,none⟩)∧F' 7=U c∧∀ j,j≠6→j≠7→j<15→F' j=F j:=by
 have hi9:=index9 hx
 have s1:=sub48 hd
 have hlt:ch.toNat<256:=ch.toNat_lt
 have e:wrapF .u8 (((ch.toNat:Nat):Int)-48)=((ch.toNat-48:Nat):Int):=by simp only [wrapF]; omega
 rw [e] at s1
 have cv:=conv5u (x:=ch.toNat-48) (by omega)
 have l1:=lit_wd x
 have l2:=lit_mw y c
 have a1:=ahead_wdc_7a
 generalize wdK x=X at *
 generalize wdK y=Y at *
 generalize ch.toNat-48=d at *
 simp only [↓dwdc_7,↓swdc_7,owdc_7,agd_none,gdAt,gdV_bool,gdV_undef,List.append_eq,List.cons_append,List.nil_append,apure_call1,apure_call2,apure_call3,bft,btf,acodeN,List.getElem?_toArray,List.getElem?_cons_zero,List.getElem?_cons_succ,aopsN,adrawT,cls,astep,aop,afloat,ev,nth_lst,get_lst,aput,setAt_lst,upd_at,init_zero,init_succ,init_nil,Nat.reduceLT,Nat.reduceEqDiff,reduceIte,abuiltin,alen,Option.map_some,Option.map_none,orElse_some,apure_add,apure_eqlV,eqlVal_str,eqlVal_bool,eqlVal_ptr,eqlVal_slice,eqlVal_wide,eqlVal_int,allT,↓aop_eqlV,apure_neq,List.map_cons,List.map_nil,List.all_cons,List.all_nil,lit2,lit1,lit0,List.isEmpty_nil,bls,Bool.false_eq_true,if_true,if_false,List.length_map,beq_self_eq_true,uns,h0,h4,h5,hi9,s1,cv,ld,callMw,wrMw,addrMw,hc,↓l1,↓l2,dG,ha,st,exW0,exW1,laterOk,capsLit0,sparesB,liveB,loadAt,loadBlk,Nat.reduceAdd,Nat.zero_add,a1,List.filter_cons,List.filter_nil,List.append_nil,List.contains_cons,List.contains_nil,Option.toList]
 exact ⟨_,rfl,rfl,rfl,fun j h1 h2 h3=>by repeat rw [upd_ne (by omega)]⟩
theorem wdc_8 {c:Nat} {b:Bool} (h7:F 7=U c) (hb:(((c:Nat):Int) != 0)=b):∃ F',acodeN E self nf (.region 8 rwdc_8 false) (lst F 33) m=some (.normal,lst F' 33,m)∧F' 28=.bool b∧∀ j,j<15→F' j=F j:=by
 simp only [owdc_8,agd_none,gdAt,gdV_bool,gdV_undef,List.append_eq,List.cons_append,List.nil_append,apure_call1,apure_call2,apure_call3,bft,btf,acodeN,List.getElem?_toArray,List.getElem?_cons_zero,List.getElem?_cons_succ,aopsN,adrawT,cls,astep,aop,afloat,ev,nth_lst,get_lst,aput,setAt_lst,upd_at,init_zero,init_succ,init_nil,Nat.reduceLT,Nat.reduceEqDiff,reduceIte,abuiltin,alen,Option.map_some,Option.map_none,orElse_some,apure_add,apure_eqlV,eqlVal_str,eqlVal_bool,eqlVal_ptr,eqlVal_slice,eqlVal_wide,eqlVal_int,allT,↓aop_eqlV,apure_neq,List.map_cons,List.map_nil,List.all_cons,List.all_nil,lit2,lit1,lit0,List.isEmpty_nil,bls,Bool.false_eq_true,if_true,if_false,List.length_map,beq_self_eq_true,uns,h7,neqU',hb]
 exact ⟨_,rfl,rfl,fun j h1=>by repeat rw [upd_ne (by omega)]⟩
theorem wdc_9 {m1:Mem} (h2:F 2=.pointer (some ⟨r,0,none⟩)) (st:astore E.P 24 (.pointer (some ⟨r,0,none⟩)) (wide fun _=>0) m=some m1):∃ F',acodeN E self nf (.region 9 rwdc_9 false) (lst F 33) m=some (.normal,lst F' 33,m1)∧F' 2=.pointer (some ⟨r,0,none⟩)∧F' 3=.int .i64 7:=by
 simp only [owdc_9,agd_none,gdAt,gdV_bool,gdV_undef,List.append_eq,List.cons_append,List.nil_append,apure_call1,apure_call2,apure_call3,bft,btf,acodeN,List.getElem?_toArray,List.getElem?_cons_zero,List.getElem?_cons_succ,aopsN,adrawT,cls,astep,aop,afloat,ev,nth_lst,get_lst,aput,setAt_lst,upd_at,init_zero,init_succ,init_nil,Nat.reduceLT,Nat.reduceEqDiff,reduceIte,abuiltin,alen,Option.map_some,Option.map_none,orElse_some,apure_add,apure_eqlV,eqlVal_str,eqlVal_bool,eqlVal_ptr,eqlVal_slice,eqlVal_wide,eqlVal_int,allT,↓aop_eqlV,apure_neq,List.map_cons,List.map_nil,List.all_cons,List.all_nil,lit2,lit1,lit0,List.isEmpty_nil,bls,Bool.false_eq_true,if_true,if_false,List.length_map,beq_self_eq_true,uns,h2,apure24,abuild24,st]
 exact ⟨_,rfl,by simp only [upd_at,Nat.reduceEqDiff,reduceIte,h2],rfl⟩
theorem wdc_10 {m1:Mem} {a:Nat} (h4:F 4=.pointer (some ⟨q,0,none⟩)) (h6:F 6=.pointer (some ⟨a,0,none⟩)) (ld:aload E.P 24 (.pointer (some ⟨a,0,none⟩)) m=some (wide o)) (st:astore E.P 24 (.pointer (some ⟨q,0,none⟩)) (wide o) m=some m1):∃ F',acodeN E self nf (.region 10 rwdc_10 false) (lst F 33) m=some (.normal,lst F' 33,m1)∧∀ j,j<15→F' j=F j:=by
 simp only [owdc_10,agd_none,gdAt,gdV_bool,gdV_undef,List.append_eq,List.cons_append,List.nil_append,apure_call1,apure_call2,apure_call3,bft,btf,acodeN,List.getElem?_toArray,List.getElem?_cons_zero,List.getElem?_cons_succ,aopsN,adrawT,cls,astep,aop,afloat,ev,nth_lst,get_lst,aput,setAt_lst,upd_at,init_zero,init_succ,init_nil,Nat.reduceLT,Nat.reduceEqDiff,reduceIte,abuiltin,alen,Option.map_some,Option.map_none,orElse_some,apure_add,apure_eqlV,eqlVal_str,eqlVal_bool,eqlVal_ptr,eqlVal_slice,eqlVal_wide,eqlVal_int,allT,↓aop_eqlV,apure_neq,List.map_cons,List.map_nil,List.all_cons,List.all_nil,lit2,lit1,lit0,List.isEmpty_nil,bls,Bool.false_eq_true,if_true,if_false,List.length_map,beq_self_eq_true,uns,h4,h6,ld,st]
 exact ⟨_,rfl,fun j h1=>by repeat rw [upd_ne (by omega)]⟩
theorem wdc_11 (h14:F 14=.int .i64 ((k:Nat):Int)) (hk:k<100000):∃ F',acodeN E self nf (.region 11 rwdc_11 false) (lst F 33) m=some (.normal,lst F' 33,m)∧F' 14=.int .i64 ((k+1:Nat):Int)∧∀ j,j<14→F' j=F j:=by
 have e:wrapF .i64 (((k:Nat):Int)+1)=((k+1:Nat):Int):=by rw [wrap_i64 (by omega) (by omega)]; omega
 simp only [owdc_11,agd_none,gdAt,gdV_bool,gdV_undef,List.append_eq,List.cons_append,List.nil_append,apure_call1,apure_call2,apure_call3,bft,btf,acodeN,List.getElem?_toArray,List.getElem?_cons_zero,List.getElem?_cons_succ,aopsN,adrawT,cls,astep,aop,afloat,ev,nth_lst,get_lst,aput,setAt_lst,upd_at,init_zero,init_succ,init_nil,Nat.reduceLT,Nat.reduceEqDiff,reduceIte,abuiltin,alen,Option.map_some,Option.map_none,orElse_some,apure_add,apure_eqlV,eqlVal_str,eqlVal_bool,eqlVal_ptr,eqlVal_slice,eqlVal_wide,eqlVal_int,allT,↓aop_eqlV,apure_neq,List.map_cons,List.map_nil,List.all_cons,List.all_nil,lit2,lit1,lit0,List.isEmpty_nil,bls,Bool.false_eq_true,if_true,if_false,List.length_map,beq_self_eq_true,uns,h14,add64',e]
 exact ⟨_,rfl,rfl,fun j h1=>by repeat rw [upd_ne (by omega)]⟩
theorem wdc_12 {m1:Mem} (h2:F 2=.pointer (some ⟨r,0,none⟩)) (h4:F 4=.pointer (some ⟨q,0,none⟩)) (ld:aload E.P 24 (.pointer (some ⟨q,0,none⟩)) m=some (wide o)) (st:astore E.P 24 (.pointer (some ⟨r,0,none⟩)) (wide o) m=some m1):∃ F',acodeN E self nf (.region 12 rwdc_12 false) (lst F 33) m=some (.normal,lst F' 33,m1)∧F' 2=.pointer (some ⟨r,0,none⟩)∧F' 3=.int .i64 0:=by
 simp only [owdc_12,agd_none,gdAt,gdV_bool,gdV_undef,List.append_eq,List.cons_append,List.nil_append,apure_call1,apure_call2,apure_call3,bft,btf,acodeN,List.getElem?_toArray,List.getElem?_cons_zero,List.getElem?_cons_succ,aopsN,adrawT,cls,astep,aop,afloat,ev,nth_lst,get_lst,aput,setAt_lst,upd_at,init_zero,init_succ,init_nil,Nat.reduceLT,Nat.reduceEqDiff,reduceIte,abuiltin,alen,Option.map_some,Option.map_none,orElse_some,apure_add,apure_eqlV,eqlVal_str,eqlVal_bool,eqlVal_ptr,eqlVal_slice,eqlVal_wide,eqlVal_int,allT,↓aop_eqlV,apure_neq,List.map_cons,List.map_nil,List.all_cons,List.all_nil,lit2,lit1,lit0,List.isEmpty_nil,bls,Bool.false_eq_true,if_true,if_false,List.length_map,beq_self_eq_true,uns,h2,h4,ld,st]
 exact ⟨_,rfl,by simp only [upd_at,Nat.reduceEqDiff,reduceIte,h2],rfl⟩
end
end Go.Am.Seat
