import Derived.Test.YtcnhakfmnkegcaaDoorGrFieldParses14
set_option linter.unusedSimpArgs false
set_option linter.unusedVariables false
noncomputable section
set_option maxRecDepth 100000
namespace Go.Am.Seat
open Go.Proofs Go.Am Go.Am.Num
set_option maxHeartbeats 4000000
def rtm_0:=opR Tryd.f80 [0]
def ltm_0:List Oper:=match Tryd.f80.body with
 | some (.seq (.region _ o _) _)=>o.toList
 | _=>[]
theorem etm_0:rtm_0.toList=ltm_0:=rfl
def rtm_1:=opR Tryd.f80 [1,0]
def ltm_1:List Oper:=match Tryd.f80.body with
 | some (.seq _ (.seq (.region _ o _) _))=>o.toList
 | _=>[]
theorem etm_1:rtm_1.toList=ltm_1:=rfl
def rtm_2:=opR Tryd.f80 [1,1,0]
def ltm_2:List Oper:=match Tryd.f80.body with
 | some (.seq _ (.seq _ (.seq (.region _ o _) _)))=>o.toList
 | _=>[]
theorem etm_2:rtm_2.toList=ltm_2:=rfl
def rtm_3:=opR Tryd.f80 [1,1,1,0]
def ltm_3:List Oper:=match Tryd.f80.body with
 | some (.seq _ (.seq _ (.seq _ (.seq (.region _ o _) _))))=>o.toList
 | _=>[]
theorem etm_3:rtm_3.toList=ltm_3:=rfl
def rtm_4:=opR Tryd.f80 [1,1,1,1,0]
def ltm_4:List Oper:=match Tryd.f80.body with
 | some (.seq _ (.seq _ (.seq _ (.seq _ (.seq (.region _ o _) _)))))=>o.toList
 | _=>[]
theorem etm_4:rtm_4.toList=ltm_4:=rfl
def rtm_5:=opR Tryd.f80 [1,1,1,1,1,0]
def ltm_5:List Oper:=match Tryd.f80.body with
 | some (.seq _ (.seq _ (.seq _ (.seq _ (.seq _ (.seq (.region _ o _) _))))))=>o.toList
 | _=>[]
theorem etm_5:rtm_5.toList=ltm_5:=rfl
def rtm_6:=opR Tryd.f80 [1,1,1,1,1,1,0]
def ltm_6:List Oper:=match Tryd.f80.body with
 | some (.seq _ (.seq _ (.seq _ (.seq _ (.seq _ (.seq _ (.seq (.region _ o _) _)))))))=>o.toList
 | _=>[]
theorem etm_6:rtm_6.toList=ltm_6:=rfl
def rtm_7:=opR Tryd.f80 [1,1,1,1,1,1,1,0]
def ltm_7:List Oper:=match Tryd.f80.body with
 | some (.seq _ (.seq _ (.seq _ (.seq _ (.seq _ (.seq _ (.seq _ (.seq (.region _ o _) _))))))))=>o.toList
 | _=>[]
theorem etm_7:rtm_7.toList=ltm_7:=rfl
def rtm_8:=opR Tryd.f80 [1,1,1,1,1,1,1,1,0]
def ltm_8:List Oper:=match Tryd.f80.body with
 | some (.seq _ (.seq _ (.seq _ (.seq _ (.seq _ (.seq _ (.seq _ (.seq _ (.seq (.region _ o _) _)))))))))=>o.toList
 | _=>[]
theorem etm_8:rtm_8.toList=ltm_8:=rfl
def rtm_9:=opR Tryd.f80 [1,1,1,1,1,1,1,1,1,0]
def ltm_9:List Oper:=match Tryd.f80.body with
 | some (.seq _ (.seq _ (.seq _ (.seq _ (.seq _ (.seq _ (.seq _ (.seq _ (.seq _ (.seq (.region _ o _) _))))))))))=>o.toList
 | _=>[]
theorem etm_9:rtm_9.toList=ltm_9:=rfl
def rtm_10:=opR Tryd.f80 [1,1,1,1,1,1,1,1,1,1,0]
def ltm_10:List Oper:=match Tryd.f80.body with
 | some (.seq _ (.seq _ (.seq _ (.seq _ (.seq _ (.seq _ (.seq _ (.seq _ (.seq _ (.seq _ (.seq (.region _ o _) _)))))))))))=>o.toList
 | _=>[]
theorem etm_10:rtm_10.toList=ltm_10:=rfl
def rtm_11:=opR Tryd.f80 [1,1,1,1,1,1,1,1,1,1,1,0]
def ltm_11:List Oper:=match Tryd.f80.body with
 | some (.seq _ (.seq _ (.seq _ (.seq _ (.seq _ (.seq _ (.seq _ (.seq _ (.seq _ (.seq _ (.seq _ (.seq (.region _ o _) _))))))))))))=>o.toList
 | _=>[]
theorem etm_11:rtm_11.toList=ltm_11:=rfl
def rtm_12:=opR Tryd.f80 [1,1,1,1,1,1,1,1,1,1,1,1,0]
def ltm_12:List Oper:=match Tryd.f80.body with
 | some (.seq _ (.seq _ (.seq _ (.seq _ (.seq _ (.seq _ (.seq _ (.seq _ (.seq _ (.seq _ (.seq _ (.seq _ (.seq (.region _ o _) _)))))))))))))=>o.toList
 | _=>[]
theorem etm_12:rtm_12.toList=ltm_12:=rfl
def rtm_13:=opR Tryd.f80 [1,1,1,1,1,1,1,1,1,1,1,1,1,0]
def ltm_13:List Oper:=match Tryd.f80.body with
 | some (.seq _ (.seq _ (.seq _ (.seq _ (.seq _ (.seq _ (.seq _ (.seq _ (.seq _ (.seq _ (.seq _ (.seq _ (.seq _ (.seq (.region _ o _) _))))))))))))))=>o.toList
 | _=>[]
theorem etm_13:rtm_13.toList=ltm_13:=rfl
theorem bodytm:Tryd.f80.body=some (.seq (.region 0 rtm_0 false) (.seq (.region 1 rtm_1 false) (.seq (.region 2 rtm_2 false) (.seq (.region 3 rtm_3 false) (.seq (.region 4 rtm_4 false) (.seq (.region 5 rtm_5 false) (.seq (.region 6 rtm_6 false) (.seq (.region 7 rtm_7 false) (.seq (.region 8 rtm_8 false) (.seq (.region 9 rtm_9 false) (.seq (.region 10 rtm_10 false) (.seq (.region 11 rtm_11 false) (.seq (.region 12 rtm_12 false) (.seq (.region 13 rtm_13 false) .ret)))))))))))))):=rfl
def rfm_0:=opR Tryd.f56 [0]
def lfm_0:List Oper:=match Tryd.f56.body with
 | some (.seq (.region _ o _) _)=>o.toList
 | _=>[]
theorem efm_0:rfm_0.toList=lfm_0:=rfl
def rfm_1:=opR Tryd.f56 [1,0]
def lfm_1:List Oper:=match Tryd.f56.body with
 | some (.seq _ (.seq (.region _ o _) _))=>o.toList
 | _=>[]
theorem efm_1:rfm_1.toList=lfm_1:=rfl
def rfm_2:=opR Tryd.f56 [1,1,0,0]
def lfm_2:List Oper:=match Tryd.f56.body with
 | some (.seq _ (.seq _ (.seq (.seq (.region _ o _) _) _)))=>o.toList
 | _=>[]
theorem efm_2:rfm_2.toList=lfm_2:=rfl
def lpfm_0:Code:=match Tryd.f56.body with
 | some (.seq _ (.seq _ (.seq (.seq _ (.block _ (.loop c))) _)))=>c
 | _=>.skip
def rfm_3:=opR Tryd.f56 [1,1,0,1,0,0,0]
def lfm_3:List Oper:=match Tryd.f56.body with
 | some (.seq _ (.seq _ (.seq (.seq _ (.block _ (.loop (.seq (.region _ o _) _)))) _)))=>o.toList
 | _=>[]
theorem efm_3:rfm_3.toList=lfm_3:=rfl
def rfm_4:=opR Tryd.f56 [1,1,0,1,0,0,1,1,0,0,0]
def lfm_4:List Oper:=match Tryd.f56.body with
 | some (.seq _ (.seq _ (.seq (.seq _ (.block _ (.loop (.seq _ (.seq _ (.seq (.block _ (.seq (.region _ o _) _)) _)))))) _)))=>o.toList
 | _=>[]
theorem efm_4:rfm_4.toList=lfm_4:=rfl
def rfm_5:=opR Tryd.f56 [1,1,0,1,0,0,1,1,0,0,1]
def lfm_5:List Oper:=match Tryd.f56.body with
 | some (.seq _ (.seq _ (.seq (.seq _ (.block _ (.loop (.seq _ (.seq _ (.seq (.block _ (.seq _ (.region _ o _))) _)))))) _)))=>o.toList
 | _=>[]
theorem efm_5:rfm_5.toList=lfm_5:=rfl
theorem dfm_5 {self:Self} {B:Nat} {T:List Value} {m:Mem} {lb:List (Nat×Nat)} {ls:Bool}:adrawN E self rfm_5 B rfm_5.toList 0 T m lb ls=adrawT E self rfm_5 B rfm_5.toList [(false,false),(false,false),(false,false),(false,false),(false,false),(false,false),(false,false),(false,false),(false,false),(false,false),(false,false),(false,false),(false,false),(false,false),(false,false),(false,false),(false,false),(false,false),(false,false),(false,false),(false,false),(false,false),(false,false),(false,false),(false,false),(false,false),(false,false),(false,false),(false,false),(false,false),(false,false),(false,false),(false,false),(false,false),(false,false),(false,false),(false,false),(false,false),(false,false),(false,false),(false,false),(false,false),(false,false)] 0 T m lb ls:=adraw_tab (by kernel_rfl)
theorem sfm_5:E.sr 5 rfm_5=false:=by kernel_rfl
def rfm_6:=opR Tryd.f56 [1,1,0,1,0,0,1,1,1]
def lfm_6:List Oper:=match Tryd.f56.body with
 | some (.seq _ (.seq _ (.seq (.seq _ (.block _ (.loop (.seq _ (.seq _ (.seq _ (.region _ o _))))))) _)))=>o.toList
 | _=>[]
theorem efm_6:rfm_6.toList=lfm_6:=rfl
theorem lpfm_0_eq:lpfm_0=(.seq (.region 3 rfm_3 false) (.seq (.cond (.tmp 19) .skip (.exit 0)) (.seq (.block 1 (.seq (.region 4 rfm_4 false) (.region 5 rfm_5 true))) (.region 6 rfm_6 false)))):=rfl
def rfm_7:=opR Tryd.f56 [1,1,1,0]
def lfm_7:List Oper:=match Tryd.f56.body with
 | some (.seq _ (.seq _ (.seq _ (.seq (.region _ o _) _))))=>o.toList
 | _=>[]
theorem efm_7:rfm_7.toList=lfm_7:=rfl
def rfm_8:=opR Tryd.f56 [1,1,1,1,0]
def lfm_8:List Oper:=match Tryd.f56.body with
 | some (.seq _ (.seq _ (.seq _ (.seq _ (.seq (.region _ o _) _)))))=>o.toList
 | _=>[]
theorem efm_8:rfm_8.toList=lfm_8:=rfl
theorem bodyfm:Tryd.f56.body=some (.seq (.region 0 rfm_0 false) (.seq (.region 1 rfm_1 false) (.seq (.seq (.region 2 rfm_2 false) (.block 0 (.loop lpfm_0))) (.seq (.region 7 rfm_7 false) (.seq (.region 8 rfm_8 false) .ret))))):=rfl
def tup5 (a b c d e:Nat):Value:=.tuple ⟨[.int .u64 (a:Nat),.int .u64 (b:Nat),.int .u64 (c:Nat),.int .u64 (d:Nat),.int .u64 (e:Nat)]⟩
theorem ex50 (a b c d e:Nat):aextract (tup5 a b c d e) 0=some (.int .u64 ((a:Nat):Int)):=rfl
theorem ex51 (a b c d e:Nat):aextract (tup5 a b c d e) 1=some (.int .u64 ((b:Nat):Int)):=rfl
theorem ex52 (a b c d e:Nat):aextract (tup5 a b c d e) 2=some (.int .u64 ((c:Nat):Int)):=rfl
theorem ex53 (a b c d e:Nat):aextract (tup5 a b c d e) 3=some (.int .u64 ((d:Nat):Int)):=rfl
theorem ex54 (a b c d e:Nat):aextract (tup5 a b c d e) 4=some (.int .u64 ((e:Nat):Int)):=rfl
theorem callMl:callableB E.P 83=true:=by kernel_rfl
section
variable {self:Self} {nf:Nat} {m:Mem} {x0 x1 x2 x3 n a b c d:Nat}
theorem tm_body (h0:x0<18446744073709551616) (h1:x1<18446744073709551616) (h2:x2<18446744073709551616) (h3:x3<18446744073709551616) (hn:n<18446744073709551616)
  (ha:a<18446744073709551616) (hb:b<18446744073709551616) (hc:c<18446744073709551616) (hd:d<18446744073709551616)
  (hml:∀ x y,x<18446744073709551616→y<18446744073709551616→Ans self 83 [.int .u64 (x:Nat),.int .u64 (y:Nat)] (pair64 (x*y / 18446744073709551616) (x*y%18446744073709551616)))
  {V:Nat} (hV:V=v4 x0 x1 x2 x3*n+v4 a b c d) :
  ∃ m',abody E self nf 80 [st4 x0 x1 x2 x3,.int .u64 (n:Nat),.int .u64 (a:Nat),.int .u64 (b:Nat),.int .u64 (c:Nat),.int .u64 (d:Nat)] m=some (tup5 (wd 0 V) (wd 1 V) (wd 2 V) (wd 3 V) (wd 4 V),m'):=by
 rw [abody_eqF (by kernel_rfl) Tryd.func80 bodytm (by kernel_rfl) (Nat.le_of_ble_eq_true rfl)]
 rw [show Tryd.f80.ntmps=111 from rfl]
 have b1:=box48 x0 x1 x2 x3 m
 have gp:(m++[Blk.row false 56 (c4 x0 x1 x2 x3)])[m.length]? = some (.row false 56 (c4 x0 x1 x2 x3)):=by simp
 generalize hM:m++[Blk.row false 56 (c4 x0 x1 x2 x3)]=M at b1 gp
 obtain ⟨g0,g1,g2,g3⟩:=cell4 gp
 have m0:=hml x0 n h0 hn
 have m1:=hml x1 n h1 hn
 have m2:=hml x2 n h2 hn
 have m3:=hml x3 n h3 hn
 unfold Ans at m0 m1 m2 m3
 obtain ⟨⟨q1,q2,q3,q4,q5⟩,w0,w1,w2,w3,w4,_⟩:=times_ok h0 h1 h2 h3 hn ha hb hc hd rfl rfl rfl rfl rfl rfl rfl rfl rfl hV
 rw [←w0,←w1,←w2,←w3,←w4]
 clear w0 w1 w2 w3 w4 hml hM
 generalize x0*n=p0 at *
 generalize x1*n=p1 at *
 generalize x2*n=p2 at *
 generalize x3*n=p3 at *
 generalize hs1:p1%18446744073709551616+p0 / 18446744073709551616=s1 at *
 generalize hs2:p2%18446744073709551616+p1 / 18446744073709551616+s1 / 18446744073709551616=s2 at *
 generalize hs3:p3%18446744073709551616+p2 / 18446744073709551616+s2 / 18446744073709551616=s3 at *
 generalize hk1:a+p0%18446744073709551616=k1 at *
 generalize hk2:b+s1%18446744073709551616+k1 / 18446744073709551616=k2 at *
 generalize hk3:c+s2%18446744073709551616+k2 / 18446744073709551616=k3 at *
 generalize hk4:d+s3%18446744073709551616+k3 / 18446744073709551616=k4 at *
 simp only [etm_0,etm_1,etm_10,etm_11,etm_12,etm_13,etm_2,etm_3,etm_4,etm_5,etm_6,etm_7,etm_8,etm_9,ltm_0,ltm_1,ltm_2,ltm_3,ltm_4,ltm_5,ltm_6,ltm_7,ltm_8,ltm_9,ltm_10,ltm_11,ltm_12,ltm_13,agd_none,Tryd.f80,List.append_eq,List.cons_append,List.nil_append,acodeN,aopsN,astep,aop,ev,nth_lst,aput,setAt_lst,upd_at,init_zero,init_succ,init_nil,Nat.reduceLT,Nat.reduceEqDiff,Option.map_some,List.map_cons,List.map_nil,List.isEmpty_nil,bls,if_true,if_false,b1,fa48_0,fa48_1,fa48_2,fa48_3,load22,g0,g1,g2,g3,callMl,m0,m1,m2,m3,callAdd,extAdd,add64O,add64C,ex0,ex1,hs1,hs2,hs3,hk1,hk2,hk3,hk4,q1,q2,q3,q4,q5,addN,finish,ares,aresL,ares1]
 exact ⟨_,rfl⟩
end
end Go.Am.Seat
namespace Go.Am.Num
set_option maxHeartbeats 4000000
theorem wd_add (i k S:Nat):wd (i+k) S=wd k (S / 18446744073709551616^i):=by
 unfold wd
 rw [Nat.pow_add,Nat.div_div_eq_div_mul]
theorem wd_big {k V:Nat} (h:V<18446744073709551616^k):wd k V=0:=by
 unfold wd
 rw [Nat.div_eq_of_lt h]
theorem wd_low {i j:Nat} (h:j<i) (S c:Nat):wd j (S+c*18446744073709551616^i)=wd j S:=by
 unfold wd
 obtain ⟨d,rfl⟩:∃ d,i=j+(d+1):=⟨i-j-1,by omega⟩
 rw [Nat.pow_add,←Nat.mul_assoc,Nat.mul_right_comm,Nat.add_mul_div_right _ _ (Nat.pow_pos (by decide)),Nat.pow_succ,←Nat.mul_assoc,Nat.add_mul_mod_self_right]
theorem round_ok {X n S V S' i:Nat} (hX:X<115792089237316195423570985008687907853269984665640564039457584007913129639936) (hn:n<18446744073709551616) (hS:S<18446744073709551616^(i+4))
  (hV:V=X*n+S / 18446744073709551616^i) (hS':S'=S+X*n*18446744073709551616^i) (j:Nat) :
  (if j=i+4 then wd 4 V else if j=i+3 then wd 3 V else if j=i+2 then wd 2 V else if j=i+1 then wd 1 V else if j=i then wd 0 V else wd j S)=wd j S':=by
 have hpos:0<18446744073709551616^i:=Nat.pow_pos (by decide)
 have hd:S' / 18446744073709551616^i=V:=by
  rw [hS',Nat.add_mul_div_right _ _ hpos,hV,Nat.add_comm]
 have hw:∀ k,wd (i+k) S'=wd k V:=fun k=>by rw [wd_add,hd]
 by_cases h4:j=i+4
 ·rw [if_pos h4,h4,hw]
 rw [if_neg h4]
 by_cases h3:j=i+3
 ·rw [if_pos h3,h3,hw]
 rw [if_neg h3]
 by_cases h2:j=i+2
 ·rw [if_pos h2,h2,hw]
 rw [if_neg h2]
 by_cases h1:j=i+1
 ·rw [if_pos h1,h1,hw]
 rw [if_neg h1]
 by_cases h0:j=i
 ·rw [if_pos h0,h0,←hw 0,Nat.add_zero]
 rw [if_neg h0]
 by_cases hl:j<i
 ·rw [hS',wd_low hl]
 ·obtain ⟨d,rfl⟩:∃ d,j=i+(5+d):=⟨j-i-5,by omega⟩
  have hq:S / 18446744073709551616^i<18446744073709551616^4:=by
   rw [Nat.div_lt_iff_lt_mul hpos,←Nat.pow_add,Nat.add_comm 4]
   exact hS
  have hVb:V<18446744073709551616^5:=by
   have h:=Nat.mul_le_mul (Nat.le_sub_one_of_lt hX) (Nat.le_sub_one_of_lt hn)
   rw [hV]
   have e5:(18446744073709551616:Nat)^5=115792089237316195423570985008687907853269984665640564039457584007913129639936*18446744073709551616:=by decide
   have e4:(18446744073709551616:Nat)^4=115792089237316195423570985008687907853269984665640564039457584007913129639936:=by decide
   rw [e4] at hq
   rw [e5]
   omega
  have hge:18446744073709551616^5≤18446744073709551616^(5+d):=Nat.pow_le_pow_right (by decide) (by omega)
  have hge4:18446744073709551616^4≤18446744073709551616^(5+d):=Nat.pow_le_pow_right (by decide) (by omega)
  rw [hw,wd_add,wd_big (Nat.lt_of_lt_of_le hVb hge),wd_big (Nat.lt_of_lt_of_le hq hge4)]
theorem prod_step (X Y i:Nat):X*(Y%18446744073709551616^(i+1))=X*(Y%18446744073709551616^i)+X*wd i Y*18446744073709551616^i:=by
 rw [Nat.mod_pow_succ,Nat.mul_add,Nat.mul_comm (18446744073709551616^i),Nat.mul_assoc]
 rfl
theorem prod_lt {X:Nat} (hX:X<115792089237316195423570985008687907853269984665640564039457584007913129639936) (Y i:Nat):X*(Y%18446744073709551616^i)<18446744073709551616^(i+4):=by
 have hpos:0<18446744073709551616^i:=Nat.pow_pos (by decide)
 have h1:Y%18446744073709551616^i<18446744073709551616^i:=Nat.mod_lt _ hpos
 have e4:(18446744073709551616:Nat)^4=115792089237316195423570985008687907853269984665640564039457584007913129639936:=by decide
 rw [Nat.pow_add,e4,Nat.mul_comm]
 exact Nat.mul_lt_mul_of_lt_of_le h1 (Nat.le_of_lt hX) (by omega)
theorem v4_at {i S:Nat} (hS:S<18446744073709551616^(i+4)):v4 (wd i S) (wd (i+1) S) (wd (i+2) S) (wd (i+3) S)=S / 18446744073709551616^i:=by
 have hpos:0<18446744073709551616^i:=Nat.pow_pos (by decide)
 have h0:wd i S=wd 0 (S / 18446744073709551616^i):=wd_add i 0 S
 rw [h0,wd_add,wd_add,wd_add]
 apply v4_wd
 have e4:(18446744073709551616:Nat)^4=115792089237316195423570985008687907853269984665640564039457584007913129639936:=by decide
 rw [←e4,Nat.div_lt_iff_lt_mul hpos,←Nat.pow_add,Nat.add_comm 4]
 exact hS
theorem v4_low (S:Nat):v4 (wd 0 S) (wd 1 S) (wd 2 S) (wd 3 S)=S%115792089237316195423570985008687907853269984665640564039457584007913129639936:=by
 simp only [wd_0,wd_1,wd_2,wd_3,v4]
 omega
theorem fold_ok {S V:Nat} (hS:S<18446744073709551616^8) (hV:V=S / 115792089237316195423570985008687907853269984665640564039457584007913129639936*38+S%115792089237316195423570985008687907853269984665640564039457584007913129639936) :
  wd 4 V<4294967296∧v4 (wd 0 V) (wd 1 V) (wd 2 V) (wd 3 V)+wd 4 V*115792089237316195423570985008687907853269984665640564039457584007913129639936=V∧
  V%57896044618658097711785492504343953926634992332820282019728792003956564819949=S%57896044618658097711785492504343953926634992332820282019728792003956564819949:=by
 have e8:(18446744073709551616:Nat)^8=115792089237316195423570985008687907853269984665640564039457584007913129639936*115792089237316195423570985008687907853269984665640564039457584007913129639936:=by decide
 rw [e8] at hS
 have hu:S / 115792089237316195423570985008687907853269984665640564039457584007913129639936<115792089237316195423570985008687907853269984665640564039457584007913129639936:=by omega
 have hVS:S=V+S / 115792089237316195423570985008687907853269984665640564039457584007913129639936*2*57896044618658097711785492504343953926634992332820282019728792003956564819949:=by omega
 have hV2:V<39*115792089237316195423570985008687907853269984665640564039457584007913129639936:=by omega
 have hq:V / 115792089237316195423570985008687907853269984665640564039457584007913129639936<39:=by
  clear hVS hV hS hu e8
  omega
 have hw:wd 4 V=V / 115792089237316195423570985008687907853269984665640564039457584007913129639936:=by
  rw [wd_4]
  exact Nat.mod_eq_of_lt (by omega)
 refine ⟨by omega,?_,?_⟩
 ·rw [v4_low,hw]
  clear hVS hV hS hu e8
  omega
 ·have:S%57896044618658097711785492504343953926634992332820282019728792003956564819949=(V+S / 115792089237316195423570985008687907853269984665640564039457584007913129639936*2*57896044618658097711785492504343953926634992332820282019728792003956564819949)%57896044618658097711785492504343953926634992332820282019728792003956564819949:=congrArg (· % _) hVS
  rw [this,Nat.add_mul_mod_self_right]
end Go.Am.Num
namespace Go.Am.Seat
open Go.Proofs Go.Am Go.Am.Num
set_option maxHeartbeats 4000000
theorem cellS (m:Mem) (b o:Nat):cellAt (m.map sealed) b o=cellAt m b o:=by
 unfold cellAt
 rw [look_sealed]
 cases look m b<;>rfl
theorem cellK {m:Mem} {q:Nat} {ro:Bool} {e:TypeId} {k:IntKind} {n j:Nat} {w:Nat→Nat} (h:m[q]? = some (.row ro e (rowK k n w))) (hj:j<n):cellAt m q j=some (.int k ((w j:Nat):Int)):=by
 unfold cellAt
 rw [look_row h]
 exact rowK_get hj
theorem idx87_0 (a b c d:Nat):aindex E.P 84 (st4 a b c d) (.int .i64 ((0:Nat):Int))=some (.int .u64 ((a:Nat):Int)):=by kernel_rfl
theorem idx87_1 (a b c d:Nat):aindex E.P 84 (st4 a b c d) (.int .i64 ((1:Nat):Int))=some (.int .u64 ((b:Nat):Int)):=by kernel_rfl
theorem idx87_2 (a b c d:Nat):aindex E.P 84 (st4 a b c d) (.int .i64 ((2:Nat):Int))=some (.int .u64 ((c:Nat):Int)):=by kernel_rfl
theorem idx87_3 (a b c d:Nat):aindex E.P 84 (st4 a b c d) (.int .i64 ((3:Nat):Int))=some (.int .u64 ((d:Nat):Int)):=by kernel_rfl
theorem idx87 {a b c d i:Nat} (w:Nat→Nat) (h0:w 0=a) (h1:w 1=b) (h2:w 2=c) (h3:w 3=d) (hi:i<4):aindex E.P 84 (st4 a b c d) (.int .i64 (i:Nat))=some (.int .u64 ((w i:Nat):Int)):=by
 subst h0 h1 h2 h3
 match i,hi with
 | 0,_=>exact idx87_0 _ _ _ _
 | 1,_=>exact idx87_1 _ _ _ _
 | 2,_=>exact idx87_2 _ _ _ _
 | 3,_=>exact idx87_3 _ _ _ _
theorem wk {i:Nat} (k:Nat) (hi:i<1000) (hk:k<1000):wrapF .i64 (((i:Nat):Int)+((k:Nat):Int))=((i+k:Nat):Int):=by
 rw [wrap_i64 (by omega) (by omega)]; omega
theorem callTm:callableB E.P 80=true:=by kernel_rfl
theorem wrTm:E.wr 80=false:=by kernel_rfl
theorem addr88:addrT E.P 4 107=false:=by kernel_rfl
theorem callSe:callableB E.P 81=true:=by kernel_rfl
section
variable {self:Self} {nf:Nat} {M:Mem} {F:Nat→Value} {X Y S i p q:Nat}
theorem iterFm (h2:F 2=.pointer (some ⟨p,0,none⟩)) (h5:F 5=.pointer (some ⟨q,0,none⟩)) (h17:F 17=st4 (wd 0 Y) (wd 1 Y) (wd 2 Y) (wd 3 Y)) (h18:F 18=.int .i64 (i:Nat)) (hi:i<4)
  (hX:X<115792089237316195423570985008687907853269984665640564039457584007913129639936) (hS:S<18446744073709551616^(i+4))
  (hp:M[p]? = some (.row false 56 (c4 (wd 0 X) (wd 1 X) (wd 2 X) (wd 3 X)))) (hq:M[q]? = some (.row false 23 (rowK .u64 8 fun j=>wd j S)))
  (htm:∀ x0 x1 x2 x3 n a b c d V:Nat,x0<18446744073709551616→x1<18446744073709551616→x2<18446744073709551616→x3<18446744073709551616→n<18446744073709551616→a<18446744073709551616→b<18446744073709551616→c<18446744073709551616→d<18446744073709551616→V=v4 x0 x1 x2 x3*n+v4 a b c d→
   Ans self 80 [st4 x0 x1 x2 x3,.int .u64 (n:Nat),.int .u64 (a:Nat),.int .u64 (b:Nat),.int .u64 (c:Nat),.int .u64 (d:Nat)] (tup5 (wd 0 V) (wd 1 V) (wd 2 V) (wd 3 V) (wd 4 V))) :
  ∃ F' M',acodeN E self nf lpfm_0 (lst F 86) M=some (.normal,lst F' 86,M')∧F' 2=F 2∧F' 4=F 4∧F' 5=F 5∧F' 17=F 17∧F' 18=.int .i64 ((i+1:Nat):Int)∧
   M'[q]? = some (.row false 23 (rowK .u64 8 fun j=>wd j (S+X*wd i Y*18446744073709551616^i)))∧(∀ b,b≠q→M'[b]? = M[b]?):=by
 have hlt:decide (((i:Nat):Int)<4)=true:=decide_eq_true (by omega)
 have e1:wrapF .i64 (((i:Nat):Int)+1)=((i+1:Nat):Int):=wk 1 (by omega) (by omega)
 have e2:wrapF .i64 (((i:Nat):Int)+2)=((i+2:Nat):Int):=wk 2 (by omega) (by omega)
 have e3:wrapF .i64 (((i:Nat):Int)+3)=((i+3:Nat):Int):=wk 3 (by omega) (by omega)
 have e4:wrapF .i64 (((i:Nat):Int)+4)=((i+4:Nat):Int):=wk 4 (by omega) (by omega)
 have ix:=idx87 (i:=i) (fun j=>wd j Y) rfl rfl rfl rfl hi
 have i0:=a23.ix (p:=q) (j:=i) (by omega)
 have i1:=a23.ix (p:=q) (j:=i+1) (by omega)
 have i2:=a23.ix (p:=q) (j:=i+2) (by omega)
 have i3:=a23.ix (p:=q) (j:=i+3) (by omega)
 have i4:=a23.ix (p:=q) (j:=i+4) (by omega)
 have c0:cellAt (M.map sealed) q i=some (.int .u64 ((wd i S:Nat):Int)):=by rw [cellS]; exact cellK hq (by omega)
 have c1:cellAt (M.map sealed) q (i+1)=some (.int .u64 ((wd (i+1) S:Nat):Int)):=by rw [cellS]; exact cellK hq (by omega)
 have c2:cellAt (M.map sealed) q (i+2)=some (.int .u64 ((wd (i+2) S:Nat):Int)):=by rw [cellS]; exact cellK hq (by omega)
 have c3:cellAt (M.map sealed) q (i+3)=some (.int .u64 ((wd (i+3) S:Nat):Int)):=by rw [cellS]; exact cellK hq (by omega)
 have lx:aload E.P 56 (.pointer (some ⟨p,0,none⟩)) (M.map sealed)=some (st4 (wd 0 X) (wd 1 X) (wd 2 X) (wd 3 X)):=load48 (ro:=true) (e:=56) (by rw [List.getElem?_map,hp]; rfl)
 obtain ⟨V,hV⟩:∃ V,V=X*wd i Y+S / 18446744073709551616^i:=⟨_,rfl⟩
 have hc:=htm (wd 0 X) (wd 1 X) (wd 2 X) (wd 3 X) (wd i Y) (wd i S) (wd (i+1) S) (wd (i+2) S) (wd (i+3) S) V (wd_lt _ _) (wd_lt _ _) (wd_lt _ _) (wd_lt _ _) (wd_lt _ _) (wd_lt _ _) (wd_lt _ _) (wd_lt _ _) (wd_lt _ _) (by rw [v4_wd hX,v4_at hS]; exact hV)
 unfold Ans at hc
 have hro:=round_ok hX (wd_lt i Y) hS hV rfl
 have s0:=a23.storeE (x:=wd 0 V) hq (j:=i) (by omega)
 obtain ⟨M1,hM1⟩:∃ M1,M1=M.set q (.row false 23 (rowK .u64 8 fun j=>if j=i then wd 0 V else wd j S)):=⟨_,rfl⟩
 rw [←hM1] at s0
 have g1:M1[q]? = some (.row false 23 (rowK .u64 8 fun j=>if j=i then wd 0 V else wd j S)):=by rw [hM1,List.getElem?_set_self (lt_of_at hq)]
 have s1:=a23.storeE (x:=wd 1 V) g1 (j:=i+1) (by omega)
 obtain ⟨M2,hM2⟩:∃ M2,M2=M1.set q (.row false 23 (rowK .u64 8 fun j=>if j=i+1 then wd 1 V else if j=i then wd 0 V else wd j S)):=⟨_,rfl⟩
 rw [←hM2] at s1
 have g2:M2[q]? = some (.row false 23 (rowK .u64 8 fun j=>if j=i+1 then wd 1 V else if j=i then wd 0 V else wd j S)):=by rw [hM2,List.getElem?_set_self (lt_of_at g1)]
 have s2:=a23.storeE (x:=wd 2 V) g2 (j:=i+2) (by omega)
 obtain ⟨M3,hM3⟩:∃ M3,M3=M2.set q (.row false 23 (rowK .u64 8 fun j=>if j=i+2 then wd 2 V else if j=i+1 then wd 1 V else if j=i then wd 0 V else wd j S)):=⟨_,rfl⟩
 rw [←hM3] at s2
 have g3:M3[q]? = some (.row false 23 (rowK .u64 8 fun j=>if j=i+2 then wd 2 V else if j=i+1 then wd 1 V else if j=i then wd 0 V else wd j S)):=by rw [hM3,List.getElem?_set_self (lt_of_at g2)]
 have s3:=a23.storeE (x:=wd 3 V) g3 (j:=i+3) (by omega)
 obtain ⟨M4,hM4⟩:∃ M4,M4=M3.set q (.row false 23 (rowK .u64 8 fun j=>if j=i+3 then wd 3 V else if j=i+2 then wd 2 V else if j=i+1 then wd 1 V else if j=i then wd 0 V else wd j S)):=⟨_,rfl⟩
 rw [←hM4] at s3
 have g4:M4[q]? = some (.row false 23 (rowK .u64 8 fun j=>if j=i+3 then wd 3 V else if j=i+2 then wd 2 V else if j=i+1 then wd 1 V else if j=i then wd 0 V else wd j S)):=by rw [hM4,List.getElem?_set_self (lt_of_at g3)]
 have s4:=a23.storeE (x:=wd 4 V) g4 (j:=i+4) (by omega)
 obtain ⟨M5,hM5⟩:∃ M5,M5=M4.set q (.row false 23 (rowK .u64 8 fun j=>if j=i+4 then wd 4 V else if j=i+3 then wd 3 V else if j=i+2 then wd 2 V else if j=i+1 then wd 1 V else if j=i then wd 0 V else wd j S)):=⟨_,rfl⟩
 rw [←hM5] at s4
 have g5:M5[q]? = some (.row false 23 (rowK .u64 8 fun j=>wd j (S+X*wd i Y*18446744073709551616^i))):=by
  rw [hM5,List.getElem?_set_self (lt_of_at g4)]
  exact congrArg (fun l=>some (Blk.row false 23 l)) (rowK_ext fun j _=>hro j)
 have hoth:∀ b,b≠q→M5[b]? = M[b]? := fun b hb=>by
  rw [hM5,List.getElem?_set_ne (fun e=>hb e.symm),hM4,List.getElem?_set_ne (fun e=>hb e.symm),hM3,List.getElem?_set_ne (fun e=>hb e.symm),hM2,List.getElem?_set_ne (fun e=>hb e.symm),hM1,List.getElem?_set_ne (fun e=>hb e.symm)]
 clear hro hM1 hM2 hM3 hM4 hM5 g1 g2 g3 g4 hV htm
 generalize wd 0 V=V0 at *
 generalize wd 1 V=V1 at *
 generalize wd 2 V=V2 at *
 generalize wd 3 V=V3 at *
 generalize wd 4 V=V4 at *
 generalize wd i Y=yi at *
 generalize wd i S=si at *
 generalize wd (i+1) S=si1 at *
 generalize wd (i+2) S=si2 at *
 generalize wd (i+3) S=si3 at *
 generalize st4 (wd 0 Y) (wd 1 Y) (wd 2 Y) (wd 3 Y)=vy at *
 simp only [lpfm_0_eq,↓dfm_5,↓sfm_5,efm_3,efm_4,efm_5,efm_6,lfm_3,lfm_4,lfm_5,lfm_6,agd_none,Tryd.f56,List.append_eq,List.cons_append,List.nil_append,acodeN,aopsN,adrawT,cls,astep,aop,afloat,ev,nth_lst,aput,setAt_lst,upd_at,Nat.reduceLT,Nat.reduceEqDiff,Option.map_some,List.map_cons,List.map_nil,List.isEmpty_nil,bls,Bool.false_eq_true,if_true,if_false,List.length_map,h2,h5,h17,h18,lss64,hlt,ix,add64',e1,e2,e3,e4,lx,i0,i1,i2,i3,i4,a23.loadE,c0,c1,c2,c3,callTm,wrTm,addr88,hc,ex50,ex51,ex52,ex53,ex54,s0,s1,s2,s3,s4]
 exact ⟨_,_,rfl,by simp only [upd_at,Nat.reduceEqDiff,reduceIte,h2],rfl,by simp only [upd_at,Nat.reduceEqDiff,reduceIte,h5],by simp only [upd_at,Nat.reduceEqDiff,reduceIte,h17],rfl,g5,hoth⟩
end
set_option maxHeartbeats 4000000
def TimesOk (self:Self):Prop:=∀ x0 x1 x2 x3 n a b c d V:Nat,x0<18446744073709551616→x1<18446744073709551616→x2<18446744073709551616→x3<18446744073709551616→n<18446744073709551616→a<18446744073709551616→b<18446744073709551616→c<18446744073709551616→d<18446744073709551616→V=v4 x0 x1 x2 x3*n+v4 a b c d→
   Ans self 80 [st4 x0 x1 x2 x3,.int .u64 (n:Nat),.int .u64 (a:Nat),.int .u64 (b:Nat),.int .u64 (c:Nat),.int .u64 (d:Nat)] (tup5 (wd 0 V) (wd 1 V) (wd 2 V) (wd 3 V) (wd 4 V))
def SettleOk (self:Self):Prop:=∀ a b c d more:Nat,a<18446744073709551616→b<18446744073709551616→c<18446744073709551616→d<18446744073709551616→more<4294967296→
   Ans self 81 [.int .u64 (a:Nat),.int .u64 (b:Nat),.int .u64 (c:Nat),.int .u64 (d:Nat),.int .u64 (more:Nat)] (el ((v4 a b c d+more*115792089237316195423570985008687907853269984665640564039457584007913129639936)%P25519))
section
variable {self:Self} {nf:Nat} {M:Mem} {F:Nat→Value} {X Y i p q:Nat}
theorem lastFm (h18:F 18=.int .i64 (i:Nat)) (hi:4≤i):∃ F',acodeN E self nf lpfm_0 (lst F 86) M=some (.exit 0,lst F' 86,M)∧F' 4=F 4∧F' 5=F 5:=by
 have hlt:decide (((i:Nat):Int)<4)=false:=decide_eq_false (by omega)
 simp only [lpfm_0_eq,efm_3,lfm_3,agd_none,Tryd.f56,List.append_eq,List.cons_append,List.nil_append,acodeN,aopsN,astep,aop,ev,nth_lst,aput,setAt_lst,upd_at,Nat.reduceLT,if_true,h18,lss64,hlt]
 exact ⟨_,rfl,rfl,rfl⟩
theorem loopFm (h2:F 2=.pointer (some ⟨p,0,none⟩)) (h5:F 5=.pointer (some ⟨q,0,none⟩)) (h17:F 17=st4 (wd 0 Y) (wd 1 Y) (wd 2 Y) (wd 3 Y)) (h18:F 18=.int .i64 0)
  (hX:X<115792089237316195423570985008687907853269984665640564039457584007913129639936) (hpq:p≠q)
  (hp:M[p]? = some (.row false 56 (c4 (wd 0 X) (wd 1 X) (wd 2 X) (wd 3 X)))) (hq:M[q]? = some (.row false 23 (rowK .u64 8 fun _=>0))) (htm:TimesOk self) (hf:10<nf) :
  ∃ F' M',aloop (acodeN E self nf lpfm_0) nf (lst F 86) M=some (.exit 0,lst F' 86,M')∧F' 4=F 4∧F' 5=F 5∧
   M'[q]? = some (.row false 23 (rowK .u64 8 fun j=>wd j (X*(Y%18446744073709551616^4))))∧(∀ b,b≠q→M'[b]? = M[b]?):=by
 have hloop:=aloop_inv (body:=acodeN E self nf lpfm_0) (N:=4)
  (I:=fun i T m'=>m'[q]? = some (.row false 23 (rowK .u64 8 fun j=>wd j (X*(Y%18446744073709551616^i))))∧(∀ b,b≠q→m'[b]? = M[b]?)∧∃ G,T=lst G 86∧G 2=F 2∧G 4=F 4∧G 5=F 5∧G 17=F 17∧G 18=.int .i64 (i:Nat))
  (Q:=fun e T m'=>e=.exit 0∧m'[q]? = some (.row false 23 (rowK .u64 8 fun j=>wd j (X*(Y%18446744073709551616^4))))∧(∀ b,b≠q→m'[b]? = M[b]?)∧∃ G,T=lst G 86∧G 4=F 4∧G 5=F 5) (fun i T m' hi hI=>by
   obtain ⟨gq,ho,G,rfl,g2,g4,g5,g17,g18⟩:=hI
   by_cases hlt:i<4
   ·left
    obtain ⟨F',M',hr,f2,f4,f5,f17,f18,k1,k2⟩:=iterFm (self:=self) (nf:=nf) (X:=X) (g2.trans h2) (g5.trans h5) (g17.trans h17) g18 hlt hX (prod_lt hX Y i) (by rw [ho p hpq]; exact hp) gq htm
    refine ⟨_,_,hr,hlt,?_,fun b hb=>by rw [k2 b hb,ho b hb],F',rfl,f2.trans g2,f4.trans g4,f5.trans g5,f17.trans g17,f18⟩
    rw [k1,←prod_step]
   ·right
    obtain ⟨F',hr,f4,f5⟩:=lastFm (self:=self) (nf:=nf) (M:=m') g18 (by omega)
    have:i=4:=by omega
    subst this
    exact ⟨_,_,_,hr,by simp,rfl,gq,ho,F',rfl,f4.trans g4,f5.trans g5⟩)
 obtain ⟨e,T',M',hr,rfl,gq,ho,G,rfl,g4,g5⟩:=hloop 4 0 nf (lst F 86) M (by omega) (by omega) ⟨by
  rw [hq]
  refine congrArg (fun l=>some (Blk.row false 23 l)) (rowK_ext fun j _=>?_)
  rw [Nat.pow_zero,Nat.mod_one,Nat.mul_zero]
  simp [wd],fun _ _=>rfl,F,rfl,rfl,rfl,rfl,rfl,h18⟩
 exact ⟨G,M',hr,g4,g5,gq,ho⟩
theorem fm_body {m:Mem} (hX:X<115792089237316195423570985008687907853269984665640564039457584007913129639936) (hY:Y<115792089237316195423570985008687907853269984665640564039457584007913129639936) (htm:TimesOk self) (hse:SettleOk self) (hf:10<nf) :
  ∃ m',abody E self nf 56 [el X,el Y] m=some (el (X*Y%P25519),m'):=by
 rw [abody_eqF (by kernel_rfl) Tryd.func56 bodyfm (by kernel_rfl) (Nat.le_of_ble_eq_true rfl)]
 rw [show Tryd.f56.ntmps=86 from rfl]
 have b1:=box48 (wd 0 X) (wd 1 X) (wd 2 X) (wd 3 X) m
 generalize hA:m++[Blk.row false 56 (c4 (wd 0 X) (wd 1 X) (wd 2 X) (wd 3 X))]=A at b1
 have lA:A.length=m.length+1:=by rw [←hA]; simp
 have b2:=box48 (wd 0 Y) (wd 1 Y) (wd 2 Y) (wd 3 Y) A
 rw [lA] at b2
 generalize hB:A++[Blk.row false 56 (c4 (wd 0 Y) (wd 1 Y) (wd 2 Y) (wd 3 Y))]=B at b2
 have lB:B.length=m.length+2:=by rw [←hB]; simp [lA]
 have b3:=alloc48 B
 rw [lB] at b3
 generalize hC:B++[Blk.row false 56 (c4 0 0 0 0)]=C at b3
 have lC:C.length=m.length+3:=by rw [←hC]; simp [lB]
 have b4:=alloc23 C
 rw [lC] at b4
 generalize hD:C++[Blk.row false 23 (rowK .u64 8 fun _=>0)]=D at b4
 have gx:D[m.length]? = some (.row false 56 (c4 (wd 0 X) (wd 1 X) (wd 2 X) (wd 3 X))):=by
  rw [←hD,List.getElem?_append_left (by omega),←hC,List.getElem?_append_left (by omega),←hB,List.getElem?_append_left (by omega),←hA]; simp
 have gy:D[m.length+1]? = some (.row false 56 (c4 (wd 0 Y) (wd 1 Y) (wd 2 Y) (wd 3 Y))):=by
  rw [←hD,List.getElem?_append_left (by omega),←hC,List.getElem?_append_left (by omega),←hB,List.getElem?_append_right (by omega),lA]; simp
 have gr:D[m.length+2]? = some (.row false 56 (c4 0 0 0 0)):=by
  rw [←hD,List.getElem?_append_left (by omega),←hC,List.getElem?_append_right (by omega),lB]; simp
 have gs:D[m.length+3]? = some (.row false 23 (rowK .u64 8 fun _=>0)):=by
  rw [←hD,List.getElem?_append_right (by omega),lC]; simp
 obtain ⟨y0,y1,y2,y3⟩:=cell4 gy
 obtain ⟨G,M1,hl,g4,g5,ks,ko⟩:=loopFm (self:=self) (nf:=nf) (M:=D) (p:=m.length) (q:=m.length+3) (X:=X) (Y:=Y) (F:=upd (upd (upd (upd (upd (upd (upd (upd (upd (upd (upd (upd (upd (upd (init [el X,el Y]) 2 (.pointer (some ⟨m.length,0,none⟩))) 3 (.pointer (some ⟨m.length+1,0,none⟩))) 4 (.pointer (some ⟨m.length+2,0,none⟩))) 5 (.pointer (some ⟨m.length+3,0,none⟩))) 9 (.pointer (some ⟨m.length+1,0,none⟩))) 10 (.int .u64 (wd 0 Y:Nat))) 11 (.pointer (some ⟨m.length+1,1,none⟩))) 12 (.int .u64 (wd 1 Y:Nat))) 13 (.pointer (some ⟨m.length+1,2,none⟩))) 14 (.int .u64 (wd 2 Y:Nat))) 15 (.pointer (some ⟨m.length+1,3,none⟩))) 16 (.int .u64 (wd 3 Y:Nat))) 17 (st4 (wd 0 Y) (wd 1 Y) (wd 2 Y) (wd 3 Y))) 18 (.int .i64 0)) rfl rfl rfl rfl hX (by omega) gx gs htm hf
 have g4':G 4=.pointer (some ⟨m.length+2,0,none⟩):=g4
 have g5':G 5=.pointer (some ⟨m.length+3,0,none⟩):=g5
 have e4:(18446744073709551616:Nat)^4=115792089237316195423570985008687907853269984665640564039457584007913129639936:=by decide
 rw [e4,Nat.mod_eq_of_lt hY] at ks
 obtain ⟨S,hS⟩:∃ S,S=X*Y:=⟨_,rfl⟩
 rw [←hS] at ks
 have hSb:S<18446744073709551616^8:=by
  have e8:(18446744073709551616:Nat)^8=115792089237316195423570985008687907853269984665640564039457584007913129639936*115792089237316195423570985008687907853269984665640564039457584007913129639936:=by decide
  rw [hS,e8]
  exact Nat.mul_lt_mul'' hX hY
 have kr:M1[m.length+2]? = some (.row false 56 (c4 0 0 0 0)):=by rw [ko _ (by omega)]; exact gr
 have hlM1:m.length+3<M1.length:=lt_of_at ks
 have i0:=a23.ix (p:=m.length+3) (j:=0) (by omega)
 have i1:=a23.ix (p:=m.length+3) (j:=1) (by omega)
 have i2:=a23.ix (p:=m.length+3) (j:=2) (by omega)
 have i3:=a23.ix (p:=m.length+3) (j:=3) (by omega)
 have i4:=a23.ix (p:=m.length+3) (j:=4) (by omega)
 have i5:=a23.ix (p:=m.length+3) (j:=5) (by omega)
 have i6:=a23.ix (p:=m.length+3) (j:=6) (by omega)
 have i7:=a23.ix (p:=m.length+3) (j:=7) (by omega)
 simp only [Int.cast_ofNat_Int] at i0 i1 i2 i3 i4 i5 i6 i7
 have c4':=cellK (j:=4) ks (by omega)
 have c5':=cellK (j:=5) ks (by omega)
 have c6':=cellK (j:=6) ks (by omega)
 have c7':=cellK (j:=7) ks (by omega)
 have b5:=alloc48 M1
 generalize hN:M1++[Blk.row false 56 (c4 0 0 0 0)]=N at b5
 have gn:N[M1.length]? = some (.row false 56 (c4 0 0 0 0)):=by rw [←hN]; simp
 have st1:=store48 (a:=wd 4 S) (b:=wd 5 S) (c:=wd 6 S) (d:=wd 7 S) gn rfl
 obtain ⟨N2,hN2⟩:∃ N2,N2=N.set M1.length (.row false 56 (c4 (wd 4 S) (wd 5 S) (wd 6 S) (wd 7 S))):=⟨_,rfl⟩
 rw [←hN2] at st1
 have lt:=load48 (m:=N2) (p:=M1.length) (a:=wd 4 S) (b:=wd 5 S) (c:=wd 6 S) (d:=wd 7 S) (by rw [hN2,List.getElem?_set_self (lt_of_at gn)])
 have hN2o:∀ b,b<M1.length→N2[b]? = M1[b]? := fun b hb=>by rw [hN2,List.getElem?_set_ne (by omega),←hN,List.getElem?_append_left hb]
 have ks2:N2[m.length+3]? = some (.row false 23 (rowK .u64 8 fun j=>wd j S)):=by rw [hN2o _ hlM1]; exact ks
 have kr2:N2[m.length+2]? = some (.row false 56 (c4 0 0 0 0)):=by rw [hN2o _ (by omega)]; exact kr
 have d0:=cellK (j:=0) ks2 (by omega)
 have d1:=cellK (j:=1) ks2 (by omega)
 have d2:=cellK (j:=2) ks2 (by omega)
 have d3:=cellK (j:=3) ks2 (by omega)
 obtain ⟨V,hV⟩:∃ V,V=S / 115792089237316195423570985008687907853269984665640564039457584007913129639936*38+S%115792089237316195423570985008687907853269984665640564039457584007913129639936:=⟨_,rfl⟩
 have hv4:v4 (wd 4 S) (wd 5 S) (wd 6 S) (wd 7 S)=S / 115792089237316195423570985008687907853269984665640564039457584007913129639936:=by
  rw [←e4]; exact v4_at (i:=4) hSb
 have ct:=htm (wd 4 S) (wd 5 S) (wd 6 S) (wd 7 S) 38 (wd 0 S) (wd 1 S) (wd 2 S) (wd 3 S) V (wd_lt _ _) (wd_lt _ _) (wd_lt _ _) (wd_lt _ _) (by decide) (wd_lt _ _) (wd_lt _ _) (wd_lt _ _) (wd_lt _ _) (by rw [hv4,v4_low]; exact hV)
 obtain ⟨f1,f2,f3⟩:=fold_ok hSb hV
 have cs:=hse (wd 0 V) (wd 1 V) (wd 2 V) (wd 3 V) (wd 4 V) (wd_lt _ _) (wd_lt _ _) (wd_lt _ _) (wd_lt _ _) f1
 rw [f2] at cs
 have f3':V%P25519=S%P25519:=f3
 rw [f3',hS] at cs
 unfold Ans at ct cs
 rw [show (((38:Nat)):Int)=38 from rfl] at ct
 obtain ⟨R,hR⟩:∃ R,R=X*Y%P25519:=⟨_,rfl⟩
 rw [←hR] at cs⊢
 have st2:=store48 (a:=wd 0 R) (b:=wd 1 R) (c:=wd 2 R) (d:=wd 3 R) kr2 rfl
 have ld2:=load48 (m:=N2.set (m.length+2) (.row false 56 (c4 (wd 0 R) (wd 1 R) (wd 2 R) (wd 3 R)))) (p:=m.length+2) (a:=wd 0 R) (b:=wd 1 R) (c:=wd 2 R) (d:=wd 3 R) (by rw [List.getElem?_set_self (lt_of_at kr2)])
 have hel:∀ Z,el Z=st4 (wd 0 Z) (wd 1 Z) (wd 2 Z) (wd 3 Z):=fun _=>rfl
 rw [hel X,hel Y] at hl⊢
 rw [hel R] at cs⊢
 clear hS hSb hV hv4 f1 f2 f3 f3' hR htm hse hN2 hN2o hN hD hC hB hA ko gx gy gr gs kr kr2 ks ks2 g4 g5 gn
 generalize wd 0 S=S0 at *
 generalize wd 1 S=S1 at *
 generalize wd 2 S=S2 at *
 generalize wd 3 S=S3 at *
 generalize wd 4 S=S4 at *
 generalize wd 5 S=S5 at *
 generalize wd 6 S=S6 at *
 generalize wd 7 S=S7 at *
 generalize wd 0 V=V0 at *
 generalize wd 1 V=V1 at *
 generalize wd 2 V=V2 at *
 generalize wd 3 V=V3 at *
 generalize wd 4 V=V4 at *
 generalize wd 0 R=R0 at *
 generalize wd 1 R=R1 at *
 generalize wd 2 R=R2 at *
 generalize wd 3 R=R3 at *
 generalize wd 0 X=X0 at *
 generalize wd 1 X=X1 at *
 generalize wd 2 X=X2 at *
 generalize wd 3 X=X3 at *
 generalize wd 0 Y=Y0 at *
 generalize wd 1 Y=Y1 at *
 generalize wd 2 Y=Y2 at *
 generalize wd 3 Y=Y3 at *
 simp only [efm_0,efm_1,efm_2,efm_7,efm_8,lfm_0,lfm_1,lfm_2,lfm_7,lfm_8,agd_none,Tryd.f56,List.append_eq,List.cons_append,List.nil_append,acodeN,aopsN,astep,aop,ev,nth_lst,aput,setAt_lst,upd_at,init_zero,init_succ,init_nil,Nat.reduceLT,Nat.reduceEqDiff,Option.map_some,List.map_cons,List.map_nil,List.isEmpty_nil,bls,if_true,if_false,b1,b2,b3,b4,fa48_0,fa48_1,fa48_2,fa48_3,load22,y0,y1,y2,y3,apure_build4,build87,build48,hl,g4',g5',i0,i1,i2,i3,i4,i5,i6,i7,c4',c5',c6',c7',b5,st1,lt,d0,d1,d2,d3,callTm,ct,ex50,ex51,ex52,ex53,ex54,callSe,cs,st2,ld2,finish,ares,aresL,ares1]
 exact ⟨_,rfl⟩
end
set_option maxHeartbeats 4000000
section
variable {e:TypeId} {k:IntKind}
theorem pv_eqIntG (hu:E.P.underlying e=some (.int k)) (d:Nat) (a b:Int):pv E.P (Op.equalIn (d+1) e (.int k a) (.int k b))=some (a==b):=by
 unfold Op.equalIn
 rw [pv_bind (pv_und hu)]
 simp
 rfl
theorem pv_partG (ha:pv E.P (isAgg e)=some false) {n:Nat} (w:Nat→Nat) {j:Nat} (h:j<n):pv E.P (part e ⟨rowK k n w⟩ j)=some (.int k ((w j:Nat):Int)):=by
 unfold part
 rw [pv_bind ha]
 have hg:(⟨rowK k n w⟩:Array Value)[j]? = some (.int k ((w j:Nat):Int)):=by
  rw [List.getElem?_toArray,rowK_get h]
 simp only [Bool.false_eq_true,if_false,hg]
 rfl
def eqBodyG (e:TypeId) (k:IntKind) (n:Nat) (u v:Nat→Nat) (i:Nat) (_s:Option Bool×Unit):Sem (ForInStep (Option Bool×Unit)):=do
 let a ←part e ⟨rowK k n u⟩ (i*1)
 let b ←part e ⟨rowK k n v⟩ (i*1)
 let c ←Op.equalIn 9999 e a b
 if (!c)=true then pure (ForInStep.done (some false,())) else pure (ForInStep.yield (none,()))
theorem pv_bodyG (hu:E.P.underlying e=some (.int k)) (ha:pv E.P (isAgg e)=some false) {n:Nat} (u v:Nat→Nat) {i:Nat} (h:i<n) (x:Option Bool×Unit):pv E.P (eqBodyG e k n u v i x)=some (if ((u i:Nat):Int)==((v i:Nat):Int) then ForInStep.yield (none,()) else ForInStep.done (some false,())):=by
 unfold eqBodyG
 rw [Nat.mul_one,pv_bind (pv_partG ha u h),pv_bind (pv_partG ha v h),pv_bind (pv_eqIntG hu 9998 _ _)]
 cases hq:(((u i:Nat):Int)==((v i:Nat):Int))<;>rfl
theorem pv_loopG (hu:E.P.underlying e=some (.int k)) (ha:pv E.P (isAgg e)=some false) {n:Nat} (u v:Nat→Nat):∀ l:List Nat,(∀ i,i∈l→i<n)→pv E.P (forIn l (none,()) (eqBodyG e k n u v))=some (if l.all (fun j=>((u j:Nat):Int)==((v j:Nat):Int)) then (none,()) else (some false,()))
 | [],_=>rfl
 | a::l,h=>by
  rw [List.forIn_cons,pv_bind (pv_bodyG hu ha u v (h a (by simp)) _),List.all_cons]
  cases hq:(((u a:Nat):Int)==((v a:Nat):Int)) with
  | true =>
   simp only [if_true,Bool.true_and]
   exact pv_loopG hu ha u v l fun i hi=>h i (by simp [hi])
  | false=>rfl
theorem pv_equalG {t:TypeId} {n:Nat} (ht:ArrT t n e k) (ha:pv E.P (isAgg e)=some false) (hs:pv E.P (sizeOf e)=some 1) (u v:Nat→Nat):pv E.P (Op.equal t (arrK k n u) (arrK k n v))=some ((List.range n).all fun j=>((u j:Nat):Int)==((v j:Nat):Int)):=by
 unfold Op.equal Op.maxDepth
 rw [show (10000:Nat)=9999+1 from rfl]
 unfold Op.equalIn arrK
 rw [pv_bind (pv_und ht.und)]
 simp only
 rw [pv_bind hs]
 simp only [Std.Legacy.Range.forIn_eq_forIn_range',Std.Legacy.Range.size,Nat.sub_zero,Nat.add_sub_cancel,Nat.div_one]
 have hl:=pv_loopG ht.unde ha u v (List.range n) (fun i hi=>List.mem_range.1 hi)
 rw [List.range_eq_range'] at hl⊢
 show pv E.P (forIn (List.range' 0 n) (none,()) (eqBodyG e k n u v) >>= _)=_
 rw [pv_bind hl]
 cases hq:(List.range' 0 n).all (fun j=>((u j:Nat):Int)==((v j:Nat):Int))<;>rfl
theorem eqlVal_arr {t:TypeId} {n:Nat} (ht:ArrT t n e k) (ha:pv E.P (isAgg e)=some false) (hs:pv E.P (sizeOf e)=some 1) (hq:E.P.eqGuardType E.P.depth t=false) {x y:Operand} (u v:Nat→Nat) :
  eqlVal E.P t x y (arrK k n u) (arrK k n v)=some (.bool ((List.range n).all fun j=>((u j:Nat):Int)==((v j:Nat):Int))):=by
 have hg:pv E.P (eqGuard .eql t x y (arrK k n u) (arrK k n v))=some ():=by
  unfold eqGuard arrK
  simp only [Bool.not_true,Bool.false_eq_true,if_false]
  rw [pv_bind (a:=E.P) rfl,pv_bind (a:=E.P) rfl]
  rw [hq]
  rfl
 have hb:pv E.P (binOp .eql t (arrK k n u) (arrK k n v))=some (.bool ((List.range n).all fun j=>((u j:Nat):Int)==((v j:Nat):Int))):=by
  show pv E.P (Op.equal t (arrK k n u) (arrK k n v) >>= fun c=>pure (Value.bool c))=_
  rw [pv_bind (pv_equalG ht ha hs u v)]
  rfl
 unfold eqlVal
 rw [arrK_lit,arrK_lit]
 simp only [Bool.and_self,if_true]
 rw [pv_bind (a:=Value.bool ((List.range n).all fun j=>((u j:Nat):Int)==((v j:Nat):Int))) (by rw [pv_bind hg,hb])]
 rfl
end
def neqVal (P:Program) (s:TypeId) (x y:Operand) (u v:Value):Option Value :=
 if lit2 u&&(lit2 v&&true) then
  match pv P ((eqGuard .neq s x y u v >>= fun _=>binOp .neq s u v) >>= fun r=>pure (Next.value r)) with
  | some (.value r)=>if lit2 r then some r else none
  | _=>none
 else none
theorem apure_neqV {P:Program} {T:List Value} {d:Option Tmp} {s t ty:TypeId} {x y:Operand} {pos:String} {af:Array Edge} {g:Option (Nat×Bool)} :
  apure P T { dst:=d,op:=.binOp .neq s x y t,type:=ty,pos:=pos,after:=af,guard:=g }=neqVal P s x y (ev T x) (ev T y):=by
 unfold apure neqVal
 simp only [Op.operands,List.all_cons,List.all_nil,execOp]
 rfl
theorem neqVal_arr {e:TypeId} {k:IntKind} {t:TypeId} {n:Nat} (ht:ArrT t n e k) (ha:pv E.P (isAgg e)=some false) (hs:pv E.P (sizeOf e)=some 1) (hq:E.P.eqGuardType E.P.depth t=false) {x y:Operand} (u v:Nat→Nat) :
  neqVal E.P t x y (arrK k n u) (arrK k n v)=some (.bool !((List.range n).all fun j=>((u j:Nat):Int)==((v j:Nat):Int))):=by
 have hg:pv E.P (eqGuard .neq t x y (arrK k n u) (arrK k n v))=some ():=by
  unfold eqGuard arrK
  simp only [Bool.not_true,Bool.false_eq_true,if_false]
  rw [pv_bind (a:=E.P) rfl,pv_bind (a:=E.P) rfl]
  rw [hq]
  rfl
 have hb:pv E.P (binOp .neq t (arrK k n u) (arrK k n v))=some (.bool !((List.range n).all fun j=>((u j:Nat):Int)==((v j:Nat):Int))):=by
  show pv E.P (Op.equal t (arrK k n u) (arrK k n v) >>= fun c=>pure (Value.bool !c))=_
  rw [pv_bind (pv_equalG ht ha hs u v)]
  rfl
 unfold neqVal
 rw [arrK_lit,arrK_lit]
 simp only [Bool.and_self,if_true]
 rw [pv_bind (a:=Value.bool !((List.range n).all fun j=>((u j:Nat):Int)==((v j:Nat):Int))) (by rw [pv_bind hg,hb])]
 rfl
theorem a46:ArrT 54 32 5 .u8:=⟨Tryd.underlying54,und5,info_of (by kernel_rfl),info_of (by kernel_rfl)⟩
theorem eql46 {x y:Operand} (u v:Nat→Nat):eqlVal E.P 54 x y (arrK .u8 32 u) (arrK .u8 32 v)=some (.bool ((List.range 32).all fun j=>((u j:Nat):Int)==((v j:Nat):Int))):=eqlVal_arr a46 (by kernel_rfl) (by kernel_rfl) (by kernel_rfl) u v
theorem neq46 {x y:Operand} (u v:Nat→Nat):neqVal E.P 54 x y (arrK .u8 32 u) (arrK .u8 32 v)=some (.bool !((List.range 32).all fun j=>((u j:Nat):Int)==((v j:Nat):Int))):=neqVal_arr a46 (by kernel_rfl) (by kernel_rfl) (by kernel_rfl) u v
theorem fs48:∃ fs,E.P.underlying 56=some (.struct fs)∧(∀ f∈fs.toList,f.name≠"_"∧f.type=22∧f.offset<4)∧fs.toList.map (·.offset)=[0,1,2,3]:=by
 have h:(match E.P.underlying 56 with | some (.struct fs)=>fs.toList.all (fun f=>decide (f.name≠"_")&&(decide (f.type=22)&&decide (f.offset<4)))&&decide (fs.toList.map (·.offset)=[0,1,2,3]) | _=>false)=true:=by kernel_rfl
 split at h
 ·rename_i fs hfs
  simp only [Bool.and_eq_true,List.all_eq_true,decide_eq_true_eq] at h
  exact ⟨fs,hfs,fun f hf=>⟨(h.1 f hf).1,(h.1 f hf).2.1,(h.1 f hf).2.2⟩,h.2⟩
 ·cases h
theorem st48:E.P.stoodInHeld 56=false:=by kernel_rfl
def eqBodyS (u v:Nat→Nat) (f:Field) (_s:Option Bool×Unit):Sem (ForInStep (Option Bool×Unit)) :=
 if f.name≠"_" then do
  let a ←part f.type ⟨rowK .u64 4 u⟩ f.offset
  let b ←part f.type ⟨rowK .u64 4 v⟩ f.offset
  let c ←Op.equalIn 9999 f.type a b
  if (!c)=true then pure (ForInStep.done (some false,())) else pure (ForInStep.yield (none,()))
 else pure (ForInStep.yield (none,()))
theorem pv_bodyS (u v:Nat→Nat) {f:Field} (h:f.name≠"_"∧f.type=22∧f.offset<4) (x:Option Bool×Unit):pv E.P (eqBodyS u v f x)=some (if ((u f.offset:Nat):Int)==((v f.offset:Nat):Int) then ForInStep.yield (none,()) else ForInStep.done (some false,())):=by
 unfold eqBodyS
 have ha:pv E.P (isAgg 22)=some false:=by kernel_rfl
 rw [if_pos h.1,h.2.1,pv_bind (pv_partG ha u h.2.2),pv_bind (pv_partG ha v h.2.2),pv_bind (pv_eqIntG und22 9998 _ _)]
 cases hq:(((u f.offset:Nat):Int)==((v f.offset:Nat):Int))<;>rfl
theorem pv_loopS (u v:Nat→Nat):∀ l:List Field,(∀ f∈l,f.name≠"_"∧f.type=22∧f.offset<4)→pv E.P (forIn l (none,()) (eqBodyS u v))=some (if (l.map (·.offset)).all (fun j=>((u j:Nat):Int)==((v j:Nat):Int)) then (none,()) else (some false,()))
 | [],_=>rfl
 | a::l,h=>by
  rw [List.forIn_cons,pv_bind (pv_bodyS u v (h a (by simp)) _),List.map_cons,List.all_cons]
  cases hq:(((u a.offset:Nat):Int)==((v a.offset:Nat):Int)) with
  | true =>
   simp only [if_true,Bool.true_and]
   exact pv_loopS u v l fun f hf=>h f (by simp [hf])
  | false=>rfl
theorem pv_equalS (u v:Nat→Nat):pv E.P (Op.equal 56 (arrK .u64 4 u) (arrK .u64 4 v))=some ([0,1,2,3].all fun j=>((u j:Nat):Int)==((v j:Nat):Int)):=by
 obtain ⟨fs,h1,h2,h3⟩:=fs48
 unfold Op.equal Op.maxDepth
 rw [show (10000:Nat)=9999+1 from rfl]
 unfold Op.equalIn arrK
 rw [pv_bind (pv_und h1)]
 simp only
 rw [pv_bind (a:=E.P) rfl,st48]
 simp only [Bool.false_eq_true,if_false]
 have hl:=pv_loopS u v fs.toList h2
 rw [h3] at hl
 rw [←Array.forIn_toList]
 show pv E.P (forIn fs.toList (none,()) (eqBodyS u v) >>= _)=_
 rw [pv_bind hl]
 cases hq:[0,1,2,3].all (fun j=>((u j:Nat):Int)==((v j:Nat):Int))<;>rfl
theorem el_arr (V:Nat):el V=arrK .u64 4 (fun j=>wd j V):=rfl
theorem el_inj {U V:Nat} (hU:U<115792089237316195423570985008687907853269984665640564039457584007913129639936) (hV:V<115792089237316195423570985008687907853269984665640564039457584007913129639936):([0,1,2,3].all fun j=>((wd j U:Nat):Int)==((wd j V:Nat):Int))=decide (U=V):=by
 by_cases h:U=V
 ·subst h; simp
 ·rw [decide_eq_false h]
  cases hq:[0,1,2,3].all (fun j=>((wd j U:Nat):Int)==((wd j V:Nat):Int)) with
  | false=>rfl
  | true =>
   exfalso
   simp only [List.all_cons,List.all_nil,Bool.and_true,Bool.and_eq_true,beq_iff_eq,Int.natCast_inj] at hq
   obtain ⟨q0,q1,q2,q3⟩:=hq
   apply h
   rw [←v4_wd hU,←v4_wd hV,q0,q1,q2,q3]
theorem eql48 {x y:Operand} {U V:Nat} (hU:U<115792089237316195423570985008687907853269984665640564039457584007913129639936) (hV:V<115792089237316195423570985008687907853269984665640564039457584007913129639936):eqlVal E.P 56 x y (el U) (el V)=some (.bool (decide (U=V))):=by
 rw [el_arr,el_arr,←el_inj hU hV]
 suffices key:∀ u v:Nat→Nat,eqlVal E.P 56 x y (arrK .u64 4 u) (arrK .u64 4 v)=some (.bool ([0,1,2,3].all fun j=>((u j:Nat):Int)==((v j:Nat):Int))) from key _ _
 intro u v
 have hq:E.P.eqGuardType E.P.depth 56=false:=by kernel_rfl
 have hg:pv E.P (eqGuard .eql 56 x y (arrK .u64 4 u) (arrK .u64 4 v))=some ():=by
  unfold eqGuard arrK
  simp only [Bool.not_true,Bool.false_eq_true,if_false]
  rw [pv_bind (a:=E.P) rfl,pv_bind (a:=E.P) rfl]
  rw [hq]
  rfl
 have hb:pv E.P (binOp .eql 56 (arrK .u64 4 u) (arrK .u64 4 v))=some (.bool ([0,1,2,3].all fun j=>((u j:Nat):Int)==((v j:Nat):Int))):=by
  show pv E.P (Op.equal 56 (arrK .u64 4 u) (arrK .u64 4 v) >>= fun c=>pure (Value.bool c))=_
  rw [pv_bind (pv_equalS u v)]
  rfl
 unfold eqlVal
 rw [arrK_lit,arrK_lit]
 simp only [Bool.and_self,if_true]
 rw [pv_bind (a:=Value.bool ([0,1,2,3].all fun j=>((u j:Nat):Int)==((v j:Nat):Int))) (by rw [pv_bind hg,hb])]
 rfl
set_option maxHeartbeats 4000000
def rsq_0:=opR Tryd.f78 [0]
def lsq_0:List Oper:=match Tryd.f78.body with
 | some (.seq (.region _ o _) _)=>o.toList
 | _=>[]
theorem esq_0:rsq_0.toList=lsq_0:=rfl
def rsq_1:=opR Tryd.f78 [1,0]
def lsq_1:List Oper:=match Tryd.f78.body with
 | some (.seq _ (.seq (.region _ o _) _))=>o.toList
 | _=>[]
theorem esq_1:rsq_1.toList=lsq_1:=rfl
theorem bodysq:Tryd.f78.body=some (.seq (.region 0 rsq_0 false) (.seq (.region 1 rsq_1 false) .ret)):=rfl
def rze_0:=opR Tryd.f33 [0]
def lze_0:List Oper:=match Tryd.f33.body with
 | some (.seq (.region _ o _) _)=>o.toList
 | _=>[]
theorem eze_0:rze_0.toList=lze_0:=rfl
def rze_1:=opR Tryd.f33 [1,0]
def lze_1:List Oper:=match Tryd.f33.body with
 | some (.seq _ (.seq (.region _ o _) _))=>o.toList
 | _=>[]
theorem eze_1:rze_1.toList=lze_1:=rfl
theorem bodyze:Tryd.f33.body=some (.seq (.region 0 rze_0 false) (.seq (.region 1 rze_1 false) .ret)):=rfl
def TabP (m:Mem):Prop:=m[0]? = some (.tab 24 (int64s primeW))
theorem p_lt:P25519<57896044618658097711785492504343953926634992332820282019728792003956564819968:=by unfold P25519; omega
theorem el_st (V:Nat):el V=st4 (wd 0 V) (wd 1 V) (wd 2 V) (wd 3 V):=rfl
section
variable {self:Self} {nf:Nat} {m:Mem} {X Y:Nat}
theorem callMul:callableB E.P 56=true:=by kernel_rfl
theorem sq_body (hmu:∀ M,ainv E self 56 [el X,el X] M=some (el Y,M)) :
  ∃ m',abody E self nf 78 [el X] m=some (el Y,m'):=by
 rw [abody_eqF (by kernel_rfl) Tryd.func78 bodysq (by kernel_rfl) (Nat.le_of_ble_eq_true rfl)]
 rw [show Tryd.f78.ntmps=6 from rfl]
 have b1:=box48 (wd 0 X) (wd 1 X) (wd 2 X) (wd 3 X) m
 generalize hA:m++[Blk.row false 56 (c4 (wd 0 X) (wd 1 X) (wd 2 X) (wd 3 X))]=A at b1
 have lA:A.length=m.length+1:=by rw [←hA]; simp
 have b3:=alloc48 A
 rw [lA] at b3
 generalize hC:A++[Blk.row false 56 (c4 0 0 0 0)]=C at b3
 have gx:C[m.length]? = some (.row false 56 (c4 (wd 0 X) (wd 1 X) (wd 2 X) (wd 3 X))):=by
  rw [←hC,List.getElem?_append_left (by omega),←hA]; simp
 have gr:C[m.length+1]? = some (.row false 56 (c4 0 0 0 0)):=by
  rw [←hC,List.getElem?_append_right (by omega),lA]; simp
 have lx:=load48 gx
 have st2:=store48 (a:=wd 0 Y) (b:=wd 1 Y) (c:=wd 2 Y) (d:=wd 3 Y) gr rfl
 have ld2:=load48 (m:=C.set (m.length+1) (.row false 56 (c4 (wd 0 Y) (wd 1 Y) (wd 2 Y) (wd 3 Y)))) (p:=m.length+1) (a:=wd 0 Y) (b:=wd 1 Y) (c:=wd 2 Y) (d:=wd 3 Y) (by rw [List.getElem?_set_self (lt_of_at gr)])
 rw [←el_st] at b1 lx st2 ld2
 simp only [esq_0,esq_1,lsq_0,lsq_1,agd_none,Tryd.f78,List.cons_append,List.nil_append,acodeN,aopsN,astep,aop,ev,nth_lst,aput,setAt_lst,upd_at,init_zero,init_succ,init_nil,Nat.reduceLT,Nat.reduceEqDiff,Option.map_some,List.map_cons,List.map_nil,List.isEmpty_nil,bls,if_true,if_false,b1,b3,lx,callMul,hmu,st2,ld2,finish,ares,aresL,ares1]
 exact ⟨_,rfl⟩
end
set_option maxHeartbeats 4000000
def AnsT (self:Self) (f:FuncId) (args:List Value) (v:Value):Prop:=∀ M:Mem,TabP M→ainv E self f args M=some (v,M)
theorem Ans.t {self:Self} {f:FuncId} {args:List Value} {v:Value} (h:Ans self f args v):AnsT self f args v:=fun M _=>h M
theorem TabP.app {m x:Mem} (h:TabP m):TabP (m++x):=by
 unfold TabP at *
 rw [List.getElem?_append_left (List.getElem?_eq_some_iff.1 h).1]
 exact h
theorem TabP.sealed {m:Mem} (h:TabP m):TabP (m.map sealed):=by
 unfold TabP at *
 rw [List.getElem?_map,h]
 rfl
theorem TabP.set {m:Mem} (h:TabP m) {k:Nat} (hk:k≠0) (b:Blk):TabP (m.set k b):=by
 unfold TabP at *
 rw [List.getElem?_set_ne hk]
 exact h
theorem TabP.only {m:Mem} (h:TabP m):TabP ((m.take E.G).map onlyTab):=by
 unfold TabP at *
 have hG:E.G=7:=rfl
 rw [List.getElem?_map,List.getElem?_take_of_lt (by rw [hG]; decide),h]
 rfl
theorem sub64C (x y c:Nat) (m:Mem):aext .sub64 [.int .u64 (x:Nat),.int .u64 (y:Nat),.int .u64 (c:Nat)] m=if c≤1 then some (pair64 ((x+18446744073709551616-y-c)%18446744073709551616) (if x<y+c then 1 else 0),m) else none:=by
 simp only [aext,Int.toNat_natCast]
section
variable {self:Self} {nf:Nat} {m:Mem} {X Y:Nat}
theorem ze_body (hX:X<115792089237316195423570985008687907853269984665640564039457584007913129639936):∃ m',abody E self nf 33 [el X] m=some (.bool (decide (X=0)),m'):=by
 rw [abody_eqF (by kernel_rfl) Tryd.func33 bodyze (by kernel_rfl) (Nat.le_of_ble_eq_true rfl)]
 rw [show Tryd.f33.ntmps=6 from rfl]
 have b1:=box48 (wd 0 X) (wd 1 X) (wd 2 X) (wd 3 X) m
 have gx:(m++[Blk.row false 56 (c4 (wd 0 X) (wd 1 X) (wd 2 X) (wd 3 X))])[m.length]? = some (.row false 56 (c4 (wd 0 X) (wd 1 X) (wd 2 X) (wd 3 X))):=by simp
 generalize hA:m++[Blk.row false 56 (c4 (wd 0 X) (wd 1 X) (wd 2 X) (wd 3 X))]=A at b1 gx
 have lx:=load48 gx
 rw [←el_st] at b1 lx
 have bz:∀ (T:List Value) (pos:String) (af:Array Edge) (g:Option (Nat×Bool)) (d:Option Tmp),apure E.P T { dst:=d,op:=.build 56 #[],type:=56,pos:=pos,after:=af,guard:=g }=some (el 0):=fun _ _ _ _ _=>by kernel_rfl
 have hq:=fun x y=>eql48 (x:=x) (y:=y) hX (show (0:Nat)<115792089237316195423570985008687907853269984665640564039457584007913129639936 by decide)
 simp only [eze_0,eze_1,lze_0,lze_1,agd_none,Tryd.f33,acodeN,aopsN,astep,aop,ev,nth_lst,aput,setAt_lst,upd_at,init_zero,init_succ,init_nil,Nat.reduceLT,Nat.reduceEqDiff,Option.map_some,↓aop_eqlV,if_true,if_false,b1,lx,bz,hq,finish,ares,aresL,ares1]
 exact ⟨_,rfl⟩
theorem addr48:addrT E.P 4 56=false:=by kernel_rfl
end
end Go.Am.Seat
