import Derived.Test.YtcnhakfmnkegcaaDoorGrFieldParses29
import Derived.Test.YtcnhakfmnkegcaaDoorGrFieldParses15
set_option linter.unusedSimpArgs false
set_option linter.unusedVariables false
noncomputable section
set_option maxRecDepth 100000
namespace Go.Am.Seat
open Go.Proofs Go.Am Go.Am.Num Go.Am.Kn
theorem oisn_0:risn_0.toList=[⟨some 2,.assign (.const (.bool false)),4,"limb.go:70",#[],none⟩]:=rfl
theorem oisn_1:risn_1.toList=[⟨some 4,.move (.tmp 0),9,"limb.go:71",#[],none⟩,⟨some 5,.binOp .eql 9 (.tmp 4) (.const (.string { data:=#[] })) 9,4,"limb.go:71",#[eD 0],none⟩,⟨some 6,.move (.tmp 5),4,"limb.go:71",#[eD 1],none⟩,⟨some 7,.move (.tmp 0),9,"limb.go:71",#[eGuard 2],some (2,false)⟩,⟨some 8,.call { callee:=.builtin .len,args:=#[.tmp 7],argTypes:=#[9] },3,"limb.go:71",#[eD 3,eGuard 2],some (2,false)⟩,⟨some 9,.binOp .gtr 3 (.tmp 8) (.const (.int .i64 1)) 3,4,"limb.go:71",#[eD 4,eGuard 2],some (2,false)⟩,⟨some 10,.move (.tmp 9),4,"limb.go:71",#[eD 5,eC 2,eGuard 2],some (2,false)⟩,⟨some 11,.move (.tmp 0),9,"limb.go:71",#[eGuard 6],some (6,true)⟩,⟨some 12,.index 9 (.tmp 11) (.const (.int .i64 0)),5,"limb.go:71",#[eD 7,eGuard 6],some (6,true)⟩,⟨some 13,.binOp .eql 5 (.tmp 12) (.const (.int .u8 48)) 5,4,"limb.go:71",#[eD 8,eGuard 6],some (6,true)⟩,⟨some 14,.pick (.tmp 10) (.tmp 13) (.const (.bool false)),4,"limb.go:71",#[eD 6,eD 9,eGuard 2],some (2,false)⟩,⟨some 15,.pick (.tmp 6) (.const (.bool true)) (.tmp 14),4,"limb.go:71",#[eD 2,eD 10],none⟩]:=rfl
theorem oisn_2:risn_2.toList=[⟨some 2,.assign (.const (.bool false)),4,"limb.go:72",#[],none⟩]:=rfl
theorem oisn_3:risn_3.toList=[⟨some 16,.move (.tmp 0),9,"limb.go:74",#[],none⟩,⟨some 17,.call { callee:=.builtin .len,args:=#[.tmp 16],argTypes:=#[9] },3,"limb.go:74",#[eD 0],none⟩,⟨some 18,.move (.const (.int .i64 0)),3,"limb.go:74",#[],none⟩]:=rfl
theorem oisn_4:risn_4.toList=[⟨some 19,.binOp .lss 3 (.tmp 18) (.tmp 17) 3,4,"limb.go:74",#[],none⟩]:=rfl
theorem oisn_5:risn_5.toList=[⟨some 20,.move (.tmp 18),3,"limb.go:74",#[],none⟩,⟨some 3,.assign (.tmp 20),3,"limb.go:74",#[eD 0,eP 0],none⟩]:=rfl
theorem oisn_6:risn_6.toList=[⟨some 21,.move (.tmp 0),9,"limb.go:75",#[],none⟩,⟨some 22,.move (.tmp 3),3,"limb.go:75",#[],none⟩,⟨some 23,.index 9 (.tmp 21) (.tmp 22),5,"limb.go:75",#[eD 0,eD 1],none⟩,⟨some 24,.binOp .lss 5 (.tmp 23) (.const (.int .u8 48)) 5,4,"limb.go:75",#[eD 2],none⟩,⟨some 25,.move (.tmp 24),4,"limb.go:75",#[eD 3],none⟩,⟨some 26,.move (.tmp 0),9,"limb.go:75",#[eGuard 4],some (4,false)⟩,⟨some 27,.move (.tmp 3),3,"limb.go:75",#[eGuard 4],some (4,false)⟩,⟨some 28,.index 9 (.tmp 26) (.tmp 27),5,"limb.go:75",#[eD 5,eD 6,eGuard 4],some (4,false)⟩,⟨some 29,.binOp .gtr 5 (.tmp 28) (.const (.int .u8 57)) 5,4,"limb.go:75",#[eD 7,eGuard 4],some (4,false)⟩,⟨some 30,.pick (.tmp 25) (.const (.bool true)) (.tmp 29),4,"limb.go:75",#[eD 4,eD 8],none⟩]:=rfl
theorem oisn_7:risn_7.toList=[⟨some 2,.assign (.const (.bool false)),4,"limb.go:76",#[],none⟩]:=rfl
theorem oisn_8:risn_8.toList=[⟨some 31,.binOp .add 3 (.tmp 18) (.const (.int .i64 1)) 3,3,"limb.go:74",#[],none⟩,⟨some 18,.move (.tmp 31),3,"limb.go:74",#[eD 0],none⟩]:=rfl
theorem oisn_9:risn_9.toList=[⟨some 2,.assign (.const (.bool true)),4,"limb.go:79",#[],none⟩]:=rfl
theorem lssU8' (a b:Int):abin .lss .u8 a .u8 b=some (.bool (decide (a<b))):=by kernel_rfl
theorem gtrU8' (a b:Int):abin .gtr .u8 a .u8 b=some (.bool (decide (a>b))):=by kernel_rfl
theorem str_empty (s:ByteArray):(s.toList==(⟨#[]⟩:ByteArray).toList)=decide (s.data.toList.length=0):=by
 rw [ByteArray.toList_eq,ByteArray.toList_eq,Bool.eq_iff_iff,beq_iff_eq,decide_eq_true_eq,List.length_eq_zero_iff]
section
variable {self:Self} {nf:Nat} {m:Mem} {F:Nat→Value} {s:ByteArray} {k:Nat}
theorem isn_1 {b:Bool} (h0:F 0=.string s) (hb:(decide (s.data.toList.length=0)||(decide (1<s.data.toList.length)&&decide ((natsOf s).head? = some 48)))=b) :
  ∃ F',acodeN E self nf (.region 1 risn_1 false) (lst F 32) m=some (.normal,lst F' 32,m)∧F' 15=.bool b∧F' 0=.string s:=by
 have e0:=str_empty s
 by_cases l0:s.data.toList.length=0
 ·rw [decide_eq_true l0] at e0
  rw [decide_eq_true l0,Bool.true_or] at hb
  subst hb
  simp only [oisn_1,gisn_1_2,gisn_1_6,agd_none,gdAt,gdV_bool,gdV_undef,btf,acodeN,aopsN,astep,aop,ev,nth_lst,get_lst,aput,setAt_lst,upd_at,Nat.reduceLT,Nat.reduceEqDiff,Option.map_some,eqlVal_str,↓aop_eqlV,if_true,if_false,h0,e0]
  exact ⟨_,rfl,rfl,by simp only [upd_at,Nat.reduceEqDiff,reduceIte,h0]⟩
 ·rw [decide_eq_false l0] at e0
  by_cases l1:1<s.data.toList.length
  ·have q1:decide (((s.data.toList.length:Nat):Int)>1)=true:=decide_eq_true (by omega)
   have hx:s.data.toList[0]? = some (s.data.toList[0]'(by omega)):=by simp [show 0<s.data.toList.length by omega]
   have hn:(natsOf s)[0]? = some (s.data.toList[0]'(by omega)).toNat:=by unfold natsOf; rw [List.getElem?_map,hx]; rfl
   generalize s.data.toList[0]'(by omega)=ch at hx hn
   have hi9:=index9 hx
   rw [show (((0:Nat):Int))=0 from rfl] at hi9
   rw [decide_eq_false l0,decide_eq_true l1,head_at,hn] at hb
   by_cases hc:ch.toNat=48
   ·have q2:(((ch.toNat:Nat):Int)==48)=true:=by rw [hc]; rfl
    rw [hc] at hb
    have hb:b=true:=by rw [←hb]; simp
    subst hb
    simp only [oisn_1,gisn_1_2,gisn_1_6,agd_none,gdAt,gdV_bool,acodeN,aopsN,astep,aop,ev,nth_lst,get_lst,aput,setAt_lst,upd_at,Nat.reduceLT,Nat.reduceEqDiff,Option.map_some,eqlVal_str,eqlVal_int,↓aop_eqlV,Bool.false_eq_true,if_true,if_false,beq_self_eq_true,uns,h0,e0,len_S,alen,gtr64',q1,hi9,q2]
    exact ⟨_,rfl,rfl,by simp only [upd_at,Nat.reduceEqDiff,reduceIte,h0]⟩
   ·have q2:(((ch.toNat:Nat):Int)==48)=false:=by
     have:((ch.toNat:Nat):Int)≠48:=by omega
     simpa using this
    have hb:b=false:=by rw [←hb]; simpa using hc
    subst hb
    simp only [oisn_1,gisn_1_2,gisn_1_6,agd_none,gdAt,gdV_bool,acodeN,aopsN,astep,aop,ev,nth_lst,get_lst,aput,setAt_lst,upd_at,Nat.reduceLT,Nat.reduceEqDiff,Option.map_some,eqlVal_str,eqlVal_int,↓aop_eqlV,Bool.false_eq_true,if_true,if_false,beq_self_eq_true,uns,h0,e0,len_S,alen,gtr64',q1,hi9,q2]
    exact ⟨_,rfl,rfl,by simp only [upd_at,Nat.reduceEqDiff,reduceIte,h0]⟩
  ·have q1:decide (((s.data.toList.length:Nat):Int)>1)=false:=decide_eq_false (by omega)
   have hb:b=false:=by rw [←hb,decide_eq_false l0,decide_eq_false l1]; rfl
   subst hb
   simp only [oisn_1,gisn_1_2,gisn_1_6,agd_none,gdAt,gdV_bool,bft,acodeN,aopsN,astep,aop,ev,nth_lst,get_lst,aput,setAt_lst,upd_at,Nat.reduceLT,Nat.reduceEqDiff,Option.map_some,eqlVal_str,↓aop_eqlV,Bool.false_eq_true,if_true,if_false,beq_self_eq_true,uns,h0,e0,len_S,alen,gtr64',q1]
   exact ⟨_,rfl,rfl,by simp only [upd_at,Nat.reduceEqDiff,reduceIte,h0]⟩
theorem isn_0:∃ F',acodeN E self nf (.region 0 risn_0 false) (lst F 32) m=some (.normal,lst F' 32,m)∧F' 0=F 0:=by
 simp only [oisn_0,agd_none,acodeN,aopsN,astep,aop,ev,aput,setAt_lst]
 exact ⟨_,rfl,rfl⟩
theorem isn_2:∃ F',acodeN E self nf (.region 2 risn_2 false) (lst F 32) m=some (.normal,lst F' 32,m)∧F' 2=.bool false:=by
 simp only [oisn_2,agd_none,acodeN,aopsN,astep,aop,ev,aput,setAt_lst]
 exact ⟨_,rfl,rfl⟩
theorem isn_3 (h0:F 0=.string s):∃ F',acodeN E self nf (.region 3 risn_3 false) (lst F 32) m=some (.normal,lst F' 32,m)∧F' 17=.int .i64 ((s.data.toList.length:Nat):Int)∧F' 18=.int .i64 ((0:Nat):Int)∧F' 0=.string s:=by
 simp only [oisn_3,agd_none,acodeN,aopsN,astep,aop,ev,nth_lst,aput,setAt_lst,upd_at,Nat.reduceLT,if_true,uns,h0,len_S,alen]
 exact ⟨_,rfl,rfl,by simp only [upd_at,Nat.reduceEqDiff,reduceIte]; rfl,by simp only [upd_at,Nat.reduceEqDiff,reduceIte,h0]⟩
theorem isn_4 {n:Nat} {b:Bool} (h17:F 17=.int .i64 ((n:Nat):Int)) (h18:F 18=.int .i64 ((k:Nat):Int)) (hb:decide (((k:Nat):Int)<((n:Nat):Int))=b):∃ F',acodeN E self nf (.region 4 risn_4 false) (lst F 32) m=some (.normal,lst F' 32,m)∧F' 19=.bool b∧∀ j,j<19→F' j=F j:=by
 simp only [oisn_4,agd_none,acodeN,aopsN,astep,aop,ev,nth_lst,aput,setAt_lst,Nat.reduceLT,if_true,h17,h18,lss64,hb]
 exact ⟨_,rfl,rfl,fun j h1=>by repeat rw [upd_ne (by omega)]⟩
theorem isn_5 (h18:F 18=.int .i64 ((k:Nat):Int)):∃ F',acodeN E self nf (.region 5 risn_5 false) (lst F 32) m=some (.normal,lst F' 32,m)∧F' 3=.int .i64 ((k:Nat):Int)∧∀ j,j≠3→j<19→F' j=F j:=by
 simp only [oisn_5,agd_none,acodeN,aopsN,astep,aop,ev,nth_lst,aput,setAt_lst,upd_at,Nat.reduceLT,if_true,h18]
 exact ⟨_,rfl,rfl,fun j h1 h2=>by repeat rw [upd_ne (by omega)]⟩
theorem isn_6 {c:Nat} {b:Bool} {ch:UInt8} (h0:F 0=.string s) (h3:F 3=.int .i64 ((k:Nat):Int)) (hx:s.data.toList[k]? = some ch) (hb:(!decide (48≤ch.toNat∧ch.toNat≤57))=b):∃ F',acodeN E self nf (.region 6 risn_6 false) (lst F 32) m=some (.normal,lst F' 32,m)∧F' 30=.bool b∧∀ j,j<19→F' j=F j:=by
 have hi9:=index9 hx
 by_cases h1:ch.toNat<48
 ·have q1:decide (((ch.toNat:Nat):Int)<48)=true:=decide_eq_true (by omega)
  have hb:b=true:=by rw [←hb,decide_eq_false (by omega)]; rfl
  subst hb
  simp only [oisn_6,gisn_6_4,agd_none,gdAt,gdV_bool,btf,acodeN,aopsN,astep,aop,ev,nth_lst,get_lst,aput,setAt_lst,upd_at,Nat.reduceLT,Nat.reduceEqDiff,if_true,if_false,h0,h3,hi9,lssU8',q1]
  exact ⟨_,rfl,rfl,fun j h1=>by repeat rw [upd_ne (by omega)]⟩
 ·have q1:decide (((ch.toNat:Nat):Int)<48)=false:=decide_eq_false (by omega)
  have q2:decide (((ch.toNat:Nat):Int)>57)=b:=by
   rw [←hb]
   by_cases h2:ch.toNat≤57
   ·rw [decide_eq_false (by omega),decide_eq_true (show 48≤ch.toNat∧ch.toNat≤57 by omega)]; rfl
   ·rw [decide_eq_true (by omega),decide_eq_false (show ¬(48≤ch.toNat∧ch.toNat≤57) by omega)]; rfl
  simp only [oisn_6,gisn_6_4,agd_none,gdAt,gdV_bool,acodeN,aopsN,astep,aop,ev,nth_lst,get_lst,aput,setAt_lst,upd_at,Nat.reduceLT,Nat.reduceEqDiff,Bool.false_eq_true,if_true,if_false,beq_self_eq_true,h0,h3,hi9,lssU8',q1,gtrU8',q2]
  exact ⟨_,rfl,rfl,fun j h1=>by repeat rw [upd_ne (by omega)]⟩
theorem isn_7:∃ F',acodeN E self nf (.region 7 risn_7 false) (lst F 32) m=some (.normal,lst F' 32,m)∧F' 2=.bool false:=by
 simp only [oisn_7,agd_none,acodeN,aopsN,astep,aop,ev,aput,setAt_lst]
 exact ⟨_,rfl,rfl⟩
theorem isn_8 (h18:F 18=.int .i64 ((k:Nat):Int)) (hk:k<100000):∃ F',acodeN E self nf (.region 8 risn_8 false) (lst F 32) m=some (.normal,lst F' 32,m)∧F' 18=.int .i64 ((k+1:Nat):Int)∧∀ j,j<18→F' j=F j:=by
 have e:wrapF .i64 (((k:Nat):Int)+1)=((k+1:Nat):Int):=by rw [wrap_i64 (by omega) (by omega)]; omega
 simp only [oisn_8,agd_none,acodeN,aopsN,astep,aop,ev,nth_lst,aput,setAt_lst,upd_at,Nat.reduceLT,if_true,h18,add64',e]
 exact ⟨_,rfl,rfl,fun j h1=>by repeat rw [upd_ne (by omega)]⟩
theorem isn_9:∃ F',acodeN E self nf (.region 9 risn_9 false) (lst F 32) m=some (.normal,lst F' 32,m)∧F' 2=.bool true:=by
 simp only [oisn_9,agd_none,acodeN,aopsN,astep,aop,ev,aput,setAt_lst]
 exact ⟨_,rfl,rfl⟩
def isDig (c:Nat):Bool:=decide (48≤c∧c≤57)
theorem isn_loop (hs:s.data.toList.length≤390) (hnf:1000<nf) (h0:F 0=.string s) (h17:F 17=.int .i64 ((s.data.toList.length:Nat):Int)) (h18:F 18=.int .i64 ((0:Nat):Int)) :
  ∃ e F',aloop (acodeN E self nf lpisn_0) nf (lst F 32) m=some (e,lst F' 32,m)∧((e=.exit 0∧digitsOk (natsOf s)=true)∨(e=.ret∧digitsOk (natsOf s)=false∧F' 2=.bool false)):=by
 have hnl:=natsOf_len s
 have hloop:=aloop_inv (body:=acodeN E self nf lpisn_0) (N:=s.data.toList.length)
  (I:=fun k T m'=>m'=m∧(∀ j c,j<k→(natsOf s)[j]? = some c→isDig c=true)∧∃ G,T=lst G 32∧G 0=.string s∧G 17=.int .i64 ((s.data.toList.length:Nat):Int)∧G 18=.int .i64 ((k:Nat):Int))
  (Q:=fun e T m'=>m'=m∧∃ G,T=lst G 32∧((e=.exit 0∧digitsOk (natsOf s)=true)∨(e=.ret∧digitsOk (natsOf s)=false∧G 2=.bool false))) (fun k T m' hk hI=>by
   obtain ⟨rfl,hd,G,rfl,g0,g17,g18⟩:=hI
   by_cases h1:k=s.data.toList.length
   ·right
    obtain ⟨A,ra,a19,ak⟩:=isn_4 (self:=self) (nf:=nf) (m:=m') g17 g18 (b:=false) (decide_eq_false (by omega))
    refine ⟨.exit 0,_,_,?_,by simp,rfl,A,rfl,.inl ⟨rfl,?_⟩⟩
    ·rw [lpisn_0_eq]
     generalize Code.region 4 risn_4 false=C4 at *
     simp only [acodeN,ra,ev,nth_lst,Nat.reduceLT,if_true,a19]
    ·unfold digitsOk
     rw [List.all_eq_true]
     intro c hc
     obtain ⟨j,hj⟩:=List.getElem?_of_mem hc
     exact hd j c (by have:=(List.getElem?_eq_some_iff.1 hj).1; omega) hj
   ·have hk2:k<s.data.toList.length:=by omega
    have hx:s.data.toList[k]? = some (s.data.toList[k]'hk2):=by simp [hk2]
    have hn:(natsOf s)[k]? = some (s.data.toList[k]'hk2).toNat:=by unfold natsOf; rw [List.getElem?_map,hx]; rfl
    generalize s.data.toList[k]'hk2=ch at hx hn
    obtain ⟨A,ra,a19,ak⟩:=isn_4 (self:=self) (nf:=nf) (m:=m') g17 g18 (b:=true) (decide_eq_true (by omega))
    obtain ⟨B,rb,b3,bk⟩:=isn_5 (self:=self) (nf:=nf) (m:=m') ((ak 18 (by omega)).trans g18)
    obtain ⟨C,rc,c30,ck⟩:=isn_6 (self:=self) (nf:=nf) (m:=m') (c:=0) (b := !isDig ch.toNat) ((bk 0 (by omega) (by omega)).trans ((ak 0 (by omega)).trans g0)) b3 hx rfl
    by_cases hg:isDig ch.toNat=true
    ·left
     rw [hg] at c30
     obtain ⟨D,rd,d18,dk⟩:=isn_8 (self:=self) (nf:=nf) (m:=m') ((ck 18 (by omega)).trans ((bk 18 (by omega) (by omega)).trans ((ak 18 (by omega)).trans g18))) (by omega)
     have kd:∀ j,j≠3→j<18→D j=G j:=fun j h1 h2=>(dk j h2).trans ((ck j (by omega)).trans ((bk j h1 (by omega)).trans (ak j (by omega))))
     refine ⟨_,_,?_,hk2,rfl,?_,D,rfl,(kd 0 (by omega) (by omega)).trans g0,(kd 17 (by omega) (by omega)).trans g17,d18⟩
     ·rw [lpisn_0_eq]
      generalize Code.region 4 risn_4 false=C4 at *
      generalize Code.region 5 risn_5 false=C5 at *
      generalize Code.region 6 risn_6 false=C6 at *
      generalize Code.region 8 risn_8 false=C8 at *
      simp only [acodeN,ra,rb,rc,rd,ev,nth_lst,Nat.reduceLT,if_true,a19,c30,Bool.not_true]
     ·intro j c hj hc
      by_cases hjk:j=k
      ·subst hjk
       rw [hn] at hc
       cases hc
       exact hg
      ·exact hd j c (by omega) hc
    ·right
     have hg2:isDig ch.toNat=false:=by simpa using hg
     rw [hg2] at c30
     obtain ⟨D,rd,d2⟩:=isn_7 (self:=self) (nf:=nf) (m:=m') (F:=C)
     refine ⟨.ret,_,_,?_,by simp,rfl,D,rfl,.inr ⟨rfl,?_,d2⟩⟩
     ·rw [lpisn_0_eq]
      generalize Code.region 4 risn_4 false=C4 at *
      generalize Code.region 5 risn_5 false=C5 at *
      generalize Code.region 6 risn_6 false=C6 at *
      generalize Code.region 7 risn_7 false=C7 at *
      simp only [acodeN,ra,rb,rc,rd,ev,nth_lst,Nat.reduceLT,if_true,a19,c30,Bool.not_false]
     ·cases hv:digitsOk (natsOf s) with
      | false=>rfl
      | true =>
       unfold digitsOk at hv
       rw [List.all_eq_true] at hv
       have:=hv ch.toNat (List.mem_of_getElem? hn)
       unfold isDig at hg2
       rw [this] at hg2
       cases hg2)
 obtain ⟨e,T',m',hr,rfl,G,rfl,hq⟩:=hloop s.data.toList.length 0 nf (lst F 32) m (by omega) (by omega) ⟨rfl,fun j c h=>by omega,F,rfl,h0,h17,h18⟩
 exact ⟨e,G,hr,hq⟩
theorem isn_body (hs:s.data.toList.length≤390) (hnf:1000<nf):abody E self nf 48 [.string s] m=some (.bool (decOk (natsOf s)),m):=by
 rw [abody_eqF (by kernel_rfl) Tryd.func48 bodyisn (by kernel_rfl) (Nat.le_of_ble_eq_true rfl)]
 rw [show Tryd.f48.ntmps=32 from rfl]
 have hnl:=natsOf_len s
 obtain ⟨A,ra,a0⟩:=isn_0 (self:=self) (nf:=nf) (m:=m) (F:=init [.string s])
 obtain ⟨b,hb⟩:∃ b,(decide (s.data.toList.length=0)||(decide (1<s.data.toList.length)&&decide ((natsOf s).head? = some 48)))=b:=⟨_,rfl⟩
 obtain ⟨B,rb,b15,b0⟩:=isn_1 (self:=self) (nf:=nf) (m:=m) (F:=A) (s:=s) a0 hb
 have hd:decOk (natsOf s)=(!b&&digitsOk (natsOf s)):=by
  rw [←hb]
  unfold decOk
  rw [hnl]
  by_cases h:s.data.toList.length=0
  ·rw [decide_eq_true h,decide_eq_false (by simpa using h)]; simp
  ·rw [decide_eq_false h,decide_eq_true h]; simp
 rw [hd]
 clear hd hb
 cases b with
 | true =>
  obtain ⟨C,rc,c2⟩:=isn_2 (self:=self) (nf:=nf) (m:=m) (F:=B)
  generalize Code.region 0 risn_0 false=C0 at *
  generalize Code.region 1 risn_1 false=C1 at *
  generalize Code.region 2 risn_2 false=C2 at *
  simp only [acodeN,ra,rb,rc,finish,ares,aresL,ares1,Tryd.f48,ev,nth_lst,Nat.reduceLT,if_true,b15,c2,Option.map_some,Bool.not_true,Bool.false_and]
 | false =>
  obtain ⟨C,rc,c17,c18,c0⟩:=isn_3 (self:=self) (nf:=nf) (m:=m) (F:=B) b0
  obtain ⟨e,D,rl,hq⟩:=isn_loop (self:=self) (nf:=nf) (m:=m) hs hnf c0 c17 c18
  rcases hq with ⟨rfl,h1⟩ | ⟨rfl,h1,d2⟩
  ·obtain ⟨G,rg,g2⟩:=isn_9 (self:=self) (nf:=nf) (m:=m) (F:=D)
   rw [h1]
   generalize Code.region 0 risn_0 false=C0 at *
   generalize Code.region 1 risn_1 false=C1 at *
   generalize Code.region 3 risn_3 false=C3 at *
   generalize Code.region 9 risn_9 false=C9 at *
   simp only [acodeN,ra,rb,rc,rl,rg,finish,ares,aresL,ares1,Tryd.f48,ev,nth_lst,Nat.reduceLT,if_true,b15,g2,Option.map_some,Bool.not_false,Bool.true_and]
  ·rw [h1]
   generalize Code.region 0 risn_0 false=C0 at *
   generalize Code.region 1 risn_1 false=C1 at *
   generalize Code.region 3 risn_3 false=C3 at *
   simp only [acodeN,ra,rb,rc,rl,finish,ares,aresL,ares1,Tryd.f48,ev,nth_lst,Nat.reduceLT,if_true,b15,d2,Option.map_some,Bool.not_false,Bool.true_and]
end
def CIsn (self:Self):Prop:=∀ s:ByteArray,s.data.toList.length≤390→Ans self 48 [.string s] (.bool (decOk (natsOf s)))
theorem kIsn {R:Nat→Self} {K:List Fact} (hR:Runs R K) {n:Nat} (hK:hasF K 48=false) (hn:1001≤n):CIsn (R n):=by
 obtain ⟨j,rfl⟩:∃ j,n=j+1:=⟨n-1,by omega⟩
 exact fun s hs=>ans_of rfl (by kernel_rfl) rfl fun m=>⟨_,hR.b hK (isn_body hs (by omega))⟩
end Go.Am.Seat
namespace Go.Am.Seat
open Go.Proofs Go.Am Go.Am.Num
set_option maxHeartbeats 4000000
def rwo_0:=opR Tryd.f82 [0]
def lwo_0:List Oper:=match Tryd.f82.body with
 | some (.seq (.region _ o _) _)=>o.toList
 | _=>[]
theorem ewo_0:rwo_0.toList=lwo_0:=rfl
def rwo_1:=opR Tryd.f82 [1,0]
def lwo_1:List Oper:=match Tryd.f82.body with
 | some (.seq _ (.seq (.region _ o _) _))=>o.toList
 | _=>[]
theorem ewo_1:rwo_1.toList=lwo_1:=rfl
def rwo_2:=opR Tryd.f82 [1,1,0,0]
def lwo_2:List Oper:=match Tryd.f82.body with
 | some (.seq _ (.seq _ (.seq (.seq (.region _ o _) _) _)))=>o.toList
 | _=>[]
theorem ewo_2:rwo_2.toList=lwo_2:=rfl
def lpwo_0:Code:=match Tryd.f82.body with
 | some (.seq _ (.seq _ (.seq (.seq _ (.block _ (.loop c))) _)))=>c
 | _=>.skip
def rwo_3:=opR Tryd.f82 [1,1,0,1,0,0,0,0]
def lwo_3:List Oper:=match Tryd.f82.body with
 | some (.seq _ (.seq _ (.seq (.seq _ (.block _ (.loop (.seq (.seq (.region _ o _) _) _)))) _)))=>o.toList
 | _=>[]
theorem ewo_3:rwo_3.toList=lwo_3:=rfl
def rwo_5:=opR Tryd.f82 [1,1,0,1,0,0,1,0,0]
def lwo_5:List Oper:=match Tryd.f82.body with
 | some (.seq _ (.seq _ (.seq (.seq _ (.block _ (.loop (.seq _ (.seq (.block _ (.region _ o _)) _))))) _)))=>o.toList
 | _=>[]
theorem ewo_5:rwo_5.toList=lwo_5:=rfl
def rwo_4:=opR Tryd.f82 [1,1,0,1,0,0,1,1]
def lwo_4:List Oper:=match Tryd.f82.body with
 | some (.seq _ (.seq _ (.seq (.seq _ (.block _ (.loop (.seq _ (.seq _ (.region _ o _)))))) _)))=>o.toList
 | _=>[]
theorem ewo_4:rwo_4.toList=lwo_4:=rfl
theorem lpwo_0_eq:lpwo_0=(.seq (.seq (.region 3 rwo_3 false) (.cond (.tmp 8) .skip (.exit 0))) (.seq (.block 1 (.region 5 rwo_5 false)) (.region 4 rwo_4 false))):=rfl
def rwo_6:=opR Tryd.f82 [1,1,1,0]
def lwo_6:List Oper:=match Tryd.f82.body with
 | some (.seq _ (.seq _ (.seq _ (.seq (.region _ o _) _))))=>o.toList
 | _=>[]
theorem ewo_6:rwo_6.toList=lwo_6:=rfl
theorem bodywo:Tryd.f82.body=some (.seq (.region 0 rwo_0 false) (.seq (.region 1 rwo_1 false) (.seq (.seq (.region 2 rwo_2 false) (.block 0 (.loop lpwo_0))) (.seq (.region 6 rwo_6 false) .ret)))):=rfl
def rlo_0:=opR Tryd.f58 [0]
def llo_0:List Oper:=match Tryd.f58.body with
 | some (.seq (.region _ o _) _)=>o.toList
 | _=>[]
theorem elo_0:rlo_0.toList=llo_0:=rfl
def rlo_1:=opR Tryd.f58 [1,0]
def llo_1:List Oper:=match Tryd.f58.body with
 | some (.seq _ (.seq (.region _ o _) _))=>o.toList
 | _=>[]
theorem elo_1:rlo_1.toList=llo_1:=rfl
theorem dlo_1 {self:Self} {B:Nat} {T:List Value} {m:Mem} {lb:List (Nat×Nat)} {ls:Bool}:adrawN E self rlo_1 B rlo_1.toList 0 T m lb ls=adrawT E self rlo_1 B rlo_1.toList [(false,false),(false,false),(false,false),(false,false),(false,false),(false,false),(false,false),(false,false),(false,false),(false,false),(false,false)] 0 T m lb ls:=adraw_tab (by kernel_rfl)
theorem slo_1:E.sr 1 rlo_1=false:=by kernel_rfl
theorem bodylo:Tryd.f58.body=some (.seq (.region 0 rlo_0 false) (.seq (.region 1 rlo_1 true) .ret)):=rfl
def rby_0:=opR Tryd.f34 [0]
def lby_0:List Oper:=match Tryd.f34.body with
 | some (.seq (.region _ o _) _)=>o.toList
 | _=>[]
theorem eby_0:rby_0.toList=lby_0:=rfl
def rby_1:=opR Tryd.f34 [1,0]
def lby_1:List Oper:=match Tryd.f34.body with
 | some (.seq _ (.seq (.region _ o _) _))=>o.toList
 | _=>[]
theorem eby_1:rby_1.toList=lby_1:=rfl
def rby_2:=opR Tryd.f34 [1,1,0]
def lby_2:List Oper:=match Tryd.f34.body with
 | some (.seq _ (.seq _ (.seq (.region _ o _) _)))=>o.toList
 | _=>[]
theorem eby_2:rby_2.toList=lby_2:=rfl
def rby_3:=opR Tryd.f34 [1,1,1,0,0]
def lby_3:List Oper:=match Tryd.f34.body with
 | some (.seq _ (.seq _ (.seq _ (.seq (.seq (.region _ o _) _) _))))=>o.toList
 | _=>[]
theorem eby_3:rby_3.toList=lby_3:=rfl
def lpby_0:Code:=match Tryd.f34.body with
 | some (.seq _ (.seq _ (.seq _ (.seq (.seq _ (.block _ (.loop c))) _))))=>c
 | _=>.skip
def rby_4:=opR Tryd.f34 [1,1,1,0,1,0,0,0]
def lby_4:List Oper:=match Tryd.f34.body with
 | some (.seq _ (.seq _ (.seq _ (.seq (.seq _ (.block _ (.loop (.seq (.region _ o _) _)))) _))))=>o.toList
 | _=>[]
theorem eby_4:rby_4.toList=lby_4:=rfl
def rby_5:=opR Tryd.f34 [1,1,1,0,1,0,0,1,1,0,0,0]
def lby_5:List Oper:=match Tryd.f34.body with
 | some (.seq _ (.seq _ (.seq _ (.seq (.seq _ (.block _ (.loop (.seq _ (.seq _ (.seq (.block _ (.seq (.region _ o _) _)) _)))))) _))))=>o.toList
 | _=>[]
theorem eby_5:rby_5.toList=lby_5:=rfl
def rby_6:=opR Tryd.f34 [1,1,1,0,1,0,0,1,1,0,0,1]
def lby_6:List Oper:=match Tryd.f34.body with
 | some (.seq _ (.seq _ (.seq _ (.seq (.seq _ (.block _ (.loop (.seq _ (.seq _ (.seq (.block _ (.seq _ (.region _ o _))) _)))))) _))))=>o.toList
 | _=>[]
theorem eby_6:rby_6.toList=lby_6:=rfl
def rby_7:=opR Tryd.f34 [1,1,1,0,1,0,0,1,1,1]
def lby_7:List Oper:=match Tryd.f34.body with
 | some (.seq _ (.seq _ (.seq _ (.seq (.seq _ (.block _ (.loop (.seq _ (.seq _ (.seq _ (.region _ o _))))))) _))))=>o.toList
 | _=>[]
theorem eby_7:rby_7.toList=lby_7:=rfl
theorem lpby_0_eq:lpby_0=(.seq (.region 4 rby_4 false) (.seq (.cond (.tmp 16) .skip (.exit 0)) (.seq (.block 1 (.seq (.region 5 rby_5 false) (.region 6 rby_6 false))) (.region 7 rby_7 false)))):=rfl
def rby_8:=opR Tryd.f34 [1,1,1,1,0]
def lby_8:List Oper:=match Tryd.f34.body with
 | some (.seq _ (.seq _ (.seq _ (.seq _ (.seq (.region _ o _) _)))))=>o.toList
 | _=>[]
theorem eby_8:rby_8.toList=lby_8:=rfl
theorem bodyby:Tryd.f34.body=some (.seq (.region 0 rby_0 false) (.seq (.region 1 rby_1 false) (.seq (.region 2 rby_2 false) (.seq (.seq (.region 3 rby_3 false) (.block 0 (.loop lpby_0))) (.seq (.region 8 rby_8 false) .ret))))):=rfl
def rpa_0:=opR Tryd.f31 [0]
def lpa_0:List Oper:=match Tryd.f31.body with
 | some (.seq (.region _ o _) _)=>o.toList
 | _=>[]
theorem epa_0:rpa_0.toList=lpa_0:=rfl
def rpa_1:=opR Tryd.f31 [1,0]
def lpa_1:List Oper:=match Tryd.f31.body with
 | some (.seq _ (.seq (.region _ o _) _))=>o.toList
 | _=>[]
theorem epa_1:rpa_1.toList=lpa_1:=rfl
def rpa_2:=opR Tryd.f31 [1,1,0,0]
def lpa_2:List Oper:=match Tryd.f31.body with
 | some (.seq _ (.seq _ (.seq (.seq (.region _ o _) _) _)))=>o.toList
 | _=>[]
theorem epa_2:rpa_2.toList=lpa_2:=rfl
theorem dpa_2 {self:Self} {B:Nat} {T:List Value} {m:Mem} {lb:List (Nat×Nat)} {ls:Bool}:adrawN E self rpa_2 B rpa_2.toList 0 T m lb ls=adrawT E self rpa_2 B rpa_2.toList [(false,false),(false,false),(false,false),(false,false)] 0 T m lb ls:=adraw_tab (by kernel_rfl)
theorem spa_2:E.sr 2 rpa_2=false:=by kernel_rfl
def rpa_3:=opR Tryd.f31 [1,1,0,1,0,0]
def lpa_3:List Oper:=match Tryd.f31.body with
 | some (.seq _ (.seq _ (.seq (.seq _ (.cond _ (.seq (.region _ o _) _) _)) _)))=>o.toList
 | _=>[]
theorem epa_3:rpa_3.toList=lpa_3:=rfl
def rpa_4:=opR Tryd.f31 [1,1,1,0]
def lpa_4:List Oper:=match Tryd.f31.body with
 | some (.seq _ (.seq _ (.seq _ (.seq (.region _ o _) _))))=>o.toList
 | _=>[]
theorem epa_4:rpa_4.toList=lpa_4:=rfl
theorem bodypa:Tryd.f31.body=some (.seq (.region 0 rpa_0 false) (.seq (.region 1 rpa_1 false) (.seq (.seq (.region 2 rpa_2 true) (.cond (.tmp 10) (.seq (.region 3 rpa_3 false) .ret) .skip)) (.seq (.region 4 rpa_4 false) .ret)))):=rfl
def accW (b:Nat→Nat) (at_:Nat):Nat→Nat
 | 0=>0
 | n+1=>accW b at_ n*256+b (8*at_+(7-n))
theorem accW_lt {b:Nat→Nat} (hb:∀ i,b i<256) (at_:Nat):∀ n,accW b at_ n<256^n
 | 0=>by simp [accW]
 | n+1=>by
  have h1:=accW_lt hb at_ n
  have h2:=hb (8*at_+(7-n))
  simp only [accW,Nat.pow_succ]
  omega
theorem shl8 (x:Nat):abin .shl .u64 ((x:Nat):Int) .u64 8=some (.int .u64 ((x*256%18446744073709551616:Nat):Int)):=shlU (n:=8) (by decide)
theorem or8W {x y:Nat} (hx:x*256<18446744073709551616) (hy:y<256):abin .or .u64 ((x*256%18446744073709551616:Nat):Int) .u64 ((y:Nat):Int)=some (.int .u64 ((x*256+y:Nat):Int)):=by
 rw [Nat.mod_eq_of_lt hx,orN hx (by omega),Nat.mul_comm x 256]
 have:=Nat.two_pow_add_eq_or_of_lt (i:=8) (b:=y) (by omega) x
 rw [show 2^8=256 from rfl] at this
 rw [←this]
theorem conv5_22b (x:Nat):aconv E.P 5 22 (.int .u8 ((x:Nat):Int))=some (.int .u64 ((x%18446744073709551616:Nat):Int)):=by
 have:aconv E.P 5 22 (.int .u8 ((x:Nat):Int))=some (.int .u64 (wrapF .u64 ((x:Nat):Int))):=by kernel_rfl
 rw [this,wrapU]
theorem conv22_5b (x:Nat):aconv E.P 22 5 (.int .u64 ((x:Nat):Int))=some (.int .u8 ((x%256:Nat):Int)):=by
 have:aconv E.P 22 5 (.int .u64 ((x:Nat):Int))=some (.int .u8 (wrapF .u8 ((x:Nat):Int))):=by kernel_rfl
 rw [this]
 simp only [wrapF]
 congr 2
theorem geq0 (a:Int):abin .geq .i64 a .i64 0=some (.bool (decide (a≥0))):=by kernel_rfl
theorem mul8c (a:Int):abin .mul .i64 8 .i64 a=some (.int .i64 (wrapF .i64 (8*a))):=by kernel_rfl
theorem sub1c (a:Int):abin .sub .i64 a .i64 1=some (.int .i64 (wrapF .i64 (a-1))):=by kernel_rfl
theorem wrap_neg1:wrapF .i64 (-1) = -1:=by kernel_rfl
section
variable {self:Self} {nf:Nat} {M:Mem} {F:Nat→Value} {b:Nat→Nat} {k n p:Nat}
theorem iterWo (h1:F 1=.int .i64 (k:Nat)) (h2:F 2=.pointer (some ⟨p,0,none⟩)) (h5:F 5=.int .u64 ((accW b k n:Nat):Int)) (h6:F 6=.int .i64 (7-((n:Nat):Int))) (hn:n<8) (hk:k<4) (hb:∀ i,b i<256) (hp:M[p]? = some (.row false 54 (rowK .u8 32 b))) :
  ∃ F',acodeN E self nf lpwo_0 (lst F 22) M=some (.normal,lst F' 22,M)∧F' 1=F 1∧F' 2=F 2∧F' 5=.int .u64 ((accW b k (n+1):Nat):Int)∧F' 6=.int .i64 (7-((n+1:Nat):Int)):=by
 have hg:decide ((7-((n:Nat):Int))≥0)=true:=decide_eq_true (by omega)
 have e1:wrapF .i64 (8*((k:Nat):Int))=((8*k:Nat):Int):=by rw [wrap_i64 (by omega) (by omega)]; omega
 have e2:wrapF .i64 (((8*k:Nat):Int)+(7-((n:Nat):Int)))=((8*k+(7-n):Nat):Int):=by rw [wrap_i64 (by omega) (by omega)]; omega
 have e3:wrapF .i64 (7-((n:Nat):Int)-1)=7-((n+1:Nat):Int):=by
  by_cases h:n=7
  ·subst h; exact wrap_neg1
  ·rw [wrap_i64 (by omega) (by omega)]; omega
 have i1:=a46.ix (p:=p) (j:=8*k+(7-n)) (by omega)
 have c1:=cellK hp (j:=8*k+(7-n)) (by omega)
 have hacc:=accW_lt hb k n
 have h8:accW b k n*256<18446744073709551616:=by
  have:256^n≤256^7:=Nat.pow_le_pow_right (by decide) (by omega)
  have e:(256:Nat)^7=72057594037927936:=by decide
  omega
 have hb1:=hb (8*k+(7-n))
 have hm:b (8*k+(7-n))%18446744073709551616=b (8*k+(7-n)):=Nat.mod_eq_of_lt (by omega)
 have o1:=or8W h8 hb1
 have hst:accW b k n*256+b (8*k+(7-n))=accW b k (n+1):=rfl
 generalize accW b k n=A at *
 generalize b (8*k+(7-n))=bb at *
 simp only [lpwo_0_eq,ewo_3,ewo_4,ewo_5,lwo_3,lwo_4,lwo_5,agd_none,Tryd.f82,acodeN,aopsN,astep,aop,ev,nth_lst,aput,setAt_lst,upd_at,Nat.reduceLT,Nat.reduceEqDiff,Option.map_some,if_true,if_false,h1,h2,h5,h6,geq0,hg,shl8,mul8c,e1,add64',e2,i1,a46.loadE,c1,conv5_22b,hm,o1,sub1c,e3]
 exact ⟨_,rfl,by simp only [upd_at,Nat.reduceEqDiff,reduceIte,h1],by simp only [upd_at,Nat.reduceEqDiff,reduceIte,h2],by simp only [upd_at,Nat.reduceEqDiff,reduceIte,hst],rfl⟩
theorem lastWo (h6:F 6=.int .i64 (-1)):∃ F',acodeN E self nf lpwo_0 (lst F 22) M=some (.exit 0,lst F' 22,M)∧F' 5=F 5:=by
 have hg:decide ((-1:Int)≥0)=false:=rfl
 simp only [lpwo_0_eq,ewo_3,lwo_3,agd_none,Tryd.f82,acodeN,aopsN,astep,aop,ev,nth_lst,aput,setAt_lst,upd_at,Nat.reduceLT,Nat.reduceEqDiff,if_true,if_false,h6,geq0,hg]
 exact ⟨_,rfl,rfl⟩
theorem loopWo (h1:F 1=.int .i64 (k:Nat)) (h2:F 2=.pointer (some ⟨p,0,none⟩)) (h5:F 5=.int .u64 0) (h6:F 6=.int .i64 7) (hk:k<4) (hb:∀ i,b i<256) (hp:M[p]? = some (.row false 54 (rowK .u8 32 b))) (hf:20<nf) :
  ∃ F',aloop (acodeN E self nf lpwo_0) nf (lst F 22) M=some (.exit 0,lst F' 22,M)∧F' 5=.int .u64 ((accW b k 8:Nat):Int):=by
 have hloop:=aloop_inv (body:=acodeN E self nf lpwo_0) (N:=8)
  (I:=fun n T m'=>m'=M∧∃ G,T=lst G 22∧G 1=F 1∧G 2=F 2∧G 5=.int .u64 ((accW b k n:Nat):Int)∧G 6=.int .i64 (7-((n:Nat):Int)))
  (Q:=fun e T m'=>e=.exit 0∧m'=M∧∃ G,T=lst G 22∧G 5=.int .u64 ((accW b k 8:Nat):Int)) (fun n T m' hi hI=>by
   obtain ⟨rfl,G,rfl,g1,g2,g5,g6⟩:=hI
   by_cases hlt:n<8
   ·left
    obtain ⟨F',hr,f1,f2,f5,f6⟩:=iterWo (self:=self) (nf:=nf) (g1.trans h1) (g2.trans h2) g5 g6 hlt hk hb hp
    exact ⟨_,_,hr,hlt,rfl,F',rfl,f1.trans g1,f2.trans g2,f5,f6⟩
   ·right
    have:n=8:=by omega
    subst this
    obtain ⟨F',hr,f5⟩:=lastWo (self:=self) (nf:=nf) (M:=m') (F:=G) g6
    exact ⟨_,_,_,hr,by simp,rfl,rfl,F',rfl,f5.trans g5⟩)
 obtain ⟨e,T',M',hr,rfl,rfl,G,rfl,g5⟩:=hloop 8 0 nf (lst F 22) M (by omega) (by omega) ⟨rfl,F,rfl,rfl,rfl,h5,h6⟩
 exact ⟨G,hr,g5⟩
theorem wo_body {m:Mem} (hk:k<4) (hb:∀ i,b i<256) (hf:20<nf):∃ m',abody E self nf 82 [arrK .u8 32 b,.int .i64 (k:Nat)] m=some (.int .u64 ((accW b k 8:Nat):Int),m'):=by
 rw [abody_eqF (by kernel_rfl) Tryd.func82 bodywo (by kernel_rfl) (Nat.le_of_ble_eq_true rfl)]
 rw [show Tryd.f82.ntmps=22 from rfl]
 have b1:=a46.box (w:=b) (m:=m)
 have gp:(m++[Blk.row false 54 (rowK .u8 32 b)])[m.length]? = some (.row false 54 (rowK .u8 32 b)):=by simp
 generalize hM:m++[Blk.row false 54 (rowK .u8 32 b)]=M at b1 gp
 obtain ⟨G,hl,g5⟩:=loopWo (self:=self) (nf:=nf) (M:=M) (p:=m.length) (k:=k) (b:=b) (F:=upd (upd (upd (upd (init [arrK .u8 32 b,.int .i64 (k:Nat)]) 2 (.pointer (some ⟨m.length,0,none⟩))) 4 (.int .u64 0)) 5 (.int .u64 0)) 6 (.int .i64 7)) rfl rfl rfl rfl hk hb gp hf
 generalize accW b k 8=A at *
 simp only [ewo_0,ewo_1,ewo_2,ewo_6,lwo_0,lwo_1,lwo_2,lwo_6,agd_none,Tryd.f82,acodeN,aopsN,astep,aop,ev,nth_lst,aput,setAt_lst,upd_at,init_zero,Nat.reduceLT,Nat.reduceEqDiff,Option.map_some,if_true,if_false,b1,hl,g5,finish,ares,aresL,ares1]
 exact ⟨_,rfl⟩
end
set_option maxHeartbeats 4000000
def looseF (b:Nat→Nat):Nat:=v4 (accW b 0 8) (accW b 1 8) (accW b 2 8) (accW b 3 8%9223372036854775808)%P25519
theorem callWo:callableB E.P 82=true:=by kernel_rfl
theorem wrWo:E.wr 82=false:=by kernel_rfl
theorem wrSe:E.wr 81=false:=by kernel_rfl
theorem addr22b:addrT E.P 4 22=false:=by kernel_rfl
section
variable {self:Self} {nf:Nat} {m:Mem} {b:Nat→Nat} {X:Nat}
theorem lo_body (hb:∀ i,b i<256) (hwo:∀ k,k<4→Ans self 82 [arrK .u8 32 b,.int .i64 (k:Nat)] (.int .u64 ((accW b k 8:Nat):Int))) (hse:SettleOk self) :
  ∃ m',abody E self nf 58 [arrK .u8 32 b] m=some (el (looseF b),m'):=by
 rw [abody_eqF (by kernel_rfl) Tryd.func58 bodylo (by kernel_rfl) (Nat.le_of_ble_eq_true rfl)]
 rw [show Tryd.f58.ntmps=13 from rfl]
 have b1:=a46.box (w:=b) (m:=m)
 generalize hA:m++[Blk.row false 54 (rowK .u8 32 b)]=A at b1
 have lA:A.length=m.length+1:=by rw [←hA]; simp
 have b3:=alloc48 A
 rw [lA] at b3
 generalize hC:A++[Blk.row false 56 (c4 0 0 0 0)]=C at b3
 have gx:C[m.length]? = some (.row false 54 (rowK .u8 32 b)):=by
  rw [←hC,List.getElem?_append_left (by omega),←hA]; simp
 have gr:C[m.length+1]? = some (.row false 56 (c4 0 0 0 0)):=by
  rw [←hC,List.getElem?_append_right (by omega),lA]; simp
 have lx:aload E.P 54 (.pointer (some ⟨m.length,0,none⟩)) (C.map sealed)=some (arrK .u8 32 b):=a46.load (ro:=true) (be:=54) (by rw [List.getElem?_map,gx]; rfl)
 have hlt:∀ k,accW b k 8<18446744073709551616:=fun k=>accW_lt hb k 8
 have w0:=hwo 0 (by omega)
 have w1:=hwo 1 (by omega)
 have w2:=hwo 2 (by omega)
 have w3:=hwo 3 (by omega)
 have a1:=and63 (hlt 3)
 have cs:=hse (accW b 0 8) (accW b 1 8) (accW b 2 8) (accW b 3 8%9223372036854775808) 0 (hlt 0) (hlt 1) (hlt 2) (by have:=hlt 3; omega) (by decide)
 rw [Nat.zero_mul,Nat.add_zero,show v4 (accW b 0 8) (accW b 1 8) (accW b 2 8) (accW b 3 8%9223372036854775808)%P25519=looseF b from rfl,show (((0:Nat)):Int)=0 from rfl] at cs
 unfold Ans at w0 w1 w2 w3 cs
 simp only [Int.cast_ofNat_Int] at w0 w1 w2 w3
 generalize looseF b=R at *
 have st:=store48 (a:=wd 0 R) (b:=wd 1 R) (c:=wd 2 R) (d:=wd 3 R) gr rfl
 have ld:=load48 (m:=C.set (m.length+1) (.row false 56 (c4 (wd 0 R) (wd 1 R) (wd 2 R) (wd 3 R)))) (p:=m.length+1) (a:=wd 0 R) (b:=wd 1 R) (c:=wd 2 R) (d:=wd 3 R) (by rw [List.getElem?_set_self (lt_of_at gr)])
 rw [←el_st] at st ld
 generalize accW b 0 8=A0 at *
 generalize accW b 1 8=A1 at *
 generalize accW b 2 8=A2 at *
 generalize accW b 3 8=A3 at *
 simp only [↓dlo_1,↓slo_1,elo_0,elo_1,llo_0,llo_1,agd_none,gdAt,gdV_bool,gdV_undef,Tryd.f58,List.append_eq,List.cons_append,List.nil_append,apure_call1,apure_call2,apure_call3,bft,btf,acodeN,List.getElem?_toArray,List.getElem?_cons_zero,List.getElem?_cons_succ,aopsN,adrawT,cls,astep,aop,afloat,ev,nth_lst,get_lst,aput,setAt_lst,upd_at,init_zero,init_succ,init_nil,Nat.reduceLT,Nat.reduceEqDiff,reduceIte,abuiltin,alen,Option.map_some,Option.map_none,orElse_some,apure_add,apure_eqlV,eqlVal_str,eqlVal_bool,eqlVal_ptr,eqlVal_slice,eqlVal_wide,eqlVal_int,allT,↓aop_eqlV,apure_neq,List.map_cons,List.map_nil,List.all_cons,List.all_nil,lit2,lit1,lit0,List.isEmpty_nil,bls,Bool.false_eq_true,if_true,if_false,List.length_map,beq_self_eq_true,uns,b1,b3,lx,callWo,wrWo,addr22b,w0,w1,w2,w3,a1,callSe,wrSe,addr48,cs,st,ld,finish,ares,aresL,ares1]
 exact ⟨_,rfl⟩
def byteX (X i:Nat):Nat:=wd (i / 8) X / 2^(8*(i%8))%256
theorem a87:ArrT 84 4 22 .u64:=⟨Tryd.underlying84,und22,info_of (by kernel_rfl),info_of (by kernel_rfl)⟩
theorem alloc46 (m:Mem):aalloc E.P 54 m=some (.pointer (some ⟨m.length,0,none⟩),m++[.row false 54 (rowK .u8 32 fun _=>0)]):=by kernel_rfl
theorem alloc87 (m:Mem):aalloc E.P 84 m=some (.pointer (some ⟨m.length,0,none⟩),m++[.row false 84 (rowK .u64 4 fun _=>0)]):=by kernel_rfl
variable {M:Mem} {F:Nat→Value} {i p q:Nat} {w v:Nat→Nat}
theorem iterBy (h3:F 3=.pointer (some ⟨p,0,none⟩)) (h4:F 4=.pointer (some ⟨q,0,none⟩)) (h15:F 15=.int .i64 (i:Nat)) (hi:i<32)
  (hp:M[p]? = some (.row false 84 (rowK .u64 4 w))) (hq:M[q]? = some (.row false 54 (rowK .u8 32 v))) :
  ∃ F',acodeN E self nf lpby_0 (lst F 31) M=some (.normal,lst F' 31,M.set q (.row false 54 (rowK .u8 32 fun j=>if j=i then w (i / 8) / 2^(8*(i%8))%256 else v j)))∧F' 2=F 2∧F' 3=F 3∧F' 4=F 4∧F' 15=.int .i64 ((i+1:Nat):Int):=by
 have hlt:decide (((i:Nat):Int)<32)=true:=decide_eq_true (by omega)
 have e1:wrapF .i64 (((i:Nat):Int).tdiv 8)=((i / 8:Nat):Int):=by
  rw [show ((i:Nat):Int).tdiv 8=((i / 8:Nat):Int) from rfl,wrap_i64 (by omega) (by omega)]
 have e2:((i:Nat):Int).tmod 8=((i%8:Nat):Int):=rfl
 have e3:wrapF .i64 (8*((i%8:Nat):Int))=((8*(i%8):Nat):Int):=by rw [wrap_i64 (by omega) (by omega)]; omega
 have e4:=w1 (i:=i) (by omega)
 have i1:=a87.ix (p:=p) (j:=i / 8) (by omega)
 have i2:=a46.ix (p:=q) (j:=i) hi
 have c1:=cellK hp (j:=i / 8) (by omega)
 have s1:=shrN (x:=w (i / 8)) (n:=8*(i%8)) (by omega)
 have st:=a46.storeE (x:=w (i / 8) / 2^(8*(i%8))%256) hq hi
 generalize w (i / 8) / 2^(8*(i%8))=Q at *
 generalize w (i / 8)=W at *
 simp only [lpby_0_eq,eby_4,eby_5,eby_6,eby_7,lby_4,lby_5,lby_6,lby_7,agd_none,Tryd.f34,acodeN,aopsN,astep,aop,ev,nth_lst,aput,setAt_lst,upd_at,Nat.reduceLT,Nat.reduceEqDiff,Option.map_some,if_true,if_false,h3,h4,h15,lss64,hlt,quo8,e1,i1,a87.loadE,c1,rem8,e2,mul8c,e3,s1,conv22_5b,i2,st,add64',e4]
 exact ⟨_,rfl,rfl,by simp only [upd_at,Nat.reduceEqDiff,reduceIte,h3],by simp only [upd_at,Nat.reduceEqDiff,reduceIte,h4],rfl⟩
theorem lastBy (h15:F 15=.int .i64 (i:Nat)) (hi:32≤i):∃ F',acodeN E self nf lpby_0 (lst F 31) M=some (.exit 0,lst F' 31,M)∧F' 2=F 2∧F' 4=F 4:=by
 have hlt:decide (((i:Nat):Int)<32)=false:=decide_eq_false (by omega)
 simp only [lpby_0_eq,eby_4,lby_4,agd_none,Tryd.f34,acodeN,aopsN,astep,aop,ev,nth_lst,aput,setAt_lst,upd_at,Nat.reduceLT,if_true,h15,lss64,hlt]
 exact ⟨_,rfl,rfl,rfl⟩
theorem loopBy (h3:F 3=.pointer (some ⟨p,0,none⟩)) (h4:F 4=.pointer (some ⟨q,0,none⟩)) (h15:F 15=.int .i64 0) (hpq:p≠q)
  (hp:M[p]? = some (.row false 84 (rowK .u64 4 w))) (hq:M[q]? = some (.row false 54 (rowK .u8 32 fun _=>0))) (hf:40<nf) :
  ∃ F' M',aloop (acodeN E self nf lpby_0) nf (lst F 31) M=some (.exit 0,lst F' 31,M')∧F' 2=F 2∧F' 4=F 4∧M'[q]? = some (.row false 54 (rowK .u8 32 fun i=>w (i / 8) / 2^(8*(i%8))%256))∧(∀ b,b≠q→M'[b]? = M[b]?):=by
 have hloop:=aloop_inv (body:=acodeN E self nf lpby_0) (N:=32)
  (I:=fun i T m'=>m'[q]? = some (.row false 54 (rowK .u8 32 fun j=>if j<i then w (j / 8) / 2^(8*(j%8))%256 else 0))∧(∀ b,b≠q→m'[b]? = M[b]?)∧∃ G,T=lst G 31∧G 2=F 2∧G 3=F 3∧G 4=F 4∧G 15=.int .i64 (i:Nat))
  (Q:=fun e T m'=>e=.exit 0∧m'[q]? = some (.row false 54 (rowK .u8 32 fun i=>w (i / 8) / 2^(8*(i%8))%256))∧(∀ b,b≠q→m'[b]? = M[b]?)∧∃ G,T=lst G 31∧G 2=F 2∧G 4=F 4) (fun i T m' hi hI=>by
   obtain ⟨gq,ho,G,rfl,g2,g3,g4,g15⟩:=hI
   by_cases hlt:i<32
   ·left
    obtain ⟨F',hr,f2,f3,f4,f15⟩:=iterBy (self:=self) (nf:=nf) (w:=w) (g3.trans h3) (g4.trans h4) g15 hlt (by rw [ho p hpq]; exact hp) gq
    refine ⟨_,_,hr,hlt,?_,fun b hb=>by rw [List.getElem?_set_ne (fun e=>hb e.symm),ho b hb],F',rfl,f2.trans g2,f3.trans g3,f4.trans g4,f15⟩
    rw [List.getElem?_set_self (lt_of_at gq)]
    refine congrArg (fun l=>some (Blk.row false 54 l)) (rowK_ext fun j _=>?_)
    by_cases hj:j=i
    ·subst hj
     rw [if_pos rfl,if_pos (by omega)]
    ·rw [if_neg hj]
     by_cases hj2:j<i
     ·rw [if_pos hj2,if_pos (by omega)]
     ·rw [if_neg hj2,if_neg (by omega)]
   ·right
    obtain ⟨F',hr,f2,f4⟩:=lastBy (self:=self) (nf:=nf) (M:=m') g15 (by omega)
    refine ⟨_,_,_,hr,by simp,rfl,?_,ho,F',rfl,f2.trans g2,f4.trans g4⟩
    rw [gq]
    exact congrArg (fun l=>some (Blk.row false 54 l)) (rowK_ext fun j hj=>by rw [if_pos (by omega)]))
 obtain ⟨e,T',M',hr,rfl,gq,ho,G,rfl,g2,g4⟩:=hloop 32 0 nf (lst F 31) M (by omega) (by omega) ⟨by rw [hq]; exact congrArg (fun l=>some (Blk.row false 54 l)) (rowK_ext fun j _=>by rw [if_neg (by omega)]),fun _ _=>rfl,F,rfl,rfl,rfl,rfl,h15⟩
 exact ⟨G,M',hr,g2,g4,gq,ho⟩
theorem by_body (hf:40<nf):∃ m',abody E self nf 34 [el X] m=some (arrK .u8 32 (byteX X),m'):=by
 rw [abody_eqF (by kernel_rfl) Tryd.func34 bodyby (by kernel_rfl) (Nat.le_of_ble_eq_true rfl)]
 rw [show Tryd.f34.ntmps=31 from rfl]
 have b1:=box48 (wd 0 X) (wd 1 X) (wd 2 X) (wd 3 X) m
 generalize hA:m++[Blk.row false 56 (c4 (wd 0 X) (wd 1 X) (wd 2 X) (wd 3 X))]=A at b1
 have lA:A.length=m.length+1:=by rw [←hA]; simp
 have b2:=alloc46 A
 rw [lA] at b2
 generalize hB:A++[Blk.row false 54 (rowK .u8 32 fun _=>0)]=B at b2
 have lB:B.length=m.length+2:=by rw [←hB]; simp [lA]
 have gx:B[m.length]? = some (.row false 56 (c4 (wd 0 X) (wd 1 X) (wd 2 X) (wd 3 X))):=by
  rw [←hB,List.getElem?_append_left (by omega),←hA]; simp
 have gr0:B[m.length+1]? = some (.row false 54 (rowK .u8 32 fun _=>0)):=by
  rw [←hB,List.getElem?_append_right (by omega),lA]; simp
 obtain ⟨x0,x1,x2,x3⟩:=cell4 gx
 have b3:=alloc87 B
 rw [lB] at b3
 generalize hC:B++[Blk.row false 84 (rowK .u64 4 fun _=>0)]=C at b3
 have lC:C.length=m.length+3:=by rw [←hC]; simp [lB]
 have gc:C[m.length+2]? = some (.row false 84 (rowK .u64 4 fun _=>0)):=by
  rw [←hC,List.getElem?_append_right (by omega),lB]; simp
 have gr1:C[m.length+1]? = some (.row false 54 (rowK .u8 32 fun _=>0)):=by
  rw [←hC,List.getElem?_append_left (by omega)]; exact gr0
 have st1:astore E.P 84 (.pointer (some ⟨m.length+2,0,none⟩)) (st4 (wd 0 X) (wd 1 X) (wd 2 X) (wd 3 X)) C=some (C.set (m.length+2) (.row false 84 (rowK .u64 4 fun j=>wd j X))):=a87.store (w:=fun j=>wd j X) (by omega) gc (rowK_length _ _ _)
 obtain ⟨D,hD⟩:∃ D,D=C.set (m.length+2) (.row false 84 (rowK .u64 4 fun j=>wd j X)):=⟨_,rfl⟩
 rw [←hD] at st1
 have lD:D.length=m.length+3:=by rw [hD]; simp [lC]
 have b4:=alloc46 D
 rw [lD] at b4
 generalize hN:D++[Blk.row false 54 (rowK .u8 32 fun _=>0)]=N at b4
 have gp:N[m.length+2]? = some (.row false 84 (rowK .u64 4 fun j=>wd j X)):=by
  rw [←hN,List.getElem?_append_left (by omega),hD,List.getElem?_set_self (by omega)]
 have gq:N[m.length+3]? = some (.row false 54 (rowK .u8 32 fun _=>0)):=by
  rw [←hN,List.getElem?_append_right (by omega),lD]; simp
 have gr:N[m.length+1]? = some (.row false 54 (rowK .u8 32 fun _=>0)):=by
  rw [←hN,List.getElem?_append_left (by omega),hD,List.getElem?_set_ne (by omega)]; exact gr1
 obtain ⟨G,M1,hl,g2,g4,kq,ko⟩:=loopBy (self:=self) (nf:=nf) (M:=N) (p:=m.length+2) (q:=m.length+3) (w:=fun j=>wd j X) (F:=upd (upd (upd (upd (upd (upd (upd (upd (upd (upd (upd (upd (upd (upd (init [el X]) 1 (.pointer (some ⟨m.length,0,none⟩))) 2 (.pointer (some ⟨m.length+1,0,none⟩))) 6 (.pointer (some ⟨m.length,0,none⟩))) 7 (.int .u64 (wd 0 X:Nat))) 8 (.pointer (some ⟨m.length,1,none⟩))) 9 (.int .u64 (wd 1 X:Nat))) 10 (.pointer (some ⟨m.length,2,none⟩))) 11 (.int .u64 (wd 2 X:Nat))) 12 (.pointer (some ⟨m.length,3,none⟩))) 13 (.int .u64 (wd 3 X:Nat))) 14 (st4 (wd 0 X) (wd 1 X) (wd 2 X) (wd 3 X))) 3 (.pointer (some ⟨m.length+2,0,none⟩))) 4 (.pointer (some ⟨m.length+3,0,none⟩))) 15 (.int .i64 0)) rfl rfl rfl (by omega) gp gq hf
 have g2':G 2=.pointer (some ⟨m.length+1,0,none⟩):=g2
 have g4':G 4=.pointer (some ⟨m.length+3,0,none⟩):=g4
 have kq':M1[m.length+3]? = some (.row false 54 (rowK .u8 32 (byteX X))):=kq
 have kr:M1[m.length+1]? = some (.row false 54 (rowK .u8 32 fun _=>0)):=by rw [ko _ (by omega)]; exact gr
 have ld1:=a46.load kq'
 have st2:=a46.store (w:=byteX X) (by omega) kr (rowK_length _ _ _)
 have ld2:aload E.P 54 (.pointer (some ⟨m.length+1,0,none⟩)) (M1.set (m.length+1) (.row false 54 (rowK .u8 32 (byteX X))))=some (arrK .u8 32 (byteX X)):=a46.load (by rw [List.getElem?_set_self (lt_of_at kr)])
 generalize byteX X=R at *
 rw [el_st] at hl⊢
 clear kq kq' kr ko gr gp gq hN hD hC hB hA gr0 gr1 gc gx
 generalize wd 0 X=X0 at *
 generalize wd 1 X=X1 at *
 generalize wd 2 X=X2 at *
 generalize wd 3 X=X3 at *
 simp only [eby_0,eby_1,eby_2,eby_3,eby_4,eby_5,eby_6,eby_7,eby_8,lby_0,lby_1,lby_2,lby_3,lby_4,lby_5,lby_6,lby_7,lby_8,agd_none,gdAt,gdV_bool,gdV_undef,Tryd.f34,List.append_eq,List.cons_append,List.nil_append,apure_call1,apure_call2,apure_call3,bft,btf,acodeN,List.getElem?_toArray,List.getElem?_cons_zero,List.getElem?_cons_succ,aopsN,adrawT,cls,astep,aop,afloat,ev,nth_lst,get_lst,aput,setAt_lst,upd_at,init_zero,init_succ,init_nil,Nat.reduceLT,Nat.reduceEqDiff,reduceIte,abuiltin,alen,Option.map_some,Option.map_none,orElse_some,apure_add,apure_eqlV,eqlVal_str,eqlVal_bool,eqlVal_ptr,eqlVal_slice,eqlVal_wide,eqlVal_int,allT,↓aop_eqlV,apure_neq,List.map_cons,List.map_nil,List.all_cons,List.all_nil,lit2,lit1,lit0,List.isEmpty_nil,bls,Bool.false_eq_true,if_true,if_false,List.length_map,beq_self_eq_true,uns,b1,b2,fa48_0,fa48_1,fa48_2,fa48_3,load22,x0,x1,x2,x3,apure_build4,build87,b3,st1,b4,hl,g2',g4',ld1,st2,ld2,finish,ares,aresL,ares1]
 exact ⟨_,rfl⟩
end
set_option maxHeartbeats 4000000
theorem accW_ext {b b':Nat→Nat} (k:Nat) (h:∀ i,i<8→b (8*k+i)=b' (8*k+i)):∀ n,n≤8→accW b k n=accW b' k n
 | 0,_=>rfl
 | n+1,hn=>by
  simp only [accW]
  rw [accW_ext k h n (by omega),h (7-n) (by omega)]
theorem acc_own {w:Nat} (hw:w<18446744073709551616) {b:Nat→Nat} {k:Nat} (hb:∀ i,i<8→b (8*k+i)=w / 2^(8*i)%256):∀ n,n≤8→accW b k n=w / 2^(8*(8-n))
 | 0,_=>by
  simp only [accW]
  rw [Nat.div_eq_of_lt]
  exact hw
 | n+1,hn=>by
  simp only [accW]
  rw [acc_own hw hb n (by omega),hb (7-n) (by omega)]
  have e:8*(8-n)=8*(7-n)+8:=by omega
  rw [e,Nat.pow_add,←Nat.div_div_eq_div_mul,show 8-(n+1)=7-n by omega]
  generalize w / 2^(8*(7-n))=q
  omega
theorem acc_byteX (X:Nat) {k:Nat} (hk:k<4):accW (byteX X) k 8=wd k X:=by
 have h:=acc_own (w:=wd k X) (wd_lt k X) (b:=byteX X) (k:=k) (fun i hi=>by
  unfold byteX
  rw [show (8*k+i) / 8=k by omega,show (8*k+i)%8=i by omega]) 8 (Nat.le_refl _)
 rw [h]
 simp
theorem loose_byteX {X:Nat} (hX:X<P25519):looseF (byteX X)=X:=by
 unfold looseF
 rw [acc_byteX X (by omega),acc_byteX X (by omega),acc_byteX X (by omega),acc_byteX X (by omega)]
 have hp:=p_lt
 have h3:wd 3 X%9223372036854775808=wd 3 X:=by rw [wd_3]; omega
 rw [h3,v4_wd (by omega),Nat.mod_eq_of_lt hX]
theorem looseF_lt (b:Nat→Nat):looseF b<P25519:=Nat.mod_lt _ (by decide)
theorem callLo:callableB E.P 58=true:=by kernel_rfl
theorem callBy:callableB E.P 34=true:=by kernel_rfl
theorem wrBy:E.wr 34=false:=by kernel_rfl
theorem addr46:addrT E.P 4 54=false:=by kernel_rfl
section
variable {self:Self} {nf:Nat} {m:Mem} {X n:Nat}
end
end Go.Am.Seat
