import Derived.Test.YtcnhakfmnkegcaaDoorGrFieldParses10
set_option linter.unusedSimpArgs false
set_option linter.unusedVariables false
noncomputable section
set_option maxRecDepth 100000
namespace Go.Am.Seat
open Go.Proofs Go.Am
section
variable {self:Self} {nf:Nat} {M:Mem} {F:Nat→Value} {p q:Nat} {w out:Nat→Nat} {far near i:Nat} {rp:Bool}
theorem iterDn (h2:F 2=.pointer (some ⟨p,0,none⟩)) (h7:F 7=.pointer (some ⟨q,0,none⟩)) (h5:F 5=.int .i64 (far:Nat)) (h6:F 6=.int .i64 (near:Nat)) (h8:F 8=.int .i64 (i:Nat))
  (hp:M[p]? = some (.row rp 24 (rowOf w))) (hq:M[q]? = some (.row false 24 (rowOf out))) (hpq:p≠q) (hfi:far≤i) (hi:i<8) (hn:near<64) (hw:∀ j,w j<18446744073709551616) :
  ∃ F',acodeN E self nf lpdn_0 (lst F 45) M=some (.normal,lst F' 45,M.set q (.row false 24 (rowOf (fun j=>if j=i-far then dnW w far near (i-far) else out j))))∧F' 2=F 2∧F' 4=F 4∧F' 5=F 5∧F' 6=F 6∧F' 7=F 7∧F' 8=.int .i64 ((i+1:Nat):Int):=by
 have hlt:decide (((i:Nat):Int)<8)=true:=decide_eq_true (by omega)
 have hqm:=lt_of_at hq
 have e1:=wsub hfi (by omega)
 have e2:=w1 (i:=i) (by omega)
 have e3:=w64sub (a:=near) (by omega)
 have c1:cellAt M p i=some (.int .u64 ((w i:Nat):Int)):=by rw [cellAt_row hp,rowOf_get (by omega)]
 have i1:=ix24 (p:=p) (k:=i) hi
 have i2:=ix24 (p:=q) (k:=i-far) (by omega)
 have s1:=shrN (x:=w i) (n:=near) (by omega)
 have t1:=store22 (x:=w i / 2^near) hq (show i-far<8 by omega)
 have hfa:i-far+far=i:=by omega
 by_cases hg:i+1<8
 ·have hgt:decide (((i+1:Nat):Int)<8)=true:=decide_eq_true (by omega)
  generalize hM1:M.set q (.row false 24 (rowOf (fun j=>if j=i-far then w i / 2^near else out j)))=M1 at t1
  have hq1:M1[q]? = some (.row false 24 (rowOf (fun j=>if j=i-far then w i / 2^near else out j))):=by rw [←hM1,List.getElem?_set_self hqm]
  have hp1:M1[p]? = some (.row rp 24 (rowOf w)):=by rw [←hM1,List.getElem?_set_ne (fun e=>hpq e.symm)]; exact hp
  have hq1s:(M1.map sealed)[q]? = some (.row true 24 (rowOf (fun j=>if j=i-far then w i / 2^near else out j))):=by rw [List.getElem?_map,hq1]; rfl
  have hp1s:(M1.map sealed)[p]? = some (.row true 24 (rowOf w)):=by rw [List.getElem?_map,hp1]; rfl
  have c2:cellAt (M1.map sealed) q (i-far)=some (.int .u64 ((w i / 2^near:Nat):Int)):=by rw [cellAt_row hq1s,rowOf_get (by omega)]; simp
  have c3:cellAt (M1.map sealed) p (i+1)=some (.int .u64 ((w (i+1):Nat):Int)):=by rw [cellAt_row hp1s,rowOf_get (by omega)]
  have i3:=ix24 (p:=p) (k:=i+1) (by omega)
  have s2:=shlN (x:=w (i+1)) (n:=64-near) (by omega)
  have s3:=orN (x:=w i / 2^near) (y:=w (i+1)*2^(64-near)%18446744073709551616) (div_lt64 (hw _)) (Nat.mod_lt _ (by omega))
  have t2:=store22 (x:=(w i / 2^near) ||| (w (i+1)*2^(64-near)%18446744073709551616)) hq1 (show i-far<8 by omega)
  have hfin:M1.set q (.row false 24 (rowOf fun j=>if j=i-far then w i / 2^near ||| w (i+1)*2^(64-near)%18446744073709551616 else if j=i-far then w i / 2^near else out j))=M.set q (.row false 24 (rowOf (fun j=>if j=i-far then dnW w far near (i-far) else out j))):=by
   rw [←hM1,set_twice]
   have this:(rowOf fun j=>if j=i-far then w i / 2^near ||| w (i+1)*2^(64-near)%18446744073709551616 else if j=i-far then w i / 2^near else out j)=rowOf (fun j=>if j=i-far then dnW w far near (i-far) else out j):=by
    apply rowOf_ext
    intro j _
    by_cases hj:j=i-far
    ·simp only [hj,if_true]
     unfold dnW
     rw [hfa,if_pos hi,if_pos hg]
    ·simp only [hj,if_false]
   rw [this]
  simp only [lpdn_0_eq,↓ddn_8,↓sdn_8,edn_4,edn_5,edn_6,edn_7,edn_8,ldn_4,ldn_5,ldn_6,ldn_7,ldn_8,agd_none,Tryd.f69,acodeN,aopsN,adrawT,cls,astep,aop,afloat,ev,nth_lst,aput,setAt_lst,upd_at,Nat.reduceLT,Nat.reduceEqDiff,Option.map_some,bls,if_true,if_false,List.length_map,h2,h5,h6,h7,h8,lss64,hlt,sub64',e1,i1,load22,c1,s1,i2,t1,hgt,c2,i3,c3,e3,s2,s3,t2,add64',e2,hfin]
  exact ⟨_,rfl,by simp only [upd_at,Nat.reduceEqDiff,reduceIte,h2],rfl,by simp only [upd_at,Nat.reduceEqDiff,reduceIte,h5],by simp only [upd_at,Nat.reduceEqDiff,reduceIte,h6],by simp only [upd_at,Nat.reduceEqDiff,reduceIte,h7],rfl⟩
 ·have hgt:decide (((i+1:Nat):Int)<8)=false:=decide_eq_false (by omega)
  have hfin:M.set q (.row false 24 (rowOf fun j=>if j=i-far then w i / 2^near else out j))=M.set q (.row false 24 (rowOf (fun j=>if j=i-far then dnW w far near (i-far) else out j))):=by
   have this:(rowOf fun j=>if j=i-far then w i / 2^near else out j)=rowOf (fun j=>if j=i-far then dnW w far near (i-far) else out j):=by
    apply rowOf_ext
    intro j _
    by_cases hj:j=i-far
    ·simp only [hj,if_true]
     unfold dnW
     rw [hfa,if_pos hi,if_neg hg]
    ·simp only [hj,if_false]
   rw [this]
  simp only [lpdn_0_eq,edn_4,edn_5,edn_6,edn_7,ldn_4,ldn_5,ldn_6,ldn_7,agd_none,Tryd.f69,acodeN,aopsN,astep,aop,ev,nth_lst,aput,setAt_lst,upd_at,Nat.reduceLT,Nat.reduceEqDiff,Option.map_some,if_true,if_false,h2,h5,h6,h7,h8,lss64,hlt,sub64',e1,i1,load22,c1,s1,i2,t1,hgt,add64',e2,hfin]
  exact ⟨_,rfl,by simp only [upd_at,Nat.reduceEqDiff,reduceIte,h2],rfl,by simp only [upd_at,Nat.reduceEqDiff,reduceIte,h5],by simp only [upd_at,Nat.reduceEqDiff,reduceIte,h6],by simp only [upd_at,Nat.reduceEqDiff,reduceIte,h7],rfl⟩
theorem lastDn (h8:F 8=.int .i64 (i:Nat)) (hi:8≤i):∃ F',acodeN E self nf lpdn_0 (lst F 45) M=some (.exit 0,lst F' 45,M)∧F' 4=F 4∧F' 7=F 7:=by
 have hlt:decide (((i:Nat):Int)<8)=false:=decide_eq_false (by omega)
 simp only [lpdn_0_eq,edn_4,ldn_4,agd_none,Tryd.f69,acodeN,aopsN,astep,aop,ev,nth_lst,aput,setAt_lst,upd_at,Nat.reduceLT,Nat.reduceEqDiff,if_true,if_false,h8,lss64,hlt]
 exact ⟨_,rfl,rfl,rfl⟩
theorem dn_body {m:Mem} {n:Nat} (hn:n<512) (hw:∀ j,w j<18446744073709551616) (hf:10<nf) :
  ∃ m',abody E self nf 69 [wide w,.int .i64 (n:Nat)] m=some (wide (dnW w (n / 64) (n%64)),m'):=by
 rw [abody_eqF (by kernel_rfl) Tryd.func69 bodydn (by kernel_rfl) (Nat.le_of_ble_eq_true rfl)]
 rw [show Tryd.f69.ntmps=45 from rfl]
 have e1:=wq64 (n:=n) (by omega)
 have e2:=wrm64 (n:=n)
 have b1:=box24 w m
 have b2:=alloc24 (m++[.row false 24 (rowOf w)])
 have b3:=alloc24 (m++[Blk.row false 24 (rowOf w)]++[.row false 24 (rowOf fun _=>0)])
 generalize hM:m++[Blk.row false 24 (rowOf w)]++[.row false 24 (rowOf fun _=>0)]++[.row false 24 (rowOf fun _=>0)]=M at b3
 have hp:M[m.length]? = some (.row false 24 (rowOf w)):=by
  rw [←hM,List.getElem?_append_left (by simp),List.getElem?_append_left (by simp)]; simp
 have hr:M[m.length+1]? = some (.row false 24 (rowOf fun _=>0)):=by
  rw [←hM,List.getElem?_append_left (by simp),List.getElem?_append_right (by simp)]; simp
 have hq:M[m.length+2]? = some (.row false 24 (rowOf fun _=>0)):=by
  rw [←hM,List.getElem?_append_right (by simp)]; simp
 have l1:(m++[Blk.row false 24 (rowOf w)]).length=m.length+1:=by simp
 have l2:(m++[Blk.row false 24 (rowOf w)]++[Blk.row false 24 (rowOf fun _=>0)]).length=m.length+2:=by simp
 rw [l1] at b2
 rw [l2] at b3
 have hloop:=aloop_inv (body:=acodeN E self nf lpdn_0) (N:=8-n / 64)
  (I:=fun k T M'=>M'[m.length]? = some (.row false 24 (rowOf w))∧M'[m.length+1]? = some (.row false 24 (rowOf fun _=>0))∧M'[m.length+2]? = some (.row false 24 (rowOf fun j=>if j<k then dnW w (n / 64) (n%64) j else 0))∧
   ∃ F,T=lst F 45∧F 2=.pointer (some ⟨m.length,0,none⟩)∧F 4=.pointer (some ⟨m.length+1,0,none⟩)∧F 5=.int .i64 ((n / 64:Nat):Int)∧F 6=.int .i64 ((n%64:Nat):Int)∧F 7=.pointer (some ⟨m.length+2,0,none⟩)∧F 8=.int .i64 ((n / 64+k:Nat):Int))
  (Q:=fun e T M'=>e=.exit 0∧M'[m.length+1]? = some (.row false 24 (rowOf fun _=>0))∧M'[m.length+2]? = some (.row false 24 (rowOf (dnW w (n / 64) (n%64))))∧∃ F,T=lst F 45∧F 4=.pointer (some ⟨m.length+1,0,none⟩)∧F 7=.pointer (some ⟨m.length+2,0,none⟩)) (fun k T M' hk hI=>by
   obtain ⟨gp,gr,gq,F,rfl,g2,g4,g5,g6,g7,g8⟩:=hI
   by_cases hlt:n / 64+k<8
   ·left
    obtain ⟨F',hr',f2,f4,f5,f6,f7,f8⟩:=iterDn (self:=self) (nf:=nf) g2 g7 g5 g6 g8 gp gq (by omega) (by omega) hlt (by omega) hw
    refine ⟨_,_,hr',by omega,?_,?_,?_,F',rfl,by rw [f2,g2],by rw [f4,g4],by rw [f5,g5],by rw [f6,g6],by rw [f7,g7],by rw [f8]; rfl⟩
    ·rw [List.getElem?_set_ne (by omega)]; exact gp
    ·rw [List.getElem?_set_ne (by omega)]; exact gr
    ·rw [List.getElem?_set_self (lt_of_at gq)]
     congr 2
     apply rowOf_ext
     intro j _
     have hk9:n / 64+k-n / 64=k:=by omega
     rw [hk9]
     by_cases hj:j=k
     ·rw [if_pos hj,if_pos (by omega),hj]
     ·rw [if_neg hj]
      by_cases hj2:j<k
      ·rw [if_pos hj2,if_pos (by omega)]
      ·rw [if_neg hj2,if_neg (by omega)]
   ·right
    obtain ⟨F',hr',f4,f7⟩:=lastDn (self:=self) (nf:=nf) (M:=M') g8 (by omega)
    refine ⟨_,_,_,hr',by simp,rfl,gr,?_,F',rfl,by rw [f4,g4],by rw [f7,g7]⟩
    rw [gq]
    congr 2
    apply rowOf_ext
    intro j hj
    by_cases hj2:j<k
    ·rw [if_pos hj2]
    ·rw [if_neg hj2]
     unfold dnW
     rw [if_neg (by omega)])
 obtain ⟨e,T',M2,hl,rfl,hr2,hq2,F',rfl,f4,f7⟩:=hloop (8-n / 64) 0 nf (lst (upd (upd (upd (upd (upd (upd (upd (upd (upd (upd (upd (init [wide w,.int .i64 (n:Nat)]) 2 (.pointer (some ⟨m.length,0,none⟩))) 4 (.pointer (some ⟨m.length+1,0,none⟩))) 9 (.int .i64 (n:Nat))) 10 (.int .i64 ((n / 64:Nat):Int))) 11 (.int .i64 (n:Nat))) 12 (.int .i64 ((n%64:Nat):Int))) 5 (.int .i64 ((n / 64:Nat):Int))) 6 (.int .i64 ((n%64:Nat):Int))) 7 (.pointer (some ⟨m.length+2,0,none⟩))) 13 (.int .i64 ((n / 64:Nat):Int))) 8 (.int .i64 ((n / 64:Nat):Int))) 45) M (by omega) (by omega)
  ⟨hp,hr,by
   rw [hq]
   exact congrArg (fun l=>some (Blk.row false 24 l)) (rowOf_ext fun j _=>by rw [if_neg (by omega)]),_,rfl,rfl,rfl,rfl,rfl,rfl,rfl⟩
 have ld:=load24 hq2
 have st:=store24 (w:=dnW w (n / 64) (n%64)) hr2 (rowOf_length _)
 have ld2:aload E.P 24 (.pointer (some ⟨m.length+1,0,none⟩)) (M2.set (m.length+1) (.row false 24 (rowOf (dnW w (n / 64) (n%64)))))=some (wide (dnW w (n / 64) (n%64))):=load24 (by rw [List.getElem?_set_self (lt_of_at hr2)])
 simp only [edn_0,edn_1,edn_2,edn_3,edn_9,ldn_0,ldn_1,ldn_2,ldn_3,ldn_9,agd_none,Tryd.f69,acodeN,aopsN,astep,aop,ev,nth_lst,aput,setAt_lst,upd_at,init_zero,init_succ,init_nil,Nat.reduceLT,Nat.reduceEqDiff,Option.map_some,if_true,if_false,b1,b2,b3,quo64,rem64,e1,e2,hl,f4,f7,ld,st,ld2,finish,ares,aresL,ares1]
 exact ⟨_,rfl⟩
def apU (P:Program) (u:UnOp) (t ty:TypeId) (v:Value):Option Value:=apure P [v] { dst:=none,op:=.unOp u t (.tmp 0),type:=ty,pos := "",after:=#[],guard:=none }
theorem geq64 (a b:Int):abin .geq .i64 a .i64 b=some (.bool (decide (a≥b))):=by kernel_rfl
theorem upW_lt (hw:∀ j,w j<18446744073709551616) (far near a:Nat):upW w far near a<18446744073709551616:=by
 unfold upW
 split
 ·omega
 ·split
  ·exact Nat.or_lt_two_pow (n:=64) (Nat.mod_lt _ (by omega)) (div_lt64 (hw _))
  ·exact Nat.mod_lt _ (by omega)
theorem dnW_lt (hw:∀ j,w j<18446744073709551616) (far near a:Nat):dnW w far near a<18446744073709551616:=by
 unfold dnW
 split
 ·split
  ·exact Nat.or_lt_two_pow (n:=64) (div_lt64 (hw _)) (Nat.mod_lt _ (by omega))
  ·exact div_lt64 (hw _)
 ·omega
end
def rrof_0:=opR Tryd.f15 [0]
def lrof_0:List Oper:=match Tryd.f15.body with
 | some (.seq (.region _ o _) _)=>o.toList
 | _=>[]
theorem erof_0:rrof_0.toList=lrof_0:=rfl
def rrof_1:=opR Tryd.f15 [1,0]
def lrof_1:List Oper:=match Tryd.f15.body with
 | some (.seq _ (.seq (.region _ o _) _))=>o.toList
 | _=>[]
theorem erof_1:rrof_1.toList=lrof_1:=rfl
def rrof_2:=opR Tryd.f15 [1,1,0,0]
def lrof_2:List Oper:=match Tryd.f15.body with
 | some (.seq _ (.seq _ (.seq (.seq (.region _ o _) _) _)))=>o.toList
 | _=>[]
theorem erof_2:rrof_2.toList=lrof_2:=rfl
def lprof_0:Code:=match Tryd.f15.body with
 | some (.seq _ (.seq _ (.seq (.seq _ (.block _ (.loop c))) _)))=>c
 | _=>.skip
def rrof_3:=opR Tryd.f15 [1,1,0,1,0,0,0,0]
def lrof_3:List Oper:=match Tryd.f15.body with
 | some (.seq _ (.seq _ (.seq (.seq _ (.block _ (.loop (.seq (.seq (.region _ o _) _) _)))) _)))=>o.toList
 | _=>[]
theorem erof_3:rrof_3.toList=lrof_3:=rfl
def rrof_5:=opR Tryd.f15 [1,1,0,1,0,0,1,0,0]
def lrof_5:List Oper:=match Tryd.f15.body with
 | some (.seq _ (.seq _ (.seq (.seq _ (.block _ (.loop (.seq _ (.seq (.block _ (.region _ o _)) _))))) _)))=>o.toList
 | _=>[]
theorem erof_5:rrof_5.toList=lrof_5:=rfl
def rrof_4:=opR Tryd.f15 [1,1,0,1,0,0,1,1]
def lrof_4:List Oper:=match Tryd.f15.body with
 | some (.seq _ (.seq _ (.seq (.seq _ (.block _ (.loop (.seq _ (.seq _ (.region _ o _)))))) _)))=>o.toList
 | _=>[]
theorem erof_4:rrof_4.toList=lrof_4:=rfl
theorem lprof_0_eq:lprof_0=(.seq (.seq (.region 3 rrof_3 false) (.cond (.tmp 8) .skip (.exit 0))) (.seq (.block 1 (.region 5 rrof_5 false)) (.region 4 rrof_4 false))):=rfl
def rrof_6:=opR Tryd.f15 [1,1,1,0]
def lrof_6:List Oper:=match Tryd.f15.body with
 | some (.seq _ (.seq _ (.seq _ (.seq (.region _ o _) _))))=>o.toList
 | _=>[]
theorem erof_6:rrof_6.toList=lrof_6:=rfl
theorem bodyrof:Tryd.f15.body=some (.seq (.region 0 rrof_0 false) (.seq (.region 1 rrof_1 false) (.seq (.seq (.region 2 rrof_2 false) (.block 0 (.loop lprof_0))) (.seq (.region 6 rrof_6 false) .ret)))):=rfl
def rtrm_0:=opR Tryd.f40 [0]
def ltrm_0:List Oper:=match Tryd.f40.body with
 | some (.seq (.region _ o _) _)=>o.toList
 | _=>[]
theorem etrm_0:rtrm_0.toList=ltrm_0:=rfl
def rtrm_1:=opR Tryd.f40 [1,0]
def ltrm_1:List Oper:=match Tryd.f40.body with
 | some (.seq _ (.seq (.region _ o _) _))=>o.toList
 | _=>[]
theorem etrm_1:rtrm_1.toList=ltrm_1:=rfl
def lptrm_0:Code:=match Tryd.f40.body with
 | some (.seq _ (.seq _ (.seq (.block _ (.loop c)) _)))=>c
 | _=>.skip
def rtrm_2:=opR Tryd.f40 [1,1,0,0,0,0,0]
def ltrm_2:List Oper:=match Tryd.f40.body with
 | some (.seq _ (.seq _ (.seq (.block _ (.loop (.seq (.seq (.region _ o _) _) _))) _)))=>o.toList
 | _=>[]
theorem etrm_2:rtrm_2.toList=ltrm_2:=rfl
theorem gtrm_2_2 {T:List Value} {dd:Option Tmp} {op:Op} {ty:TypeId} {pos:String} {af:Array Edge} {want:Bool}:agd rtrm_2 T { dst:=dd,op:=op,type:=ty,pos:=pos,after:=af,guard:=some (2,want) }=gdAt T 8 want:=agd_at (by kernel_rfl)
def rtrm_3:=opR Tryd.f40 [1,1,0,0,0,1,0]
def ltrm_3:List Oper:=match Tryd.f40.body with
 | some (.seq _ (.seq _ (.seq (.block _ (.loop (.seq _ (.block _ (.region _ o _))))) _)))=>o.toList
 | _=>[]
theorem etrm_3:rtrm_3.toList=ltrm_3:=rfl
theorem lptrm_0_eq:lptrm_0=(.seq (.seq (.region 2 rtrm_2 false) (.cond (.tmp 15) .skip (.exit 0))) (.block 1 (.region 3 rtrm_3 false))):=rfl
def rtrm_4:=opR Tryd.f40 [1,1,1,0]
def ltrm_4:List Oper:=match Tryd.f40.body with
 | some (.seq _ (.seq _ (.seq _ (.seq (.region _ o _) _))))=>o.toList
 | _=>[]
theorem etrm_4:rtrm_4.toList=ltrm_4:=rfl
theorem bodytrm:Tryd.f40.body=some (.seq (.region 0 rtrm_0 false) (.seq (.region 1 rtrm_1 false) (.seq (.block 0 (.loop lptrm_0)) (.seq (.region 4 rtrm_4 false) .ret)))):=rfl
def SL (m:Mem) (e:TypeId) (v:Value) (l:List Value):Prop :=
 (l=[]∧v=.slice none 0 0)∨(∃ b,v=.slice (some ⟨b,0,none⟩) l.length l.length∧m[b]? = some (.row false e l)∧l≠[])
def RowT (sT e:TypeId):Prop:=E.P.underlying sT=some (.slice e)∧∃ i z,E.P.info? e=some i∧i.zero=some z∧i.size=1∧i.bytes≠0∧i.bytes≤8∧z.cells.size=1
theorem rowT_of {sT e:TypeId} (h:E.P.underlying sT=some (.slice e)) {n:Nat} (h1:(E.P.info? e).map (fun i=>(i.size,i.bytes))=some (1,n)) (h2:((E.P.info? e).bind (·.zero)).map (·.cells.size)=some 1) (hn:n≠0) (hn':n≤8):RowT sT e:=by
 obtain ⟨i,h3,h4⟩:=Option.map_eq_some_iff.1 h1
 rw [h3] at h2
 obtain ⟨z,h5,h6⟩:=Option.map_eq_some_iff.1 h2
 simp only [Prod.mk.injEq] at h4
 exact ⟨h,i,z,h3,h5,h4.1,by omega,by omega,h6⟩
theorem rowNum:RowT 27 3:=rowT_of Tryd.underlying27 (n:=8) (by kernel_rfl) (by kernel_rfl) (by omega) (by omega)
theorem app1 {sT e:TypeId} (hT:RowT sT e) {m:Mem} {v c:Value} {l:List Value} (hc:cellOk c=true) (h:SL m e v l) (hl:l.length≤100000) :
  ∃ v' m',aappend E.P sT sT v (.slice (some ⟨m.length,0,none⟩) 1 1) (m++[.row false e [c]])=some (v',m')∧SL m' e v' (l++[c])∧m.length≤m'.length∧(∀ b L q,v'=.slice (some ⟨b,0,none⟩) L q→m.length≤b):=by
 obtain ⟨hs,i,z,h1,h2,h3,h4,h5,h6⟩:=hT
 have hsrc:asrc (m++[Blk.row false e [c]]) 1 (.slice (some ⟨m.length,0,none⟩) 1 1)=some (1,[c]):=by
  have h:(m++[Blk.row false e [c]])[m.length]? = some (.row false e [c]):=by simp
  unfold asrc
  simp only [lookRow h]
  rfl
 rcases h with ⟨rfl,rfl⟩ | ⟨b,rfl,hb,hne⟩
 ·refine ⟨.slice (some ⟨(m++[Blk.row false e [c]]).length,0,none⟩) 1 1,m++[.row false e [c]]++[.row false e [c]],?_,.inr ⟨_,rfl,by simp,by simp⟩,by simp,fun b L q h=>by cases h; simp⟩
  unfold aappend
  simp only [hs,h1,h2,h3,hsrc,isIntD,h6]
  rw [if_neg (by simp [hc,h4]),if_neg (by omega),if_pos (by omega)]
 ·have hbm:=lt_of_at hb
  have hb2:(m++[Blk.row false e [c]])[b]? = some (.row false e l):=by rw [List.getElem?_append_left hbm]; exact hb
  refine ⟨.slice (some ⟨(m++[Blk.row false e [c]]).length,0,none⟩) (l.length+1) (l.length+1),(m++[Blk.row false e [c]]).set b .dead++[.row false e (l++[c])],?_,.inr ⟨m.length+1,by simp,by rw [List.getElem?_append_right (by simp)]; simp,by simp⟩,by simp; omega,fun b L q h=>by cases h; simp⟩
  unfold aappend
  simp only [hs,h1,h2,h3,hsrc,isIntD,h6,hb2]
  have hr:(2*(l.length+1)+768)*i.bytes≤281474976710656:=by
   have:(2*(l.length+1)+768)*i.bytes≤(2*(l.length+1)+768)*8:=Nat.mul_le_mul_left _ h5
   omega
  rw [if_neg (by simp [hc,h4]),if_neg (by omega),if_pos ⟨trivial,trivial,by omega,hr⟩]
  simp
section
variable {self:Self} {nf:Nat} {m:Mem} {F:Nat→Value} {w:Nat→Nat} {j k x:Nat} {v:Value} {l:List Value}
theorem callOf:callableB E.P 15=true:=by kernel_rfl
end
theorem build27 (c:Int) (m:Mem):abuildSlice E.P 27 1 [(0,.int .i64 c)] m=some (.slice (some ⟨m.length,0,none⟩) 1 1,m++[.row false 3 [.int .i64 c]]):=by kernel_rfl
theorem calltrim:callableB E.P 40=true:=by kernel_rfl
theorem und27:E.P.underlying 27=some (.slice 3):=Tryd.underlying27
theorem info3:∃ i,E.P.info? 3=some i∧i.size=1:=by
 have h:(E.P.info? 3).map (·.size)=some 1:=by kernel_rfl
 exact Option.map_eq_some_iff.1 h
theorem load3 (b o:Nat) (m:Mem):aload E.P 3 (.pointer (some ⟨b,o,none⟩)) m=cellAt m b o:=aload_cell und3 rfl b o m
theorem ix27 {b L c j:Nat} (h:j<L):aindexAddr E.P 27 (.slice (some ⟨b,0,none⟩) L c) (.int .i64 (j:Nat))=some (.pointer (some ⟨b,j,none⟩)):=by
 obtain ⟨i,h1,h2⟩:=info3
 unfold aindexAddr
 simp only [und27,h1,h2]
 rw [if_pos (by omega)]
 simp
theorem eql64 (a b:Int):abin .eql .i64 a .i64 b=some (.bool (a==b)):=by kernel_rfl
theorem slice27 {m:Mem} {b n L:Nat} {ro:Bool} {cs:List Value} (h:m[b]? = some (.row ro 3 cs)) (hL:0<L) (hn:n≤L):aslice E.P 27 (.slice (some ⟨b,0,none⟩) L L) none (some (.int .i64 (n:Nat))) m=some (.slice (some ⟨b,0,none⟩) n L):=by
 obtain ⟨i,h1,h2⟩:=info3
 unfold aslice
 simp only [und27,h1,lookRow h]
 unfold abounds abound
 simp only
 rw [if_pos (by omega)]
 simp only
 rw [if_neg (by simp [h2]; omega)]
 simp
def cellsN (l:List Nat):List Value:=l.map fun x=>.int .i64 ((x:Nat):Int)
theorem cellsN_get {l:List Nat} {j x:Nat} (h:l[j]? = some x):(cellsN l)[j]? = some (.int .i64 ((x:Nat):Int)):=by
 unfold cellsN
 rw [List.getElem?_map,h]
 rfl
theorem cellsN_length (l:List Nat):(cellsN l).length=l.length:=by simp [cellsN]
section
variable {self:Self} {nf:Nat} {m:Mem} {F:Nat→Value} {s:ByteArray} {b L n i:Nat} {l:List Nat} {ro:Bool}
theorem iterOf (h0:F 0=.string s) (h4:F 4=.int .i64 (i:Nat)) {x:UInt8} (hx:s.data.toList[i]? = some x) (hS:SL m 3 (F 3) (cellsN l)) (hl:l.length≤10000) (hi:i<10000) :
  ∃ F' m',acodeN E self nf lprof_0 (lst F 20) m=some (.normal,lst F' 20,m')∧SL m' 3 (F' 3) (cellsN (l++[x.toNat]))∧F' 0=.string s∧F' 4=.int .i64 ((i+1:Nat):Int)∧m.length≤m'.length∧(∀ b L c,F' 3=.slice (some ⟨b,0,none⟩) L c→m.length≤b):=by
 have hil:=(List.getElem?_eq_some_iff.1 hx).1
 have hlt:decide (((i:Nat):Int)<((s.data.toList.length:Nat):Int))=true:=decide_eq_true (by omega)
 have e2:=w1 (i:=i) (by omega)
 generalize hv:F 3=v at hS
 obtain ⟨v',m',happ,hS',hle,hfr⟩:=app1 rowNum (c:=.int .i64 ((x.toNat:Nat):Int)) rfl hS (by rw [cellsN_length]; omega)
 simp only [lprof_0_eq,erof_3,erof_4,erof_5,lrof_3,lrof_4,lrof_5,agd_none,Tryd.f15,acodeN,aopsN,astep,aop,ev,nth_lst,aput,setAt_lst,upd_at,Nat.reduceLT,Nat.reduceEqDiff,abuiltin,alen,List.map_cons,List.map_nil,if_true,if_false,uns,h0,h4,hv,lss64,hlt,index9 hx,conv5_3,bw3,build27,happ,add64',e2]
 refine ⟨_,_,rfl,?_,by simp only [upd_at,Nat.reduceEqDiff,reduceIte,h0],rfl,hle,fun b L c h=>by simp only [upd_at,Nat.reduceEqDiff,reduceIte] at h; exact hfr b L c h⟩
 simp only [upd_at,Nat.reduceEqDiff,reduceIte]
 unfold cellsN at hS'⊢
 rw [List.map_append]
 exact hS'
theorem lastOf (h0:F 0=.string s) (h4:F 4=.int .i64 (i:Nat)) (hi:s.data.toList.length≤i):∃ F',acodeN E self nf lprof_0 (lst F 20) m=some (.exit 0,lst F' 20,m)∧F' 3=F 3:=by
 have hlt:decide (((i:Nat):Int)<((s.data.toList.length:Nat):Int))=false:=decide_eq_false (by omega)
 simp only [lprof_0_eq,erof_3,lrof_3,agd_none,Tryd.f15,acodeN,aopsN,astep,aop,ev,nth_lst,aput,setAt_lst,upd_at,Nat.reduceLT,Nat.reduceEqDiff,abuiltin,alen,if_true,if_false,uns,h0,h4,lss64,hlt]
 exact ⟨_,rfl,rfl⟩
def natsOf (s:ByteArray):List Nat:=s.data.toList.map (·.toNat)
theorem of_body (hs:s.data.toList.length≤1000) (h0:0<s.data.toList.length) (hf:1000<nf)
  (hT:∀ (M:Mem) (b:Nat),M[b]? = some (.row false 3 (cellsN (natsOf s)))→ainv E self 40 [.slice (some ⟨b,0,none⟩) s.data.toList.length s.data.toList.length] M=some (.slice (some ⟨b,0,none⟩) n s.data.toList.length,M)) :
  ∃ b m',abody E self nf 15 [.string s] m=some (.slice (some ⟨b,0,none⟩) n s.data.toList.length,m')∧m'[b]? = some (.row false 3 (cellsN (natsOf s)))∧m.length≤b:=by
 rw [abody_eqF (by kernel_rfl) Tryd.func15 bodyrof (by kernel_rfl) (Nat.le_of_ble_eq_true rfl)]
 rw [show Tryd.f15.ntmps=20 from rfl]
 have hloop:=aloop_inv (body:=acodeN E self nf lprof_0) (N:=s.data.toList.length)
  (I:=fun i T m'=>∃ G,T=lst G 20∧SL m' 3 (G 3) (cellsN ((natsOf s).take i))∧G 0=.string s∧G 4=.int .i64 (i:Nat)∧(∀ b L c,G 3=.slice (some ⟨b,0,none⟩) L c→m.length≤b)∧m.length≤m'.length)
  (Q:=fun e T m'=>e=.exit 0∧∃ G,T=lst G 20∧SL m' 3 (G 3) (cellsN (natsOf s))∧(∀ b L c,G 3=.slice (some ⟨b,0,none⟩) L c→m.length≤b)) (fun i T m' hi hI=>by
   obtain ⟨G,rfl,gS,g0,g4,gb,hle⟩:=hI
   by_cases hlt:i<s.data.toList.length
   ·left
    have hx:s.data.toList[i]? = some s.data.toList[i]:=by simp [hlt]
    have htl:((natsOf s).take i).length≤10000:=by rw [List.length_take]; omega
    obtain ⟨F',m2,hr,fS,f0,f4,hle2,hfb⟩:=iterOf (self:=self) (nf:=nf) g0 g4 hx gS htl (by omega)
    refine ⟨_,_,hr,hlt,F',rfl,?_,f0,f4,fun b L c h=>Nat.le_trans hle (hfb b L c h),Nat.le_trans hle hle2⟩
    have:(natsOf s).take (i+1)=(natsOf s).take i++[s.data.toList[i].toNat]:=by
     rw [List.take_add_one]
     unfold natsOf
     rw [List.getElem?_map,hx]
     rfl
    rw [this]
    exact fS
   ·right
    obtain ⟨F',hr,f3⟩:=lastOf (self:=self) (nf:=nf) (m:=m') g0 g4 (by omega)
    rw [List.take_of_length_le (by unfold natsOf; rw [List.length_map]; omega)] at gS
    exact ⟨_,_,_,hr,by simp,rfl,F',rfl,by rw [f3]; exact gS,by rw [f3]; exact gb⟩)
 obtain ⟨e,T',m',hr,rfl,G,rfl,gS,gb⟩:=hloop s.data.toList.length 0 nf (lst (upd (upd (upd (init [.string s]) 2 (.slice none 0 0)) 3 (.slice none 0 0)) 4 (.int .i64 0)) 20) m (by omega) (by omega) ⟨_,rfl,.inl ⟨rfl,rfl⟩,rfl,rfl,fun b L c h=>by simp [upd] at h,Nat.le_refl _⟩
 have hnl:(cellsN (natsOf s)).length=s.data.toList.length:=by rw [cellsN_length]; unfold natsOf; rw [List.length_map]
 rcases gS with ⟨h9,_⟩ | ⟨b,g3,hb,_⟩
 ·have:=congrArg List.length h9
  rw [hnl,List.length_nil] at this
  omega
 ·rw [hnl] at g3
  have hT:=hT m' b hb
  simp only [erof_0,erof_1,erof_2,erof_6,lrof_0,lrof_1,lrof_2,lrof_6,agd_none,Tryd.f15,List.cons_append,List.nil_append,acodeN,aopsN,astep,aop,ev,nth_lst,aput,setAt_lst,upd_at,Nat.reduceLT,Nat.reduceEqDiff,Option.map_some,List.map_cons,List.map_nil,List.isEmpty_nil,bls,if_true,if_false,hr,g3,calltrim,hT,finish,ares,aresL,ares1]
  exact ⟨b,m',rfl,hb,gb _ _ _ g3⟩
theorem iterTrm {c:Nat} (h0:F 0=.slice (some ⟨b,0,none⟩) L c) (h3:F 3=.int .i64 ((n+1:Nat):Int)) (hn:n<L) (hL:L≤100000) (hb:m[b]? = some (.row ro 3 (cellsN l))) (hx:l[n]? = some 0) :
  ∃ F',acodeN E self nf lptrm_0 (lst F 21) m=some (.normal,lst F' 21,m)∧F' 0=F 0∧F' 3=.int .i64 (n:Nat):=by
 have hgt:decide (((n+1:Nat):Int)>0)=true:=decide_eq_true (by omega)
 have e1:wrapF .i64 (((n+1:Nat):Int)-1)=((n:Nat):Int):=by rw [wrap_i64 (by omega) (by omega)]; omega
 have i1:=ix27 (b:=b) (c:=c) hn
 have c1:cellAt m b n=some (.int .i64 ((0:Nat):Int)):=by rw [cellAt_row hb,cellsN_get hx]
 have q1:(((0:Nat):Int)==0)=true:=rfl
 simp only [lptrm_0_eq,etrm_2,etrm_3,ltrm_2,ltrm_3,gtrm_2_2,agd_none,gdAt,gdV_bool,Tryd.f40,acodeN,aopsN,astep,aop,ev,nth_lst,get_lst,aput,setAt_lst,upd_at,Nat.reduceLT,Nat.reduceEqDiff,Option.map_some,if_true,if_false,beq_self_eq_true,h0,h3,gtr64',hgt,sub64',e1,i1,load3,c1,eql64,q1]
 exact ⟨_,rfl,by simp only [upd_at,Nat.reduceEqDiff,reduceIte,h0],rfl⟩
theorem lastTrm {c:Nat} (h0:F 0=.slice (some ⟨b,0,none⟩) L c) (h3:F 3=.int .i64 (n:Nat)) (hn:n≤L) (hL:L≤100000) (hb:m[b]? = some (.row ro 3 (cellsN l))) (hx:n=0∨∃ x,0<x∧l[n-1]? = some x) :
  ∃ F',acodeN E self nf lptrm_0 (lst F 21) m=some (.exit 0,lst F' 21,m)∧F' 0=F 0∧F' 3=F 3:=by
 rcases hx with rfl | ⟨x,hx0,hx⟩
 ·have hgt:decide (((0:Nat):Int)>0)=false:=rfl
  simp only [lptrm_0_eq,etrm_2,ltrm_2,gtrm_2_2,agd_none,gdAt,gdV_bool,Tryd.f40,bft,acodeN,aopsN,astep,aop,ev,nth_lst,get_lst,aput,setAt_lst,upd_at,Nat.reduceLT,Nat.reduceEqDiff,Bool.false_eq_true,if_true,if_false,h0,h3,gtr64',hgt]
  exact ⟨_,rfl,by simp only [upd_at,Nat.reduceEqDiff,reduceIte,h0],by simp only [upd_at,Nat.reduceEqDiff,reduceIte,h3]⟩
 ·by_cases hn0:n=0
  ·subst hn0
   have hgt:decide (((0:Nat):Int)>0)=false:=rfl
   simp only [lptrm_0_eq,etrm_2,ltrm_2,gtrm_2_2,agd_none,gdAt,gdV_bool,Tryd.f40,bft,acodeN,aopsN,astep,aop,ev,nth_lst,get_lst,aput,setAt_lst,upd_at,Nat.reduceLT,Nat.reduceEqDiff,Bool.false_eq_true,if_true,if_false,h0,h3,gtr64',hgt]
   exact ⟨_,rfl,by simp only [upd_at,Nat.reduceEqDiff,reduceIte,h0],by simp only [upd_at,Nat.reduceEqDiff,reduceIte,h3]⟩
  ·have hgt:decide (((n:Nat):Int)>0)=true:=decide_eq_true (by omega)
   have e1:=wsub1 (a:=n) (by omega) (by omega)
   have i1:=ix27 (b:=b) (c:=c) (show n-1<L by omega)
   have c1:cellAt m b (n-1)=some (.int .i64 ((x:Nat):Int)):=by rw [cellAt_row hb,cellsN_get hx]
   have q1:(((x:Nat):Int)==0)=false:=by rw [beq_eq_false_iff_ne]; omega
   simp only [lptrm_0_eq,etrm_2,ltrm_2,gtrm_2_2,agd_none,gdAt,gdV_bool,Tryd.f40,acodeN,aopsN,astep,aop,ev,nth_lst,get_lst,aput,setAt_lst,upd_at,Nat.reduceLT,Nat.reduceEqDiff,Option.map_some,if_true,if_false,beq_self_eq_true,h0,h3,gtr64',hgt,sub64',e1,i1,load3,c1,eql64,q1]
   exact ⟨_,rfl,by simp only [upd_at,Nat.reduceEqDiff,reduceIte,h0],by simp only [upd_at,Nat.reduceEqDiff,reduceIte,h3]⟩
def TrimAt (l:List Nat) (n:Nat):Prop:=n≤l.length∧(∀ j,n≤j→j<l.length→l[j]? = some 0)∧(n=0∨∃ x,0<x∧l[n-1]? = some x)
theorem trim_body (hb:m[b]? = some (.row ro 3 (cellsN l))) (hl:0<l.length) (hl':l.length≤1000) (hf:1000<nf) :
  ∃ n,TrimAt l n∧abody E self nf 40 [.slice (some ⟨b,0,none⟩) l.length l.length] m=some (.slice (some ⟨b,0,none⟩) n l.length,m):=by
 rw [abody_eqF (by kernel_rfl) Tryd.func40 bodytrm (by kernel_rfl) (Nat.le_of_ble_eq_true rfl)]
 rw [show Tryd.f40.ntmps=21 from rfl]
 have hloop:=aloop_inv (body:=acodeN E self nf lptrm_0) (N:=l.length)
  (I:=fun k T m'=>m'=m∧(∀ j,l.length-k≤j→j<l.length→l[j]? = some 0)∧∃ G,T=lst G 21∧G 0=.slice (some ⟨b,0,none⟩) l.length l.length∧G 3=.int .i64 ((l.length-k:Nat):Int))
  (Q:=fun e T m'=>e=.exit 0∧m'=m∧∃ n G,TrimAt l n∧T=lst G 21∧G 0=.slice (some ⟨b,0,none⟩) l.length l.length∧G 3=.int .i64 (n:Nat)) (fun k T m' hk hI=>by
   obtain ⟨rfl,hz,G,rfl,g0,g3⟩:=hI
   by_cases hmore:k<l.length∧l[l.length-k-1]? = some 0
   ·left
    have h9:l.length-k=(l.length-(k+1))+1:=by omega
    rw [h9] at g3
    obtain ⟨F',hr,f0,f3⟩:=iterTrm (self:=self) (nf:=nf) g0 g3 (by omega) (by omega) hb (by rw [show l.length-(k+1)=l.length-k-1 by omega]; exact hmore.2)
    refine ⟨_,_,hr,hmore.1,rfl,fun j hj hj2=>?_,F',rfl,by rw [f0,g0],f3⟩
    by_cases hje:j=l.length-(k+1)
    ·rw [hje,show l.length-(k+1)=l.length-k-1 by omega]; exact hmore.2
    ·exact hz j (by omega) hj2
   ·right
    have hx:l.length-k=0∨∃ x,0<x∧l[l.length-k-1]? = some x:=by
     by_cases hk2:k<l.length
     ·right
      have hlt:l.length-k-1<l.length:=by omega
      refine ⟨l[l.length-k-1],?_,by simp [hlt]⟩
      rcases Nat.eq_zero_or_pos l[l.length-k-1] with h0 | h0
      ·exact absurd ⟨hk2,by rw [List.getElem?_eq_getElem hlt,h0]⟩ hmore
      ·exact h0
     ·left; omega
    obtain ⟨F',hr,f0,f3⟩:=lastTrm (self:=self) (nf:=nf) g0 g3 (by omega) (by omega) hb hx
    exact ⟨_,_,_,hr,by simp,rfl,rfl,l.length-k,F',⟨by omega,hz,hx⟩,rfl,by rw [f0,g0],by rw [f3,g3]⟩)
 obtain ⟨e,T',m',hr,rfl,rfl,n,G,hT,rfl,g0,g3⟩:=hloop l.length 0 nf (lst (upd (upd (upd (upd (init [.slice (some ⟨b,0,none⟩) l.length l.length]) 2 (.slice none 0 0)) 4 (.slice (some ⟨b,0,none⟩) l.length l.length)) 5 (.int .i64 ((l.length:Nat):Int))) 3 (.int .i64 ((l.length:Nat):Int))) 21) m (by omega) (by omega) ⟨rfl,fun j h1 h2=>by omega,_,rfl,rfl,rfl⟩
 refine ⟨n,hT,?_⟩
 have sl:=slice27 (n:=n) hb hl hT.1
 simp only [etrm_0,etrm_1,etrm_4,ltrm_0,ltrm_1,ltrm_4,agd_none,Tryd.f40,acodeN,aopsN,astep,aop,ev,nth_lst,aput,setAt_lst,upd_at,init_zero,init_succ,init_nil,Nat.reduceLT,Nat.reduceEqDiff,abuiltin,alen,Option.map_some,Option.map_none,if_true,if_false,und27,hr,g0,g3,sl,finish,ares,aresL,ares1]
theorem quo8 (k:Int):abin .quo .i64 k .i64 8=some (.int .i64 (wrapF .i64 (k.tdiv 8))):=by kernel_rfl
theorem rem8 (k:Int):abin .rem .i64 k .i64 8=some (.int .i64 (k.tmod 8)):=by kernel_rfl
end
end Go.Am.Seat
