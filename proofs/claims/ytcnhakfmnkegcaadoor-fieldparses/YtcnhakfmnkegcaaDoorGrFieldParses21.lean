import Derived.Test.YtcnhakfmnkegcaaDoorGrFieldParses20
set_option linter.unusedSimpArgs false
set_option linter.unusedVariables false
set_option maxRecDepth 100000
namespace Go.Am.Seat
open Go.Proofs Go.Am Go.Am.Num Go.Am.Kn
section
variable {self:Self} {nf:Nat} {m:Mem} {F:Nat→Value} {p n:Nat} {w:Nat→Nat} {be:TypeId} {m':Mem}
theorem wus_0 (hb:abox E.P 24 (wide w) m=some (.pointer (some ⟨p,0,none⟩),m')) (h0:F 0=wide w):∃ F',acodeN E self nf (.region 0 rwus_0 false) (lst F 16) m=some (.normal,lst F' 16,m')∧F' 1=.pointer (some ⟨p,0,none⟩):=by
 simp only [owus_0,agd_none,acodeN,aopsN,astep,aop,ev,nth_lst,aput,setAt_lst,Nat.reduceLT,if_true,h0,hb]
 exact ⟨_,rfl,rfl⟩
theorem wus_1:∃ F',acodeN E self nf (.region 1 rwus_1 false) (lst F 16) m=some (.normal,lst F' 16,m)∧F' 3=.int .i64 8∧F' 1=F 1:=by
 simp only [owus_1,agd_none,acodeN,aopsN,astep,aop,ev,aput,setAt_lst]
 exact ⟨_,rfl,rfl,rfl⟩
theorem wus_2t {b:Bool} (h1:F 1=.pointer (some ⟨p,0,none⟩)) (h3:F 3=.int .i64 ((n+1:Nat):Int)) (hn:n<8) (c:cellAt m p n=some (U (w n))) (hb:(((w n:Nat):Int)==0)=b) :
  ∃ F',acodeN E self nf (.region 2 rwus_2 false) (lst F 16) m=some (.normal,lst F' 16,m)∧F' 12=.bool b∧F' 1=F 1∧F' 3=F 3:=by
 have e:wrapF .i64 (((n+1:Nat):Int)-1)=((n:Nat):Int):=by rw [wrap_i64 (by omega) (by omega)]; omega
 have hg:decide (((n+1:Nat):Int)>0)=true:=decide_eq_true (by omega)
 have i1:=ix24 (p:=p) (k:=n) hn
 simp only [owus_2,gwus_2_2,agd_none,gdAt,gdV_bool,acodeN,aopsN,astep,aop,ev,nth_lst,get_lst,aput,setAt_lst,upd_at,Nat.reduceLT,Nat.reduceEqDiff,Option.map_some,eqlVal_int,↓aop_eqlV,if_true,if_false,beq_self_eq_true,h1,h3,gtr64',hg,sub64',e,i1,load22,c,hb]
 exact ⟨_,rfl,rfl,by simp only [upd_at,Nat.reduceEqDiff,reduceIte,h1],by simp only [upd_at,Nat.reduceEqDiff,reduceIte,h3]⟩
theorem wus_2z (h3:F 3=.int .i64 ((0:Nat):Int)) :
  ∃ F',acodeN E self nf (.region 2 rwus_2 false) (lst F 16) m=some (.normal,lst F' 16,m)∧F' 12=.bool false∧F' 1=F 1∧F' 3=F 3:=by
 have hg:decide (((0:Nat):Int)>0)=false:=decide_eq_false (by omega)
 simp only [owus_2,gwus_2_2,agd_none,gdAt,gdV_bool,bft,acodeN,aopsN,astep,aop,ev,nth_lst,get_lst,aput,setAt_lst,upd_at,Nat.reduceLT,Nat.reduceEqDiff,Bool.false_eq_true,if_true,if_false,h3,gtr64',hg]
 exact ⟨_,rfl,rfl,rfl,by simp only [upd_at,Nat.reduceEqDiff,reduceIte,h3]⟩
theorem wus_3 (h3:F 3=.int .i64 ((n+1:Nat):Int)) (hn:n<8) :
  ∃ F',acodeN E self nf (.region 3 rwus_3 false) (lst F 16) m=some (.normal,lst F' 16,m)∧F' 3=.int .i64 ((n:Nat):Int)∧F' 1=F 1:=by
 have e:wrapF .i64 (((n+1:Nat):Int)-1)=((n:Nat):Int):=by rw [wrap_i64 (by omega) (by omega)]; omega
 simp only [owus_3,agd_none,acodeN,aopsN,astep,aop,ev,nth_lst,aput,setAt_lst,upd_at,Nat.reduceLT,Nat.reduceEqDiff,if_true,if_false,h3,sub64',e]
 exact ⟨_,rfl,rfl,rfl⟩
theorem wus_4 {v:Value} (h3:F 3=v):∃ F',acodeN E self nf (.region 4 rwus_4 false) (lst F 16) m=some (.normal,lst F' 16,m)∧F' 2=v:=by
 simp only [owus_4,agd_none,acodeN,aopsN,astep,aop,ev,nth_lst,aput,setAt_lst,upd_at,Nat.reduceLT,if_true,h3]
 exact ⟨_,rfl,rfl⟩
theorem wus_it (h1:F 1=.pointer (some ⟨p,0,none⟩)) (h3:F 3=.int .i64 ((n+1:Nat):Int)) (hn:n<8) (gp:m[p]? = some (.row false be (rowOf w))) (hz:w n=0) :
  ∃ F',acodeN E self nf lpwus_0 (lst F 16) m=some (.normal,lst F' 16,m)∧F' 3=.int .i64 ((n:Nat):Int)∧F' 1=F 1:=by
 have c:cellAt m p n=some (U (w n)):=by rw [cellAt_row gp,rowOf_get hn]
 obtain ⟨A,ra,a12,a1,a3⟩:=wus_2t (self:=self) (nf:=nf) (m:=m) h1 h3 hn c (b:=true) (by rw [hz]; rfl)
 obtain ⟨B,rb,b3,b1⟩:=wus_3 (self:=self) (nf:=nf) (m:=m) (a3.trans h3) hn
 refine ⟨B,?_,b3,b1.trans a1⟩
 rw [lpwus_0_eq]
 generalize Code.region 2 rwus_2 false=C2 at *
 generalize Code.region 3 rwus_3 false=C3 at *
 simp only [acodeN,ra,rb,ev,nth_lst,Nat.reduceLT,if_true,a12]
theorem wus_end (h:∃ F',acodeN E self nf (.region 2 rwus_2 false) (lst F 16) m=some (.normal,lst F' 16,m)∧F' 12=.bool false∧F' 1=F 1∧F' 3=F 3) :
  ∃ F',acodeN E self nf lpwus_0 (lst F 16) m=some (.exit 0,lst F' 16,m)∧F' 3=F 3:=by
 obtain ⟨A,ra,a12,a1,a3⟩:=h
 refine ⟨A,?_,a3⟩
 rw [lpwus_0_eq]
 generalize Code.region 2 rwus_2 false=C2 at *
 generalize Code.region 3 rwus_3 false=C3 at *
 simp only [acodeN,ra,ev,nth_lst,Nat.reduceLT,if_true,a12]
def Uses (w:Nat→Nat) (n:Nat):Prop:=n≤8∧(∀ j,n≤j→j<8→w j=0)∧(n=0∨w (n-1)≠0)
theorem wus_body (hnf:10<nf):∃ n m',Uses w n∧abody E self nf 43 [wide w] m=some (.int .i64 ((n:Nat):Int),m'):=by
 rw [abody_eqF (by kernel_rfl) Tryd.func43 bodywus (by kernel_rfl) (Nat.le_of_ble_eq_true rfl)]
 rw [show Tryd.f43.ntmps=16 from rfl]
 obtain ⟨A,ra,a1⟩:=wus_0 (self:=self) (nf:=nf) (m:=m) (F:=init [wide w]) (box24 w m) rfl
 obtain ⟨M,hM⟩:∃ M,M=m++[Blk.row false 24 (rowOf w)]:=⟨_,rfl⟩
 rw [←hM] at ra
 have gp:M[m.length]? = some (.row false 24 (rowOf w)):=by rw [hM,List.getElem?_append_right (Nat.le_refl _),Nat.sub_self]; rfl
 obtain ⟨B,rb,b3,b1⟩:=wus_1 (self:=self) (nf:=nf) (m:=M) (F:=A)
 have hloop:=aloop_inv (body:=acodeN E self nf lpwus_0) (N:=8)
  (I:=fun k T m'=>m'=M∧(∀ j,8-k≤j→j<8→w j=0)∧∃ G,T=lst G 16∧G 1=.pointer (some ⟨m.length,0,none⟩)∧G 3=.int .i64 ((8-k:Nat):Int))
  (Q:=fun x T m'=>x=.exit 0∧m'=M∧∃ G n,T=lst G 16∧Uses w n∧G 3=.int .i64 ((n:Nat):Int)) (fun k T m' hk hI=>by
   obtain ⟨rfl,hz,G,rfl,g1,g3⟩:=hI
   rcases Nat.eq_zero_or_pos (8-k) with h0 | h0
   ·right
    rw [h0] at g3
    obtain ⟨H,rh,h3⟩:=wus_end (wus_2z (self:=self) (nf:=nf) (m:=m') g3)
    exact ⟨_,_,_,rh,by simp,rfl,rfl,H,0,rfl,⟨by omega,fun j _ h2=>hz j (by omega) h2,.inl rfl⟩,h3.trans g3⟩
   ·obtain ⟨n,hn⟩:∃ n,8-k=n+1:=⟨8-k-1,by omega⟩
    rw [hn] at g3
    have hn8:n<8:=by omega
    by_cases hw:w n=0
    ·left
     obtain ⟨H,rh,h3,h1⟩:=wus_it (self:=self) (nf:=nf) (m:=m') g1 g3 hn8 gp hw
     refine ⟨_,_,rh,by omega,rfl,fun j h4 h5=>?_,H,rfl,h1.trans g1,by rw [h3,show 8-(k+1)=n by omega]⟩
     rcases (by omega:j=n∨8-k≤j) with rfl | h6
     ·exact hw
     ·exact hz j h6 h5
    ·right
     have c:cellAt m' m.length n=some (U (w n)):=by rw [cellAt_row gp,rowOf_get hn8]
     have hb:(((w n:Nat):Int)==0)=false:=by
      have:((w n:Nat):Int)≠0:=by omega
      simpa using this
     obtain ⟨H,rh,h3⟩:=wus_end (wus_2t (self:=self) (nf:=nf) (m:=m') g1 g3 hn8 c hb)
     exact ⟨_,_,_,rh,by simp,rfl,rfl,H,n+1,rfl,⟨by omega,fun j h4 h5=>hz j (by omega) h5,.inr hw⟩,h3.trans g3⟩)
 obtain ⟨x,T',m',hr,rfl,rfl,G,n,rfl,hu,g3⟩:=hloop 8 0 nf (lst B 16) M (by omega) (by omega) ⟨rfl,fun j h1 h2=>absurd h2 (by omega),B,rfl,b1.trans a1,b3⟩
 obtain ⟨H,rh,h2⟩:=wus_4 (self:=self) (nf:=nf) (m:=m') g3
 refine ⟨n,m',hu,?_⟩
 generalize Code.region 0 rwus_0 false=C0 at *
 generalize Code.region 1 rwus_1 false=C1 at *
 generalize Code.region 4 rwus_4 false=C4 at *
 simp only [acodeN,ra,rb,hr,rh,finish,ares,aresL,ares1,Tryd.f43,nth_lst,Nat.reduceLT,if_true,h2,Option.map_some]
end
theorem vN_lss {w v:Nat→Nat} (hw:∀ j,w j<18446744073709551616) (hv:∀ j,v j<18446744073709551616) {n:Nat} (h:w n<v n):∀ N,n<N→(∀ j,n<j→j<N→w j=v j)→vN w N<vN v N
 | 0,h1,_=>absurd h1 (Nat.not_lt_zero _)
 | N+1,h1,h2=>by
  rw [vN,vN]
  rcases Nat.lt_or_ge n N with h3 | h3
  ·have:=vN_lss hw hv h N h3 fun j h4 h5=>h2 j h4 (by omega)
   rw [h2 N h3 (by omega)]
   exact Nat.add_lt_add_right this _
  ·have hn:n=N:=by omega
   subst hn
   have h4:=vN_lt hw n
   have h5:=Nat.mul_le_mul_left (18446744073709551616^n) h
   rw [Nat.mul_succ] at h5
   generalize 18446744073709551616^n=P at *
   omega
def cmpV (a b:Nat):Int:=if a<b then -1 else if b<a then 1 else 0
theorem geqI64' (a b:Int):abin .geq .i64 a .i64 b=some (.bool (decide (a≥b))):=by kernel_rfl
section
variable {self:Self} {nf:Nat} {m m':Mem} {F:Nat→Value} {p q n:Nat} {w v:Nat→Nat} {be be':TypeId}
theorem wcmp_0 {m1 m2:Mem} (hb:abox E.P 24 (wide w) m=some (.pointer (some ⟨p,0,none⟩),m1)) (hc:abox E.P 24 (wide v) m1=some (.pointer (some ⟨q,0,none⟩),m2)) (h0:F 0=wide w) (h1:F 1=wide v):∃ F',acodeN E self nf (.region 0 rwcmp_0 false) (lst F 24) m=some (.normal,lst F' 24,m2)∧F' 2=.pointer (some ⟨p,0,none⟩)∧F' 3=.pointer (some ⟨q,0,none⟩):=by
 simp only [owcmp_0,agd_none,acodeN,aopsN,astep,aop,ev,nth_lst,aput,setAt_lst,upd_at,Nat.reduceLT,Nat.reduceEqDiff,if_true,if_false,h0,hb,h1,hc]
 exact ⟨_,rfl,rfl,rfl⟩
theorem wcmp_1:∃ F',acodeN E self nf (.region 1 rwcmp_1 false) (lst F 24) m=some (.normal,lst F' 24,m)∧F' 5=.int .i64 7∧F' 2=F 2∧F' 3=F 3:=by
 simp only [owcmp_1,agd_none,acodeN,aopsN,astep,aop,ev,aput,setAt_lst]
 exact ⟨_,rfl,rfl,rfl,rfl⟩
theorem wcmp_2 {i:Int} {b:Bool} (h5:F 5=.int .i64 i) (hb:decide (i≥0)=b):∃ F',acodeN E self nf (.region 2 rwcmp_2 false) (lst F 24) m=some (.normal,lst F' 24,m)∧F' 7=.bool b∧∀ j,j<6→F' j=F j:=by
 simp only [owcmp_2,agd_none,acodeN,aopsN,astep,aop,ev,nth_lst,aput,setAt_lst,upd_at,Nat.reduceLT,if_true,h5,geqI64',hb]
 exact ⟨_,rfl,rfl,fun j h1=>by repeat rw [upd_ne (by omega)]⟩
theorem wcmp_3 (h5:F 5=.int .i64 ((n:Nat):Int)) (hn:n<8):∃ F',acodeN E self nf (.region 3 rwcmp_3 false) (lst F 24) m=some (.normal,lst F' 24,m)∧F' 5=.int .i64 (((n:Nat):Int)-1)∧F' 2=F 2∧F' 3=F 3:=by
 have e:wrapF .i64 (((n:Nat):Int)-1)=((n:Nat):Int)-1:=by
  rcases Nat.eq_zero_or_pos n with rfl | h
  ·rfl
  ·exact wrap_i64 (by omega) (by omega)
 simp only [owcmp_3,agd_none,acodeN,aopsN,astep,aop,ev,nth_lst,aput,setAt_lst,upd_at,Nat.reduceLT,Nat.reduceEqDiff,if_true,if_false,h5,sub64',e]
 exact ⟨_,rfl,rfl,rfl,rfl⟩
theorem wcmp_4 {b:Bool} (h2:F 2=.pointer (some ⟨p,0,none⟩)) (h3:F 3=.pointer (some ⟨q,0,none⟩)) (h5:F 5=.int .i64 ((n:Nat):Int)) (hn:n<8) (c:cellAt (m.map sealed) p n=some (U (w n))) (d:cellAt (m.map sealed) q n=some (U (v n))) (hb:decide (((w n:Nat):Int)<((v n:Nat):Int))=b) :
  ∃ F',acodeN E self nf (.region 4 rwcmp_4 true) (lst F 24) m=some (.normal,lst F' 24,m)∧F' 16=.bool b∧∀ j,j<6→F' j=F j:=by
 have i1:=ix24 (p:=p) (k:=n) hn
 have i2:=ix24 (p:=q) (k:=n) hn
 simp only [↓dwcmp_4,↓swcmp_4,owcmp_4,agd_none,acodeN,adrawT,cls,astep,aop,afloat,ev,nth_lst,aput,setAt_lst,upd_at,Nat.reduceLT,Nat.reduceEqDiff,Option.map_some,bls,if_true,if_false,List.length_map,h2,h3,h5,i1,i2,load22,c,d,lssU',hb]
 exact ⟨_,rfl,rfl,fun j h1=>by repeat rw [upd_ne (by omega)]⟩
theorem wcmp_6 {b:Bool} (h2:F 2=.pointer (some ⟨p,0,none⟩)) (h3:F 3=.pointer (some ⟨q,0,none⟩)) (h5:F 5=.int .i64 ((n:Nat):Int)) (hn:n<8) (c:cellAt (m.map sealed) p n=some (U (w n))) (d:cellAt (m.map sealed) q n=some (U (v n))) (hb:decide (((w n:Nat):Int)>((v n:Nat):Int))=b) :
  ∃ F',acodeN E self nf (.region 6 rwcmp_6 true) (lst F 24) m=some (.normal,lst F' 24,m)∧F' 23=.bool b∧∀ j,j<6→F' j=F j:=by
 have i1:=ix24 (p:=p) (k:=n) hn
 have i2:=ix24 (p:=q) (k:=n) hn
 simp only [↓dwcmp_6,↓swcmp_6,owcmp_6,agd_none,acodeN,adrawT,cls,astep,aop,afloat,ev,nth_lst,aput,setAt_lst,upd_at,Nat.reduceLT,Nat.reduceEqDiff,Option.map_some,bls,if_true,if_false,List.length_map,h2,h3,h5,i1,i2,load22,c,d,gtrU',hb]
 exact ⟨_,rfl,rfl,fun j h1=>by repeat rw [upd_ne (by omega)]⟩
theorem wcmp_5:∃ F',acodeN E self nf (.region 5 rwcmp_5 false) (lst F 24) m=some (.normal,lst F' 24,m)∧F' 4=.int .i64 (-1):=by
 simp only [owcmp_5,agd_none,acodeN,aopsN,astep,aop,ev,aput,setAt_lst]
 exact ⟨_,rfl,rfl⟩
theorem wcmp_7:∃ F',acodeN E self nf (.region 7 rwcmp_7 false) (lst F 24) m=some (.normal,lst F' 24,m)∧F' 4=.int .i64 1:=by
 simp only [owcmp_7,agd_none,acodeN,aopsN,astep,aop,ev,aput,setAt_lst]
 exact ⟨_,rfl,rfl⟩
theorem wcmp_8:∃ F',acodeN E self nf (.region 8 rwcmp_8 false) (lst F 24) m=some (.normal,lst F' 24,m)∧F' 4=.int .i64 0:=by
 simp only [owcmp_8,agd_none,acodeN,aopsN,astep,aop,ev,aput,setAt_lst]
 exact ⟨_,rfl,rfl⟩
theorem wcmp_it (h2:F 2=.pointer (some ⟨p,0,none⟩)) (h3:F 3=.pointer (some ⟨q,0,none⟩)) (h5:F 5=.int .i64 ((n:Nat):Int)) (hn:n<8) (gp:m[p]? = some (.row false be (rowOf w))) (gq:m[q]? = some (.row false be' (rowOf v))) :
  (w n<v n→∃ F',acodeN E self nf lpwcmp_0 (lst F 24) m=some (.ret,lst F' 24,m)∧F' 4=.int .i64 (-1))∧
  (v n<w n→∃ F',acodeN E self nf lpwcmp_0 (lst F 24) m=some (.ret,lst F' 24,m)∧F' 4=.int .i64 1)∧
  (w n=v n→∃ F',acodeN E self nf lpwcmp_0 (lst F 24) m=some (.normal,lst F' 24,m)∧F' 5=.int .i64 (((n:Nat):Int)-1)∧F' 2=F 2∧F' 3=F 3):=by
 have c:cellAt (m.map sealed) p n=some (U (w n)):=by rw [cellS,cellAt_row gp,rowOf_get hn]
 have d:cellAt (m.map sealed) q n=some (U (v n)):=by rw [cellS,cellAt_row gq,rowOf_get hn]
 obtain ⟨A,ra,a7,ak⟩:=wcmp_2 (self:=self) (nf:=nf) (m:=m) h5 (b:=true) (decide_eq_true (by omega))
 have a2:=(ak 2 (by omega)).trans h2
 have a3:=(ak 3 (by omega)).trans h3
 have a5:=(ak 5 (by omega)).trans h5
 rw [lpwcmp_0_eq]
 refine ⟨fun h=>?_,fun h=>?_,fun h=>?_⟩
 ·obtain ⟨B,rb,b16,bk⟩:=wcmp_4 (self:=self) (nf:=nf) (m:=m) a2 a3 a5 hn c d (b:=true) (decide_eq_true (by omega))
  obtain ⟨C,rc,c4⟩:=wcmp_5 (self:=self) (nf:=nf) (m:=m) (F:=B)
  refine ⟨C,?_,c4⟩
  generalize Code.region 2 rwcmp_2 false=C2 at *
  generalize Code.region 4 rwcmp_4 true=C4 at *
  generalize Code.region 5 rwcmp_5 false=C5 at *
  simp only [acodeN,ra,rb,rc,ev,nth_lst,Nat.reduceLT,if_true,a7,b16]
 ·obtain ⟨B,rb,b16,bk⟩:=wcmp_4 (self:=self) (nf:=nf) (m:=m) a2 a3 a5 hn c d (b:=false) (decide_eq_false (by omega))
  obtain ⟨C,rc,c23,ck⟩:=wcmp_6 (self:=self) (nf:=nf) (m:=m) ((bk 2 (by omega)).trans a2) ((bk 3 (by omega)).trans a3) ((bk 5 (by omega)).trans a5) hn c d (b:=true) (decide_eq_true (by omega))
  obtain ⟨D,rd,d4⟩:=wcmp_7 (self:=self) (nf:=nf) (m:=m) (F:=C)
  refine ⟨D,?_,d4⟩
  generalize Code.region 2 rwcmp_2 false=C2 at *
  generalize Code.region 4 rwcmp_4 true=C4 at *
  generalize Code.region 6 rwcmp_6 true=C6 at *
  generalize Code.region 7 rwcmp_7 false=C7 at *
  simp only [acodeN,ra,rb,rc,rd,ev,nth_lst,Nat.reduceLT,if_true,a7,b16,c23]
 ·obtain ⟨B,rb,b16,bk⟩:=wcmp_4 (self:=self) (nf:=nf) (m:=m) a2 a3 a5 hn c d (b:=false) (decide_eq_false (by omega))
  obtain ⟨C,rc,c23,ck⟩:=wcmp_6 (self:=self) (nf:=nf) (m:=m) ((bk 2 (by omega)).trans a2) ((bk 3 (by omega)).trans a3) ((bk 5 (by omega)).trans a5) hn c d (b:=false) (decide_eq_false (by omega))
  obtain ⟨D,rd,d5,d2,d3⟩:=wcmp_3 (self:=self) (nf:=nf) (m:=m) (((ck 5 (by omega)).trans (bk 5 (by omega))).trans a5) hn
  refine ⟨D,?_,d5,d2.trans ((ck 2 (by omega)).trans ((bk 2 (by omega)).trans (ak 2 (by omega)))),d3.trans ((ck 3 (by omega)).trans ((bk 3 (by omega)).trans (ak 3 (by omega))))⟩
  generalize Code.region 2 rwcmp_2 false=C2 at *
  generalize Code.region 4 rwcmp_4 true=C4 at *
  generalize Code.region 6 rwcmp_6 true=C6 at *
  generalize Code.region 3 rwcmp_3 false=C3 at *
  simp only [acodeN,ra,rb,rc,rd,ev,nth_lst,Nat.reduceLT,if_true,a7,b16,c23]
theorem wcmp_end (h5:F 5=.int .i64 (-1)):∃ F',acodeN E self nf lpwcmp_0 (lst F 24) m=some (.exit 0,lst F' 24,m):=by
 obtain ⟨A,ra,a7,ak⟩:=wcmp_2 (self:=self) (nf:=nf) (m:=m) h5 (b:=false) (by decide)
 rw [lpwcmp_0_eq]
 refine ⟨A,?_⟩
 generalize Code.region 2 rwcmp_2 false=C2 at *
 simp only [acodeN,ra,ev,nth_lst,Nat.reduceLT,if_true,a7]
theorem wcmp_body (hw:∀ j,w j<18446744073709551616) (hv:∀ j,v j<18446744073709551616) (hnf:10<nf):∃ m',abody E self nf 18 [wide w,wide v] m=some (.int .i64 (cmpV (vN w 8) (vN v 8)),m'):=by
 rw [abody_eqF (by kernel_rfl) Tryd.func18 bodywcmp (by kernel_rfl) (Nat.le_of_ble_eq_true rfl)]
 rw [show Tryd.f18.ntmps=24 from rfl]
 have hl:(m++[Blk.row false 24 (rowOf w)]).length=m.length+1:=by simp
 have hb2:=box24 v (m++[Blk.row false 24 (rowOf w)])
 rw [hl] at hb2
 obtain ⟨M,hM⟩:∃ M,M=m++[Blk.row false 24 (rowOf w)]++[Blk.row false 24 (rowOf v)]:=⟨_,rfl⟩
 obtain ⟨A,ra,a2,a3⟩:=wcmp_0 (self:=self) (nf:=nf) (m:=m) (F:=init [wide w,wide v]) (box24 w m) hb2 rfl rfl
 rw [←hM] at ra
 have gp:M[m.length]? = some (.row false 24 (rowOf w)):=by rw [hM,List.getElem?_append_left (by rw [hl]; omega),List.getElem?_append_right (Nat.le_refl _),Nat.sub_self]; rfl
 have gq:M[m.length+1]? = some (.row false 24 (rowOf v)):=by rw [hM,List.getElem?_append_right (by rw [hl]; omega),hl,Nat.sub_self]; rfl
 clear hM hb2 hl
 obtain ⟨B,rb,b5,b2,b3⟩:=wcmp_1 (self:=self) (nf:=nf) (m:=M) (F:=A)
 obtain ⟨r,hr0⟩:∃ r,r=cmpV (vN w 8) (vN v 8):=⟨_,rfl⟩
 have hloop:=aloop_inv (body:=acodeN E self nf lpwcmp_0) (N:=8)
  (I:=fun k T m'=>m'=M∧(∀ j,8-k≤j→j<8→w j=v j)∧∃ G,T=lst G 24∧G 2=.pointer (some ⟨m.length,0,none⟩)∧G 3=.pointer (some ⟨m.length+1,0,none⟩)∧G 5=.int .i64 (((8-k:Nat):Int)-1))
  (Q:=fun x T m'=>m'=M∧∃ G,T=lst G 24∧((x=.exit 0∧r=0)∨(x=.ret∧G 4=.int .i64 r))) (fun k T m' hk hI=>by
   obtain ⟨rfl,hz,G,rfl,g2,g3,g5⟩:=hI
   rcases Nat.eq_zero_or_pos (8-k) with h0 | h0
   ·right
    rw [h0] at g5
    obtain ⟨H,rh⟩:=wcmp_end (self:=self) (nf:=nf) (m:=m') g5
    refine ⟨_,_,_,rh,by simp,rfl,H,rfl,.inl ⟨rfl,?_⟩⟩
    have:vN w 8=vN v 8:=vN_ext fun j hj=>hz j (by omega) hj
    rw [hr0,this]
    unfold cmpV
    rw [if_neg (Nat.lt_irrefl _),if_neg (Nat.lt_irrefl _)]
   ·obtain ⟨n,hn⟩:∃ n,8-k=n+1:=⟨8-k-1,by omega⟩
    rw [hn,show (((n+1:Nat):Int)-1)=((n:Nat):Int) by omega] at g5
    have hn8:n<8:=by omega
    obtain ⟨t1,t2,t3⟩:=wcmp_it (self:=self) (nf:=nf) (m:=m') g2 g3 g5 hn8 gp gq
    rcases Nat.lt_trichotomy (w n) (v n) with h | h | h
    ·right
     obtain ⟨H,rh,h4⟩:=t1 h
     refine ⟨_,_,_,rh,by simp,rfl,H,rfl,.inr ⟨rfl,?_⟩⟩
     have:=vN_lss hw hv h 8 hn8 fun j h5 h6=>hz j (by omega) h6
     rw [h4,hr0]
     unfold cmpV
     rw [if_pos this]
    ·left
     obtain ⟨H,rh,h5,h2,h3⟩:=t3 h
     refine ⟨_,_,rh,by omega,rfl,fun j h4 h5=>?_,H,rfl,h2.trans g2,h3.trans g3,by rw [h5,show 8-(k+1)=n by omega]⟩
     rcases (by omega:j=n∨8-k≤j) with rfl | h6
     ·exact h
     ·exact hz j h6 h5
    ·right
     obtain ⟨H,rh,h4⟩:=t2 h
     refine ⟨_,_,_,rh,by simp,rfl,H,rfl,.inr ⟨rfl,?_⟩⟩
     have:=vN_lss hv hw h 8 hn8 fun j h5 h6=>(hz j (by omega) h6).symm
     rw [h4,hr0]
     unfold cmpV
     rw [if_neg (Nat.not_lt.2 (Nat.le_of_lt this)),if_pos this])
 obtain ⟨x,T',m',hr,rfl,G,rfl,hx⟩:=hloop 8 0 nf (lst B 24) M (by omega) (by omega) ⟨rfl,fun j h1 h2=>absurd h2 (by omega),B,rfl,b2.trans a2,b3.trans a3,b5⟩
 refine ⟨m',?_⟩
 rw [←hr0]
 rcases hx with ⟨rfl,h0⟩ | ⟨rfl,h4⟩
 ·obtain ⟨H,rh,h2⟩:=wcmp_8 (self:=self) (nf:=nf) (m:=m') (F:=G)
  rw [h0]
  generalize Code.region 0 rwcmp_0 false=C0 at *
  generalize Code.region 1 rwcmp_1 false=C1 at *
  generalize Code.region 8 rwcmp_8 false=C8 at *
  simp only [acodeN,ra,rb,hr,rh,finish,ares,aresL,ares1,Tryd.f18,nth_lst,Nat.reduceLT,if_true,h2,Option.map_some]
 ·generalize Code.region 0 rwcmp_0 false=C0 at *
  generalize Code.region 1 rwcmp_1 false=C1 at *
  generalize Code.region 8 rwcmp_8 false=C8 at *
  simp only [acodeN,ra,rb,hr,finish,ares,aresL,ares1,Tryd.f18,nth_lst,Nat.reduceLT,if_true,h4,Option.map_some]
end
theorem low_step (a P w x B:Nat):w+B*x+P*B*a=w+B*(x+P*a):=by
 rw [Nat.mul_add,Nat.add_assoc,Nat.mul_comm P B,Nat.mul_assoc]
theorem vN_low (w:Nat→Nat):∀ n,vN w (n+1)=w 0+18446744073709551616*vN (fun j=>w (j+1)) n
 | 0=>by rw [vN,vN,vN,Nat.pow_zero,Nat.one_mul,Nat.mul_zero,Nat.zero_add,Nat.add_zero]
 | n+1=>by
  rw [vN,vN_low w n,vN,Nat.pow_succ]
  exact low_step _ _ _ _ _
theorem digit_dw {x q d l w B:Nat} (h:x=q*d+l) (hd:0<d):w+B*x=((l*B+w) / d+B*q)*d+(l*B+w)%d:=by
 have h1:=Nat.div_add_mod (l*B+w) d
 generalize (l*B+w) / d=Q at *
 generalize (l*B+w)%d=R at *
 have e:B*(q*d+l)=B*q*d+l*B:=by rw [Nat.mul_add,Nat.mul_assoc,Nat.mul_comm B l]
 have e2:(Q+B*q)*d=d*Q+B*q*d:=by rw [Nat.add_mul,Nat.mul_comm Q d]
 rw [h,e,e2]
 omega
def CDv64 (self:Self):Prop:=∀ hi lo y,hi<y→y<18446744073709551616→lo<18446744073709551616→Ans self 64 [U hi,U lo,U y] (pair64 ((hi*18446744073709551616+lo) / y) ((hi*18446744073709551616+lo)%y))
section
variable {self:Self} {nf:Nat} {m m':Mem} {F:Nat→Value} {p q r n d l x:Nat} {w out:Nat→Nat} {be be':TypeId}
theorem dw_0 {m1 m2:Mem} (hb:abox E.P 24 (wide w) m=some (.pointer (some ⟨p,0,none⟩),m1)) (hc:aalloc E.P 24 m1=some (.pointer (some ⟨r,0,none⟩),m2)) (h0:F 0=wide w):∃ F',acodeN E self nf (.region 0 rdw_0 false) (lst F 26) m=some (.normal,lst F' 26,m2)∧F' 2=.pointer (some ⟨p,0,none⟩)∧F' 4=.pointer (some ⟨r,0,none⟩)∧F' 1=F 1:=by
 simp only [odw_0,agd_none,acodeN,aopsN,astep,aop,ev,nth_lst,aput,setAt_lst,Nat.reduceLT,if_true,h0,hb,hc]
 exact ⟨_,rfl,rfl,rfl,rfl⟩
theorem dw_1 {m1:Mem} (hc:aalloc E.P 24 m=some (.pointer (some ⟨q,0,none⟩),m1)):∃ F',acodeN E self nf (.region 1 rdw_1 false) (lst F 26) m=some (.normal,lst F' 26,m1)∧F' 6=.pointer (some ⟨q,0,none⟩)∧∀ j,j<6→F' j=F j:=by
 simp only [odw_1,agd_none,acodeN,aopsN,astep,aop,aput,setAt_lst,hc]
 exact ⟨_,rfl,rfl,fun j h1=>by repeat rw [upd_ne (by omega)]⟩
theorem dw_2:∃ F',acodeN E self nf (.region 2 rdw_2 false) (lst F 26) m=some (.normal,lst F' 26,m)∧F' 7=U 0∧∀ j,j<7→F' j=F j:=by
 simp only [odw_2,agd_none,acodeN,aopsN,astep,aop,ev,aput,setAt_lst]
 exact ⟨_,rfl,by simp only [upd_at,reduceIte]; rfl,fun j h1=>by repeat rw [upd_ne (by omega)]⟩
theorem dw_3:∃ F',acodeN E self nf (.region 3 rdw_3 false) (lst F 26) m=some (.normal,lst F' 26,m)∧F' 8=.int .i64 7∧∀ j,j<8→F' j=F j:=by
 simp only [odw_3,agd_none,acodeN,aopsN,astep,aop,ev,aput,setAt_lst]
 exact ⟨_,rfl,rfl,fun j h1=>by repeat rw [upd_ne (by omega)]⟩
theorem dw_4 {i:Int} {b:Bool} (h8:F 8=.int .i64 i) (hb:decide (i≥0)=b):∃ F',acodeN E self nf (.region 4 rdw_4 false) (lst F 26) m=some (.normal,lst F' 26,m)∧F' 10=.bool b∧∀ j,j<9→F' j=F j:=by
 simp only [odw_4,agd_none,acodeN,aopsN,astep,aop,ev,nth_lst,aput,setAt_lst,upd_at,Nat.reduceLT,if_true,h8,geqI64',hb]
 exact ⟨_,rfl,rfl,fun j h1=>by repeat rw [upd_ne (by omega)]⟩
theorem dw_5 (h8:F 8=.int .i64 ((n:Nat):Int)) (hn:n<8):∃ F',acodeN E self nf (.region 5 rdw_5 false) (lst F 26) m=some (.normal,lst F' 26,m)∧F' 8=.int .i64 (((n:Nat):Int)-1)∧∀ j,j<8→F' j=F j:=by
 have e:wrapF .i64 (((n:Nat):Int)-1)=((n:Nat):Int)-1:=by
  rcases Nat.eq_zero_or_pos n with rfl | h
  ·rfl
  ·exact wrap_i64 (by omega) (by omega)
 simp only [odw_5,agd_none,acodeN,aopsN,astep,aop,ev,nth_lst,aput,setAt_lst,upd_at,Nat.reduceLT,Nat.reduceEqDiff,if_true,if_false,h8,sub64',e]
 exact ⟨_,rfl,rfl,fun j h1=>by repeat rw [upd_ne (by omega)]⟩
theorem dw_6 {a b:Nat} {m1:Mem} (h1:F 1=U d) (h2:F 2=.pointer (some ⟨p,0,none⟩)) (h6:F 6=.pointer (some ⟨q,0,none⟩)) (h7:F 7=U l) (h8:F 8=.int .i64 ((n:Nat):Int)) (hn:n<8) (c:cellAt m p n=some (U x)) (hd:∀ M,ainv E self 64 [U l,U x,U d] M=some (pair64 a b,M)) (st:astore E.P 22 (.pointer (some ⟨q,n,none⟩)) (U a) m=some m1) :
  ∃ F',acodeN E self nf (.region 6 rdw_6 false) (lst F 26) m=some (.normal,lst F' 26,m1)∧F' 7=U b∧∀ j,j≠7→j<9→F' j=F j:=by
 have i1:=ix24 (p:=p) (k:=n) hn
 have i2:=ix24 (p:=q) (k:=n) hn
 simp only [odw_6,agd_none,List.cons_append,List.nil_append,acodeN,aopsN,astep,aop,ev,nth_lst,aput,setAt_lst,upd_at,Nat.reduceLT,Nat.reduceEqDiff,Option.map_some,List.map_cons,List.map_nil,List.isEmpty_nil,bls,if_true,if_false,h1,h2,h6,h7,h8,i1,i2,load22,c,callDv64,hd,ex0,ex1,st]
 exact ⟨_,rfl,rfl,fun j h1 h2=>by repeat rw [upd_ne (by omega)]⟩
theorem dw_7 {m1:Mem} {v y:Value} (h4:F 4=.pointer (some ⟨r,0,none⟩)) (h6:F 6=.pointer (some ⟨q,0,none⟩)) (h7:F 7=y) (ld:aload E.P 24 (.pointer (some ⟨q,0,none⟩)) m=some v) (st:astore E.P 24 (.pointer (some ⟨r,0,none⟩)) v m=some m1) :
  ∃ F',acodeN E self nf (.region 7 rdw_7 false) (lst F 26) m=some (.normal,lst F' 26,m1)∧F' 4=.pointer (some ⟨r,0,none⟩)∧F' 5=y:=by
 simp only [odw_7,agd_none,acodeN,aopsN,astep,aop,ev,nth_lst,aput,setAt_lst,upd_at,Nat.reduceLT,Nat.reduceEqDiff,Option.map_some,if_true,if_false,h4,h6,h7,ld,st]
 exact ⟨_,rfl,by simp only [upd_at,Nat.reduceEqDiff,reduceIte,h4],rfl⟩
theorem dw_it (hdv:CDv64 self) (h1:F 1=U d) (h2:F 2=.pointer (some ⟨p,0,none⟩)) (h6:F 6=.pointer (some ⟨q,0,none⟩)) (h7:F 7=U l) (h8:F 8=.int .i64 ((n:Nat):Int)) (hn:n<8) (gp:m[p]? = some (.row false be (rowOf w))) (gq:m[q]? = some (.row false 24 (rowOf out))) (hl:l<d) (hd:d<18446744073709551616) (hw:w n<18446744073709551616) :
  ∃ F',acodeN E self nf lpdw_0 (lst F 26) m=some (.normal,lst F' 26,m.set q (.row false 24 (rowOf (putW out n ((l*18446744073709551616+w n) / d)))))∧F' 7=U ((l*18446744073709551616+w n)%d)∧F' 8=.int .i64 (((n:Nat):Int)-1)∧∀ j,j<7→F' j=F j:=by
 have c:cellAt m p n=some (U (w n)):=by rw [cellAt_row gp,rowOf_get hn]
 have hd1:=hdv l (w n) d hl hd hw
 unfold Ans at hd1
 have st:=store22 (x:=(l*18446744073709551616+w n) / d) gq hn
 obtain ⟨A,ra,a10,ak⟩:=dw_4 (self:=self) (nf:=nf) (m:=m) h8 (b:=true) (decide_eq_true (by omega))
 obtain ⟨B,rb,b7,bk⟩:=dw_6 (self:=self) (nf:=nf) (m:=m) ((ak 1 (by omega)).trans h1) ((ak 2 (by omega)).trans h2) ((ak 6 (by omega)).trans h6) ((ak 7 (by omega)).trans h7) ((ak 8 (by omega)).trans h8) hn c hd1 st
 obtain ⟨C,rc,c8,ck⟩:=dw_5 (self:=self) (nf:=nf) (m:=m.set q (.row false 24 (rowOf (putW out n ((l*18446744073709551616+w n) / d))))) ((bk 8 (by omega) (by omega)).trans ((ak 8 (by omega)).trans h8)) hn
 refine ⟨C,?_,(ck 7 (by omega)).trans b7,c8,fun j hj=>(ck j (by omega)).trans ((bk j (by omega) (by omega)).trans (ak j (by omega)))⟩
 rw [lpdw_0_eq]
 change acodeN E self nf _ _ _=some (_,_,m.set q (.row false 24 (rowOf (putW out n ((l*18446744073709551616+w n) / d))))) at rb
 generalize m.set q (.row false 24 (rowOf (putW out n ((l*18446744073709551616+w n) / d))))=M1 at *
 generalize Code.region 4 rdw_4 false=C4 at *
 generalize Code.region 5 rdw_5 false=C5 at *
 generalize Code.region 6 rdw_6 false=C6 at *
 simp only [acodeN,ra,rb,rc,ev,nth_lst,Nat.reduceLT,if_true,a10]
theorem dw_end (h8:F 8=.int .i64 (-1)):∃ F',acodeN E self nf lpdw_0 (lst F 26) m=some (.exit 0,lst F' 26,m)∧∀ j,j<9→F' j=F j:=by
 obtain ⟨A,ra,a10,ak⟩:=dw_4 (self:=self) (nf:=nf) (m:=m) h8 (b:=false) (by decide)
 rw [lpdw_0_eq]
 refine ⟨A,?_,ak⟩
 generalize Code.region 4 rdw_4 false=C4 at *
 simp only [acodeN,ra,ev,nth_lst,Nat.reduceLT,if_true,a10]
theorem dw_body (hdv:CDv64 self) (hw:∀ j,w j<18446744073709551616) (hd0:0<d) (hd:d<18446744073709551616) (hnf:10<nf) :
  ∃ o l m',vN w 8=vN o 8*d+l∧l<d∧(∀ j,o j<18446744073709551616)∧abody E self nf 46 [wide w,U d] m=some (.tuple ⟨[wide o,U l]⟩,m'):=by
 rw [abody_eqF (by kernel_rfl) Tryd.func46 bodydw (by kernel_rfl) (Nat.le_of_ble_eq_true rfl)]
 rw [show Tryd.f46.ntmps=26 from rfl]
 have l1:(m++[Blk.row false 24 (rowOf w)]).length=m.length+1:=by simp
 have l2:(m++[Blk.row false 24 (rowOf w)]++[Blk.row false 24 (rowOf fun _=>0)]).length=m.length+2:=by simp
 have b2:=alloc24 (m++[.row false 24 (rowOf w)])
 have b3:=alloc24 (m++[Blk.row false 24 (rowOf w)]++[.row false 24 (rowOf fun _=>0)])
 rw [l1] at b2
 rw [l2] at b3
 obtain ⟨A,ra,a2,a4,a1⟩:=dw_0 (self:=self) (nf:=nf) (m:=m) (F:=init [wide w,U d]) (box24 w m) b2 rfl
 obtain ⟨B,rb,b6,bk⟩:=dw_1 (self:=self) (nf:=nf) (F:=A) b3
 obtain ⟨M,hM⟩:∃ M,M=m++[Blk.row false 24 (rowOf w)]++[.row false 24 (rowOf fun _=>0)]++[.row false 24 (rowOf fun _=>0)]:=⟨_,rfl⟩
 rw [←hM] at rb
 have hp:M[m.length]? = some (.row false 24 (rowOf w)):=by
  rw [hM,List.getElem?_append_left (by simp),List.getElem?_append_left (by simp)]; simp
 have hr:M[m.length+1]? = some (.row false 24 (rowOf fun _=>0)):=by
  rw [hM,List.getElem?_append_left (by simp),List.getElem?_append_right (by simp)]; simp
 have hq:M[m.length+2]? = some (.row false 24 (rowOf fun _=>0)):=by
  rw [hM,List.getElem?_append_right (by simp)]; simp
 clear hM b2 b3 l1 l2
 obtain ⟨C,rc,c7,ck⟩:=dw_2 (self:=self) (nf:=nf) (m:=M) (F:=B)
 obtain ⟨D,rd,d8,dk⟩:=dw_3 (self:=self) (nf:=nf) (m:=M) (F:=C)
 have d1:D 1=U d:=(dk 1 (by omega)).trans ((ck 1 (by omega)).trans ((bk 1 (by omega)).trans a1))
 have d2:=(dk 2 (by omega)).trans ((ck 2 (by omega)).trans ((bk 2 (by omega)).trans a2))
 have d4:=(dk 4 (by omega)).trans ((ck 4 (by omega)).trans ((bk 4 (by omega)).trans a4))
 have d6:=(dk 6 (by omega)).trans ((ck 6 (by omega)).trans b6)
 have d7:=(dk 7 (by omega)).trans c7
 have hloop:=aloop_inv (body:=acodeN E self nf lpdw_0) (N:=8)
  (I:=fun k T m'=>∃ G o l,T=lst G 26∧G 1=U d∧G 2=.pointer (some ⟨m.length,0,none⟩)∧G 4=.pointer (some ⟨m.length+1,0,none⟩)∧G 6=.pointer (some ⟨m.length+2,0,none⟩)∧G 7=U l∧G 8=.int .i64 (((8-k:Nat):Int)-1)∧
   m'[m.length]? = some (.row false 24 (rowOf w))∧m'[m.length+1]? = some (.row false 24 (rowOf fun _=>0))∧m'[m.length+2]? = some (.row false 24 (rowOf o))∧l<d∧(∀ j,o j<18446744073709551616)∧vN (fun j=>w (j+(8-k))) k=vN (fun j=>o (j+(8-k))) k*d+l)
  (Q:=fun x T m'=>x=.exit 0∧∃ G o l,T=lst G 26∧G 4=.pointer (some ⟨m.length+1,0,none⟩)∧G 6=.pointer (some ⟨m.length+2,0,none⟩)∧G 7=U l /\
   m'[m.length+1]? = some (.row false 24 (rowOf fun _=>0))∧m'[m.length+2]? = some (.row false 24 (rowOf o))∧l<d∧(∀ j,o j<18446744073709551616)∧vN w 8=vN o 8*d+l) (fun k T m' hk hI=>by
   obtain ⟨G,o,l,rfl,g1,g2,g4,g6,g7,g8,gp,gr,gq,hl,ho,hs⟩:=hI
   rcases Nat.eq_zero_or_pos (8-k) with h0 | h0
   ·right
    have hk8:k=8:=by omega
    subst hk8
    obtain ⟨H,rh,hk⟩:=dw_end (self:=self) (nf:=nf) (m:=m') g8
    exact ⟨_,_,_,rh,by simp,rfl,H,o,l,rfl,(hk 4 (by omega)).trans g4,(hk 6 (by omega)).trans g6,(hk 7 (by omega)).trans g7,gr,gq,hl,ho,hs⟩
   ·left
    obtain ⟨n,hn⟩:∃ n,8-k=n+1:=⟨8-k-1,by omega⟩
    rw [hn,show (((n+1:Nat):Int)-1)=((n:Nat):Int) by omega] at g8
    rw [hn] at hs
    have hn8:n<8:=by omega
    obtain ⟨H,rh,h7,h8,hk2⟩:=dw_it (self:=self) (nf:=nf) (m:=m') hdv g1 g2 g6 g7 g8 hn8 gp gq hl hd (hw n)
    have hqb:(l*18446744073709551616+w n) / d<18446744073709551616:=two_digits hl (hw n)
    refine ⟨_,_,rh,by omega,H,putW o n ((l*18446744073709551616+w n) / d),(l*18446744073709551616+w n)%d,rfl,(hk2 1 (by omega)).trans g1,(hk2 2 (by omega)).trans g2,(hk2 4 (by omega)).trans g4,(hk2 6 (by omega)).trans g6,h7,by rw [h8,show 8-(k+1)=n by omega],?_,?_,?_,Nat.mod_lt _ hd0,?_,?_⟩
    ·rw [List.getElem?_set_ne (by omega)]; exact gp
    ·rw [List.getElem?_set_ne (by omega)]; exact gr
    ·rw [List.getElem?_set_self (lt_of_at gq)]
    ·intro j; unfold putW; split
     ·exact hqb
     ·exact ho j
    ·rw [show 8-(k+1)=n by omega]
     have h1:=vN_low (fun j=>w (j+n)) k
     have h2:=vN_low (fun j=>putW o n ((l*18446744073709551616+w n) / d) (j+n)) k
     have h3:vN (fun j=>putW o n ((l*18446744073709551616+w n) / d) (j+1+n)) k=vN (fun j=>o (j+(n+1))) k:=vN_ext fun j _=>by
      unfold putW
      rw [if_neg (by omega),show j+1+n=j+(n+1) by omega]
     have h4:vN (fun j=>w (j+1+n)) k=vN (fun j=>w (j+(n+1))) k:=vN_ext fun j _=>by
      rw [show j+1+n=j+(n+1) by omega]
     have h5:putW o n ((l*18446744073709551616+w n) / d) (0+n)=(l*18446744073709551616+w n) / d:=by unfold putW; rw [Nat.zero_add,if_pos rfl]
     have h6:=digit_dw (w:=w n) (B:=18446744073709551616) hs hd0
     rw [h1,h2]
     simp only [Nat.zero_add] at h5⊢
     rw [h3,h4,h5]
     exact h6)
 obtain ⟨x,T',m',hlp,rfl,G,o,l,rfl,g4,g6,g7,gr,gq,hl,ho,hs⟩:=hloop 8 0 nf (lst D 26) M (by omega) (by omega) ⟨D,fun _=>0,0,rfl,d1,d2,d4,d6,d7,d8,hp,hr,hq,hd0,fun _=>(by show 0<18446744073709551616; decide),by simp [vN]⟩
 have st:=store24 (w:=o) gr (rowOf_length _)
 obtain ⟨H,rh,h4,h5⟩:=dw_7 (self:=self) (nf:=nf) (m:=m') g4 g6 g7 (load24 gq) st
 have ld2:aload E.P 24 (.pointer (some ⟨m.length+1,0,none⟩)) (m'.set (m.length+1) (.row false 24 (rowOf o)))=some (wide o):=load24 (by rw [List.getElem?_set_self (lt_of_at gr)])
 refine ⟨o,l,m'.set (m.length+1) (.row false 24 (rowOf o)),hs,hl,ho,?_⟩
 generalize m'.set (m.length+1) (.row false 24 (rowOf o))=M2 at *
 generalize Code.region 0 rdw_0 false=C0 at *
 generalize Code.region 1 rdw_1 false=C1 at *
 generalize Code.region 2 rdw_2 false=C2 at *
 generalize Code.region 3 rdw_3 false=C3 at *
 generalize Code.region 7 rdw_7 false=C7 at *
 simp only [acodeN,ra,rb,rc,rd,hlp,rh,finish,ares,aresL,ares1,Tryd.f46,nth_lst,Nat.reduceLT,if_true,h4,h5,ld2,Option.map_some]
end
theorem a9w:ArrT 91 9 22 .u64:=⟨Tryd.underlying91,und22,info_of (by kernel_rfl),info_of (by kernel_rfl)⟩
theorem alloc9 (m:Mem):aalloc E.P 91 m=some (.pointer (some ⟨m.length,0,none⟩),m++[.row false 91 (rowK .u64 9 fun _=>0)]):=by kernel_rfl
theorem sl9 (b:Nat) (m:Mem):aslice E.P 91 (.pointer (some ⟨b,0,none⟩)) none none m=some (.slice (some ⟨b,0,none⟩) 9 9):=by kernel_rfl
theorem sl8 (b:Nat) (m:Mem):aslice E.P 24 (.pointer (some ⟨b,0,none⟩)) none none m=some (.slice (some ⟨b,0,none⟩) 8 8):=by kernel_rfl
theorem copy98 {m:Mem} {p q:Nat} {ro:Bool} {be be':TypeId} {R w:Nat→Nat} (gp:m[p]? = some (.row false be (rowK .u64 9 R))) (gq:m[q]? = some (.row ro be' (rowOf w))) :
  acopy E.P 94 (.slice (some ⟨p,0,none⟩) 9 9) (.slice (some ⟨q,0,none⟩) 8 8) m=some (.int .i64 8,m.set p (.row false be (rowK .u64 9 fun j=>if j<8 then w j else R j))):=by
 obtain ⟨i,h1,h2⟩:=info22
 have hs:asrc m 1 (.slice (some ⟨q,0,none⟩) 8 8)=some (8,rowOf w):=by
  unfold asrc
  simp only [lookRow gq]
  rw [if_pos (by rw [rowOf_length]; omega),List.drop_zero,List.take_of_length_le (by rw [rowOf_length]; omega)]
 unfold acopy
 simp only [und94,h1,h2,hs,gp]
 rw [show Nat.min 8 9*1=8 from rfl,List.take_of_length_le (by rw [rowOf_length]; omega),rowOf_ok,if_pos (by rw [Bool.true_and,decide_eq_true_eq,rowOf_length,rowK_length]; omega)]
 congr 5
theorem callUp:callableB E.P 66=true:=by kernel_rfl
section
variable {self:Self} {nf:Nat} {m m':Mem} {F:Nat→Value} {p q r t by':Nat} {w u R:Nat→Nat} {be be':TypeId}
theorem spr_0 {m1 m2:Mem} (hb:abox E.P 24 (wide w) m=some (.pointer (some ⟨p,0,none⟩),m1)) (hc:aalloc E.P 91 m1=some (.pointer (some ⟨r,0,none⟩),m2)) (h0:F 0=wide w):∃ F',acodeN E self nf (.region 0 rspr_0 false) (lst F 20) m=some (.normal,lst F' 20,m2)∧F' 2=.pointer (some ⟨p,0,none⟩)∧F' 4=.pointer (some ⟨r,0,none⟩)∧F' 1=F 1:=by
 simp only [ospr_0,agd_none,acodeN,aopsN,astep,aop,ev,nth_lst,aput,setAt_lst,Nat.reduceLT,if_true,h0,hb,hc]
 exact ⟨_,rfl,rfl,rfl,rfl⟩
theorem spr_1 {m1:Mem} (hc:aalloc E.P 91 m=some (.pointer (some ⟨q,0,none⟩),m1)):∃ F',acodeN E self nf (.region 1 rspr_1 false) (lst F 20) m=some (.normal,lst F' 20,m1)∧F' 5=.pointer (some ⟨q,0,none⟩)∧∀ j,j<5→F' j=F j:=by
 simp only [ospr_1,agd_none,acodeN,aopsN,astep,aop,aput,setAt_lst,hc]
 exact ⟨_,rfl,rfl,fun j h1=>by repeat rw [upd_ne (by omega)]⟩
theorem spr_2 {m1 m2:Mem} {n:Value} (h2:F 2=.pointer (some ⟨p,0,none⟩)) (h1:F 1=n) (ld:aload E.P 24 (.pointer (some ⟨p,0,none⟩)) m=some (wide w)) (hu:∀ M,ainv E self 66 [wide w,n] M=some (wide u,M)) (hc:aalloc E.P 24 m=some (.pointer (some ⟨t,0,none⟩),m1)) (st:astore E.P 24 (.pointer (some ⟨t,0,none⟩)) (wide u) m1=some m2) :
  ∃ F',acodeN E self nf (.region 2 rspr_2 false) (lst F 20) m=some (.normal,lst F' 20,m2)∧F' 6=.pointer (some ⟨t,0,none⟩)∧∀ j,j<6→F' j=F j:=by
 simp only [ospr_2,agd_none,List.cons_append,List.nil_append,acodeN,aopsN,astep,aop,ev,nth_lst,aput,setAt_lst,upd_at,Nat.reduceLT,Nat.reduceEqDiff,Option.map_some,List.map_cons,List.map_nil,List.isEmpty_nil,bls,if_true,if_false,h1,h2,ld,callUp,hu,hc,st]
 exact ⟨_,rfl,rfl,fun j h1=>by repeat rw [upd_ne (by omega)]⟩
theorem spr_3 {m1:Mem} {v:Value} (h5:F 5=.pointer (some ⟨q,0,none⟩)) (h6:F 6=.pointer (some ⟨t,0,none⟩)) (cp:acopy E.P 94 (.slice (some ⟨q,0,none⟩) 9 9) (.slice (some ⟨t,0,none⟩) 8 8) m=some (v,m1)) :
  ∃ F',acodeN E self nf (.region 3 rspr_3 true) (lst F 20) m=some (.normal,lst F' 20,m1)∧∀ j,j<6→F' j=F j:=by
 simp only [↓dspr_3,↓sspr_3,ospr_3,agd_none,acodeN,adrawT,cls,astep,aop,ev,nth_lst,aput,setAt_lst,upd_at,Nat.reduceLT,Nat.reduceEqDiff,abuiltin,Option.map_some,Option.map_none,bls,if_true,if_false,List.length_map,h5,h6,sl9,sl8,cp]
 exact ⟨_,rfl,fun j h1=>by repeat rw [upd_ne (by omega)]⟩
theorem spr_4 {m1:Mem} {x y:Nat} (h1:F 1=.int .i64 ((by':Nat):Int)) (hb:by'≤64) (h2:F 2=.pointer (some ⟨p,0,none⟩)) (h5:F 5=.pointer (some ⟨q,0,none⟩)) (c:cellAt m p 7=some (U x)) (hy:y=x / 2^(64-by')) (st:astore E.P 22 (.pointer (some ⟨q,8,none⟩)) (U y) m=some m1) :
  ∃ F',acodeN E self nf (.region 4 rspr_4 false) (lst F 20) m=some (.normal,lst F' 20,m1)∧∀ j,j<6→F' j=F j:=by
 have i1:aindexAddr E.P 24 (.pointer (some ⟨p,0,none⟩)) (.int .i64 7)=some (.pointer (some ⟨p,7,none⟩)):=ix24 (p:=p) (k:=7) (by omega)
 have i2:aindexAddr E.P 91 (.pointer (some ⟨q,0,none⟩)) (.int .i64 8)=some (.pointer (some ⟨q,8,none⟩)):=a9w.ix (p:=q) (j:=8) (by omega)
 have e3:=w64sub (a:=by') hb
 have s2:=shrN (x:=x) (n:=64-by') (by omega)
 rw [←hy] at s2
 simp only [ospr_4,agd_none,acodeN,aopsN,astep,aop,ev,nth_lst,aput,setAt_lst,upd_at,Nat.reduceLT,Nat.reduceEqDiff,Option.map_some,if_true,if_false,h1,h2,h5,i1,i2,load22,c,sub64',e3,s2,st]
 exact ⟨_,rfl,fun j h1=>by repeat rw [upd_ne (by omega)]⟩
theorem spr_5 {m1:Mem} {v:Value} (h4:F 4=.pointer (some ⟨r,0,none⟩)) (h5:F 5=.pointer (some ⟨q,0,none⟩)) (ld:aload E.P 91 (.pointer (some ⟨q,0,none⟩)) m=some v) (st:astore E.P 91 (.pointer (some ⟨r,0,none⟩)) v m=some m1) :
  ∃ F',acodeN E self nf (.region 5 rspr_5 false) (lst F 20) m=some (.normal,lst F' 20,m1)∧F' 4=.pointer (some ⟨r,0,none⟩):=by
 simp only [ospr_5,agd_none,acodeN,aopsN,astep,aop,ev,nth_lst,aput,setAt_lst,upd_at,Nat.reduceLT,Nat.reduceEqDiff,Option.map_some,if_true,if_false,h4,h5,ld,st]
 exact ⟨_,rfl,by simp only [upd_at,Nat.reduceEqDiff,reduceIte,h4]⟩
def sprW (u:Nat→Nat) (x:Nat):Nat→Nat:=putW (fun j=>if j<8 then u j else 0) 8 x
theorem spr_body (hu:∀ M,ainv E self 66 [wide w,.int .i64 ((by':Nat):Int)] M=some (wide u,M)) (hb:by'≤64) :
  ∃ m',abody E self nf 67 [wide w,.int .i64 ((by':Nat):Int)] m=some (arrK .u64 9 (sprW u (w 7 / 2^(64-by'))),m'):=by
 rw [abody_eqF (by kernel_rfl) Tryd.func67 bodyspr (by kernel_rfl) (Nat.le_of_ble_eq_true rfl)]
 rw [show Tryd.f67.ntmps=20 from rfl]
 have l1:(m++[Blk.row false 24 (rowOf w)]).length=m.length+1:=by simp
 have l2:(m++[Blk.row false 24 (rowOf w)]++[Blk.row false 91 (rowK .u64 9 fun _=>0)]).length=m.length+2:=by simp
 have b2:=alloc9 (m++[.row false 24 (rowOf w)])
 have b3:=alloc9 (m++[Blk.row false 24 (rowOf w)]++[.row false 91 (rowK .u64 9 fun _=>0)])
 rw [l1] at b2
 rw [l2] at b3
 obtain ⟨A,ra,a2,a4,a1⟩:=spr_0 (self:=self) (nf:=nf) (m:=m) (F:=init [wide w,.int .i64 ((by':Nat):Int)]) (box24 w m) b2 rfl
 obtain ⟨B,rb,b5,bk⟩:=spr_1 (self:=self) (nf:=nf) (F:=A) b3
 obtain ⟨M,hM⟩:∃ M,M=m++[Blk.row false 24 (rowOf w)]++[.row false 91 (rowK .u64 9 fun _=>0)]++[.row false 91 (rowK .u64 9 fun _=>0)]:=⟨_,rfl⟩
 rw [←hM] at rb
 have hl:M.length=m.length+3:=by rw [hM]; simp
 have hp:M[m.length]? = some (.row false 24 (rowOf w)):=by
  rw [hM,List.getElem?_append_left (by simp),List.getElem?_append_left (by simp)]; simp
 have hr:M[m.length+1]? = some (.row false 91 (rowK .u64 9 fun _=>0)):=by
  rw [hM,List.getElem?_append_left (by simp),List.getElem?_append_right (by simp)]; simp
 have hq:M[m.length+2]? = some (.row false 91 (rowK .u64 9 fun _=>0)):=by
  rw [hM,List.getElem?_append_right (by simp)]; simp
 clear hM b2 b3 l1 l2
 have b1:B 1=.int .i64 ((by':Nat):Int):=(bk 1 (by omega)).trans a1
 have b2:=(bk 2 (by omega)).trans a2
 have b4:=(bk 4 (by omega)).trans a4
 have at3:(M++[Blk.row false 24 (rowOf fun _=>0)])[M.length]? = some (.row false 24 (rowOf fun _=>0)):=by rw [List.getElem?_append_right (Nat.le_refl _),Nat.sub_self]; rfl
 obtain ⟨C,rc,c6,ck⟩:=spr_2 (self:=self) (nf:=nf) (m:=M) b2 b1 (load24 hp) hu (alloc24 M) (store24 (w:=u) at3 (rowOf_length _))
 obtain ⟨M2,hM2⟩:∃ M2,M2=(M++[Blk.row false 24 (rowOf fun _=>0)]).set M.length (.row false 24 (rowOf u)):=⟨_,rfl⟩
 rw [←hM2] at rc
 have keep:∀ j,j<M.length→M2[j]? = M[j]? := fun j hj=>by rw [hM2,List.getElem?_set_ne (by omega),List.getElem?_append_left hj]
 have hp2:=(keep m.length (by omega)).trans hp
 have hr2:=(keep (m.length+1) (by omega)).trans hr
 have hq2:=(keep (m.length+2) (by omega)).trans hq
 have ht2:M2[M.length]? = some (.row false 24 (rowOf u)):=by rw [hM2,List.getElem?_set_self (by simp)]
 clear hM2 keep at3
 have cp:=copy98 hq2 ht2
 obtain ⟨D,rd,dk⟩:=spr_3 (self:=self) (nf:=nf) (m:=M2) ((ck 5 (by omega)).trans b5) c6 cp
 obtain ⟨M3,hM3⟩:∃ M3,M3=M2.set (m.length+2) (.row false 91 (rowK .u64 9 fun j=>if j<8 then u j else 0)):=⟨_,rfl⟩
 rw [←hM3] at rd
 have hp3:M3[m.length]? = some (.row false 24 (rowOf w)):=by rw [hM3,List.getElem?_set_ne (by omega)]; exact hp2
 have hr3:M3[m.length+1]? = some (.row false 91 (rowK .u64 9 fun _=>0)):=by rw [hM3,List.getElem?_set_ne (by omega)]; exact hr2
 have hq3:M3[m.length+2]? = some (.row false 91 (rowK .u64 9 fun j=>if j<8 then u j else 0)):=by rw [hM3,List.getElem?_set_self (lt_of_at hq2)]
 clear hM3 cp
 have c7:cellAt M3 m.length 7=some (U (w 7)):=by rw [cellAt_row hp3,rowOf_get (by omega)]
 have st:=storeW (x:=w 7 / 2^(64-by')) hq3 (k:=8) (by omega)
 obtain ⟨G,rg,gk⟩:=spr_4 (self:=self) (nf:=nf) (m:=M3) ((dk 1 (by omega)).trans ((ck 1 (by omega)).trans b1)) hb ((dk 2 (by omega)).trans ((ck 2 (by omega)).trans b2)) ((dk 5 (by omega)).trans ((ck 5 (by omega)).trans b5)) c7 rfl st
 obtain ⟨M4,hM4⟩:∃ M4,M4=M3.set (m.length+2) (.row false 91 (rowK .u64 9 (sprW u (w 7 / 2^(64-by'))))):=⟨_,rfl⟩
 have hM4':M3.set (m.length+2) (.row false 91 (rowK .u64 9 (putW (fun j=>if j<8 then u j else 0) 8 (w 7 / 2^(64-by')))))=M4:=hM4.symm
 rw [hM4'] at rg
 have hr4:M4[m.length+1]? = some (.row false 91 (rowK .u64 9 fun _=>0)):=by rw [hM4,List.getElem?_set_ne (by omega)]; exact hr3
 have hq4:M4[m.length+2]? = some (.row false 91 (rowK .u64 9 (sprW u (w 7 / 2^(64-by'))))):=by rw [hM4,List.getElem?_set_self (lt_of_at hq3)]
 clear hM4 hM4' st c7
 generalize sprW u (w 7 / 2^(64-by'))=S at *
 have st5:=a9w.store (w:=S) (by omega) hr4 (by rw [rowK_length])
 obtain ⟨H,rh,h4⟩:=spr_5 (self:=self) (nf:=nf) (m:=M4) ((gk 4 (by omega)).trans ((dk 4 (by omega)).trans ((ck 4 (by omega)).trans b4))) ((gk 5 (by omega)).trans ((dk 5 (by omega)).trans ((ck 5 (by omega)).trans b5))) (a9w.load hq4) st5
 have ld2:aload E.P 91 (.pointer (some ⟨m.length+1,0,none⟩)) (M4.set (m.length+1) (.row false 91 (rowK .u64 9 S)))=some (arrK .u64 9 S):=a9w.load (by rw [List.getElem?_set_self (lt_of_at hr4)])
 refine ⟨M4.set (m.length+1) (.row false 91 (rowK .u64 9 S)),?_⟩
 generalize M4.set (m.length+1) (.row false 91 (rowK .u64 9 S))=M5 at *
 generalize Code.region 0 rspr_0 false=C0 at *
 generalize Code.region 1 rspr_1 false=C1 at *
 generalize Code.region 2 rspr_2 false=C2 at *
 generalize Code.region 3 rspr_3 true=C3 at *
 generalize Code.region 4 rspr_4 false=C4 at *
 generalize Code.region 5 rspr_5 false=C5 at *
 simp only [acodeN,ra,rb,rc,rd,rg,rh,finish,ares,aresL,ares1,Tryd.f67,nth_lst,Nat.reduceLT,if_true,h4,ld2,Option.map_some]
end
end Go.Am.Seat
