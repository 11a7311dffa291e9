import Derived.Test.YtcnhakfmnkegcaaDoorGrFieldParses19
set_option linter.unusedSimpArgs false
set_option linter.unusedVariables false
set_option maxRecDepth 100000
namespace Go.Am.Seat
open Go.Proofs Go.Am Go.Am.Num Go.Am.Kn
theorem und94:E.P.underlying 94=some (.slice 22):=Tryd.underlying94
theorem ix94 {b o L c j:Nat} (h:j<L):aindexAddr E.P 94 (.slice (some ⟨b,o,none⟩) L c) (.int .i64 (j:Nat))=some (.pointer (some ⟨b,o+j,none⟩)):=by
 obtain ⟨i,h1,h2⟩:=info22
 unfold aindexAddr
 simp only [und94,h1]
 rw [if_pos (by omega)]
 simp [h2]
def putW (R:Nat→Nat) (k x:Nat):Nat→Nat:=fun j=>if j=k then x else R j
theorem storeW {m:Mem} {p n k x:Nat} {be:TypeId} {R:Nat→Nat} (h:m[p]? = some (.row false be (rowK .u64 n R))) (hk:k<n):astore E.P 22 (.pointer (some ⟨p,k,none⟩)) (U x) m=some (m.set p (.row false be (rowK .u64 n (putW R k x)))):=by
 obtain ⟨i,h1,h2⟩:=info22
 rw [astore_cell h1 h2 h (by rw [rowK_length]; exact hk) rfl,rowK_set]
 rfl
def vN (w:Nat→Nat):Nat→Nat
 | 0=>0
 | n+1=>vN w n+18446744073709551616^n*w n
theorem vN_ext {w w':Nat→Nat}:∀ {n:Nat},(∀ j,j<n→w j=w' j)→vN w n=vN w' n
 | 0,_=>rfl
 | n+1,h=>by rw [vN,vN,vN_ext fun j hj=>h j (by omega),h n (by omega)]
theorem vN_lt {w:Nat→Nat} (h:∀ j,w j<18446744073709551616):∀ n,vN w n<18446744073709551616^n
 | 0=>Nat.one_pos
 | n+1=>by
  have h1:=vN_lt h n
  have h2:=h n
  rw [vN,Nat.pow_succ]
  generalize 18446744073709551616^n=P at *
  have h3:P*w n+P≤P*18446744073709551616:=by rw [←Nat.mul_succ]; exact Nat.mul_le_mul_left _ h2
  omega
theorem vN_put {R:Nat→Nat} {k x n:Nat} (h:n≤k):vN (putW R k x) n=vN R n:=vN_ext fun j hj=>by unfold putW; rw [if_neg (by omega)]
theorem off_step {r x cy bw off cy' d bo:Nat} (hr:r<18446744073709551616) (hb:bw≤1) (hoff:off=(x+cy)%18446744073709551616) (hcy:cy'=(x+cy) / 18446744073709551616) (hd:d=(r+18446744073709551616-off-bw)%18446744073709551616) (hbo:bo=if r<off+bw then 1 else 0) :
  r+18446744073709551616*(bo+cy')=d+bw+x+cy∧d<18446744073709551616∧bo≤1:=by
 by_cases h:r<off+bw
 ·rw [if_pos h] at hbo
  omega
 ·rw [if_neg h] at hbo
  omega
theorem off_sum {P r d x cy bw cy' bo vo vn ov:Nat} (h:vo+P*(bw+cy)=vn+ov) (hs:r+18446744073709551616*(bo+cy')=d+bw+x+cy) :
  vo+P*r+P*18446744073709551616*(bo+cy')=vn+P*d+(ov+P*x):=by
 have h1:P*r+P*(18446744073709551616*(bo+cy'))=P*d+P*bw+P*x+P*cy:=by rw [←Nat.mul_add,hs,Nat.mul_add,Nat.mul_add,Nat.mul_add]
 rw [←Nat.mul_assoc] at h1
 rw [Nat.mul_add] at h
 omega
section
variable {self:Self} {nf:Nat} {m:Mem} {F:Nat→Value} {p q i n c cv j often cy bw:Nat} {R V:Nat→Nat} {be be':TypeId} {ro:Bool}
theorem tkt_3 (h13:F 13=.int .i64 ((n:Nat):Int)) (h14:F 14=.int .i64 ((j:Nat):Int)) (hj:j<n):∃ F',acodeN E self nf (.region 3 rtkt_3 false) (lst F 57) m=some (.normal,lst F' 57,m)∧F' 15=.bool true∧∀ j,j<15→F' j=F j:=by
 have q1:decide (((j:Nat):Int)<((n:Nat):Int))=true:=decide_eq_true (by omega)
 simp only [otkt_3,agd_none,acodeN,aopsN,astep,aop,ev,nth_lst,aput,setAt_lst,Nat.reduceLT,if_true,h13,h14,lss64,q1]
 exact ⟨_,rfl,rfl,fun j h1=>by repeat rw [upd_ne (by omega)]⟩
theorem tkt_4 {x:Nat} (h12:F 12=.slice (some ⟨q,0,none⟩) n cv) (h14:F 14=.int .i64 ((j:Nat):Int)) (hj:j<n) (c1:cellAt m q j=some (U x)):∃ F',acodeN E self nf (.region 4 rtkt_4 false) (lst F 57) m=some (.normal,lst F' 57,m)∧F' 9=.int .i64 ((j:Nat):Int)∧F' 10=U x∧∀ j,j≠9→j≠10→j<15→F' j=F j:=by
 have i1:=ix94 (b:=q) (o:=0) (L:=n) (c:=cv) hj
 rw [Nat.zero_add] at i1
 simp only [otkt_4,agd_none,acodeN,aopsN,astep,aop,ev,nth_lst,aput,setAt_lst,upd_at,Nat.reduceLT,Nat.reduceEqDiff,Option.map_some,if_true,if_false,h12,h14,i1,load22,c1]
 exact ⟨_,rfl,rfl,rfl,fun j h1 h2 h3=>by repeat rw [upd_ne (by omega)]⟩
theorem tkt_5:∃ F',acodeN E self nf (.region 5 rtkt_5 false) (lst F 57) m=some (.normal,lst F' 57,m)∧∀ j,j≠11→j<15→F' j=F j:=by
 simp only [otkt_5,agd_none,acodeN,aopsN,astep,aop,ev,aput,setAt_lst]
 exact ⟨_,rfl,fun j h1 h3=>by repeat rw [upd_ne (by omega)]⟩
theorem tkt_6 {x a b:Nat} (h10:F 10=U x) (h2:F 2=U often) (h7:F 7=U cy) (m0:∀ M,ainv E self 63 [U x,U often,.int .u64 0,U cy] M=some (pair64 a b,M)):∃ F',acodeN E self nf (.region 6 rtkt_6 false) (lst F 57) m=some (.normal,lst F' 57,m)∧F' 11=U a∧F' 7=U b∧∀ j,j≠11→j≠7→j<15→F' j=F j:=by
 simp only [otkt_6,agd_none,List.cons_append,List.nil_append,acodeN,aopsN,astep,aop,ev,nth_lst,aput,setAt_lst,upd_at,Nat.reduceLT,Nat.reduceEqDiff,Option.map_some,List.map_cons,List.map_nil,List.isEmpty_nil,bls,if_true,if_false,h10,h2,h7,callMs,m0,ex0,ex1]
 exact ⟨_,rfl,rfl,rfl,fun j h1 h2 h3=>by repeat rw [upd_ne (by omega)]⟩
theorem tkt_7 {r off d bo:Nat} {m':Mem} (h0:F 0=.slice (some ⟨p,i,none⟩) (n+1) c) (h9:F 9=.int .i64 ((j:Nat):Int)) (h11:F 11=U off) (h8:F 8=U bw) (hj:j<n+1) (c2:cellAt m p (i+j)=some (U r)) (sb:∀ M:Mem,aext .sub64 [U r,U off,U bw] M=some (pair64 d bo,M)) (s1:astore E.P 22 (.pointer (some ⟨p,i+j,none⟩)) (U d) m=some m') :
  ∃ F',acodeN E self nf (.region 7 rtkt_7 false) (lst F 57) m=some (.normal,lst F' 57,m')∧F' 8=U bo∧∀ j,j≠8→j<15→F' j=F j:=by
 have i2:=ix94 (b:=p) (o:=i) (L:=n+1) (c:=c) hj
 simp only [otkt_7,agd_none,acodeN,aopsN,astep,aop,ev,nth_lst,aput,setAt_lst,upd_at,Nat.reduceLT,Nat.reduceEqDiff,Option.map_some,List.map_cons,List.map_nil,List.isEmpty_nil,bls,if_true,if_false,h0,h9,h11,h8,i2,load22,c2,callSub,extSub,sb,ex0,ex1,s1]
 exact ⟨_,rfl,rfl,fun j h1 h3=>by repeat rw [upd_ne (by omega)]⟩
theorem tkt_8 (h14:F 14=.int .i64 ((j:Nat):Int)) (hj:j<1000):∃ F',acodeN E self nf (.region 8 rtkt_8 false) (lst F 57) m=some (.normal,lst F' 57,m)∧F' 14=.int .i64 ((j+1:Nat):Int)∧∀ j,j<14→F' j=F j:=by
 have e1:=w1 (i:=j) (by omega)
 simp only [otkt_8,agd_none,acodeN,aopsN,astep,aop,ev,nth_lst,aput,setAt_lst,upd_at,Nat.reduceLT,if_true,h14,add64',e1]
 exact ⟨_,rfl,rfl,fun j h1=>by repeat rw [upd_ne (by omega)]⟩
theorem tkt_it (hms:∀ x y a c,x<18446744073709551616→y<18446744073709551616→a<18446744073709551616→c<18446744073709551616→Ans self 63 [U x,U y,U a,U c] (pair64 ((x*y+a+c)%18446744073709551616) ((x*y+a+c) / 18446744073709551616)))
  (h0:F 0=.slice (some ⟨p,i,none⟩) (n+1) c) (h2:F 2=U often) (h7:F 7=U cy) (h8:F 8=U bw) (h12:F 12=.slice (some ⟨q,0,none⟩) n cv) (h13:F 13=.int .i64 ((n:Nat):Int)) (h14:F 14=.int .i64 ((j:Nat):Int)) (hj:j<n) (hn:n≤8) (hi:i+n<9)
  (gp:m[p]? = some (.row false be (rowK .u64 9 R))) (gq:m[q]? = some (.row ro be' (rowK .u64 8 V))) (hV:∀ j,V j<18446744073709551616) (ho:often<18446744073709551616) (hc:cy<18446744073709551616) (hb:bw≤1)
  {off cy' d bo:Nat} (hoff:off=(V j*often+cy)%18446744073709551616) (hcy:cy'=(V j*often+cy) / 18446744073709551616) (hd:d=(R (i+j)+18446744073709551616-off-bw)%18446744073709551616) (hbo:bo=if R (i+j)<off+bw then 1 else 0) :
  ∃ F',acodeN E self nf lptkt_0 (lst F 57) m=some (.normal,lst F' 57,m.set p (.row false be (rowK .u64 9 (putW R (i+j) d))))∧
   F' 7=U cy'∧F' 8=U bo∧F' 14=.int .i64 ((j+1:Nat):Int)∧F' 0=F 0∧F' 1=F 1∧F' 2=F 2∧F' 12=F 12∧F' 13=F 13:=by
 have c1:=cellK gq (j:=j) (by omega)
 have m0:∀ M,ainv E self 63 [U (V j),U often,.int .u64 0,U cy] M=some (pair64 off cy',M):=by
  rw [hoff,hcy]
  have:=hms (V j) often 0 cy (hV j) ho (by omega) hc
  unfold Ans at this
  rw [Nat.add_zero] at this
  exact this
 have c2:=cellK gp (j:=i+j) (by omega)
 have s1:=storeW (x:=d) gp (k:=i+j) (by omega)
 have sb:∀ M:Mem,aext .sub64 [U (R (i+j)),U off,U bw] M=some (pair64 d bo,M):=fun M=>by rw [hd,hbo]; exact (sub64C _ _ _ M).trans (if_pos hb)
 clear hoff hcy hd hbo hms gp gq
 obtain ⟨A,ra,a15,ak⟩:=tkt_3 (self:=self) (nf:=nf) (m:=m) h13 h14 hj
 obtain ⟨B,rb,b9,b10,bk⟩:=tkt_4 (self:=self) (nf:=nf) (m:=m) ((ak 12 (by omega)).trans h12) ((ak 14 (by omega)).trans h14) hj c1
 obtain ⟨C,rc,ck⟩:=tkt_5 (self:=self) (nf:=nf) (m:=m) (F:=B)
 have kk:∀ j,j≠9→j≠10→j≠11→j<15→C j=F j:=fun j h1 h2 h3 h4=>(ck j h3 h4).trans ((bk j h1 h2 h4).trans (ak j h4))
 obtain ⟨D,rd,d11,d7,dk⟩:=tkt_6 (self:=self) (nf:=nf) (m:=m) ((ck 10 (by omega) (by omega)).trans b10) ((kk 2 (by omega) (by omega) (by omega) (by omega)).trans h2) ((kk 7 (by omega) (by omega) (by omega) (by omega)).trans h7) m0
 obtain ⟨G,re,g8,gk⟩:=tkt_7 (self:=self) (nf:=nf) (m:=m) ((dk 0 (by omega) (by omega) (by omega)).trans ((kk 0 (by omega) (by omega) (by omega) (by omega)).trans h0)) ((dk 9 (by omega) (by omega) (by omega)).trans ((ck 9 (by omega) (by omega)).trans b9)) d11 ((dk 8 (by omega) (by omega) (by omega)).trans ((kk 8 (by omega) (by omega) (by omega) (by omega)).trans h8)) (by omega) c2 sb s1
 have kg:∀ j,j≠9→j≠10→j≠11→j≠7→j≠8→j<15→G j=F j:=fun j h1 h2 h3 h4 h5 h6=>(gk j h5 h6).trans ((dk j h3 h4 h6).trans (kk j h1 h2 h3 h6))
 obtain ⟨H,rf,x14,hk⟩:=tkt_8 (self:=self) (nf:=nf) (m:=m.set p (.row false be (rowK .u64 9 (putW R (i+j) d)))) ((kg 14 (by omega) (by omega) (by omega) (by omega) (by omega) (by omega)).trans h14) (by omega)
 refine ⟨H,?_,(hk 7 (by omega)).trans ((gk 7 (by omega) (by omega)).trans d7),(hk 8 (by omega)).trans g8,x14,(hk 0 (by omega)).trans (kg 0 (by omega) (by omega) (by omega) (by omega) (by omega) (by omega)),(hk 1 (by omega)).trans (kg 1 (by omega) (by omega) (by omega) (by omega) (by omega) (by omega)),(hk 2 (by omega)).trans (kg 2 (by omega) (by omega) (by omega) (by omega) (by omega) (by omega)),(hk 12 (by omega)).trans (kg 12 (by omega) (by omega) (by omega) (by omega) (by omega) (by omega)),(hk 13 (by omega)).trans (kg 13 (by omega) (by omega) (by omega) (by omega) (by omega) (by omega))⟩
 rw [lptkt_0_eq]
 generalize Code.region 3 rtkt_3 false=C3 at *
 generalize Code.region 4 rtkt_4 false=C4 at *
 generalize Code.region 5 rtkt_5 false=C5 at *
 generalize Code.region 6 rtkt_6 false=C6 at *
 generalize Code.region 7 rtkt_7 false=C7 at *
 generalize Code.region 8 rtkt_8 false=C8 at *
 simp only [acodeN,ra,rb,rc,rd,re,rf,ev,nth_lst,Nat.reduceLT,if_true,a15]
theorem tkt_last (h13:F 13=.int .i64 ((n:Nat):Int)) (h14:F 14=.int .i64 ((n:Nat):Int)):∃ F',acodeN E self nf lptkt_0 (lst F 57) m=some (.exit 0,lst F' 57,m)∧∀ j,j<9→F' j=F j:=by
 have q1:decide (((n:Nat):Int)<((n:Nat):Int))=false:=decide_eq_false (by omega)
 simp only [lptkt_0_eq,otkt_3,agd_none,acodeN,aopsN,astep,aop,ev,nth_lst,aput,setAt_lst,upd_at,Nat.reduceLT,if_true,h13,h14,lss64,q1]
 exact ⟨_,rfl,fun j h1=>by repeat rw [upd_ne (by omega)]⟩
theorem tkt_0:∃ F',acodeN E self nf (.region 0 rtkt_0 false) (lst F 57) m=some (.normal,lst F' 57,m)∧∀ j,j<6→F' j=F j:=by
 simp only [otkt_0,agd_none,acodeN,aopsN,astep,aop,ev,aput,setAt_lst]
 exact ⟨_,rfl,fun j h1=>by repeat rw [upd_ne (by omega)]⟩
theorem tkt_1:∃ F',acodeN E self nf (.region 1 rtkt_1 false) (lst F 57) m=some (.normal,lst F' 57,m)∧F' 7=U 0∧F' 8=U 0∧∀ j,j<6→F' j=F j:=by
 simp only [otkt_1,agd_none,acodeN,aopsN,astep,aop,ev,aput,setAt_lst]
 exact ⟨_,rfl,by (simp only [upd_at,Nat.reduceEqDiff,reduceIte]; rfl),by (simp only [upd_at,Nat.reduceEqDiff,reduceIte]; rfl),fun j h1=>by repeat rw [upd_ne (by omega)]⟩
theorem tkt_2 (h1:F 1=.slice (some ⟨q,0,none⟩) n cv):∃ F',acodeN E self nf (.region 2 rtkt_2 false) (lst F 57) m=some (.normal,lst F' 57,m)∧F' 12=.slice (some ⟨q,0,none⟩) n cv∧F' 13=.int .i64 ((n:Nat):Int)∧F' 14=.int .i64 ((0:Nat):Int)∧∀ j,j<9→F' j=F j:=by
 simp only [otkt_2,agd_none,acodeN,aopsN,astep,aop,ev,nth_lst,aput,setAt_lst,upd_at,Nat.reduceLT,abuiltin,alen,if_true,h1,und94]
 exact ⟨_,rfl,rfl,rfl,by (simp only [upd_at,Nat.reduceEqDiff,reduceIte]; rfl),fun j h1=>by repeat rw [upd_ne (by omega)]⟩
theorem tkt_9 {r d bo:Nat} {m':Mem} (h0:F 0=.slice (some ⟨p,i,none⟩) (n+1) c) (h1:F 1=.slice (some ⟨q,0,none⟩) n cv) (h7:F 7=U cy) (h8:F 8=U bw) (c2:cellAt m p (i+n)=some (U r)) (sb:∀ M:Mem,aext .sub64 [U r,U cy,U bw] M=some (pair64 d bo,M)) (s1:astore E.P 22 (.pointer (some ⟨p,i+n,none⟩)) (U d) m=some m') :
  ∃ F',acodeN E self nf (.region 9 rtkt_9 false) (lst F 57) m=some (.normal,lst F' 57,m')∧F' 8=U bo:=by
 have i2:=ix94 (b:=p) (o:=i) (L:=n+1) (c:=c) (j:=n) (by omega)
 simp only [otkt_9,agd_none,acodeN,aopsN,astep,aop,ev,nth_lst,aput,setAt_lst,upd_at,Nat.reduceLT,Nat.reduceEqDiff,abuiltin,alen,Option.map_some,List.map_cons,List.map_nil,List.isEmpty_nil,bls,if_true,if_false,h0,h1,h7,h8,und94,i2,load22,c2,callSub,extSub,sb,ex0,ex1,s1]
 exact ⟨_,rfl,rfl⟩
theorem tkt_10 {bo:Nat} {b:Bool} (h8:F 8=U bo) (hb:(((bo:Nat):Int) != 0)=b):∃ F',acodeN E self nf (.region 10 rtkt_10 false) (lst F 57) m=some (.normal,lst F' 57,m)∧F' 6=.bool b:=by
 simp only [otkt_10,agd_none,acodeN,aopsN,astep,aop,ev,nth_lst,aput,setAt_lst,upd_at,Nat.reduceLT,Nat.reduceEqDiff,if_true,if_false,h8,neqU',hb]
 exact ⟨_,rfl,rfl⟩
theorem set_same {m:Mem} {p:Nat} {b:Blk} (h:m[p]? = some b):m.set p b=m:=by
 obtain ⟨h1,h2⟩:=List.getElem?_eq_some_iff.1 h
 apply List.ext_getElem?
 intro k
 by_cases hk:k=p
 ·subst hk; rw [List.getElem?_set_self h1,h]
 ·rw [List.getElem?_set_ne (fun e=>hk e.symm)]
theorem tkt_body (hms:∀ x y a c,x<18446744073709551616→y<18446744073709551616→a<18446744073709551616→c<18446744073709551616→Ans self 63 [U x,U y,U a,U c] (pair64 ((x*y+a+c)%18446744073709551616) ((x*y+a+c) / 18446744073709551616)))
  (gp:m[p]? = some (.row false be (rowK .u64 9 R))) (gq:m[q]? = some (.row ro be' (rowK .u64 8 V))) (hpq:p≠q) (hn:n≤8) (hi:i+n<9) (hR:∀ j,R j<18446744073709551616) (hV:∀ j,V j<18446744073709551616) (ho:often<18446744073709551616) (hnf:100<nf) :
  ∃ (R':Nat→Nat) (b:Bool),abody E self nf 85 [.slice (some ⟨p,i,none⟩) (n+1) c,.slice (some ⟨q,0,none⟩) n cv,U often] m=some (.bool b,m.set p (.row false be (rowK .u64 9 R')))∧
   (∀ j,R' j<18446744073709551616)∧(∀ j,j<i→R' j=R j)∧(∀ j,i+n<j→R' j=R j)∧vN (fun j=>R (i+j)) (n+1)+18446744073709551616^(n+1)*(if b then 1 else 0)=vN (fun j=>R' (i+j)) (n+1)+vN V n*often:=by
 rw [abody_eqF (by kernel_rfl) Tryd.func85 bodytkt (by kernel_rfl) (Nat.le_of_ble_eq_true rfl)]
 rw [show Tryd.f85.ntmps=57 from rfl]
 obtain ⟨A,ra,ak⟩:=tkt_0 (self:=self) (nf:=nf) (m:=m) (F:=init [.slice (some ⟨p,i,none⟩) (n+1) c,.slice (some ⟨q,0,none⟩) n cv,U often])
 have a0:A 0=.slice (some ⟨p,i,none⟩) (n+1) c:=ak 0 (by omega)
 have a1:A 1=.slice (some ⟨q,0,none⟩) n cv:=ak 1 (by omega)
 have a2:A 2=U often:=ak 2 (by omega)
 obtain ⟨B,rb,b7,b8,bk⟩:=tkt_1 (self:=self) (nf:=nf) (m:=m) (F:=A)
 obtain ⟨C,rc,c12,c13,c14,ck⟩:=tkt_2 (self:=self) (nf:=nf) (m:=m) ((bk 1 (by omega)).trans a1)
 have hloop:=aloop_inv (body:=acodeN E self nf lptkt_0) (N:=n)
  (I:=fun k T m'=>∃ G R' cy bw,T=lst G 57∧G 0=.slice (some ⟨p,i,none⟩) (n+1) c∧G 1=.slice (some ⟨q,0,none⟩) n cv∧G 2=U often∧G 12=.slice (some ⟨q,0,none⟩) n cv∧G 13=.int .i64 ((n:Nat):Int)∧G 14=.int .i64 ((k:Nat):Int)∧G 7=U cy∧G 8=U bw∧cy<18446744073709551616∧bw≤1∧
   m'=m.set p (.row false be (rowK .u64 9 R'))∧(∀ j,R' j<18446744073709551616)∧(∀ j,j<i→R' j=R j)∧(∀ j,i+k≤j→R' j=R j)∧vN (fun j=>R (i+j)) k+18446744073709551616^k*(bw+cy)=vN (fun j=>R' (i+j)) k+vN V k*often)
  (Q:=fun x T m'=>x=.exit 0∧∃ G R' cy bw,T=lst G 57∧G 0=.slice (some ⟨p,i,none⟩) (n+1) c∧G 1=.slice (some ⟨q,0,none⟩) n cv∧G 7=U cy∧G 8=U bw∧cy<18446744073709551616∧bw≤1∧
   m'=m.set p (.row false be (rowK .u64 9 R'))∧(∀ j,R' j<18446744073709551616)∧(∀ j,j<i→R' j=R j)∧(∀ j,i+n≤j→R' j=R j)∧vN (fun j=>R (i+j)) n+18446744073709551616^n*(bw+cy)=vN (fun j=>R' (i+j)) n+vN V n*often) (fun k T m' hk hI=>by
   obtain ⟨G,R',cy,bw,rfl,g0,g1,g2,g12,g13,g14,g7,g8,hcy,hbw,rfl,hR',hlo,hhi,hv⟩:=hI
   by_cases hlt:k<n
   ·left
    have hpm:=(List.getElem?_eq_some_iff.1 gp).1
    have gp':(m.set p (.row false be (rowK .u64 9 R')))[p]? = some (.row false be (rowK .u64 9 R')):=List.getElem?_set_self hpm
    have gq':(m.set p (.row false be (rowK .u64 9 R')))[q]? = some (.row ro be' (rowK .u64 8 V)):=by rw [List.getElem?_set_ne hpq]; exact gq
    obtain ⟨F',hr,f7,f8,f14,f0,f1,f2,f12,f13⟩:=tkt_it (self:=self) (nf:=nf) hms g0 g2 g7 g8 g12 g13 g14 hlt hn hi gp' gq' hV ho hcy hbw rfl rfl rfl rfl
    have hp:=prod_le (hV k) ho
    obtain ⟨s1,s2,s3⟩:=off_step (r:=R' (i+k)) (x:=V k*often) (hR' (i+k)) hbw rfl rfl rfl rfl
    have s4:(V k*often+cy) / 18446744073709551616<18446744073709551616:=by omega
    have hcarry:=off_sum (P:=18446744073709551616^k) hv s1
    generalize (R' (i+k)+18446744073709551616-(V k*often+cy)%18446744073709551616-bw)%18446744073709551616=d at *
    generalize (if R' (i+k)<(V k*often+cy)%18446744073709551616+bw then 1 else 0)=bo at *
    generalize (V k*often+cy) / 18446744073709551616=cy' at *
    refine ⟨_,_,hr,hlt,F',putW R' (i+k) d,cy',bo,rfl,f0.trans g0,f1.trans g1,f2.trans g2,f12.trans g12,f13.trans g13,f14,f7,f8,s4,s3,?_,?_,?_,?_,?_⟩
    ·rw [List.set_set]
    ·intro j; unfold putW; split
     ·exact s2
     ·exact hR' j
    ·intro j hj; unfold putW; rw [if_neg (by omega)]; exact hlo j hj
    ·intro j hj; unfold putW; rw [if_neg (by omega)]; exact hhi j (by omega)
    ·have e1:vN (fun j=>putW R' (i+k) d (i+j)) (k+1)=vN (fun j=>R' (i+j)) k+18446744073709551616^k*d:=by
      rw [vN]
      congr 1
      ·exact vN_ext fun j hj=>by unfold putW; rw [if_neg (by omega)]
      ·show _*putW R' (i+k) d (i+k)=_; unfold putW; rw [if_pos rfl]
     have e2:vN (fun j=>R (i+j)) (k+1)=vN (fun j=>R (i+j)) k+18446744073709551616^k*R' (i+k):=by rw [vN]; show _+_*R (i+k)=_; rw [hhi (i+k) (Nat.le_refl _)]
     rw [e1,e2,vN,Nat.add_mul,Nat.pow_succ,Nat.mul_assoc _ (V k)]
     exact hcarry
   ·right
    have hkn:k=n:=by omega
    subst hkn
    obtain ⟨F',hr,fk⟩:=tkt_last (self:=self) (nf:=nf) (m:=m.set p (.row false be (rowK .u64 9 R'))) g13 g14
    exact ⟨_,_,_,hr,by simp,rfl,F',R',cy,bw,rfl,(fk 0 (by omega)).trans g0,(fk 1 (by omega)).trans g1,(fk 7 (by omega)).trans g7,(fk 8 (by omega)).trans g8,hcy,hbw,rfl,hR',hlo,hhi,hv⟩)
 obtain ⟨x,T',m',hr,rfl,G,R',cy,bw,rfl,g0,g1,g7,g8,hcy,hbw,rfl,hR',hlo,hhi,hv⟩:=hloop n 0 nf (lst C 57) m (by omega) (by omega) ⟨C,R,0,0,rfl,(ck 0 (by omega)).trans ((bk 0 (by omega)).trans a0),(ck 1 (by omega)).trans ((bk 1 (by omega)).trans a1),(ck 2 (by omega)).trans ((bk 2 (by omega)).trans a2),c12,c13,c14,(ck 7 (by omega)).trans b7,(ck 8 (by omega)).trans b8,by omega,by omega,(set_same gp).symm,hR,fun _ _=>rfl,fun _ _=>rfl,by simp [vN]⟩
 have hpm:=(List.getElem?_eq_some_iff.1 gp).1
 have gp':(m.set p (.row false be (rowK .u64 9 R')))[p]? = some (.row false be (rowK .u64 9 R')):=List.getElem?_set_self hpm
 obtain ⟨s1,s2,s3⟩:=off_step (r:=R' (i+n)) (x:=0) (cy:=cy) (hR' (i+n)) hbw rfl rfl rfl rfl
 rw [Nat.zero_add,Nat.mod_eq_of_lt hcy,Nat.div_eq_of_lt hcy] at s1
 rw [Nat.zero_add,Nat.mod_eq_of_lt hcy] at s2 s3
 have hcarry:=off_sum (P:=18446744073709551616^n) hv s1
 have sb:∀ M:Mem,aext .sub64 [U (R' (i+n)),U cy,U bw] M=some (pair64 ((R' (i+n)+18446744073709551616-cy-bw)%18446744073709551616) (if R' (i+n)<cy+bw then 1 else 0),M):=fun M=>(sub64C _ _ _ M).trans (if_pos hbw)
 generalize (R' (i+n)+18446744073709551616-cy-bw)%18446744073709551616=d at *
 generalize (if R' (i+n)<cy+bw then 1 else 0)=bo at *
 obtain ⟨H,rd,h8⟩:=tkt_9 (self:=self) (nf:=nf) (m:=m.set p (.row false be (rowK .u64 9 R'))) g0 g1 g7 g8 (cellK gp' (j:=i+n) (by omega)) sb (storeW (x:=d) gp' (k:=i+n) (by omega))
 obtain ⟨b,hb⟩:∃ b:Bool,(((bo:Nat):Int) != 0)=b:=⟨_,rfl⟩
 obtain ⟨I,re,i6⟩:=tkt_10 (self:=self) (nf:=nf) (m:=(m.set p (.row false be (rowK .u64 9 R'))).set p (.row false be (rowK .u64 9 (putW R' (i+n) d)))) h8 hb
 have hbo:bo=if b then 1 else 0:=by
  have:bo=0∨bo=1:=by omega
  rcases this with rfl | rfl
  ·have:b=false:=by rw [←hb]; rfl
   rw [this]; rfl
  ·have:b=true:=by rw [←hb]; rfl
   rw [this]; rfl
 refine ⟨putW R' (i+n) d,b,?_,?_,?_,?_,?_⟩
 ·rw [List.set_set] at re rd
  generalize Code.region 0 rtkt_0 false=C0 at *
  generalize Code.region 1 rtkt_1 false=C1 at *
  generalize Code.region 2 rtkt_2 false=C2 at *
  generalize Code.region 9 rtkt_9 false=C9 at *
  generalize Code.region 10 rtkt_10 false=C10 at *
  simp only [acodeN,ra,rb,rc,hr,rd,re,if_true,finish,ares,aresL,ares1,Tryd.f85,nth_lst,Nat.reduceLT,i6,Option.map_some]
 ·intro j; unfold putW; split
  ·exact s2
  ·exact hR' j
 ·intro j hj; unfold putW; rw [if_neg (by omega)]; exact hlo j hj
 ·intro j hj; unfold putW; rw [if_neg (by omega)]; exact hhi j (by omega)
 ·have e1:vN (fun j=>putW R' (i+n) d (i+j)) (n+1)=vN (fun j=>R' (i+j)) n+18446744073709551616^n*d:=by
   rw [vN]
   congr 1
   ·exact vN_ext fun j hj=>by unfold putW; rw [if_neg (by omega)]
   ·show _*putW R' (i+n) d (i+n)=_; unfold putW; rw [if_pos rfl]
  have e2:vN (fun j=>R (i+j)) (n+1)=vN (fun j=>R (i+j)) n+18446744073709551616^n*R' (i+n):=by rw [vN]; show _+_*R (i+n)=_; rw [hhi (i+n) (Nat.le_refl _)]
  rw [e1,e2,←hbo,Nat.pow_succ]
  rw [Nat.mul_zero,Nat.add_zero,Nat.add_zero] at hcarry
  exact hcarry
end
theorem on_step {r x cy d cy':Nat} (hd:d=(r+x+cy)%18446744073709551616) (hcy:cy'=(r+x+cy) / 18446744073709551616):r+x+cy=d+18446744073709551616*cy':=by omega
theorem on_sum' {P r d x cy cy' vo vn ov:Nat} (h:vo+ov=vn+P*cy) (hs:r+x+cy=d+18446744073709551616*cy') :
  vo+P*r+(ov+P*x)=vn+P*d+P*18446744073709551616*cy':=by
 have h1:P*r+P*x+P*cy=P*d+P*(18446744073709551616*cy'):=by rw [←Nat.mul_add,←Nat.mul_add,hs,Nat.mul_add]
 rw [←Nat.mul_assoc] at h1
 omega
section
variable {self:Self} {nf:Nat} {m:Mem} {F:Nat→Value} {p q i n c cv j cy:Nat} {R V:Nat→Nat} {be be':TypeId} {ro:Bool}
theorem pbk_0:∃ F',acodeN E self nf (.region 0 rpbk_0 false) (lst F 36) m=some (.normal,lst F' 36,m)∧F' 4=U 0∧∀ j,j<4→F' j=F j:=by
 simp only [opbk_0,agd_none,acodeN,aopsN,astep,aop,ev,aput,setAt_lst]
 exact ⟨_,rfl,by (simp only [upd_at,reduceIte]; rfl),fun j h1=>by repeat rw [upd_ne (by omega)]⟩
theorem pbk_1 (h1:F 1=.slice (some ⟨q,0,none⟩) n cv):∃ F',acodeN E self nf (.region 1 rpbk_1 false) (lst F 36) m=some (.normal,lst F' 36,m)∧F' 7=.slice (some ⟨q,0,none⟩) n cv∧F' 8=.int .i64 ((n:Nat):Int)∧F' 9=.int .i64 ((0:Nat):Int)∧∀ j,j<5→F' j=F j:=by
 simp only [opbk_1,agd_none,acodeN,aopsN,astep,aop,ev,nth_lst,aput,setAt_lst,upd_at,Nat.reduceLT,abuiltin,alen,if_true,h1,und94]
 exact ⟨_,rfl,rfl,rfl,by (simp only [upd_at,Nat.reduceEqDiff,reduceIte]; rfl),fun j h1=>by repeat rw [upd_ne (by omega)]⟩
theorem pbk_2 {t:Bool} (h8:F 8=.int .i64 ((n:Nat):Int)) (h9:F 9=.int .i64 ((j:Nat):Int)) (ht:decide (j<n)=t):∃ F',acodeN E self nf (.region 2 rpbk_2 false) (lst F 36) m=some (.normal,lst F' 36,m)∧F' 10=.bool t∧∀ j,j<10→F' j=F j:=by
 have q1:decide (((j:Nat):Int)<((n:Nat):Int))=t:=by rw [←ht]; congr 1; simp only [eq_iff_iff]; omega
 simp only [opbk_2,agd_none,acodeN,aopsN,astep,aop,ev,nth_lst,aput,setAt_lst,Nat.reduceLT,if_true,h8,h9,lss64,q1]
 exact ⟨_,rfl,rfl,fun j h1=>by repeat rw [upd_ne (by omega)]⟩
theorem pbk_3 {x:Nat} (h7:F 7=.slice (some ⟨q,0,none⟩) n cv) (h9:F 9=.int .i64 ((j:Nat):Int)) (hj:j<n) (c1:cellAt m q j=some (U x)):∃ F',acodeN E self nf (.region 3 rpbk_3 false) (lst F 36) m=some (.normal,lst F' 36,m)∧F' 5=.int .i64 ((j:Nat):Int)∧F' 6=U x∧∀ j,j≠5→j≠6→j<10→F' j=F j:=by
 have i1:=ix94 (b:=q) (o:=0) (L:=n) (c:=cv) hj
 rw [Nat.zero_add] at i1
 simp only [opbk_3,agd_none,acodeN,aopsN,astep,aop,ev,nth_lst,aput,setAt_lst,upd_at,Nat.reduceLT,Nat.reduceEqDiff,Option.map_some,if_true,if_false,h7,h9,i1,load22,c1]
 exact ⟨_,rfl,rfl,rfl,fun j h1 h2 h3=>by repeat rw [upd_ne (by omega)]⟩
theorem pbk_4 {r x d cy':Nat} {m':Mem} (h0:F 0=.slice (some ⟨p,i,none⟩) (n+1) c) (h5:F 5=.int .i64 ((j:Nat):Int)) (h6:F 6=U x) (h4:F 4=U cy) (hj:j<n+1) (c2:cellAt m p (i+j)=some (U r)) (sb:∀ M:Mem,aext .add64 [U r,U x,U cy] M=some (pair64 d cy',M)) (s1:astore E.P 22 (.pointer (some ⟨p,i+j,none⟩)) (U d) m=some m') :
  ∃ F',acodeN E self nf (.region 4 rpbk_4 false) (lst F 36) m=some (.normal,lst F' 36,m')∧F' 4=U cy'∧∀ j,j≠4→j<10→F' j=F j:=by
 have i2:=ix94 (b:=p) (o:=i) (L:=n+1) (c:=c) hj
 simp only [opbk_4,agd_none,acodeN,aopsN,astep,aop,ev,nth_lst,aput,setAt_lst,upd_at,Nat.reduceLT,Nat.reduceEqDiff,Option.map_some,List.map_cons,List.map_nil,List.isEmpty_nil,bls,if_true,if_false,h0,h5,h6,h4,i2,load22,c2,callAdd,extAdd,sb,ex0,ex1,s1]
 exact ⟨_,rfl,rfl,fun j h1 h3=>by repeat rw [upd_ne (by omega)]⟩
theorem pbk_5 (h9:F 9=.int .i64 ((j:Nat):Int)) (hj:j<1000):∃ F',acodeN E self nf (.region 5 rpbk_5 false) (lst F 36) m=some (.normal,lst F' 36,m)∧F' 9=.int .i64 ((j+1:Nat):Int)∧∀ j,j<9→F' j=F j:=by
 have e1:=w1 (i:=j) (by omega)
 simp only [opbk_5,agd_none,acodeN,aopsN,astep,aop,ev,nth_lst,aput,setAt_lst,upd_at,Nat.reduceLT,if_true,h9,add64',e1]
 exact ⟨_,rfl,rfl,fun j h1=>by repeat rw [upd_ne (by omega)]⟩
theorem pbk_6 {r d:Nat} {m':Mem} (h0:F 0=.slice (some ⟨p,i,none⟩) (n+1) c) (h1:F 1=.slice (some ⟨q,0,none⟩) n cv) (h4:F 4=U cy) (c2:cellAt m p (i+n)=some (U r)) (sb:abin .add .u64 ((r:Nat):Int) .u64 ((cy:Nat):Int)=some (U d)) (s1:astore E.P 22 (.pointer (some ⟨p,i+n,none⟩)) (U d) m=some m') :
  ∃ F',acodeN E self nf (.region 6 rpbk_6 false) (lst F 36) m=some (.normal,lst F' 36,m'):=by
 have i2:=ix94 (b:=p) (o:=i) (L:=n+1) (c:=c) (j:=n) (by omega)
 simp only [opbk_6,agd_none,acodeN,aopsN,astep,aop,ev,nth_lst,aput,setAt_lst,upd_at,Nat.reduceLT,Nat.reduceEqDiff,abuiltin,alen,Option.map_some,if_true,if_false,h0,h1,h4,und94,i2,load22,c2,sb,s1]
 exact ⟨_,rfl⟩
theorem pbk_it (h0:F 0=.slice (some ⟨p,i,none⟩) (n+1) c) (h4:F 4=U cy) (h7:F 7=.slice (some ⟨q,0,none⟩) n cv) (h8:F 8=.int .i64 ((n:Nat):Int)) (h9:F 9=.int .i64 ((j:Nat):Int)) (hj:j<n) (hn:n≤8) (hi:i+n<9)
  (gp:m[p]? = some (.row false be (rowK .u64 9 R))) (gq:m[q]? = some (.row ro be' (rowK .u64 8 V))) (hc:cy≤1) {d cy':Nat} (hd:d=(R (i+j)+V j+cy)%18446744073709551616) (hcy:cy'=(R (i+j)+V j+cy) / 18446744073709551616) :
  ∃ F',acodeN E self nf lppbk_0 (lst F 36) m=some (.normal,lst F' 36,m.set p (.row false be (rowK .u64 9 (putW R (i+j) d))))∧
   F' 4=U cy'∧F' 9=.int .i64 ((j+1:Nat):Int)∧F' 0=F 0∧F' 1=F 1∧F' 7=F 7∧F' 8=F 8:=by
 have c1:=cellK gq (j:=j) (by omega)
 have c2:=cellK gp (j:=i+j) (by omega)
 have s1:=storeW (x:=d) gp (k:=i+j) (by omega)
 have sb:∀ M:Mem,aext .add64 [U (R (i+j)),U (V j),U cy] M=some (pair64 d cy',M):=fun M=>by rw [hd,hcy]; exact (add64C _ _ _ M).trans (if_pos hc)
 clear hd hcy gp gq
 obtain ⟨A,ra,a10,ak⟩:=pbk_2 (self:=self) (nf:=nf) (m:=m) h8 h9 (decide_eq_true hj)
 obtain ⟨B,rb,b5,b6,bk⟩:=pbk_3 (self:=self) (nf:=nf) (m:=m) ((ak 7 (by omega)).trans h7) ((ak 9 (by omega)).trans h9) hj c1
 have kk:∀ j,j≠5→j≠6→j<10→B j=F j:=fun j h1 h2 h4=>(bk j h1 h2 h4).trans (ak j h4)
 obtain ⟨G,re,g4,gk⟩:=pbk_4 (self:=self) (nf:=nf) (m:=m) ((kk 0 (by omega) (by omega) (by omega)).trans h0) b5 b6 ((kk 4 (by omega) (by omega) (by omega)).trans h4) (by omega) c2 sb s1
 have kg:∀ j,j≠5→j≠6→j≠4→j<10→G j=F j:=fun j h1 h2 h3 h6=>(gk j h3 h6).trans (kk j h1 h2 h6)
 obtain ⟨H,rf,x9,hk⟩:=pbk_5 (self:=self) (nf:=nf) (m:=m.set p (.row false be (rowK .u64 9 (putW R (i+j) d)))) ((kg 9 (by omega) (by omega) (by omega) (by omega)).trans h9) (by omega)
 refine ⟨H,?_,(hk 4 (by omega)).trans g4,x9,(hk 0 (by omega)).trans (kg 0 (by omega) (by omega) (by omega) (by omega)),(hk 1 (by omega)).trans (kg 1 (by omega) (by omega) (by omega) (by omega)),(hk 7 (by omega)).trans (kg 7 (by omega) (by omega) (by omega) (by omega)),(hk 8 (by omega)).trans (kg 8 (by omega) (by omega) (by omega) (by omega))⟩
 rw [lppbk_0_eq]
 generalize Code.region 2 rpbk_2 false=C2 at *
 generalize Code.region 3 rpbk_3 false=C3 at *
 generalize Code.region 4 rpbk_4 false=C4 at *
 generalize Code.region 5 rpbk_5 false=C5 at *
 simp only [acodeN,ra,rb,re,rf,ev,nth_lst,Nat.reduceLT,if_true,a10]
theorem pbk_last (h8:F 8=.int .i64 ((n:Nat):Int)) (h9:F 9=.int .i64 ((n:Nat):Int)):∃ F',acodeN E self nf lppbk_0 (lst F 36) m=some (.exit 0,lst F' 36,m)∧∀ j,j<10→F' j=F j:=by
 obtain ⟨A,ra,a10,ak⟩:=pbk_2 (self:=self) (nf:=nf) (m:=m) h8 h9 (decide_eq_false (Nat.lt_irrefl n))
 refine ⟨A,?_,ak⟩
 rw [lppbk_0_eq]
 generalize Code.region 2 rpbk_2 false=C2 at *
 simp only [acodeN,ra,ev,nth_lst,Nat.reduceLT,if_true,a10]
theorem put_body (gp:m[p]? = some (.row false be (rowK .u64 9 R))) (gq:m[q]? = some (.row ro be' (rowK .u64 8 V))) (hpq:p≠q) (hn:n≤8) (hi:i+n<9) (hR:∀ j,R j<18446744073709551616) (hV:∀ j,V j<18446744073709551616) (hnf:100<nf) :
  ∃ (R':Nat→Nat) (co:Nat),abody E self nf 86 [.slice (some ⟨p,i,none⟩) (n+1) c,.slice (some ⟨q,0,none⟩) n cv] m=some (.tuple ⟨[]⟩,m.set p (.row false be (rowK .u64 9 R')))∧
   (∀ j,R' j<18446744073709551616)∧(∀ j,j<i→R' j=R j)∧(∀ j,i+n<j→R' j=R j)∧vN (fun j=>R (i+j)) (n+1)+vN V n=vN (fun j=>R' (i+j)) (n+1)+18446744073709551616^(n+1)*co:=by
 rw [abody_eqF (by kernel_rfl) Tryd.func86 bodypbk (by kernel_rfl) (Nat.le_of_ble_eq_true rfl)]
 rw [show Tryd.f86.ntmps=36 from rfl]
 obtain ⟨A,ra,a4,ak⟩:=pbk_0 (self:=self) (nf:=nf) (m:=m) (F:=init [.slice (some ⟨p,i,none⟩) (n+1) c,.slice (some ⟨q,0,none⟩) n cv])
 have a0:A 0=.slice (some ⟨p,i,none⟩) (n+1) c:=ak 0 (by omega)
 have a1:A 1=.slice (some ⟨q,0,none⟩) n cv:=ak 1 (by omega)
 obtain ⟨C,rc,c7,c8,c9,ck⟩:=pbk_1 (self:=self) (nf:=nf) (m:=m) a1
 have hloop:=aloop_inv (body:=acodeN E self nf lppbk_0) (N:=n)
  (I:=fun k T m'=>∃ G R' cy,T=lst G 36∧G 0=.slice (some ⟨p,i,none⟩) (n+1) c∧G 1=.slice (some ⟨q,0,none⟩) n cv∧G 7=.slice (some ⟨q,0,none⟩) n cv∧G 8=.int .i64 ((n:Nat):Int)∧G 9=.int .i64 ((k:Nat):Int)∧G 4=U cy∧cy≤1∧
   m'=m.set p (.row false be (rowK .u64 9 R'))∧(∀ j,R' j<18446744073709551616)∧(∀ j,j<i→R' j=R j)∧(∀ j,i+k≤j→R' j=R j)∧vN (fun j=>R (i+j)) k+vN V k=vN (fun j=>R' (i+j)) k+18446744073709551616^k*cy)
  (Q:=fun x T m'=>x=.exit 0∧∃ G R' cy,T=lst G 36∧G 0=.slice (some ⟨p,i,none⟩) (n+1) c∧G 1=.slice (some ⟨q,0,none⟩) n cv∧G 4=U cy∧cy≤1∧
   m'=m.set p (.row false be (rowK .u64 9 R'))∧(∀ j,R' j<18446744073709551616)∧(∀ j,j<i→R' j=R j)∧(∀ j,i+n≤j→R' j=R j)∧vN (fun j=>R (i+j)) n+vN V n=vN (fun j=>R' (i+j)) n+18446744073709551616^n*cy) (fun k T m' hk hI=>by
   obtain ⟨G,R',cy,rfl,g0,g1,g7,g8,g9,g4,hcy,rfl,hR',hlo,hhi,hv⟩:=hI
   by_cases hlt:k<n
   ·left
    have hpm:=(List.getElem?_eq_some_iff.1 gp).1
    have gp':(m.set p (.row false be (rowK .u64 9 R')))[p]? = some (.row false be (rowK .u64 9 R')):=List.getElem?_set_self hpm
    have gq':(m.set p (.row false be (rowK .u64 9 R')))[q]? = some (.row ro be' (rowK .u64 8 V)):=by rw [List.getElem?_set_ne hpq]; exact gq
    obtain ⟨F',hr,f4,f9,f0,f1,f7,f8⟩:=pbk_it (self:=self) (nf:=nf) g0 g4 g7 g8 g9 hlt hn hi gp' gq' hcy rfl rfl
    have s1:=on_step (r:=R' (i+k)) (x:=V k) (cy:=cy) rfl rfl
    have s2:(R' (i+k)+V k+cy)%18446744073709551616<18446744073709551616:=Nat.mod_lt _ (by omega)
    have s3:(R' (i+k)+V k+cy) / 18446744073709551616≤1:=by have:=hR' (i+k); have:=hV k; omega
    have hcarry:=on_sum' (P:=18446744073709551616^k) hv s1
    generalize (R' (i+k)+V k+cy)%18446744073709551616=d at *
    generalize (R' (i+k)+V k+cy) / 18446744073709551616=cy' at *
    refine ⟨_,_,hr,hlt,F',putW R' (i+k) d,cy',rfl,f0.trans g0,f1.trans g1,f7.trans g7,f8.trans g8,f9,f4,s3,?_,?_,?_,?_,?_⟩
    ·rw [List.set_set]
    ·intro j; unfold putW; split
     ·exact s2
     ·exact hR' j
    ·intro j hj; unfold putW; rw [if_neg (by omega)]; exact hlo j hj
    ·intro j hj; unfold putW; rw [if_neg (by omega)]; exact hhi j (by omega)
    ·have e1:vN (fun j=>putW R' (i+k) d (i+j)) (k+1)=vN (fun j=>R' (i+j)) k+18446744073709551616^k*d:=by
      rw [vN]
      congr 1
      ·exact vN_ext fun j hj=>by unfold putW; rw [if_neg (by omega)]
      ·show _*putW R' (i+k) d (i+k)=_; unfold putW; rw [if_pos rfl]
     have e2:vN (fun j=>R (i+j)) (k+1)=vN (fun j=>R (i+j)) k+18446744073709551616^k*R' (i+k):=by rw [vN]; show _+_*R (i+k)=_; rw [hhi (i+k) (Nat.le_refl _)]
     rw [e1,e2,vN,Nat.pow_succ]
     exact hcarry
   ·right
    have hkn:k=n:=by omega
    subst hkn
    obtain ⟨F',hr,fk⟩:=pbk_last (self:=self) (nf:=nf) (m:=m.set p (.row false be (rowK .u64 9 R'))) g8 g9
    exact ⟨_,_,_,hr,by simp,rfl,F',R',cy,rfl,(fk 0 (by omega)).trans g0,(fk 1 (by omega)).trans g1,(fk 4 (by omega)).trans g4,hcy,rfl,hR',hlo,hhi,hv⟩)
 obtain ⟨x,T',m',hr,rfl,G,R',cy,rfl,g0,g1,g4,hcy,rfl,hR',hlo,hhi,hv⟩:=hloop n 0 nf (lst C 36) m (by omega) (by omega) ⟨C,R,0,rfl,(ck 0 (by omega)).trans a0,(ck 1 (by omega)).trans a1,c7,c8,c9,(ck 4 (by omega)).trans a4,by omega,(set_same gp).symm,hR,fun _ _=>rfl,fun _ _=>rfl,by simp [vN]⟩
 have hpm:=(List.getElem?_eq_some_iff.1 gp).1
 have gp':(m.set p (.row false be (rowK .u64 9 R')))[p]? = some (.row false be (rowK .u64 9 R')):=List.getElem?_set_self hpm
 have sb:=addN (R' (i+n)) cy
 have s1:=on_step (r:=R' (i+n)) (x:=0) (cy:=cy) rfl rfl
 have s2:(R' (i+n)+cy)%18446744073709551616<18446744073709551616:=Nat.mod_lt _ (by omega)
 rw [Nat.add_zero] at s1
 have hcarry:=on_sum' (P:=18446744073709551616^n) (r:=R' (i+n)) (x:=0) hv (by rw [Nat.add_zero]; exact s1)
 generalize (R' (i+n)+cy)%18446744073709551616=d at *
 generalize (R' (i+n)+cy) / 18446744073709551616=co at *
 obtain ⟨H,rd⟩:=pbk_6 (self:=self) (nf:=nf) (m:=m.set p (.row false be (rowK .u64 9 R'))) g0 g1 g4 (cellK gp' (j:=i+n) (by omega)) sb (storeW (x:=d) gp' (k:=i+n) (by omega))
 refine ⟨putW R' (i+n) d,co,?_,?_,?_,?_,?_⟩
 ·rw [List.set_set] at rd
  generalize Code.region 0 rpbk_0 false=C0 at *
  generalize Code.region 1 rpbk_1 false=C1 at *
  generalize Code.region 6 rpbk_6 false=C6 at *
  simp only [acodeN,ra,rc,hr,rd,if_true,finish,ares,aresL,Tryd.f86,Option.map_some]
 ·intro j; unfold putW; split
  ·exact s2
  ·exact hR' j
 ·intro j hj; unfold putW; rw [if_neg (by omega)]; exact hlo j hj
 ·intro j hj; unfold putW; rw [if_neg (by omega)]; exact hhi j (by omega)
 ·have e1:vN (fun j=>putW R' (i+n) d (i+j)) (n+1)=vN (fun j=>R' (i+j)) n+18446744073709551616^n*d:=by
   rw [vN]
   congr 1
   ·exact vN_ext fun j hj=>by unfold putW; rw [if_neg (by omega)]
   ·show _*putW R' (i+n) d (i+n)=_; unfold putW; rw [if_pos rfl]
  have e2:vN (fun j=>R (i+j)) (n+1)=vN (fun j=>R (i+j)) n+18446744073709551616^n*R' (i+n):=by rw [vN]; show _+_*R (i+n)=_; rw [hhi (i+n) (Nat.le_refl _)]
  rw [e1,e2,Nat.pow_succ]
  rw [Nat.mul_zero,Nat.add_zero] at hcarry
  exact hcarry
end
theorem guess_ok {P ul vl top next t v1 v2 B:Nat} (hP:0<P) (hB:2≤B) (hul:ul<P) (hvl:vl<P) (hn:next<B) (ht:t<B) (hv1:v1<B) (hb:B≤2*v1) (hv2:v2<B)
  {U V g:Nat} (hU:U=ul+P*((top*B+next)*B+t)) (hV:V=vl+P*(v1*B+v2)) (hUV:U<V*B) (hg:g=if v1≤top then B-1 else ((top*B+next)*B+t) / (v1*B+v2)) :
  U / V≤g∧g≤U / V+1∧g<B:=by
 have hV2:0<v1*B+v2:=by
  have:0<v1:=by omega
  have:=Nat.mul_pos this (show 0<B by omega)
  omega
 have hVp:0<V:=by rw [hV]; have:=Nat.mul_pos hP hV2; omega
 have hw:U / V<B:=Nat.div_lt_of_lt_mul hUV
 by_cases hc:v1≤top
 ·rw [if_pos hc] at hg
  refine ⟨by omega,?_,by omega⟩
  have key:(B-2)*V≤U:=by
   have e1:V≤P*(B*(v1+1)):=by
    rw [hV]
    have:P*(v1*B+v2+1)≤P*(B*(v1+1)):=by
     apply Nat.mul_le_mul_left
     rw [Nat.mul_add,Nat.mul_comm B v1]
     omega
    rw [Nat.mul_add P (v1*B+v2) 1] at this
    omega
   have e2:P*(B*(B*v1))≤U:=by
    rw [hU]
    have h1:B*(B*v1)≤(top*B+next)*B+t:=by
     have h2:v1*B*B≤top*B*B:=Nat.mul_le_mul_right _ (Nat.mul_le_mul_right _ hc)
     rw [Nat.add_mul]
     rw [show B*(B*v1)=v1*B*B by rw [Nat.mul_comm B v1,Nat.mul_comm]]
     omega
    have:=Nat.mul_le_mul_left P h1
    omega
   have e3:(B-2)*(v1+1)≤B*v1:=by
    obtain ⟨k,rfl⟩:∃ k,B=k+2:=⟨B-2,by omega⟩
    rw [Nat.add_sub_cancel,Nat.mul_add,Nat.mul_one,Nat.add_mul]
    omega
   have e4:(B-2)*(P*(B*(v1+1)))=P*(B*((B-2)*(v1+1))):=by rw [Nat.mul_left_comm,Nat.mul_left_comm (B-2) B]
   have e5:P*(B*((B-2)*(v1+1)))≤P*(B*(B*v1)):=Nat.mul_le_mul_left _ (Nat.mul_le_mul_left _ e3)
   have e6:=Nat.mul_le_mul_left (B-2) e1
   omega
  have:=(Nat.le_div_iff_mul_le hVp).2 key
  omega
 ·rw [if_neg hc] at hg
  have hu2:top*B+next<v1*B+v2:=by
   have:(top+1)*B≤v1*B:=Nat.mul_le_mul_right _ (by omega)
   rw [Nat.add_mul,Nat.one_mul] at this
   omega
  have hgB:g<B:=by rw [hg]; exact two_digits hu2 ht
  have hg2:g*(v1*B+v2)≤(top*B+next)*B+t:=by rw [hg]; exact Nat.div_mul_le_self _ _
  have hB2:B≤v1*B+v2:=by
   have:1*B≤v1*B:=Nat.mul_le_mul_right _ (by omega)
   omega
  generalize (top*B+next)*B+t=U3 at *
  generalize v1*B+v2=V2 at *
  refine ⟨?_,?_,hgB⟩
  ·rw [hg]
   apply (Nat.le_div_iff_mul_le hV2).2
   have h1:U / V*V≤U:=Nat.div_mul_le_self _ _
   have h2:U / V*(P*V2)≤U / V*V:=Nat.mul_le_mul_left _ (by omega)
   have h3:P*(U / V*V2)<P*(U3+1):=by
    rw [Nat.mul_left_comm P,Nat.mul_add,Nat.mul_one]
    omega
   have:=Nat.lt_of_mul_lt_mul_left h3
   omega
  ·rcases Nat.eq_zero_or_pos g with h0 | h0
   ·rw [h0]; exact Nat.zero_le _
   ·obtain ⟨k,rfl⟩:∃ k,g=k+1:=⟨g-1,by omega⟩
    have h1:k*(V2+1)≤U3:=by
     rw [Nat.add_mul,Nat.one_mul] at hg2
     rw [Nat.mul_add,Nat.mul_one]
     omega
    have h2:k*V≤k*(P*(V2+1)):=Nat.mul_le_mul_left _ (by rw [Nat.mul_add,Nat.mul_one]; omega)
    have h3:k*(P*(V2+1))≤P*U3:=by rw [Nat.mul_left_comm]; exact Nat.mul_le_mul_left _ h1
    have h4:k*V≤U:=by omega
    have:=(Nat.le_div_iff_mul_le hVp).2 h4
    omega
theorem step_right {U V U' g:Nat} (hV:0<V) (h1:U / V≤g) (h:U=U'+V*g):g=U / V∧U'=U%V:=by
 have h2:g≤U / V:=(Nat.le_div_iff_mul_le hV).2 (by rw [Nat.mul_comm,h]; exact Nat.le_add_left _ _)
 have h3:g=U / V:=Nat.le_antisymm h2 h1
 have h4:=Nat.div_add_mod U V
 rw [←h3] at h4
 exact ⟨h3,by omega⟩
theorem step_back {U V U' U'' X g co:Nat} (hV:0<V) (hU:U<X) (h2:g≤U / V+1) (hU':U'<X) (hU'':U''<X) (h:U+X=U'+V*g) (hp:U'+V=U''+X*co):g=U / V+1∧U''=U%V:=by
 have h4:=Nat.div_add_mod U V
 have h5:U / V<g:=by
  apply Nat.lt_of_not_le
  intro h9
  have:=Nat.mul_le_mul_left V h9
  omega
 have h6:g=U / V+1:=by omega
 refine ⟨h6,?_⟩
 rw [h6,Nat.mul_add,Nat.mul_one] at h
 generalize V*(U / V)=W at *
 generalize U%V=r at *
 have h7:r+X=U''+X*co:=by omega
 rcases (by omega:co=0∨co=1∨2≤co) with rfl | rfl | hco
 ·omega
 ·omega
 ·have:=Nat.mul_le_mul_left X hco
  omega
theorem vN_top {w:Nat→Nat} (n:Nat):vN w (n+1)=vN w n+18446744073709551616^n*w n:=rfl
def CTake (self:Self):Prop:=∀ (m:Mem) (p q i n c cv often:Nat) (R V:Nat→Nat) (be be':TypeId) (ro:Bool),m[p]? = some (.row false be (rowK .u64 9 R))→m[q]? = some (.row ro be' (rowK .u64 8 V))→p≠q→n≤8→i+n<9→(∀ j,R j<18446744073709551616)→(∀ j,V j<18446744073709551616)→often<18446744073709551616→
 ∃ (R':Nat→Nat) (b:Bool),ainv E self 85 [.slice (some ⟨p,i,none⟩) (n+1) c,.slice (some ⟨q,0,none⟩) n cv,U often] m=some (.bool b,m.set p (.row false be (rowK .u64 9 R')))∧
   (∀ j,R' j<18446744073709551616)∧(∀ j,j<i→R' j=R j)∧(∀ j,i+n<j→R' j=R j)∧vN (fun j=>R (i+j)) (n+1)+18446744073709551616^(n+1)*(if b then 1 else 0)=vN (fun j=>R' (i+j)) (n+1)+vN V n*often
def CPut (self:Self):Prop:=∀ (m:Mem) (p q i n c cv:Nat) (R V:Nat→Nat) (be be':TypeId) (ro:Bool),m[p]? = some (.row false be (rowK .u64 9 R))→m[q]? = some (.row ro be' (rowK .u64 8 V))→p≠q→n≤8→i+n<9→(∀ j,R j<18446744073709551616)→(∀ j,V j<18446744073709551616)→
 ∃ (R':Nat→Nat) (co:Nat),ainv E self 86 [.slice (some ⟨p,i,none⟩) (n+1) c,.slice (some ⟨q,0,none⟩) n cv] m=some (.tuple ⟨[]⟩,m.set p (.row false be (rowK .u64 9 R')))∧
   (∀ j,R' j<18446744073709551616)∧(∀ j,j<i→R' j=R j)∧(∀ j,i+n<j→R' j=R j)∧vN (fun j=>R (i+j)) (n+1)+vN V n=vN (fun j=>R' (i+j)) (n+1)+18446744073709551616^(n+1)*co
def CGue (self:Self):Prop:=∀ top next t v1 v2:Nat,next<18446744073709551616→t<18446744073709551616→9223372036854775808≤v1→v1<18446744073709551616→v2<18446744073709551616→Ans self 84 [U top,U next,U t,U v1,U v2] (U (guessV top next t v1 v2))
theorem callGue:callableB E.P 84=true:=by kernel_rfl
theorem callTkt:callableB E.P 85=true:=by kernel_rfl
theorem callPbk:callableB E.P 86=true:=by kernel_rfl
section
variable {self:Self} {nf:Nat} {m:Mem} {F:Nat→Value} {p q i n c cv:Nat} {be be':TypeId} {ro:Bool}
theorem dst_0:∃ F',acodeN E self nf (.region 0 rdst_0 false) (lst F 44) m=some (.normal,lst F' 44,m)∧∀ j,j<4→F' j=F j:=by
 simp only [odst_0,agd_none,acodeN,aopsN,astep,aop,ev,aput,setAt_lst]
 exact ⟨_,rfl,fun j h1=>by repeat rw [upd_ne (by omega)]⟩
theorem dst_1 (h1:F 1=.slice (some ⟨q,0,none⟩) n cv):∃ F',acodeN E self nf (.region 1 rdst_1 false) (lst F 44) m=some (.normal,lst F' 44,m)∧F' 5=.int .i64 ((n:Nat):Int)∧∀ j,j<4→F' j=F j:=by
 simp only [odst_1,agd_none,acodeN,aopsN,astep,aop,ev,nth_lst,aput,setAt_lst,upd_at,Nat.reduceLT,Nat.reduceEqDiff,abuiltin,alen,if_true,if_false,h1,und94]
 exact ⟨_,rfl,rfl,fun j h1=>by repeat rw [upd_ne (by omega)]⟩
theorem dst_2 {a b d e f g:Nat} (h0:F 0=.slice (some ⟨p,i,none⟩) (n+3) c) (h1:F 1=.slice (some ⟨q,0,none⟩) (n+2) cv) (h5:F 5=.int .i64 ((n+2:Nat):Int)) (hn:n<1000)
  (c1:cellAt (m.map sealed) p (i+(n+2))=some (U a)) (c2:cellAt (m.map sealed) p (i+(n+1))=some (U b)) (c3:cellAt (m.map sealed) p (i+n)=some (U d)) (c4':cellAt (m.map sealed) q (n+1)=some (U e)) (c5:cellAt (m.map sealed) q n=some (U f)) (hg:∀ M,ainv E self 84 [U a,U b,U d,U e,U f] M=some (U g,M)) :
  ∃ F',acodeN E self nf (.region 2 rdst_2 true) (lst F 44) m=some (.normal,lst F' 44,m)∧F' 6=U g∧∀ j,j<4→F' j=F j:=by
 have e1:wrapF .i64 (((n+2:Nat):Int)-1)=((n+1:Nat):Int):=by rw [wrap_i64 (by omega) (by omega)]; omega
 have e2:wrapF .i64 (((n+2:Nat):Int)-2)=((n:Nat):Int):=by rw [wrap_i64 (by omega) (by omega)]; omega
 have i1:=ix94 (b:=p) (o:=i) (L:=n+3) (c:=c) (j:=n+2) (by omega)
 have i2:=ix94 (b:=p) (o:=i) (L:=n+3) (c:=c) (j:=n+1) (by omega)
 have i3:=ix94 (b:=p) (o:=i) (L:=n+3) (c:=c) (j:=n) (by omega)
 have i4:=ix94 (b:=q) (o:=0) (L:=n+2) (c:=cv) (j:=n+1) (by omega)
 have i5:=ix94 (b:=q) (o:=0) (L:=n+2) (c:=cv) (j:=n) (by omega)
 rw [Nat.zero_add] at i4 i5
 simp only [↓ddst_2,↓sdst_2,odst_2,agd_none,List.cons_append,List.nil_append,acodeN,adrawT,cls,astep,aop,afloat,ev,nth_lst,aput,setAt_lst,upd_at,Nat.reduceLT,Nat.reduceEqDiff,Option.map_some,List.map_cons,List.map_nil,List.isEmpty_nil,bls,if_true,if_false,List.length_map,h0,h1,h5,sub64',e1,e2,i1,i2,i3,i4,i5,load22,c1,c2,c3,c4',c5,callGue,hg]
 exact ⟨_,rfl,rfl,fun j h1=>by repeat rw [upd_ne (by omega)]⟩
theorem dst_3 {g:Nat} {t:Bool} {m':Mem} (h0:F 0=.slice (some ⟨p,i,none⟩) (n+1) c) (h1:F 1=.slice (some ⟨q,0,none⟩) n cv) (h6:F 6=U g) (hk:ainv E self 85 [.slice (some ⟨p,i,none⟩) (n+1) c,.slice (some ⟨q,0,none⟩) n cv,U g] m=some (.bool t,m')) :
  ∃ F',acodeN E self nf (.region 3 rdst_3 false) (lst F 44) m=some (.normal,lst F' 44,m')∧F' 37=.bool t∧∀ j,j<7→F' j=F j:=by
 simp only [odst_3,agd_none,List.cons_append,List.nil_append,acodeN,aopsN,astep,aop,ev,nth_lst,aput,setAt_lst,upd_at,Nat.reduceLT,Nat.reduceEqDiff,List.map_cons,List.map_nil,List.isEmpty_nil,bls,if_true,if_false,h0,h1,h6,callTkt,hk]
 exact ⟨_,rfl,rfl,fun j h1=>by repeat rw [upd_ne (by omega)]⟩
theorem dst_4 {g:Nat} (h6:F 6=U g) (hg:1≤g) (hg9:g<18446744073709551616):∃ F',acodeN E self nf (.region 4 rdst_4 false) (lst F 44) m=some (.normal,lst F' 44,m)∧F' 6=U (g-1)∧∀ j,j<4→F' j=F j:=by
 have e:=subC1 hg hg9
 simp only [odst_4,agd_none,acodeN,aopsN,astep,aop,ev,nth_lst,aput,setAt_lst,upd_at,Nat.reduceLT,Nat.reduceEqDiff,if_true,if_false,h6,subU,e]
 exact ⟨_,rfl,rfl,fun j h1=>by repeat rw [upd_ne (by omega)]⟩
theorem dst_5 {v:Value} {m':Mem} (h0:F 0=.slice (some ⟨p,i,none⟩) (n+1) c) (h1:F 1=.slice (some ⟨q,0,none⟩) n cv) (hk:ainv E self 86 [.slice (some ⟨p,i,none⟩) (n+1) c,.slice (some ⟨q,0,none⟩) n cv] m=some (v,m')) :
  ∃ F',acodeN E self nf (.region 5 rdst_5 false) (lst F 44) m=some (.normal,lst F' 44,m')∧∀ j,j<7→F' j=F j:=by
 simp only [odst_5,agd_none,List.cons_append,List.nil_append,acodeN,aopsN,astep,aop,ev,nth_lst,aput,setAt_lst,upd_at,Nat.reduceLT,Nat.reduceEqDiff,List.map_cons,List.map_nil,List.isEmpty_nil,bls,if_true,if_false,h0,h1,callPbk,hk]
 exact ⟨_,rfl,fun j h1=>by repeat rw [upd_ne (by omega)]⟩
theorem dst_6 {v:Value} (h6:F 6=v):∃ F',acodeN E self nf (.region 6 rdst_6 false) (lst F 44) m=some (.normal,lst F' 44,m)∧F' 4=v:=by
 simp only [odst_6,agd_none,acodeN,aopsN,astep,aop,ev,nth_lst,aput,setAt_lst,upd_at,Nat.reduceLT,if_true,h6]
 exact ⟨_,rfl,rfl⟩
end
theorem three_words (u P B a b d:Nat):u+P*a+P*B*b+P*B*B*d=u+P*((d*B+b)*B+a):=by
 simp only [Nat.mul_add,Nat.add_mul]
 ac_rfl
theorem two_words (u P B a b:Nat):u+P*a+P*B*b=u+P*(b*B+a):=by
 simp only [Nat.mul_add]
 ac_rfl
theorem vN_three (w:Nat→Nat) (k:Nat):vN w (k+3)=vN w k+18446744073709551616^k*((w (k+2)*18446744073709551616+w (k+1))*18446744073709551616+w k):=by
 rw [vN,vN,vN,Nat.pow_succ 18446744073709551616 (k+1),Nat.pow_succ]
 exact three_words _ _ _ _ _ _
theorem vN_two (w:Nat→Nat) (k:Nat):vN w (k+2)=vN w k+18446744073709551616^k*(w (k+1)*18446744073709551616+w k):=by
 rw [vN,vN,Nat.pow_succ]
 exact two_words _ _ _ _ _
section
variable {self:Self} {nf:Nat} {m m1 m2:Mem} {C0 C1 C2 C3 C4 C5 C6:Code} {T:List Value} {A B C D G H I:Nat→Value}
theorem dst_runF (ra:acodeN E self nf C0 T m=some (.normal,lst A 44,m)) (rb:acodeN E self nf C1 (lst A 44) m=some (.normal,lst B 44,m)) (rc:acodeN E self nf C2 (lst B 44) m=some (.normal,lst C 44,m)) (rd:acodeN E self nf C3 (lst C 44) m=some (.normal,lst D 44,m1)) (d37:D 37=.bool false) (rh:acodeN E self nf C6 (lst D 44) m1=some (.normal,lst H 44,m1)) :
  acodeN E self nf (.seq C0 (.seq C1 (.seq C2 (.seq (.seq C3 (.cond (.tmp 37) (.seq C4 C5) .skip)) (.seq C6 .ret))))) T m=some (.ret,lst H 44,m1):=by
 simp only [acodeN,ra,rb,rc,rd,rh,ev,nth_lst,Nat.reduceLT,if_true,d37]
theorem dst_runT (ra:acodeN E self nf C0 T m=some (.normal,lst A 44,m)) (rb:acodeN E self nf C1 (lst A 44) m=some (.normal,lst B 44,m)) (rc:acodeN E self nf C2 (lst B 44) m=some (.normal,lst C 44,m)) (rd:acodeN E self nf C3 (lst C 44) m=some (.normal,lst D 44,m1)) (d37:D 37=.bool true) (re:acodeN E self nf C4 (lst D 44) m1=some (.normal,lst G 44,m1)) (rf:acodeN E self nf C5 (lst G 44) m1=some (.normal,lst I 44,m2)) (rh:acodeN E self nf C6 (lst I 44) m2=some (.normal,lst H 44,m2)) :
  acodeN E self nf (.seq C0 (.seq C1 (.seq C2 (.seq (.seq C3 (.cond (.tmp 37) (.seq C4 C5) .skip)) (.seq C6 .ret))))) T m=some (.ret,lst H 44,m2):=by
 simp only [acodeN,ra,rb,rc,rd,re,rf,rh,ev,nth_lst,Nat.reduceLT,if_true,d37]
end
section
variable {self:Self} {nf:Nat} {m:Mem} {F:Nat→Value} {p q i k c cv:Nat} {be be':TypeId} {ro:Bool} {R V:Nat→Nat}
theorem dst_num {U V X U1 U2 g co:Nat} {b:Bool} (hV:0<V) (hU:U<X) (h1:U / V≤g) (h2:g≤U / V+1) (hU1:U1<X) (hU2:U2<X) (h:U+X*(if b then 1 else 0)=U1+V*g) (hp:b=true→U1+V=U2+X*co) :
  (b=false→g=U / V∧U1=U%V)∧(b=true→g=U / V+1∧U2=U%V):=by
 constructor
 ·rintro rfl
  rw [if_neg (by decide),Nat.mul_zero,Nat.add_zero] at h
  exact step_right hV h1 h
 ·rintro rfl
  rw [if_pos rfl,Nat.mul_one] at h
  exact step_back hV hU h2 hU1 hU2 h (hp rfl)
theorem dst_sum {i k:Nat} {R V:Nat→Nat} {g:Nat} (hR:∀ j,R j<18446744073709551616) (hV:∀ j,V j<18446744073709551616)
  (hn:9223372036854775808≤V (k+1)) (hlt:vN (fun j=>R (i+j)) (k+3)<vN V (k+2)*18446744073709551616) (hg:g=guessV (R (i+(k+2))) (R (i+(k+1))) (R (i+k)) (V (k+1)) (V k)) :
  0<vN V (k+2)∧vN (fun j=>R (i+j)) (k+3) / vN V (k+2)≤g∧g≤vN (fun j=>R (i+j)) (k+3) / vN V (k+2)+1∧g<18446744073709551616:=by
 refine ⟨?_,guess_ok (B:=18446744073709551616) (g:=g) (Nat.pow_pos (by omega)) (by omega) (vN_lt (w:=fun j=>R (i+j)) (fun j=>hR (i+j)) k) (vN_lt hV k) (hR (i+(k+1))) (hR (i+k)) (hV (k+1)) (by omega) (hV k) (vN_three (fun j=>R (i+j)) k) (vN_two V k) hlt hg⟩
 rcases Nat.eq_zero_or_pos (vN V (k+2)) with h | h
 ·rw [h,Nat.zero_mul] at hlt; exact absurd hlt (Nat.not_lt_zero _)
 ·exact h
theorem dst_codeF {a b d e f g:Nat} {m1:Mem} (gu:∀ M,ainv E self 84 [U a,U b,U d,U e,U f] M=some (U g,M)) (c1:cellAt (m.map sealed) p (i+(k+2))=some (U a)) (c2:cellAt (m.map sealed) p (i+(k+1))=some (U b)) (c3:cellAt (m.map sealed) p (i+k)=some (U d)) (c4':cellAt (m.map sealed) q (k+1)=some (U e)) (c5:cellAt (m.map sealed) q k=some (U f)) (hk:k<1000)
  (hcall:ainv E self 85 [.slice (some ⟨p,i,none⟩) (k+3) c,.slice (some ⟨q,0,none⟩) (k+2) cv,U g] m=some (.bool false,m1)) :
  abody E self nf 68 [.slice (some ⟨p,i,none⟩) (k+3) c,.slice (some ⟨q,0,none⟩) (k+2) cv] m=some (U g,m1):=by
 rw [abody_eqF (by kernel_rfl) Tryd.func68 bodydst (by kernel_rfl) (Nat.le_of_ble_eq_true rfl)]
 rw [show Tryd.f68.ntmps=44 from rfl]
 obtain ⟨A,ra,ak⟩:=dst_0 (self:=self) (nf:=nf) (m:=m) (F:=init [.slice (some ⟨p,i,none⟩) (k+3) c,.slice (some ⟨q,0,none⟩) (k+2) cv])
 have a0:A 0=.slice (some ⟨p,i,none⟩) (k+3) c:=ak 0 (by omega)
 have a1:A 1=.slice (some ⟨q,0,none⟩) (k+2) cv:=ak 1 (by omega)
 obtain ⟨B,rb,b5,bk⟩:=dst_1 (self:=self) (nf:=nf) (m:=m) a1
 have b0:=(bk 0 (by omega)).trans a0
 have b1:=(bk 1 (by omega)).trans a1
 obtain ⟨C,rc,c6,ck⟩:=dst_2 (self:=self) (nf:=nf) (m:=m) (n:=k) b0 b1 b5 hk c1 c2 c3 c4' c5 gu
 have e0:=(ck 0 (by omega)).trans b0
 have e1:=(ck 1 (by omega)).trans b1
 obtain ⟨D,rd,d37,dk⟩:=dst_3 (self:=self) (nf:=nf) (m:=m) (n:=k+2) e0 e1 c6 hcall
 have d0:=(dk 0 (by omega)).trans e0
 have d1:=(dk 1 (by omega)).trans e1
 have d6:=(dk 6 (by omega)).trans c6
 obtain ⟨H,rh,h4⟩:=dst_6 (self:=self) (nf:=nf) (m:=m1) d6
 have hfin:finish E.P Tryd.f68 (some (.ret,lst H 44,m1))=some (H 4,m1):=by
  simp only [finish,ares,aresL,ares1,Tryd.f68,nth_lst,Nat.reduceLT,if_true,Option.map_some]
 rw [dst_runF ra rb rc rd d37 rh]
 exact hfin.trans (by rw [h4])
theorem dst_codeT {a b d e f g:Nat} {v:Value} {m1 m2:Mem} (gu:∀ M,ainv E self 84 [U a,U b,U d,U e,U f] M=some (U g,M)) (c1:cellAt (m.map sealed) p (i+(k+2))=some (U a)) (c2:cellAt (m.map sealed) p (i+(k+1))=some (U b)) (c3:cellAt (m.map sealed) p (i+k)=some (U d)) (c4':cellAt (m.map sealed) q (k+1)=some (U e)) (c5:cellAt (m.map sealed) q k=some (U f)) (hk:k<1000)
  (hcall:ainv E self 85 [.slice (some ⟨p,i,none⟩) (k+3) c,.slice (some ⟨q,0,none⟩) (k+2) cv,U g] m=some (.bool true,m1)) (hg:1≤g) (hg9:g<18446744073709551616)
  (hcall2:ainv E self 86 [.slice (some ⟨p,i,none⟩) (k+3) c,.slice (some ⟨q,0,none⟩) (k+2) cv] m1=some (v,m2)) :
  abody E self nf 68 [.slice (some ⟨p,i,none⟩) (k+3) c,.slice (some ⟨q,0,none⟩) (k+2) cv] m=some (U (g-1),m2):=by
 rw [abody_eqF (by kernel_rfl) Tryd.func68 bodydst (by kernel_rfl) (Nat.le_of_ble_eq_true rfl)]
 rw [show Tryd.f68.ntmps=44 from rfl]
 obtain ⟨A,ra,ak⟩:=dst_0 (self:=self) (nf:=nf) (m:=m) (F:=init [.slice (some ⟨p,i,none⟩) (k+3) c,.slice (some ⟨q,0,none⟩) (k+2) cv])
 have a0:A 0=.slice (some ⟨p,i,none⟩) (k+3) c:=ak 0 (by omega)
 have a1:A 1=.slice (some ⟨q,0,none⟩) (k+2) cv:=ak 1 (by omega)
 obtain ⟨B,rb,b5,bk⟩:=dst_1 (self:=self) (nf:=nf) (m:=m) a1
 have b0:=(bk 0 (by omega)).trans a0
 have b1:=(bk 1 (by omega)).trans a1
 obtain ⟨C,rc,c6,ck⟩:=dst_2 (self:=self) (nf:=nf) (m:=m) (n:=k) b0 b1 b5 hk c1 c2 c3 c4' c5 gu
 have e0:=(ck 0 (by omega)).trans b0
 have e1:=(ck 1 (by omega)).trans b1
 obtain ⟨D,rd,d37,dk⟩:=dst_3 (self:=self) (nf:=nf) (m:=m) (n:=k+2) e0 e1 c6 hcall
 have d0:=(dk 0 (by omega)).trans e0
 have d1:=(dk 1 (by omega)).trans e1
 have d6:=(dk 6 (by omega)).trans c6
 obtain ⟨G,rg,g6,gk⟩:=dst_4 (self:=self) (nf:=nf) (m:=m1) d6 hg hg9
 obtain ⟨I,ri,ik⟩:=dst_5 (self:=self) (nf:=nf) (m:=m1) (n:=k+2) ((gk 0 (by omega)).trans d0) ((gk 1 (by omega)).trans d1) hcall2
 obtain ⟨H,rh,h4⟩:=dst_6 (self:=self) (nf:=nf) (m:=m2) ((ik 6 (by omega)).trans g6)
 have hfin:finish E.P Tryd.f68 (some (.ret,lst H 44,m2))=some (H 4,m2):=by
  simp only [finish,ares,aresL,ares1,Tryd.f68,nth_lst,Nat.reduceLT,if_true,Option.map_some]
 rw [dst_runT ra rb rc rd d37 rg ri rh]
 exact hfin.trans (by rw [h4])
theorem dst_body (hgue:CGue self) (htk:CTake self) (hpu:CPut self) (gp:m[p]? = some (.row false be (rowK .u64 9 R))) (gq:m[q]? = some (.row ro be' (rowK .u64 8 V))) (hpq:p≠q) (hk:k+2≤8) (hi:i+(k+2)<9) (hR:∀ j,R j<18446744073709551616) (hV:∀ j,V j<18446744073709551616)
  (hn:9223372036854775808≤V (k+1)) (hlt:vN (fun j=>R (i+j)) (k+3)<vN V (k+2)*18446744073709551616) :
  ∃ R':Nat→Nat,abody E self nf 68 [.slice (some ⟨p,i,none⟩) (k+3) c,.slice (some ⟨q,0,none⟩) (k+2) cv] m=some (U (vN (fun j=>R (i+j)) (k+3) / vN V (k+2)),m.set p (.row false be (rowK .u64 9 R')))∧
   (∀ j,R' j<18446744073709551616)∧(∀ j,j<i→R' j=R j)∧(∀ j,i+(k+2)<j→R' j=R j)∧vN (fun j=>R' (i+j)) (k+3)=vN (fun j=>R (i+j)) (k+3)%vN V (k+2):=by
 obtain ⟨g,hg⟩:∃ g,g=guessV (R (i+(k+2))) (R (i+(k+1))) (R (i+k)) (V (k+1)) (V k):=⟨_,rfl⟩
 obtain ⟨hVp,o1,o2,o3⟩:=dst_sum hR hV hn hlt hg
 have gu:∀ M,ainv E self 84 [U (R (i+(k+2))),U (R (i+(k+1))),U (R (i+k)),U (V (k+1)),U (V k)] M=some (U g,M):=by
  intro M
  rw [hg]
  exact hgue _ _ _ _ _ (hR _) (hR _) hn (hV _) (hV _) M
 have c1:=(cellS m p _).trans (cellK gp (j:=i+(k+2)) (by omega))
 have c2:=(cellS m p _).trans (cellK gp (j:=i+(k+1)) (by omega))
 have c3:=(cellS m p _).trans (cellK gp (j:=i+k) (by omega))
 have c4':=(cellS m q _).trans (cellK gq (j:=k+1) (by omega))
 have c5:=(cellS m q _).trans (cellK gq (j:=k) (by omega))
 obtain ⟨R1,b,hcall,hR1,hlo1,hhi1,hv1⟩:=htk m p q i (k+2) c cv g R V be be' ro gp gq hpq hk hi hR hV o3
 have hpm:=(List.getElem?_eq_some_iff.1 gp).1
 have gp1:(m.set p (.row false be (rowK .u64 9 R1)))[p]? = some (.row false be (rowK .u64 9 R1)):=List.getElem?_set_self hpm
 have gq1:(m.set p (.row false be (rowK .u64 9 R1)))[q]? = some (.row ro be' (rowK .u64 8 V)):=by rw [List.getElem?_set_ne hpq]; exact gq
 obtain ⟨R2,co,hcall2,hR2,hlo2,hhi2,hv2⟩:=hpu (m.set p (.row false be (rowK .u64 9 R1))) p q i (k+2) c cv R1 V be be' ro gp1 gq1 hpq hk hi hR1 hV
 rw [List.set_set] at hcall2
 obtain ⟨n1,n2⟩:=dst_num (U1:=vN (fun j=>R1 (i+j)) (k+3)) (U2:=vN (fun j=>R2 (i+j)) (k+3)) hVp (vN_lt (fun j=>hR (i+j)) (k+3)) o1 o2 (vN_lt (fun j=>hR1 (i+j)) _) (vN_lt (fun j=>hR2 (i+j)) _) hv1 (fun _=>hv2)
 cases b with
 | false =>
  obtain ⟨e1,e2⟩:=n1 rfl
  refine ⟨R1,?_,hR1,hlo1,hhi1,e2⟩
  rw [←e1]
  exact dst_codeF gu c1 c2 c3 c4' c5 (by omega) hcall
 | true =>
  obtain ⟨e1,e2⟩:=n2 rfl
  refine ⟨R2,?_,hR2,fun j hj=>(hlo2 j hj).trans (hlo1 j hj),fun j hj=>(hhi2 j hj).trans (hhi1 j hj),e2⟩
  have e3:g-1=vN (fun j=>R (i+j)) (k+3) / vN V (k+2):=by rw [e1]; exact Nat.add_sub_cancel _ _
  rw [←e3]
  exact dst_codeT gu c1 c2 c3 c4' c5 (by omega) hcall (by rw [e1]; exact Nat.le_add_left _ _) o3 hcall2
end
end Go.Am.Seat
