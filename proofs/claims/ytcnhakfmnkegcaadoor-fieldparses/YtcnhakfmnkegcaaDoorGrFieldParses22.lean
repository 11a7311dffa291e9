import Derived.Test.YtcnhakfmnkegcaaDoorGrFieldParses21
set_option linter.unusedSimpArgs false
set_option linter.unusedVariables false
set_option maxRecDepth 100000
namespace Go.Am.Seat
open Go.Proofs Go.Am Go.Am.Num Go.Am.Kn
theorem callUs:callableB E.P 43=true:=by kernel_rfl
theorem callSpr:callableB E.P 67=true:=by kernel_rfl
theorem callDst:callableB E.P 68=true:=by kernel_rfl
theorem callDn:callableB E.P 69=true:=by kernel_rfl
theorem sl9m {b i n:Nat} (m:Mem) (h:i+(n+1)≤9):aslice E.P 91 (.pointer (some ⟨b,0,none⟩)) (some (.int .i64 ((i:Nat):Int))) (some (.int .i64 ((i+(n+1):Nat):Int))) m=some (.slice (some ⟨b,i,none⟩) (n+1) (9-i)):=by
 obtain ⟨j,h1,h2⟩:=info22
 unfold aslice
 simp only [a9w.und,h1,h2]
 unfold abounds abound
 simp only
 rw [if_pos (by omega)]
 simp only [Int.toNat_natCast]
 rw [if_pos (by omega)]
 simp only [Int.toNat_natCast]
 rw [if_neg (by omega)]
 congr 3
 ·congr 2
  omega
 ·omega
theorem sl8m {b n:Nat} (m:Mem) (h:n≤8):aslice E.P 24 (.pointer (some ⟨b,0,none⟩)) none (some (.int .i64 ((n:Nat):Int))) m=some (.slice (some ⟨b,0,none⟩) n 8):=by
 obtain ⟨j,h1,h2⟩:=info22
 unfold aslice
 simp only [und24,h1,h2]
 unfold abounds abound
 simp only
 rw [if_pos (by omega)]
 simp
theorem copy89 {m:Mem} {p q:Nat} {ro:Bool} {be be':TypeId} {R w:Nat→Nat} (gp:m[p]? = some (.row false be (rowOf w))) (gq:m[q]? = some (.row ro be' (rowK .u64 9 R))) :
  acopy E.P 94 (.slice (some ⟨p,0,none⟩) 8 8) (.slice (some ⟨q,0,none⟩) 9 9) m=some (.int .i64 8,m.set p (.row false be (rowOf R))):=by
 obtain ⟨i,h1,h2⟩:=info22
 have hs:asrc m 1 (.slice (some ⟨q,0,none⟩) 9 9)=some (9,rowK .u64 9 R):=by
  unfold asrc
  simp only [lookRow gq]
  rw [if_pos (by rw [rowK_length]; omega),List.drop_zero,List.take_of_length_le (by rw [rowK_length]; omega)]
 unfold acopy
 simp only [und94,h1,h2,hs,gp]
 have ht:(rowK .u64 9 R).take (Nat.min 9 8*1)=rowOf R:=rfl
 rw [ht,rowOf_ok,if_pos (by rw [Bool.true_and,decide_eq_true_eq,rowOf_length,rowOf_length]; omega)]
 congr 5
section
variable {self:Self} {nf:Nat} {m m':Mem} {F:Nat→Value} {p q r s t z b' n i:Nat} {w v u S:Nat→Nat} {be be':TypeId}
theorem dlg_0 {m1 m2 m3 m4:Mem} (hb:abox E.P 24 (wide w) m=some (.pointer (some ⟨p,0,none⟩),m1)) (hc:abox E.P 24 (wide v) m1=some (.pointer (some ⟨q,0,none⟩),m2)) (hd:aalloc E.P 24 m2=some (.pointer (some ⟨r,0,none⟩),m3)) (he:aalloc E.P 24 m3=some (.pointer (some ⟨s,0,none⟩),m4)) (h0:F 0=wide w) (h1:F 1=wide v) :
  ∃ F',acodeN E self nf (.region 0 rdlg_0 false) (lst F 49) m=some (.normal,lst F' 49,m4)∧F' 2=.pointer (some ⟨p,0,none⟩)∧F' 3=.pointer (some ⟨q,0,none⟩)∧F' 4=.pointer (some ⟨r,0,none⟩)∧F' 5=.pointer (some ⟨s,0,none⟩):=by
 simp only [odlg_0,agd_none,acodeN,aopsN,astep,aop,ev,nth_lst,aput,setAt_lst,upd_at,Nat.reduceLT,Nat.reduceEqDiff,if_true,if_false,h0,h1,hb,hc,hd,he]
 exact ⟨_,rfl,rfl,rfl,rfl,rfl⟩
theorem dlg_1 (h3:F 3=.pointer (some ⟨q,0,none⟩)) (ld:aload E.P 24 (.pointer (some ⟨q,0,none⟩)) m=some (wide v)) (hu:∀ M,ainv E self 43 [wide v] M=some (.int .i64 ((n:Nat):Int),M)) :
  ∃ F',acodeN E self nf (.region 1 rdlg_1 false) (lst F 49) m=some (.normal,lst F' 49,m)∧F' 6=.int .i64 ((n:Nat):Int)∧∀ j,j<6→F' j=F j:=by
 simp only [odlg_1,agd_none,List.cons_append,List.nil_append,acodeN,aopsN,astep,aop,ev,nth_lst,aput,setAt_lst,upd_at,Nat.reduceLT,Nat.reduceEqDiff,Option.map_some,List.map_cons,List.map_nil,List.isEmpty_nil,bls,if_true,if_false,h3,ld,callUs,hu]
 exact ⟨_,rfl,rfl,fun j h1=>by repeat rw [upd_ne (by omega)]⟩
theorem dlg_2 {x:Nat} (h3:F 3=.pointer (some ⟨q,0,none⟩)) (h6:F 6=.int .i64 ((n+1:Nat):Int)) (hn:n<8) (c:cellAt m q n=some (U x)) (hz:∀ M,ainv E self 65 [U x] M=some (.int .i64 ((b':Nat):Int),M)) :
  ∃ F',acodeN E self nf (.region 2 rdlg_2 false) (lst F 49) m=some (.normal,lst F' 49,m)∧F' 7=.int .i64 ((b':Nat):Int)∧∀ j,j<7→F' j=F j:=by
 have e:wrapF .i64 (((n+1:Nat):Int)-1)=((n:Nat):Int):=by rw [wrap_i64 (by omega) (by omega)]; omega
 have i1:=ix24 (p:=q) (k:=n) hn
 simp only [odlg_2,agd_none,List.cons_append,List.nil_append,acodeN,aopsN,astep,aop,ev,nth_lst,aput,setAt_lst,upd_at,Nat.reduceLT,Nat.reduceEqDiff,Option.map_some,List.map_cons,List.map_nil,List.isEmpty_nil,bls,if_true,if_false,h3,h6,sub64',e,i1,load22,c,callLz,hz]
 exact ⟨_,rfl,rfl,fun j h1=>by repeat rw [upd_ne (by omega)]⟩
theorem dlg_3 {m1:Mem} {n:Value} (h3:F 3=.pointer (some ⟨q,0,none⟩)) (h7:F 7=n) (ld:aload E.P 24 (.pointer (some ⟨q,0,none⟩)) m=some (wide v)) (hu:∀ M,ainv E self 66 [wide v,n] M=some (wide u,M)) (st:astore E.P 24 (.pointer (some ⟨q,0,none⟩)) (wide u) m=some m1) :
  ∃ F',acodeN E self nf (.region 3 rdlg_3 false) (lst F 49) m=some (.normal,lst F' 49,m1)∧∀ j,j<8→F' j=F j:=by
 simp only [odlg_3,agd_none,List.cons_append,List.nil_append,acodeN,aopsN,astep,aop,ev,nth_lst,aput,setAt_lst,upd_at,Nat.reduceLT,Nat.reduceEqDiff,Option.map_some,List.map_cons,List.map_nil,List.isEmpty_nil,bls,if_true,if_false,h3,h7,ld,callUp,hu,st]
 exact ⟨_,rfl,fun j h1=>by repeat rw [upd_ne (by omega)]⟩
theorem dlg_4 {m1 m2:Mem} {n:Value} (h2:F 2=.pointer (some ⟨p,0,none⟩)) (h7:F 7=n) (ld:aload E.P 24 (.pointer (some ⟨p,0,none⟩)) m=some (wide w)) (hu:∀ M,ainv E self 67 [wide w,n] M=some (arrK .u64 9 S,M)) (hc:aalloc E.P 91 m=some (.pointer (some ⟨t,0,none⟩),m1)) (st:astore E.P 91 (.pointer (some ⟨t,0,none⟩)) (arrK .u64 9 S) m1=some m2) :
  ∃ F',acodeN E self nf (.region 4 rdlg_4 false) (lst F 49) m=some (.normal,lst F' 49,m2)∧F' 8=.pointer (some ⟨t,0,none⟩)∧∀ j,j<8→F' j=F j:=by
 simp only [odlg_4,agd_none,List.cons_append,List.nil_append,acodeN,aopsN,astep,aop,ev,nth_lst,aput,setAt_lst,upd_at,Nat.reduceLT,Nat.reduceEqDiff,Option.map_some,List.map_cons,List.map_nil,List.isEmpty_nil,bls,if_true,if_false,h2,h7,ld,callSpr,hu,hc,st]
 exact ⟨_,rfl,rfl,fun j h1=>by repeat rw [upd_ne (by omega)]⟩
theorem dlg_5 {m1:Mem} (hc:aalloc E.P 24 m=some (.pointer (some ⟨z,0,none⟩),m1)):∃ F',acodeN E self nf (.region 5 rdlg_5 false) (lst F 49) m=some (.normal,lst F' 49,m1)∧F' 9=.pointer (some ⟨z,0,none⟩)∧∀ j,j<9→F' j=F j:=by
 simp only [odlg_5,agd_none,acodeN,aopsN,astep,aop,aput,setAt_lst,hc]
 exact ⟨_,rfl,rfl,fun j h1=>by repeat rw [upd_ne (by omega)]⟩
theorem dlg_6 (h6:F 6=.int .i64 ((n:Nat):Int)) (hn:n≤8):∃ F',acodeN E self nf (.region 6 rdlg_6 false) (lst F 49) m=some (.normal,lst F' 49,m)∧F' 10=.int .i64 ((8-n:Nat):Int)∧∀ j,j<10→F' j=F j:=by
 have e:wrapF .i64 (8-((n:Nat):Int))=((8-n:Nat):Int):=by rw [wrap_i64 (by omega) (by omega)]; omega
 simp only [odlg_6,agd_none,acodeN,aopsN,astep,aop,ev,nth_lst,aput,setAt_lst,upd_at,Nat.reduceLT,Nat.reduceEqDiff,if_true,if_false,h6,sub64',e]
 exact ⟨_,rfl,rfl,fun j h1=>by repeat rw [upd_ne (by omega)]⟩
theorem dlg_7 {i:Int} {b:Bool} (h10:F 10=.int .i64 i) (hb:decide (i≥0)=b):∃ F',acodeN E self nf (.region 7 rdlg_7 false) (lst F 49) m=some (.normal,lst F' 49,m)∧F' 28=.bool b∧∀ j,j<11→F' j=F j:=by
 simp only [odlg_7,agd_none,acodeN,aopsN,astep,aop,ev,nth_lst,aput,setAt_lst,upd_at,Nat.reduceLT,if_true,h10,geqI64',hb]
 exact ⟨_,rfl,rfl,fun j h1=>by repeat rw [upd_ne (by omega)]⟩
theorem dlg_8 (h10:F 10=.int .i64 ((i:Nat):Int)) (hn:i<8):∃ F',acodeN E self nf (.region 8 rdlg_8 false) (lst F 49) m=some (.normal,lst F' 49,m)∧F' 10=.int .i64 (((i:Nat):Int)-1)∧∀ j,j<10→F' j=F j:=by
 have e:wrapF .i64 (((i:Nat):Int)-1)=((i:Nat):Int)-1:=by
  rcases Nat.eq_zero_or_pos i with rfl | h
  ·rfl
  ·exact wrap_i64 (by omega) (by omega)
 simp only [odlg_8,agd_none,acodeN,aopsN,astep,aop,ev,nth_lst,aput,setAt_lst,upd_at,Nat.reduceLT,Nat.reduceEqDiff,if_true,if_false,h10,sub64',e]
 exact ⟨_,rfl,rfl,fun j h1=>by repeat rw [upd_ne (by omega)]⟩
theorem dlg_9 {m1 m2:Mem} {g:Nat} (h3:F 3=.pointer (some ⟨q,0,none⟩)) (h6:F 6=.int .i64 ((n:Nat):Int)) (h8:F 8=.pointer (some ⟨t,0,none⟩)) (h9:F 9=.pointer (some ⟨z,0,none⟩)) (h10:F 10=.int .i64 ((i:Nat):Int)) (hi:i+(n+1)≤9) (hn:0<n)
  (hs:ainv E self 68 [.slice (some ⟨t,i,none⟩) (n+1) (9-i),.slice (some ⟨q,0,none⟩) n 8] m=some (U g,m1)) (st:astore E.P 22 (.pointer (some ⟨z,i,none⟩)) (U g) m1=some m2) :
  ∃ F',acodeN E self nf (.region 9 rdlg_9 true) (lst F 49) m=some (.normal,lst F' 49,m2)∧∀ j,j<11→F' j=F j:=by
 have e1:wrapF .i64 (((i:Nat):Int)+((n:Nat):Int))=((i+n:Nat):Int):=by rw [wrap_i64 (by omega) (by omega)]; omega
 have e2:wrapF .i64 (((i+n:Nat):Int)+1)=((i+(n+1):Nat):Int):=by rw [wrap_i64 (by omega) (by omega)]; omega
 have i1:=ix24 (p:=z) (k:=i) (by omega)
 have s1:=fun M=>sl9m (b:=t) M hi
 have s2:=fun M=>sl8m (b:=q) (n:=n) M (by omega)
 simp only [↓ddlg_9,↓sdlg_9,odlg_9,agd_none,List.cons_append,List.nil_append,acodeN,adrawT,cls,astep,aop,afloat,ev,nth_lst,aput,setAt_lst,upd_at,Nat.reduceLT,Nat.reduceEqDiff,Option.map_some,Option.map_none,List.map_cons,List.map_nil,List.isEmpty_nil,bls,if_true,if_false,List.length_map,h3,h6,h8,h9,h10,add64',e1,e2,s1,s2,callDst,hs,i1,st]
 exact ⟨_,rfl,fun j h1=>by repeat rw [upd_ne (by omega)]⟩
theorem dlg_10 {m1:Mem} (hc:aalloc E.P 24 m=some (.pointer (some ⟨z,0,none⟩),m1)):∃ F',acodeN E self nf (.region 10 rdlg_10 false) (lst F 49) m=some (.normal,lst F' 49,m1)∧F' 11=.pointer (some ⟨z,0,none⟩)∧∀ j,j<11→F' j=F j:=by
 simp only [odlg_10,agd_none,acodeN,aopsN,astep,aop,aput,setAt_lst,hc]
 exact ⟨_,rfl,rfl,fun j h1=>by repeat rw [upd_ne (by omega)]⟩
theorem dlg_11 {m1:Mem} {y:Value} (h8:F 8=.pointer (some ⟨t,0,none⟩)) (h11:F 11=.pointer (some ⟨z,0,none⟩)) (cp:acopy E.P 94 (.slice (some ⟨z,0,none⟩) 8 8) (.slice (some ⟨t,0,none⟩) 9 9) m=some (y,m1)) :
  ∃ F',acodeN E self nf (.region 11 rdlg_11 true) (lst F 49) m=some (.normal,lst F' 49,m1)∧∀ j,j<12→F' j=F j:=by
 simp only [↓ddlg_11,↓sdlg_11,odlg_11,agd_none,acodeN,adrawT,cls,astep,aop,ev,nth_lst,aput,setAt_lst,upd_at,Nat.reduceLT,Nat.reduceEqDiff,abuiltin,Option.map_some,Option.map_none,bls,if_true,if_false,List.length_map,h8,h11,sl9,sl8,cp]
 exact ⟨_,rfl,fun j h1=>by repeat rw [upd_ne (by omega)]⟩
theorem dlg_12 {m1 m2:Mem} {o l d:Nat→Nat} {n:Value} (h4:F 4=.pointer (some ⟨r,0,none⟩)) (h5:F 5=.pointer (some ⟨s,0,none⟩)) (h7:F 7=n) (h9:F 9=.pointer (some ⟨q,0,none⟩)) (h11:F 11=.pointer (some ⟨z,0,none⟩))
  (ld:aload E.P 24 (.pointer (some ⟨q,0,none⟩)) (m.map sealed)=some (wide o)) (ld2:aload E.P 24 (.pointer (some ⟨z,0,none⟩)) (m.map sealed)=some (wide l)) (hu:∀ M,ainv E self 69 [wide l,n] M=some (wide d,M)) (st:astore E.P 24 (.pointer (some ⟨r,0,none⟩)) (wide o) m=some m1) (st2:astore E.P 24 (.pointer (some ⟨s,0,none⟩)) (wide d) m1=some m2) :
  ∃ F',acodeN E self nf (.region 12 rdlg_12 true) (lst F 49) m=some (.normal,lst F' 49,m2)∧F' 4=.pointer (some ⟨r,0,none⟩)∧F' 5=.pointer (some ⟨s,0,none⟩):=by
 simp only [↓ddlg_12,↓sdlg_12,odlg_12,agd_none,List.cons_append,List.nil_append,acodeN,adrawT,cls,astep,aop,afloat,ev,nth_lst,aput,setAt_lst,upd_at,Nat.reduceLT,Nat.reduceEqDiff,Option.map_some,List.map_cons,List.map_nil,List.isEmpty_nil,bls,if_true,if_false,List.length_map,h4,h5,h7,h9,h11,ld,ld2,callDn,hu,st,st2]
 exact ⟨_,rfl,by simp only [upd_at,Nat.reduceEqDiff,reduceIte,h4],by simp only [upd_at,Nat.reduceEqDiff,reduceIte,h5]⟩
end
theorem vN_split (w:Nat→Nat) (a:Nat):∀ b,vN w (a+b)=vN w a+18446744073709551616^a*vN (fun j=>w (a+j)) b
 | 0=>by rw [Nat.add_zero,vN.eq_def (fun j=>w (a+j)) 0]; simp
 | b+1=>by
  rw [show a+(b+1)=(a+b)+1 by omega,vN,vN_split w a b,vN,Nat.pow_add,Nat.mul_add,Nat.add_assoc,Nat.mul_assoc]
theorem vN_zero {w:Nat→Nat} {n:Nat}:∀ k,(∀ j,n≤j→j<n+k→w j=0)→vN w (n+k)=vN w n
 | 0,_=>by rw [Nat.add_zero]
 | k+1,h=>by
  rw [show n+(k+1)=(n+k)+1 by omega,vN,vN_zero k fun j h1 h2=>h j h1 (by omega),h (n+k) (by omega) (by omega),Nat.mul_zero,Nat.add_zero]
structure DL (S:Nat→Nat) (V n t:Nat) (R o:Nat→Nat):Prop where
 sum:vN S 9=18446744073709551616^t*vN (fun j=>o (t+j)) (9-n-t)*V+vN R (t+n)
 high:vN (fun j=>R (t+j)) n<V
 zero:∀ j,t+n≤j→j<9→R j=0
 zo:∀ j,9-n≤j→o j=0
 small:∀ j,R j<18446744073709551616
 smallo:∀ j,o j<18446744073709551616
theorem dl_alg (P B O q V a U r:Nat) (hU:U=V*q+r):P*B*O*V+(a+P*U)=P*(q+B*O)*V+(a+P*r):=by
 subst hU
 simp only [Nat.mul_add,Nat.add_mul]
 ac_rfl
theorem DL.lt {S R o:Nat→Nat} {V n i:Nat} (h:DL S V n (i+1) R o):vN (fun j=>R (i+j)) (n+1)<V*18446744073709551616:=by
 have h1:=vN_low (fun j=>R (i+j)) n
 have h2:vN (fun j=>R (i+(j+1))) n=vN (fun j=>R (i+1+j)) n:=vN_ext fun j _=>by rw [show i+(j+1)=i+1+j by omega]
 have h3:=h.high
 have h4:=h.small i
 rw [h2] at h1
 simp only [Nat.add_zero] at h1
 rw [h1]
 generalize vN (fun j=>R (i+1+j)) n=x at *
 have:=Nat.mul_le_mul_left 18446744073709551616 h3
 rw [Nat.mul_succ,Nat.mul_comm _ V] at this
 omega
theorem DL.step {S R R' o:Nat→Nat} {V n i:Nat} (h:DL S V n (i+1) R o) (hn:i+1+n≤9) (hV:V<18446744073709551616^n) (hlo:∀ j,j<i→R' j=R j) (hhi:∀ j,i+n<j→R' j=R j) (hR':∀ j,R' j<18446744073709551616) (hr:vN (fun j=>R' (i+j)) (n+1)=vN (fun j=>R (i+j)) (n+1)%V) :
  DL S V n i R' (putW o i (vN (fun j=>R (i+j)) (n+1) / V)):=by
 have hVp:0<V:=Nat.lt_of_le_of_lt (Nat.zero_le _) h.high
 have hrl:vN (fun j=>R' (i+j)) (n+1)<V:=by rw [hr]; exact Nat.mod_lt _ hVp
 have htop:R' (i+n)=0:=by
  rcases Nat.eq_zero_or_pos (R' (i+n)) with h1 | h1
  ·exact h1
  ·have h2:18446744073709551616^n*1≤18446744073709551616^n*R' (i+n):=Nat.mul_le_mul_left _ h1
   rw [vN] at hrl
   generalize 18446744073709551616^n=P at *
   omega
 have hlow:vN (fun j=>R' (i+j)) n=vN (fun j=>R (i+j)) (n+1)%V:=by
  rw [←hr,vN,htop,Nat.mul_zero,Nat.add_zero]
 have hq:vN (fun j=>R (i+j)) (n+1) / V<18446744073709551616:=Nat.div_lt_of_lt_mul h.lt
 refine ⟨?_,?_,?_,?_,hR',?_⟩
 ·rw [h.sum]
  have e1:vN R (i+1+n)=vN R i+18446744073709551616^i*vN (fun j=>R (i+j)) (n+1):=by rw [←vN_split,show i+1+n=i+(n+1) by omega]
  have e2:vN R' (i+n)=vN R i+18446744073709551616^i*(vN (fun j=>R (i+j)) (n+1)%V):=by rw [vN_split,hlow,vN_ext hlo]
  have e3:vN (fun j=>putW o i (vN (fun j=>R (i+j)) (n+1) / V) (i+j)) (9-n-i)=vN (fun j=>R (i+j)) (n+1) / V+18446744073709551616*vN (fun j=>o (i+1+j)) (9-n-(i+1)):=by
   rw [show 9-n-i=(9-n-(i+1))+1 by omega,vN_low]
   congr 1
   ·unfold putW; rw [Nat.add_zero,if_pos rfl]
   ·congr 1
    apply vN_ext
    intro j _
    unfold putW
    rw [if_neg (by omega),show i+(j+1)=i+1+j by omega]
  rw [e1,e2,e3,Nat.pow_succ]
  exact dl_alg _ _ _ _ _ _ _ _ (Nat.div_add_mod _ _).symm
 ·rw [hlow]; exact Nat.mod_lt _ hVp
 ·intro j h1 h2
  rcases (by omega:j=i+n∨i+n<j) with rfl | h3
  ·exact htop
  ·rw [hhi j h3]; exact h.zero j (by omega) h2
 ·intro j h1
  unfold putW
  rw [if_neg (by omega)]
  exact h.zo j h1
 ·intro j; unfold putW; split
  ·exact hq
  ·exact h.smallo j
theorem DL.last {S R o:Nat→Nat} {V n:Nat} (h:DL S V n 0 R o) (hn:1≤n) (hn8:n≤8):vN S 9=vN o 8*V+vN R 8∧vN R 8<V:=by
 have h1:=h.sum
 have h2:=h.high
 simp only [Nat.pow_zero,Nat.one_mul,Nat.zero_add,Nat.sub_zero] at h1 h2
 have e1:vN R 8=vN R n:=by
  have:=vN_zero (w:=R) (n:=n) (8-n) fun j h3 h4=>h.zero j (by omega) (by omega)
  rw [show n+(8-n)=8 by omega] at this
  exact this
 have e2:vN o 8=vN o (9-n):=by
  have:=vN_zero (w:=o) (n:=9-n) (8-(9-n)) fun j h3 h4=>h.zo j h3
  rw [show 9-n+(8-(9-n))=8 by omega] at this
  exact this
 rw [e1,e2]
 exact ⟨h1,h2⟩
def CDst (self:Self):Prop:=∀ (m:Mem) (p q i k c cv:Nat) (R V:Nat→Nat) (be be':TypeId) (ro:Bool),m[p]? = some (.row false be (rowK .u64 9 R))→m[q]? = some (.row ro be' (rowK .u64 8 V))→p≠q→k+2≤8→i+(k+2)<9→(∀ j,R j<18446744073709551616)→(∀ j,V j<18446744073709551616)→
 9223372036854775808≤V (k+1)→vN (fun j=>R (i+j)) (k+3)<vN V (k+2)*18446744073709551616→
  ∃ R':Nat→Nat,ainv E self 68 [.slice (some ⟨p,i,none⟩) (k+3) c,.slice (some ⟨q,0,none⟩) (k+2) cv] m=some (U (vN (fun j=>R (i+j)) (k+3) / vN V (k+2)),m.set p (.row false be (rowK .u64 9 R')))∧
   (∀ j,R' j<18446744073709551616)∧(∀ j,j<i→R' j=R j)∧(∀ j,i+(k+2)<j→R' j=R j)∧vN (fun j=>R' (i+j)) (k+3)=vN (fun j=>R (i+j)) (k+3)%vN V (k+2)
section
variable {self:Self} {nf:Nat} {m m':Mem} {F:Nat→Value} {q t z k i:Nat} {V R o S:Nat→Nat} {be:TypeId}
theorem dlg_end (h10:F 10=.int .i64 (-1)):∃ F',acodeN E self nf lpdlg_0 (lst F 49) m=some (.exit 0,lst F' 49,m)∧∀ j,j<11→F' j=F j:=by
 obtain ⟨A,ra,a28,ak⟩:=dlg_7 (self:=self) (nf:=nf) (m:=m) h10 (b:=false) (by decide)
 rw [lpdlg_0_eq]
 refine ⟨A,?_,ak⟩
 generalize Code.region 7 rdlg_7 false=C7 at *
 simp only [acodeN,ra,ev,nth_lst,Nat.reduceLT,if_true,a28]
theorem dlg_it (hd:CDst self) (h3:F 3=.pointer (some ⟨q,0,none⟩)) (h6:F 6=.int .i64 ((k+2:Nat):Int)) (h8:F 8=.pointer (some ⟨t,0,none⟩)) (h9:F 9=.pointer (some ⟨z,0,none⟩)) (h10:F 10=.int .i64 ((i:Nat):Int)) (hi:i+(k+3)≤9)
  (gt:m[t]? = some (.row false be (rowK .u64 9 R))) (gq:m[q]? = some (.row false 24 (rowOf V))) (gz:m[z]? = some (.row false 24 (rowOf o))) (htq:t≠q) (htz:t≠z) (hV:∀ j,V j<18446744073709551616) (hn:9223372036854775808≤V (k+1)) (hD:DL S (vN V (k+2)) (k+2) (i+1) R o) :
  ∃ F' R' o',acodeN E self nf lpdlg_0 (lst F 49) m=some (.normal,lst F' 49,(m.set t (.row false be (rowK .u64 9 R'))).set z (.row false 24 (rowOf o')))∧DL S (vN V (k+2)) (k+2) i R' o'∧F' 10=.int .i64 (((i:Nat):Int)-1)∧∀ j,j<10→F' j=F j:=by
 obtain ⟨R',hc,hR',hlo,hhi,hr⟩:=hd m t q i k (9-i) 8 R V be 24 false gt gq htq (by omega) (by omega) hD.small hV hn hD.lt
 have hs:=hD.step (R':=R') (by omega) (vN_lt hV _) hlo hhi hR' hr
 generalize vN (fun j=>R (i+j)) (k+3) / vN V (k+2)=g at *
 have gz':(m.set t (.row false be (rowK .u64 9 R')))[z]? = some (.row false 24 (rowOf o)):=by rw [List.getElem?_set_ne htz]; exact gz
 have st:=store22 (x:=g) gz' (k:=i) (by omega)
 obtain ⟨A,ra,a28,ak⟩:=dlg_7 (self:=self) (nf:=nf) (m:=m) h10 (b:=true) (decide_eq_true (by omega))
 obtain ⟨B,rb,bk⟩:=dlg_9 (self:=self) (nf:=nf) (m:=m) (n:=k+2) ((ak 3 (by omega)).trans h3) ((ak 6 (by omega)).trans h6) ((ak 8 (by omega)).trans h8) ((ak 9 (by omega)).trans h9) ((ak 10 (by omega)).trans h10) hi (by omega) hc st
 obtain ⟨C,rc,c10,ck⟩:=dlg_8 (self:=self) (nf:=nf) (m:=(m.set t (.row false be (rowK .u64 9 R'))).set z (.row false 24 (rowOf (putW o i g)))) ((bk 10 (by omega)).trans ((ak 10 (by omega)).trans h10)) (by omega)
 refine ⟨C,R',putW o i g,?_,hs,c10,fun j hj=>(ck j hj).trans ((bk j (by omega)).trans (ak j (by omega)))⟩
 rw [lpdlg_0_eq]
 change acodeN E self nf _ _ _=some (_,_,(m.set t (.row false be (rowK .u64 9 R'))).set z (.row false 24 (rowOf (putW o i g)))) at rb
 generalize (m.set t (.row false be (rowK .u64 9 R'))).set z (.row false 24 (rowOf (putW o i g)))=M1 at *
 generalize Code.region 7 rdlg_7 false=C7 at *
 generalize Code.region 8 rdlg_8 false=C8 at *
 generalize Code.region 9 rdlg_9 true=C9 at *
 simp only [acodeN,ra,rb,rc,ev,nth_lst,Nat.reduceLT,if_true,a28]
end
theorem word_pow {b:Nat} (hb:b≤64):18446744073709551616=2^b*2^(64-b):=by
 rw [←Nat.pow_add,show b+(64-b)=64 by omega]
theorem shl_mod (x:Nat) {b:Nat} (hb:b≤64):x*2^b%18446744073709551616=2^b*(x%2^(64-b)):=by
 rw [word_pow hb,Nat.mul_comm x,Nat.mul_mod_mul_left]
theorem shl_div (x:Nat) {b:Nat} (hb:b≤64):x*2^b / 18446744073709551616=x / 2^(64-b):=by
 rw [word_pow hb,Nat.mul_comm x,Nat.mul_div_mul_left _ _ (Nat.two_pow_pos b)]
theorem shl_or (x:Nat) {y b:Nat} (hb:b≤64) (hy:y<2^b):(x*2^b%18446744073709551616) ||| y=x*2^b%18446744073709551616+y:=by
 rw [shl_mod x hb,Nat.two_pow_add_eq_or_of_lt hy]
theorem shr_lt {x b:Nat} (hb:b≤64) (hx:x<18446744073709551616):x / 2^(64-b)<2^b:=by
 apply Nat.div_lt_of_lt_mul
 rw [Nat.mul_comm,←word_pow hb]
 exact hx
theorem up_alg (P B s m d y v x:Nat) (h:x*s=B*d+m):v+P*(m+y)+P*B*d=(v+P*y)+P*(s*x):=by
 rw [Nat.mul_comm s x,h]
 simp only [Nat.mul_add]
 ac_rfl
theorem vN_up {w:Nat→Nat} (hw:∀ j,w j<18446744073709551616) {b:Nat} (hb:b≤64):∀ n,vN (upW w 0 b) (n+1)+18446744073709551616^(n+1)*(w n / 2^(64-b))=2^b*vN w (n+1)
 | 0=>by
  have h:=Nat.div_add_mod (w 0*2^b) 18446744073709551616
  rw [shl_div _ hb] at h
  have e:upW w 0 b 0=w 0*2^b%18446744073709551616:=by
   unfold upW
   rw [if_neg (Nat.lt_irrefl 0),if_neg (Nat.lt_irrefl 0),Nat.sub_zero]
  have e2:vN (upW w 0 b) 1=upW w 0 b 0:=by rw [vN,vN,Nat.pow_zero,Nat.one_mul,Nat.zero_add]
  have e3:vN w 1=w 0:=by rw [vN,vN,Nat.pow_zero,Nat.one_mul,Nat.zero_add]
  show vN (upW w 0 b) 1+18446744073709551616^1*(w 0 / 2^(64-b))=2^b*vN w 1
  rw [e2,e3,e,Nat.pow_one,Nat.add_comm,Nat.mul_comm (2^b)]
  exact h
 | n+1=>by
  have ih:=vN_up hw hb n
  have h:=Nat.div_add_mod (w (n+1)*2^b) 18446744073709551616
  rw [shl_div _ hb] at h
  have e:upW w 0 b (n+1)=w (n+1)*2^b%18446744073709551616+w n / 2^(64-b):=by
   unfold upW
   rw [if_neg (Nat.not_lt_zero _),if_pos (Nat.succ_pos n)]
   exact shl_or _ hb (shr_lt hb (hw n))
  rw [vN,e,show vN w (n+1+1)=vN w (n+1)+18446744073709551616^(n+1)*w (n+1) from rfl,Nat.mul_add (2^b),←ih,Nat.pow_succ _ (n+1),Nat.mul_left_comm (2^b)]
  exact up_alg _ _ _ _ _ _ _ _ h.symm
theorem vN_spr {w:Nat→Nat} (hw:∀ j,w j<18446744073709551616) {b:Nat} (hb:b≤64):vN (sprW (upW w 0 b) (w 7 / 2^(64-b))) 9=2^b*vN w 8:=by
 rw [←vN_up hw hb 7,vN]
 rfl
theorem vN_dn {w:Nat→Nat} (hw:∀ j,w j<18446744073709551616) {b:Nat} (hb:b≤64):∀ n,n≤8→vN (fun j=>dnW w 0 b (j+(8-n))) n=vN (fun j=>w (j+(8-n))) n / 2^b
 | 0,_=>by rw [vN,vN,Nat.zero_div]
 | n+1,hn=>by
  have ih:=vN_dn hw hb n (by omega)
  obtain ⟨k,hk⟩:∃ k,8-(n+1)=k:=⟨_,rfl⟩
  have hk1:8-n=k+1:=by omega
  rw [hk1] at ih
  rw [hk,vN_low,vN_low]
  have e1:vN (fun j=>dnW w 0 b (j+1+k)) n=vN (fun j=>dnW w 0 b (j+(k+1))) n:=vN_ext fun j _=>by rw [show j+1+k=j+(k+1) by omega]
  have e2:vN (fun j=>w (j+1+k)) n=vN (fun j=>w (j+(k+1))) n:=vN_ext fun j _=>by rw [show j+1+k=j+(k+1) by omega]
  rw [e1,e2,ih]
  have hs:18446744073709551616=2^b*2^(64-b):=word_pow hb
  have hd:(w k+18446744073709551616*vN (fun j=>w (j+(k+1))) n) / 2^b=w k / 2^b+2^(64-b)*vN (fun j=>w (j+(k+1))) n:=by
   rw [hs,Nat.mul_assoc,Nat.add_mul_div_left _ _ (Nat.two_pow_pos b)]
  simp only [Nat.zero_add]
  rw [hd]
  have hw':dnW w 0 b k=w k / 2^b+(2^(64-b)*vN (fun j=>w (j+(k+1))) n)%18446744073709551616:=by
   unfold dnW
   rw [Nat.add_zero,if_pos (by omega)]
   rcases Nat.eq_zero_or_pos n with h0 | h0
   ·subst h0
    rw [if_neg (by omega),vN]
    simp
   ·rw [if_pos (by omega)]
    obtain ⟨n',rfl⟩:∃ n',n=n'+1:=⟨n-1,by omega⟩
    rw [vN_low,Nat.mul_add,Nat.mul_left_comm (2^(64-b)),Nat.add_mul_mod_self_left,Nat.or_comm]
    have hy:w k / 2^b<2^(64-b):=by
     apply Nat.div_lt_of_lt_mul
     rw [←hs]
     exact hw k
    rw [shl_or _ (by omega) hy,Nat.add_comm,Nat.mul_comm (w (k+1))]
    simp only [Nat.zero_add]
  rw [hw']
  have hq:=Nat.div_add_mod (2^(64-b)*vN (fun j=>w (j+(k+1))) n) 18446744073709551616
  have hq2:2^(64-b)*vN (fun j=>w (j+(k+1))) n / 18446744073709551616=vN (fun j=>w (j+(k+1))) n / 2^b:=by
   rw [hs,Nat.mul_comm (2^b),Nat.mul_div_mul_left _ _ (Nat.two_pow_pos _)]
  rw [hq2] at hq
  omega
theorem vN_down {w:Nat→Nat} (hw:∀ j,w j<18446744073709551616) {b:Nat} (hb:b≤64):vN (dnW w 0 b) 8=vN w 8 / 2^b:=vN_dn hw hb 8 (Nat.le_refl 8)
theorem scaled_back {s W V o r:Nat} (hs:0<s) (h:s*W=o*(s*V)+r) (hr:r<s*V):W=o*V+r / s∧r / s<V:=by
 have h1:r=s*(W-o*V):=by
  rw [Nat.mul_sub,h,Nat.mul_left_comm s o V,Nat.add_sub_cancel_left]
 have h2:r / s=W-o*V:=by rw [h1,Nat.mul_div_cancel_left _ hs]
 have h3:o*V≤W:=by
  apply Nat.le_of_mul_le_mul_left _ hs
  rw [h,Nat.mul_left_comm s o V]
  exact Nat.le_add_right _ _
 refine ⟨by rw [h2]; omega,Nat.div_lt_of_lt_mul hr⟩
theorem norm_v {v:Nat→Nat} {k b:Nat} (hv:∀ j,v j<18446744073709551616) (hu:Uses v (k+2)) (hb:b<64) (h1:9223372036854775808≤v (k+1)*2^b) (h2:v (k+1)*2^b<18446744073709551616) :
  vN (upW v 0 b) (k+2)=2^b*vN v 8∧9223372036854775808≤upW v 0 b (k+1):=by
 have hc:v (k+1) / 2^(64-b)=0:=by rw [←shl_div _ (by omega)]; exact Nat.div_eq_of_lt h2
 constructor
 ·have h:=vN_up hv (b:=b) (by omega) (k+1)
  rw [hc,Nat.mul_zero,Nat.add_zero] at h
  rw [h]
  have h3:=vN_zero (w:=v) (n:=k+2) (8-(k+2)) fun j h4 h5=>hu.2.1 j h4 (by have:=hu.1; omega)
  rw [show k+2+(8-(k+2))=8 by have:=hu.1; omega] at h3
  rw [h3]
 ·unfold upW
  rw [if_neg (Nat.not_lt_zero _),if_pos (Nat.succ_pos k)]
  have h3:k+1-0-1=k:=by omega
  rw [Nat.sub_zero,shl_or _ (by omega) (shr_lt (by omega) (hv _)),Nat.mod_eq_of_lt h2]
  exact Nat.le_trans h1 (Nat.le_add_right _ _)
theorem high_alg {P Q s W S hi lo V v1 ul:Nat} (hs:s≤9223372036854775808) (hW:W<P*Q*18446744073709551616 ) (hS:s*W=lo+P*18446744073709551616*hi) (hV:V=ul+Q*v1) (h1:9223372036854775808≤v1) (hs0:0<s):hi<V:=by
 have e1:s*W<s*(P*Q*18446744073709551616):=Nat.mul_lt_mul_of_pos_left hW hs0
 have e2:s*(P*Q*18446744073709551616)≤v1*(P*Q*18446744073709551616):=Nat.mul_le_mul_right _ (Nat.le_trans hs h1)
 have e3:v1*(P*Q*18446744073709551616)=P*18446744073709551616*(Q*v1):=by
  rw [Nat.mul_comm v1,Nat.mul_right_comm P Q,Nat.mul_assoc]
 have e4:P*18446744073709551616*hi<P*18446744073709551616*(Q*v1):=by omega
 have:=Nat.lt_of_mul_lt_mul_left e4
 omega
theorem DL.first {v w:Nat→Nat} {k b:Nat} (hw:∀ j,w j<18446744073709551616) (hv:∀ j,v j<18446744073709551616) (hu:Uses v (k+2)) (hb:b<64) (hn:9223372036854775808≤upW v 0 b (k+1)) (hS:∀ j,sprW (upW w 0 b) (w 7 / 2^(64-b)) j<18446744073709551616) :
  DL (sprW (upW w 0 b) (w 7 / 2^(64-b))) (vN (upW v 0 b) (k+2)) (k+2) (9-(k+2)) (sprW (upW w 0 b) (w 7 / 2^(64-b))) (fun _=>0):=by
 have h9:=vN_spr hw (b:=b) (by omega)
 have hk:=hu.1
 have hspl:=vN_split (sprW (upW w 0 b) (w 7 / 2^(64-b))) (9-(k+2)) (k+2)
 rw [show 9-(k+2)+(k+2)=9 by omega,h9,show 9-(k+2)=(6-k)+1 by omega,Nat.pow_succ] at hspl
 have hW:=vN_lt hw 8
 rw [show (8:Nat)=(6-k)+(k+1)+1 by omega,Nat.pow_succ,Nat.pow_add] at hW
 rw [show (6-k)+(k+1)+1=8 by omega] at hW
 have h2b:2^b≤9223372036854775808:=Nat.pow_le_pow_right (n:=2) (by omega) (show b≤63 by omega)
 refine ⟨?_,?_,?_,?_,hS,fun _=>(by show 0<18446744073709551616; decide)⟩
 ·rw [Nat.sub_self,show 9-(k+2)+(k+2)=9 by omega,vN.eq_def (fun j=>_) 0]
  simp
 ·rw [show 9-(k+2)=(6-k)+1 by omega]
  exact high_alg (V:=vN (upW v 0 b) (k+2)) (S:=0) h2b hW hspl (vN_top (k+1)) hn (Nat.two_pow_pos b)
 ·intro j h1 h2; omega
 ·intro j _; rfl
section
variable {self:Self} {nf:Nat} {m m':Mem} {F:Nat→Value} {q t z r s k i:Nat} {V R o S:Nat→Nat} {be be':TypeId}
theorem dlg_loop (hd:CDst self) (h3:F 3=.pointer (some ⟨q,0,none⟩)) (h6:F 6=.int .i64 ((k+2:Nat):Int)) (h8:F 8=.pointer (some ⟨t,0,none⟩)) (h9:F 9=.pointer (some ⟨z,0,none⟩)) (h10:F 10=.int .i64 ((8-(k+2):Nat):Int)) (hk:k+2≤8)
  (gt:m[t]? = some (.row false be (rowK .u64 9 R))) (gq:m[q]? = some (.row false 24 (rowOf V))) (gz:m[z]? = some (.row false 24 (rowOf o))) (htq:t≠q) (htz:t≠z) (hqz:q≠z) (hV:∀ j,V j<18446744073709551616) (hn:9223372036854775808≤V (k+1)) (hD:DL S (vN V (k+2)) (k+2) (9-(k+2)) R o) (hnf:10<nf) :
  ∃ F' R' o' m',aloop (acodeN E self nf lpdlg_0) nf (lst F 49) m=some (.exit 0,lst F' 49,m')∧DL S (vN V (k+2)) (k+2) 0 R' o'∧m'[t]? = some (.row false be (rowK .u64 9 R'))∧m'[z]? = some (.row false 24 (rowOf o'))∧m'.length=m.length∧(∀ j,j≠t→j≠z→m'[j]? = m[j]?)∧∀ j,j<10→F' j=F j:=by
 have hloop:=aloop_inv (body:=acodeN E self nf lpdlg_0) (N:=9-(k+2))
  (I:=fun c T m'=>∃ G R' o',T=lst G 49∧(∀ j,j<10→G j=F j)∧G 10=.int .i64 (((9-(k+2)-c:Nat):Int)-1)∧DL S (vN V (k+2)) (k+2) (9-(k+2)-c) R' o'∧m'[t]? = some (.row false be (rowK .u64 9 R'))∧m'[z]? = some (.row false 24 (rowOf o'))∧m'.length=m.length∧(∀ j,j≠t→j≠z→m'[j]? = m[j]?))
  (Q:=fun x T m'=>x=.exit 0∧∃ G R' o',T=lst G 49∧DL S (vN V (k+2)) (k+2) 0 R' o'∧m'[t]? = some (.row false be (rowK .u64 9 R'))∧m'[z]? = some (.row false 24 (rowOf o'))∧m'.length=m.length∧(∀ j,j≠t→j≠z→m'[j]? = m[j]?)∧(∀ j,j<10→G j=F j)) (fun c T m' hc hI=>by
   obtain ⟨G,R',o',rfl,gk,g10,hD',gt',gz',hl,hkeep⟩:=hI
   rcases Nat.eq_zero_or_pos (9-(k+2)-c) with h0 | h0
   ·right
    rw [h0] at g10 hD'
    obtain ⟨H,rh,hk2⟩:=dlg_end (self:=self) (nf:=nf) (m:=m') g10
    exact ⟨_,_,_,rh,by simp,rfl,H,R',o',rfl,hD',gt',gz',hl,hkeep,fun j hj=>(hk2 j (by omega)).trans (gk j hj)⟩
   ·left
    obtain ⟨i,hi⟩:∃ i,9-(k+2)-c=i+1:=⟨9-(k+2)-c-1,by omega⟩
    rw [hi,show (((i+1:Nat):Int)-1)=((i:Nat):Int) by omega] at g10
    rw [hi] at hD'
    have gq':=(hkeep q (fun h=>htq h.symm) hqz).trans gq
    obtain ⟨H,R2,o2,rh,hD2,h10,hk2⟩:=dlg_it (self:=self) (nf:=nf) (m:=m') hd ((gk 3 (by omega)).trans h3) ((gk 6 (by omega)).trans h6) ((gk 8 (by omega)).trans h8) ((gk 9 (by omega)).trans h9) g10 (by omega) gt' gq' gz' htq htz hV hn hD'
    have e:9-(k+2)-(c+1)=i:=by omega
    refine ⟨_,_,rh,by omega,H,R2,o2,rfl,fun j hj=>(hk2 j hj).trans (gk j hj),by rw [h10,e],by rw [e]; exact hD2,?_,?_,by rw [List.length_set,List.length_set,hl],?_⟩
    ·rw [List.getElem?_set_ne (fun h=>htz h.symm),List.getElem?_set_self (lt_of_at gt')]
    ·rw [List.getElem?_set_self (by rw [List.length_set]; exact lt_of_at gz')]
    ·intro j h1 h2
     rw [List.getElem?_set_ne (fun h=>h2 h.symm),List.getElem?_set_ne (fun h=>h1 h.symm)]
     exact hkeep j h1 h2)
 obtain ⟨x,T',m',hr,rfl,G,R',o',rfl,hD',gt',gz',hl,hkeep,gk⟩:=hloop (9-(k+2)) 0 nf (lst F 49) m (by omega) (by omega) ⟨F,R,o,rfl,fun _ _=>rfl,by rw [h10]; congr 1; omega,hD,gt,gz,rfl,fun _ _ _=>rfl⟩
 exact ⟨G,R',o',m',hr,hD',gt',gz',hl,hkeep,gk⟩
end
section
variable {self:Self} {nf:Nat} {m:Mem} {F:Nat→Value} {w v:Nat→Nat} {k b:Nat}
theorem dlg_head (hw:∀ j,w j<18446744073709551616) (hk:k+2≤8)
  (cu:∀ M,ainv E self 43 [wide v] M=some (.int .i64 ((k+2:Nat):Int),M)) (cz:∀ M,ainv E self 65 [U (v (k+1))] M=some (.int .i64 ((b:Nat):Int),M)) {V S:Nat→Nat} (cup:∀ M,ainv E self 66 [wide v,.int .i64 ((b:Nat):Int)] M=some (wide V,M))
  (csp:∀ M,ainv E self 67 [wide w,.int .i64 ((b:Nat):Int)] M=some (arrK .u64 9 S,M)) :
  ∃ (G:Nat→Nat→Value) (M:Nat→Mem),acodeN E self nf (.region 0 rdlg_0 false) (lst (init [wide w,wide v]) 49) m=some (.normal,lst (G 0) 49,M 0)∧acodeN E self nf (.region 1 rdlg_1 false) (lst (G 0) 49) (M 0)=some (.normal,lst (G 1) 49,M 0)∧
   acodeN E self nf (.region 2 rdlg_2 false) (lst (G 1) 49) (M 0)=some (.normal,lst (G 2) 49,M 0)∧acodeN E self nf (.region 3 rdlg_3 false) (lst (G 2) 49) (M 0)=some (.normal,lst (G 3) 49,M 1)∧
   acodeN E self nf (.region 4 rdlg_4 false) (lst (G 3) 49) (M 1)=some (.normal,lst (G 4) 49,M 2)∧acodeN E self nf (.region 5 rdlg_5 false) (lst (G 4) 49) (M 2)=some (.normal,lst (G 5) 49,M 3)∧acodeN E self nf (.region 6 rdlg_6 false) (lst (G 5) 49) (M 3)=some (.normal,lst (G 6) 49,M 3)∧
   G 6 3=.pointer (some ⟨m.length+1,0,none⟩)∧G 6 4=.pointer (some ⟨m.length+2,0,none⟩)∧G 6 5=.pointer (some ⟨m.length+3,0,none⟩)∧G 6 6=.int .i64 ((k+2:Nat):Int)∧G 6 7=.int .i64 ((b:Nat):Int)∧G 6 8=.pointer (some ⟨m.length+4,0,none⟩)∧G 6 9=.pointer (some ⟨m.length+5,0,none⟩)∧G 6 10=.int .i64 ((8-(k+2):Nat):Int)∧
   (M 3)[m.length+1]? = some (.row false 24 (rowOf V))∧(M 3)[m.length+2]? = some (.row false 24 (rowOf fun _=>0))∧(M 3)[m.length+3]? = some (.row false 24 (rowOf fun _=>0))∧(M 3)[m.length+4]? = some (.row false 91 (rowK .u64 9 S))∧(M 3)[m.length+5]? = some (.row false 24 (rowOf fun _=>0))∧(M 3).length=m.length+6:=by
 have l1:(m++[Blk.row false 24 (rowOf w)]).length=m.length+1:=by simp
 have l2:(m++[Blk.row false 24 (rowOf w)]++[Blk.row false 24 (rowOf v)]).length=m.length+2:=by simp
 have l3:(m++[Blk.row false 24 (rowOf w)]++[Blk.row false 24 (rowOf v)]++[Blk.row false 24 (rowOf fun _=>0)]).length=m.length+3:=by simp
 have b1:=box24 v (m++[Blk.row false 24 (rowOf w)])
 have b2:=alloc24 (m++[Blk.row false 24 (rowOf w)]++[Blk.row false 24 (rowOf v)])
 have b3:=alloc24 (m++[Blk.row false 24 (rowOf w)]++[Blk.row false 24 (rowOf v)]++[Blk.row false 24 (rowOf fun _=>0)])
 rw [l1] at b1
 rw [l2] at b2
 rw [l3] at b3
 obtain ⟨A,ra,a2,a3,a4,a5⟩:=dlg_0 (self:=self) (nf:=nf) (m:=m) (F:=init [wide w,wide v]) (box24 w m) b1 b2 b3 rfl rfl
 obtain ⟨M0,hM0⟩:∃ M:Mem,M=m++[Blk.row false 24 (rowOf w)]++[Blk.row false 24 (rowOf v)]++[Blk.row false 24 (rowOf fun _=>0)]++[Blk.row false 24 (rowOf fun _=>0)]:=⟨_,rfl⟩
 rw [←hM0] at ra
 have hl0:M0.length=m.length+4:=by rw [hM0]; simp
 have p0:M0[m.length]? = some (.row false 24 (rowOf w)):=by
  rw [hM0,List.getElem?_append_left (by simp),List.getElem?_append_left (by simp),List.getElem?_append_left (by simp)]; simp
 have q0:M0[m.length+1]? = some (.row false 24 (rowOf v)):=by
  rw [hM0,List.getElem?_append_left (by simp),List.getElem?_append_left (by simp),List.getElem?_append_right (by simp)]; simp
 have r0:M0[m.length+2]? = some (.row false 24 (rowOf fun _=>0)):=by
  rw [hM0,List.getElem?_append_left (by simp),List.getElem?_append_right (by simp)]; simp
 have s0:M0[m.length+3]? = some (.row false 24 (rowOf fun _=>0)):=by
  rw [hM0,List.getElem?_append_right (by simp)]; simp
 clear hM0 b1 b2 b3 l1 l2 l3
 obtain ⟨B,rb,b6,bk⟩:=dlg_1 (self:=self) (nf:=nf) (m:=M0) (n:=k+2) a3 (load24 q0) cu
 have c1:cellAt M0 (m.length+1) (k+1)=some (U (v (k+1))):=by rw [cellAt_row q0,rowOf_get (by omega)]
 obtain ⟨C,rc,c7,ck⟩:=dlg_2 (self:=self) (nf:=nf) (m:=M0) (n:=k+1) ((bk 3 (by omega)).trans a3) b6 (by omega) c1 cz
 obtain ⟨D,rd,dk⟩:=dlg_3 (self:=self) (nf:=nf) (m:=M0) ((ck 3 (by omega)).trans ((bk 3 (by omega)).trans a3)) c7 (load24 q0) cup (store24 (w:=V) q0 (rowOf_length _))
 obtain ⟨M1,hM1⟩:∃ M:Mem,M=M0.set (m.length+1) (.row false 24 (rowOf V)):=⟨_,rfl⟩
 rw [←hM1] at rd
 have hl1:M1.length=m.length+4:=by rw [hM1,List.length_set,hl0]
 have p1:M1[m.length]? = some (.row false 24 (rowOf w)):=by rw [hM1,List.getElem?_set_ne (by omega)]; exact p0
 have q1:M1[m.length+1]? = some (.row false 24 (rowOf V)):=by rw [hM1,List.getElem?_set_self (lt_of_at q0)]
 have r1:M1[m.length+2]? = some (.row false 24 (rowOf fun _=>0)):=by rw [hM1,List.getElem?_set_ne (by omega)]; exact r0
 have s1:M1[m.length+3]? = some (.row false 24 (rowOf fun _=>0)):=by rw [hM1,List.getElem?_set_ne (by omega)]; exact s0
 clear hM1 p0 q0 r0 s0 hl0
 have b4:=alloc9 M1
 have at4:(M1++[Blk.row false 91 (rowK .u64 9 fun _=>0)])[M1.length]? = some (.row false 91 (rowK .u64 9 fun _=>0)):=by rw [List.getElem?_append_right (Nat.le_refl _),Nat.sub_self]; rfl
 have st4:=a9w.store (w:=S) (by omega) at4 (by rw [rowK_length])
 rw [hl1] at b4 st4 at4
 obtain ⟨G,rg,g8,gk⟩:=dlg_4 (self:=self) (nf:=nf) (m:=M1) ((dk 2 (by omega)).trans ((ck 2 (by omega)).trans ((bk 2 (by omega)).trans a2))) ((dk 7 (by omega)).trans c7) (load24 p1) csp b4 st4
 obtain ⟨M2,hM2⟩:∃ M:Mem,M=(M1++[Blk.row false 91 (rowK .u64 9 fun _=>0)]).set (m.length+4) (.row false 91 (rowK .u64 9 S)):=⟨_,rfl⟩
 rw [←hM2] at rg
 have hl2:M2.length=m.length+5:=by rw [hM2,List.length_set,List.length_append,hl1]; rfl
 have keep:∀ j,j<m.length+4→M2[j]? = M1[j]? := fun j hj=>by rw [hM2,List.getElem?_set_ne (by omega),List.getElem?_append_left (by omega)]
 have q2:=(keep _ (by omega)).trans q1
 have r2:=(keep _ (by omega)).trans r1
 have s2:=(keep _ (by omega)).trans s1
 have t2:M2[m.length+4]? = some (.row false 91 (rowK .u64 9 S)):=by rw [hM2,List.getElem?_set_self (by rw [List.length_append,hl1]; exact Nat.lt_succ_self _)]
 clear hM2 keep at4 st4 b4 p1 q1 r1 s1
 have b5:=alloc24 M2
 rw [hl2] at b5
 obtain ⟨H,rh,h9,hk9⟩:=dlg_5 (self:=self) (nf:=nf) (m:=M2) (F:=G) b5
 obtain ⟨M3,hM3⟩:∃ M:Mem,M=M2++[Blk.row false 24 (rowOf fun _=>0)]:=⟨_,rfl⟩
 rw [←hM3] at rh
 have keep:∀ j,j<m.length+5→M3[j]? = M2[j]? := fun j hj=>by rw [hM3,List.getElem?_append_left (by omega)]
 have z3:M3[m.length+5]? = some (.row false 24 (rowOf fun _=>0)):=by rw [hM3,List.getElem?_append_right (by omega),hl2,Nat.sub_self]; rfl
 have hl3:M3.length=m.length+6:=by rw [hM3,List.length_append,hl2]; rfl
 clear hM3 b5
 have h6:H 6=.int .i64 ((k+2:Nat):Int):=(hk9 6 (by omega)).trans ((gk 6 (by omega)).trans ((dk 6 (by omega)).trans ((ck 6 (by omega)).trans b6)))
 obtain ⟨I,ri,i10,ik⟩:=dlg_6 (self:=self) (nf:=nf) (m:=M3) h6 (by omega)
 have tr:∀ j,j<6→I j=A j:=fun j hj=>(ik j (by omega)).trans ((hk9 j (by omega)).trans ((gk j (by omega)).trans ((dk j (by omega)).trans ((ck j (by omega)).trans (bk j (by omega))))))
 refine ⟨fun j=>match j with | 0=>A | 1=>B | 2=>C | 3=>D | 4=>G | 5=>H | _=>I,fun j=>match j with | 0=>M0 | 1=>M1 | 2=>M2 | _=>M3,ra,rb,rc,rd,rg,rh,ri,(tr 3 (by omega)).trans a3,(tr 4 (by omega)).trans a4,(tr 5 (by omega)).trans a5,(ik 6 (by omega)).trans h6,(ik 7 (by omega)).trans ((hk9 7 (by omega)).trans ((gk 7 (by omega)).trans ((dk 7 (by omega)).trans c7))),(ik 8 (by omega)).trans ((hk9 8 (by omega)).trans g8),(ik 9 (by omega)).trans h9,i10,(keep _ (by omega)).trans q2,(keep _ (by omega)).trans r2,(keep _ (by omega)).trans s2,(keep _ (by omega)).trans t2,z3,hl3⟩
end
section
variable {self:Self} {nf:Nat} {m:Mem} {F:Nat→Value} {w v R o d:Nat→Nat} {k b p q r s t z:Nat} {be:TypeId}
theorem dlg_tail (h4:F 4=.pointer (some ⟨r,0,none⟩)) (h5:F 5=.pointer (some ⟨s,0,none⟩)) (h7:F 7=.int .i64 ((b:Nat):Int)) (h8:F 8=.pointer (some ⟨t,0,none⟩)) (h9:F 9=.pointer (some ⟨z,0,none⟩))
  (gr:m[r]? = some (.row false 24 (rowOf fun _=>0))) (gs:m[s]? = some (.row false 24 (rowOf fun _=>0))) (gt:m[t]? = some (.row false be (rowK .u64 9 R))) (gz:m[z]? = some (.row false 24 (rowOf o))) (hrs:r≠s)
  (cd:∀ M,ainv E self 69 [wide R,.int .i64 ((b:Nat):Int)] M=some (wide d,M)) :
  ∃ (G1 G2 G3:Nat→Value) (M1 M2 M3:Mem),acodeN E self nf (.region 10 rdlg_10 false) (lst F 49) m=some (.normal,lst G1 49,M1)∧acodeN E self nf (.region 11 rdlg_11 true) (lst G1 49) M1=some (.normal,lst G2 49,M2)∧acodeN E self nf (.region 12 rdlg_12 true) (lst G2 49) M2=some (.normal,lst G3 49,M3)∧
   G3 4=.pointer (some ⟨r,0,none⟩)∧G3 5=.pointer (some ⟨s,0,none⟩)∧aload E.P 24 (.pointer (some ⟨r,0,none⟩)) M3=some (wide o)∧aload E.P 24 (.pointer (some ⟨s,0,none⟩)) M3=some (wide d):=by
 obtain ⟨A,ra,a11,ak⟩:=dlg_10 (self:=self) (nf:=nf) (F:=F) (alloc24 m)
 obtain ⟨M1,hM1⟩:∃ M:Mem,M=m++[Blk.row false 24 (rowOf fun _=>0)]:=⟨_,rfl⟩
 rw [←hM1] at ra
 have keep:∀ j,j<m.length→M1[j]? = m[j]? := fun j hj=>by rw [hM1,List.getElem?_append_left hj]
 have y1:M1[m.length]? = some (.row false 24 (rowOf fun _=>0)):=by rw [hM1,List.getElem?_append_right (Nat.le_refl _),Nat.sub_self]; rfl
 have r1:=(keep r (lt_of_at gr)).trans gr
 have s1:=(keep s (lt_of_at gs)).trans gs
 have t1:=(keep t (lt_of_at gt)).trans gt
 have z1:=(keep z (lt_of_at gz)).trans gz
 have lr:=lt_of_at gr
 have ls:=lt_of_at gs
 have lz:=lt_of_at gz
 clear hM1 keep
 have cp:=copy89 y1 t1
 obtain ⟨B,rb,bk⟩:=dlg_11 (self:=self) (nf:=nf) (m:=M1) ((ak 8 (by omega)).trans h8) a11 cp
 obtain ⟨M2,hM2⟩:∃ M:Mem,M=M1.set m.length (.row false 24 (rowOf R)):=⟨_,rfl⟩
 rw [←hM2] at rb
 have r2:M2[r]? = some (.row false 24 (rowOf fun _=>0)):=by rw [hM2,List.getElem?_set_ne (by omega)]; exact r1
 have s2:M2[s]? = some (.row false 24 (rowOf fun _=>0)):=by rw [hM2,List.getElem?_set_ne (by omega)]; exact s1
 have z2:M2[z]? = some (.row false 24 (rowOf o)):=by rw [hM2,List.getElem?_set_ne (by omega)]; exact z1
 have y2:M2[m.length]? = some (.row false 24 (rowOf R)):=by rw [hM2,List.getElem?_set_self (lt_of_at y1)]
 clear hM2 cp
 have lo:aload E.P 24 (.pointer (some ⟨z,0,none⟩)) (M2.map sealed)=some (wide o):=load24 (ro:=true) (e:=24) (by rw [List.getElem?_map,z2]; rfl)
 have ll:aload E.P 24 (.pointer (some ⟨m.length,0,none⟩)) (M2.map sealed)=some (wide R):=load24 (ro:=true) (e:=24) (by rw [List.getElem?_map,y2]; rfl)
 have st1:=store24 (w:=o) r2 (rowOf_length _)
 have s3:(M2.set r (.row false 24 (rowOf o)))[s]? = some (.row false 24 (rowOf fun _=>0)):=by rw [List.getElem?_set_ne hrs]; exact s2
 have st2:=store24 (w:=d) s3 (rowOf_length _)
 obtain ⟨C,rc,c4,c5⟩:=dlg_12 (self:=self) (nf:=nf) (m:=M2) ((bk 4 (by omega)).trans ((ak 4 (by omega)).trans h4)) ((bk 5 (by omega)).trans ((ak 5 (by omega)).trans h5)) ((bk 7 (by omega)).trans ((ak 7 (by omega)).trans h7)) ((bk 9 (by omega)).trans ((ak 9 (by omega)).trans h9)) ((bk 11 (by omega)).trans a11) lo ll cd st1 st2
 refine ⟨A,B,C,M1,M2,_,ra,rb,rc,c4,c5,?_,?_⟩
 ·exact load24 (by rw [List.getElem?_set_ne (fun h=>hrs h.symm),List.getElem?_set_self (lt_of_at r2)])
 ·exact load24 (by rw [List.getElem?_set_self (lt_of_at s3)])
theorem sprW_lt {u:Nat→Nat} {x:Nat} (hu:∀ j,u j<18446744073709551616) (hx:x<18446744073709551616) (j:Nat):sprW u x j<18446744073709551616:=by
 unfold sprW putW
 split
 ·exact hx
 ·show (if j<8 then u j else 0)<18446744073709551616
  split
  ·exact hu j
  ·decide
theorem dlg_body (hd:CDst self) (hw:∀ j,w j<18446744073709551616) (hv:∀ j,v j<18446744073709551616) (hu:Uses v (k+2)) (hb:b<64) (h1:9223372036854775808≤v (k+1)*2^b) (h2:v (k+1)*2^b<18446744073709551616)
  (cu:∀ M,ainv E self 43 [wide v] M=some (.int .i64 ((k+2:Nat):Int),M)) (cz:∀ M,ainv E self 65 [U (v (k+1))] M=some (.int .i64 ((b:Nat):Int),M)) (cup:∀ M,ainv E self 66 [wide v,.int .i64 ((b:Nat):Int)] M=some (wide (upW v 0 b),M))
  (csp:∀ M,ainv E self 67 [wide w,.int .i64 ((b:Nat):Int)] M=some (arrK .u64 9 (sprW (upW w 0 b) (w 7 / 2^(64-b))),M))
  (cd:∀ R,(∀ j,R j<18446744073709551616)→∀ M,ainv E self 69 [wide R,.int .i64 ((b:Nat):Int)] M=some (wide (dnW R 0 b),M)) (hnf:10<nf) :
  ∃ o l m',vN w 8=vN o 8*vN v 8+vN l 8∧vN l 8<vN v 8∧(∀ j,o j<18446744073709551616)∧(∀ j,l j<18446744073709551616)∧abody E self nf 47 [wide w,wide v] m=some (.tuple ⟨[wide o,wide l]⟩,m'):=by
 obtain ⟨hV1,hV2⟩:=norm_v hv hu hb h1 h2
 obtain ⟨G,M,ra,rb,rc,rd,re,rf,rg,g3,g4,g5,g6,g7,g8,g9,g10,q3,r3,s3,t3,z3,hl⟩:=dlg_head (self:=self) (nf:=nf) (m:=m) (w:=w) (v:=v) (k:=k) (b:=b) hw hu.1 cu cz cup csp
 have hS:=sprW_lt (fun j=>upW_lt hw 0 b j) (Nat.lt_of_le_of_lt (Nat.div_le_self (w 7) (2^(64-b))) (hw 7))
 obtain ⟨H,R,o,M4,hr,hD,t4,z4,hl4,keep,hk⟩:=dlg_loop (self:=self) (nf:=nf) hd g3 g6 g8 g9 g10 hu.1 t3 q3 z3 (by omega) (by omega) (by omega) (upW_lt hv 0 b) hV2 (DL.first hw hv hu hb hV2 hS) hnf
 obtain ⟨A,B,C,N1,N2,N3,rh,ri,rj,c4,c5,lo,ll⟩:=dlg_tail (self:=self) (nf:=nf) ((hk 4 (by omega)).trans g4) ((hk 5 (by omega)).trans g5) ((hk 7 (by omega)).trans g7) ((hk 8 (by omega)).trans g8) ((hk 9 (by omega)).trans g9) ((keep _ (by omega) (by omega)).trans r3) ((keep _ (by omega) (by omega)).trans s3) t4 z4 (by omega) (cd R hD.small)
 obtain ⟨e1,e2⟩:=hD.last (by omega) hu.1
 rw [vN_spr hw (by omega),hV1] at e1
 rw [hV1] at e2
 obtain ⟨f1,f2⟩:=scaled_back (Nat.two_pow_pos b) e1 e2
 rw [←vN_down hD.small (by omega)] at f1 f2
 refine ⟨o,dnW R 0 b,N3,f1,f2,hD.smallo,dnW_lt hD.small 0 b,?_⟩
 rw [abody_eqF (by kernel_rfl) Tryd.func47 bodydlg (by kernel_rfl) (Nat.le_of_ble_eq_true rfl)]
 rw [show Tryd.f47.ntmps=49 from rfl]
 clear hd hS hD e1 e2 f1 f2 cu cz cup csp cd h1 h2 hV1 hV2
 generalize dnW R 0 b=l at *
 generalize Code.region 0 rdlg_0 false=C0 at *
 generalize Code.region 1 rdlg_1 false=C1 at *
 generalize Code.region 2 rdlg_2 false=C2 at *
 generalize Code.region 3 rdlg_3 false=C3 at *
 generalize Code.region 4 rdlg_4 false=C4 at *
 generalize Code.region 5 rdlg_5 false=C5 at *
 generalize Code.region 6 rdlg_6 false=C6 at *
 generalize Code.region 10 rdlg_10 false=C10 at *
 generalize Code.region 11 rdlg_11 true=C11 at *
 generalize Code.region 12 rdlg_12 true=C12 at *
 simp only [acodeN,ra,rb,rc,rd,re,rf,rg,hr,rh,ri,rj,finish,ares,aresL,ares1,Tryd.f47,nth_lst,Nat.reduceLT,if_true,c4,c5,lo,ll,Option.map_some]
end
theorem norm_lz {x:Nat} (h:x<18446744073709551616) (h0:0<x):64-lenW x<64∧9223372036854775808≤x*2^(64-lenW x)∧x*2^(64-lenW x)<18446744073709551616:=by
 obtain ⟨h1,h2⟩:=lenW_ok h h0
 have h3:=lenW_le x
 have h4:1≤lenW x:=by
  rcases Nat.eq_zero_or_pos (lenW x) with h5 | h5
  ·rw [h5] at h1; omega
  ·exact h5
 have e:18446744073709551616=2^lenW x*2^(64-lenW x):=by rw [←Nat.pow_add,show lenW x+(64-lenW x)=64 by omega]
 refine ⟨by omega,?_,?_⟩
 ·have h5:=Nat.mul_le_mul_right (2^(64-lenW x)) h2
  rw [←e,Nat.mul_assoc] at h5
  generalize x*2^(64-lenW x)=y at *
  omega
 ·rw [e]
  exact Nat.mul_lt_mul_of_pos_right h1 (Nat.two_pow_pos _)
theorem a24w:ArrT 24 8 22 .u64:=⟨und24,und22,info24,info22⟩
theorem eql24 {x y:Operand} (u v:Nat→Nat):eqlVal E.P 24 x y (wide u) (wide v)=some (.bool ((List.range 8).all fun j=>((u j:Nat):Int)==((v j:Nat):Int))):=eqlVal_arr a24w (by kernel_rfl) (by kernel_rfl) (by kernel_rfl) u v
theorem abuild24:abuild E.P 24 []=some (wide fun _=>0):=by kernel_rfl
theorem apure24 {T:List Value} {dd:Option Tmp} {pos:String} {af:Array Edge} {g:Option (Nat×Bool)}:apure E.P T { dst:=dd,op:=.build 24 #[],type:=24,pos:=pos,after:=af,guard:=g }=some (wide fun _=>0):=by kernel_rfl
theorem exW0 (a b:Value):aextract (.tuple ⟨[a,b]⟩) 0=some a:=rfl
theorem exW1 (a b:Value):aextract (.tuple ⟨[a,b]⟩) 1=some b:=rfl
theorem callCmp:callableB E.P 18=true:=by kernel_rfl
theorem callDw:callableB E.P 46=true:=by kernel_rfl
theorem callDlg:callableB E.P 47=true:=by kernel_rfl
theorem callOfW:callableB E.P 29=true:=by kernel_rfl
section
variable {self:Self} {nf:Nat} {m:Mem} {F:Nat→Value} {w v o l:Nat→Nat} {p q r s x y n:Nat}
theorem wdv_1 {b:Bool} (h3:F 3=.pointer (some ⟨q,0,none⟩)) (ld:aload E.P 24 (.pointer (some ⟨q,0,none⟩)) m=some (wide v)) (hb:∀ x y,eqlVal E.P 24 x y (wide v) (wide fun _=>0)=some (.bool b)) :
  ∃ F',acodeN E self nf (.region 1 rdv_1 false) (lst F 43) m=some (.normal,lst F' 43,m)∧F' 13=.bool b∧∀ j,j<7→F' j=F j:=by
 simp only [odv_1,agd_none,acodeN,aopsN,astep,aop,ev,nth_lst,aput,setAt_lst,upd_at,Nat.reduceLT,Nat.reduceEqDiff,Option.map_some,↓aop_eqlV,if_true,if_false,h3,ld,apure24,hb]
 exact ⟨_,rfl,rfl,fun j h1=>by repeat rw [upd_ne (by omega)]⟩
theorem wdv_3 {c:Int} {b:Bool} (h2:F 2=.pointer (some ⟨p,0,none⟩)) (h3:F 3=.pointer (some ⟨q,0,none⟩)) (ld:aload E.P 24 (.pointer (some ⟨p,0,none⟩)) m=some (wide w)) (ld2:aload E.P 24 (.pointer (some ⟨q,0,none⟩)) m=some (wide v)) (hc:∀ M,ainv E self 18 [wide w,wide v] M=some (.int .i64 c,M)) (hb:decide (c<0)=b) :
  ∃ F',acodeN E self nf (.region 3 rdv_3 false) (lst F 43) m=some (.normal,lst F' 43,m)∧F' 19=.bool b∧∀ j,j<7→F' j=F j:=by
 simp only [odv_3,agd_none,List.cons_append,List.nil_append,acodeN,aopsN,astep,aop,ev,nth_lst,aput,setAt_lst,upd_at,Nat.reduceLT,Nat.reduceEqDiff,Option.map_some,List.map_cons,List.map_nil,List.isEmpty_nil,bls,if_true,if_false,h2,h3,ld,ld2,callCmp,hc,lss64,hb]
 exact ⟨_,rfl,rfl,fun j h1=>by repeat rw [upd_ne (by omega)]⟩
theorem wdv_5 {b:Bool} (h3:F 3=.pointer (some ⟨q,0,none⟩)) (ld2:aload E.P 24 (.pointer (some ⟨q,0,none⟩)) m=some (wide v)) (hc:∀ M,ainv E self 43 [wide v] M=some (.int .i64 ((n:Nat):Int),M)) (hb:(((n:Nat):Int)==1)=b) :
  ∃ F',acodeN E self nf (.region 5 rdv_5 false) (lst F 43) m=some (.normal,lst F' 43,m)∧F' 24=.bool b∧∀ j,j<7→F' j=F j:=by
 simp only [odv_5,agd_none,List.cons_append,List.nil_append,acodeN,aopsN,astep,aop,ev,nth_lst,aput,setAt_lst,upd_at,Nat.reduceLT,Nat.reduceEqDiff,Option.map_some,eqlVal_int,↓aop_eqlV,List.map_cons,List.map_nil,List.isEmpty_nil,bls,if_true,if_false,h3,ld2,callUs,hc,hb]
 exact ⟨_,rfl,rfl,fun j h1=>by repeat rw [upd_ne (by omega)]⟩
theorem wdv_0 {m1 m2 m3 m4:Mem} (hb:abox E.P 24 (wide w) m=some (.pointer (some ⟨p,0,none⟩),m1)) (hc:abox E.P 24 (wide v) m1=some (.pointer (some ⟨q,0,none⟩),m2)) (hd:aalloc E.P 24 m2=some (.pointer (some ⟨r,0,none⟩),m3)) (he:aalloc E.P 24 m3=some (.pointer (some ⟨s,0,none⟩),m4)) (h0:F 0=wide w) (h1:F 1=wide v) :
  ∃ F',acodeN E self nf (.region 0 rdv_0 false) (lst F 43) m=some (.normal,lst F' 43,m4)∧F' 2=.pointer (some ⟨p,0,none⟩)∧F' 3=.pointer (some ⟨q,0,none⟩)∧F' 4=.pointer (some ⟨r,0,none⟩)∧F' 5=.pointer (some ⟨s,0,none⟩):=by
 simp only [odv_0,agd_none,acodeN,aopsN,astep,aop,ev,nth_lst,aput,setAt_lst,upd_at,Nat.reduceLT,Nat.reduceEqDiff,if_true,if_false,h0,h1,hb,hc,hd,he]
 exact ⟨_,rfl,rfl,rfl,rfl,rfl⟩
theorem wdv_2 {m1 m2:Mem} (h4:F 4=.pointer (some ⟨r,0,none⟩)) (h5:F 5=.pointer (some ⟨s,0,none⟩)) (st:astore E.P 24 (.pointer (some ⟨r,0,none⟩)) (wide fun _=>0) m=some m1) (st2:astore E.P 24 (.pointer (some ⟨s,0,none⟩)) (wide fun _=>0) m1=some m2) :
  ∃ F',acodeN E self nf (.region 2 rdv_2 false) (lst F 43) m=some (.normal,lst F' 43,m2)∧F' 6=.int .i64 9∧F' 4=.pointer (some ⟨r,0,none⟩)∧F' 5=.pointer (some ⟨s,0,none⟩):=by
 simp only [odv_2,agd_none,acodeN,aopsN,astep,aop,ev,nth_lst,aput,setAt_lst,upd_at,Nat.reduceLT,Nat.reduceEqDiff,Option.map_some,if_true,if_false,h4,h5,apure24,st,st2]
 exact ⟨_,rfl,rfl,by simp only [upd_at,Nat.reduceEqDiff,reduceIte,h4],by simp only [upd_at,Nat.reduceEqDiff,reduceIte,h5]⟩
theorem wdv_6 {m1 m2:Mem} {d l:Nat} (h2:F 2=.pointer (some ⟨p,0,none⟩)) (h3:F 3=.pointer (some ⟨q,0,none⟩)) (ld:aload E.P 24 (.pointer (some ⟨p,0,none⟩)) m=some (wide w)) (c:cellAt m q 0=some (U d)) (hc:∀ M,ainv E self 46 [wide w,U d] M=some (.tuple ⟨[wide o,U l]⟩,M)) (ha:aalloc E.P 24 m=some (.pointer (some ⟨x,0,none⟩),m1)) (st:astore E.P 24 (.pointer (some ⟨x,0,none⟩)) (wide o) m1=some m2) :
  ∃ F',acodeN E self nf (.region 6 rdv_6 false) (lst F 43) m=some (.normal,lst F' 43,m2)∧F' 7=.pointer (some ⟨x,0,none⟩)∧F' 8=U l∧∀ j,j<7→F' j=F j:=by
 have i1:aindexAddr E.P 24 (.pointer (some ⟨q,0,none⟩)) (.int .i64 0)=some (.pointer (some ⟨q,0,none⟩)):=ix24 (p:=q) (k:=0) (by omega)
 have x0:nth [wide o,U l] 0=wide o:=rfl
 have x1:nth [wide o,U l] 1=U l:=rfl
 simp only [odv_6,agd_none,List.cons_append,List.nil_append,acodeN,aopsN,astep,aop,ev,nth_lst,aput,setAt_lst,upd_at,Nat.reduceLT,Nat.reduceEqDiff,Option.map_some,List.map_cons,List.map_nil,List.isEmpty_nil,bls,if_true,if_false,h2,h3,ld,i1,load22,c,callDw,hc,ha,st,exW0,exW1]
 exact ⟨_,rfl,rfl,rfl,fun j h1=>by repeat rw [upd_ne (by omega)]⟩
end
theorem ahead_dv_4a:aheadB E.P E.wr rdv_4 1 2=false:=by kernel_rfl
theorem ahead_dv_4b:aheadB E.P E.wr rdv_4 1 3=true:=by kernel_rfl
theorem ahead_dv_9a:aheadB E.P E.wr rdv_9 1 2=false:=by kernel_rfl
theorem ahead_dv_9b:aheadB E.P E.wr rdv_9 1 3=true:=by kernel_rfl
section
variable {self:Self} {nf:Nat} {m:Mem} {F:Nat→Value} {w v o l:Nat→Nat} {p q r s x y n:Nat}
theorem wdv_4 {m1 m2:Mem} (hrp:(r==p)=false) (hsp:(s==p)=false) (h2:F 2=.pointer (some ⟨p,0,none⟩)) (h4:F 4=.pointer (some ⟨r,0,none⟩)) (h5:F 5=.pointer (some ⟨s,0,none⟩)) (l1:aload E.P 24 (.pointer (some ⟨p,0,none⟩)) m=some (wide w)) (l2:aload E.P 24 (.pointer (some ⟨p,0,none⟩)) (m.map sealed)=some (wide w)) (st:astore E.P 24 (.pointer (some ⟨r,0,none⟩)) (wide fun _=>0) m=some m1) (st2:astore E.P 24 (.pointer (some ⟨s,0,none⟩)) (wide w) m1=some m2) :
  ∃ F',acodeN E self nf (.region 4 rdv_4 true) (lst F 43) m=some (.normal,lst F' 43,m2)∧F' 6=.int .i64 0∧F' 4=.pointer (some ⟨r,0,none⟩)∧F' 5=.pointer (some ⟨s,0,none⟩):=by
 have a2:=ahead_dv_4a
 have a3:=ahead_dv_4b
 simp only [↓ddv_4,↓sdv_4,odv_4,agd_none,acodeN,adrawT,cls,astep,aop,afloat,ev,nth_lst,aput,setAt_lst,upd_at,Nat.reduceLT,Nat.reduceEqDiff,Option.map_some,List.map_cons,List.map_nil,bls,Bool.false_eq_true,if_true,if_false,List.length_map,h2,h4,h5,apure24,l2,st,st2,laterOk,sparesB,liveB,loadAt,loadBlk,Nat.reduceAdd,Nat.zero_add,a2,a3,List.filter_cons,List.filter_nil,List.append_nil,List.contains_cons,List.contains_nil,hrp]
 exact ⟨_,rfl,rfl,by simp only [upd_at,Nat.reduceEqDiff,reduceIte,h4],by simp only [upd_at,Nat.reduceEqDiff,reduceIte,h5]⟩
theorem wdv_9 {m1 m2:Mem} (hrp:(r==y)=false) (hsp:(s==y)=false) (h4:F 4=.pointer (some ⟨r,0,none⟩)) (h5:F 5=.pointer (some ⟨s,0,none⟩)) (h9:F 9=.pointer (some ⟨x,0,none⟩)) (h10:F 10=.pointer (some ⟨y,0,none⟩)) (l1:aload E.P 24 (.pointer (some ⟨x,0,none⟩)) (m.map sealed)=some (wide o)) (l2:aload E.P 24 (.pointer (some ⟨y,0,none⟩)) (m.map sealed)=some (wide l)) (st:astore E.P 24 (.pointer (some ⟨r,0,none⟩)) (wide o) m=some m1) (st2:astore E.P 24 (.pointer (some ⟨s,0,none⟩)) (wide l) m1=some m2) :
  ∃ F',acodeN E self nf (.region 9 rdv_9 true) (lst F 43) m=some (.normal,lst F' 43,m2)∧F' 6=.int .i64 0∧F' 4=.pointer (some ⟨r,0,none⟩)∧F' 5=.pointer (some ⟨s,0,none⟩):=by
 have a2:=ahead_dv_9a
 have a3:=ahead_dv_9b
 simp only [↓ddv_9,↓sdv_9,odv_9,agd_none,acodeN,adrawT,cls,astep,aop,afloat,ev,nth_lst,aput,setAt_lst,upd_at,Nat.reduceLT,Nat.reduceEqDiff,Option.map_some,List.map_cons,List.map_nil,bls,Bool.false_eq_true,if_true,if_false,List.length_map,h4,h5,h9,h10,l1,l2,st,st2,laterOk,sparesB,liveB,loadAt,loadBlk,Nat.reduceAdd,Nat.zero_add,a2,a3,List.filter_cons,List.filter_nil,List.append_nil,List.contains_cons,List.contains_nil,hrp]
 exact ⟨_,rfl,rfl,by simp only [upd_at,Nat.reduceEqDiff,reduceIte,h4],by simp only [upd_at,Nat.reduceEqDiff,reduceIte,h5]⟩
end
end Go.Am.Seat
