import Derived.Test.YtcnhakfmnkegcaaDoorGrFieldParses12
import Derived.Test.YtcnhakfmnkegcaaDoorGrFieldParses13
set_option linter.unusedSimpArgs false
set_option linter.unusedVariables false
noncomputable section
set_option maxRecDepth 100000
namespace Go.Am.Seat
open Go.Proofs Go.Am
theorem acoll_old {m m1:Mem} {n b o k c:Nat} (hb:b<n):acoll m n (.slice (some ⟨b,o,none⟩) k c) m1=some (.slice (some ⟨b,o,none⟩) k c,m):=by
 unfold acoll
 rw [if_neg (by simp [lit2,lit1,lit0])]
 simp only [partsOf,idsL,idOf,addIds,hb,if_true,closeIds,List.foldl_nil,nodupB,List.all_nil,Bool.and_self,renB,ren3,ren2,ren1,rid,List.append_nil]
theorem idsL_lit {n:Nat}:∀ (l:List Value) (acc:List Nat),l.all lit0=true→idsL n l acc=acc
 | [],_,_=>rfl
 | v::l,acc,h=>by
  simp only [List.all_cons,Bool.and_eq_true] at h
  have hv:idOf n v=[]:=by
   have h1:=h.1
   cases v with
   | pointer a=>cases a with
    | none=>rfl
    | some a=>simp [lit0] at h1
   | slice a x y=>cases a with
    | none=>rfl
    | some a=>simp [lit0] at h1
   | func fn a b=>simp only [lit0] at h1; simp only [idOf,h1,if_true]
   | _=>rfl
  unfold idsL
  rw [hv]
  exact idsL_lit l acc h.2
theorem renL_id {n N:Nat} {keep:List Nat}:∀ (l:List Value),l.all lit0=true→renL n N keep l=some l
 | [],_=>rfl
 | v::l,h=>by
  simp only [List.all_cons,Bool.and_eq_true] at h
  have hv:ren1 n N keep v=some v:=by
   have h1:=h.1
   cases v with
   | pointer a=>cases a with
    | none=>rfl
    | some a=>simp [lit0] at h1
   | slice a x y=>cases a with
    | none=>rfl
    | some a=>simp [lit0] at h1
   | func fn a b=>simp only [lit0] at h1; simp only [ren1,h1,if_true]
   | _=>first | rfl | simp only [ren1,h1,if_true]
  unfold renL
  rw [hv,renL_id l h.2]
theorem acoll_new {m m1:Mem} {n b o k c:Nat} {ro:Bool} {e:TypeId} {cs:List Value} (hb:n≤b) (hm:m1[b]? = some (.row ro e cs)) (hc:cs.all lit0=true) :
  acoll m n (.slice (some ⟨b,o,none⟩) k c) m1=some (.slice (some ⟨m.length,o,none⟩) k c,m++[.row ro e cs]):=by
 have hnb:¬ b<n:=by omega
 unfold acoll
 rw [if_neg (by simp [lit2,lit1,lit0])]
 have h1:idsL n (partsOf (.slice (some ⟨b,o,none⟩) k c)) []=[b]:=by
  simp [partsOf,idsL,idOf,addIds,hnb]
 have h2:closeIds n m1 2 [b]=[b]:=by
  simp only [closeIds,List.foldl_cons,List.foldl_nil,hm,idsL_lit cs [b] hc]
 simp only [h1,h2]
 rw [if_pos (by simp [nodupB,hb])]
 have h3:rid n m.length [b] b=some m.length:=by
  unfold rid
  rw [if_neg hnb]
  simp [List.idxOf?]
 simp only [renB,hm,renL_id cs hc,ren3,ren2,ren1,h3]
section
variable {K:List Fact} {k n b:Nat} {M:Mem} {l:List Nat} {w:Nat→Nat} {Z:Mem}
theorem ainv_look {self:Self} {g:FuncId} {args:List Value} {m m1:Mem} {v:Value} (ha:args.all lit2=false) (hw:E.wr g=false) (h:self g args (m.map sealed)=some (v,m1)) (hv:lit2 v=true):ainv E self g args m=some (v,m):=by
 unfold ainv
 rw [ha,hw]
 simp only [Bool.false_eq_true,if_false,h]
 unfold acoll
 rw [if_pos hv]
end
def rowK (k:IntKind) (n:Nat) (w:Nat→Nat):List Value:=(List.range n).map fun j=>.int k ((w j:Nat):Int)
def arrK (k:IntKind) (n:Nat) (w:Nat→Nat):Value:=.agg ⟨rowK k n w⟩
theorem rowK_length (k:IntKind) (n:Nat) (w:Nat→Nat):(rowK k n w).length=n:=by simp [rowK]
theorem rowK_get {k:IntKind} {n:Nat} {w:Nat→Nat} {j:Nat} (h:j<n):(rowK k n w)[j]? = some (.int k ((w j:Nat):Int)):=by
 unfold rowK
 rw [List.getElem?_map,List.getElem?_range h]
 rfl
theorem rowK_set {k:IntKind} {n:Nat} {w:Nat→Nat} {i x:Nat}:(rowK k n w).set i (.int k ((x:Nat):Int))=rowK k n (fun j=>if j=i then x else w j):=by
 apply List.ext_getElem?
 intro q
 rw [List.getElem?_set]
 by_cases hk:q<n
 ·rw [rowK_get hk,rowK_get hk,rowK_length]
  by_cases h:i=q
  ·subst h; simp [hk]
  ·have h':¬ q=i:=fun e=>h e.symm
   simp [h,h']
 ·rw [List.getElem?_eq_none (by rw [rowK_length]; omega),List.getElem?_eq_none (by rw [rowK_length]; omega),rowK_length]
  by_cases h:i=q
  ·subst h; simp [hk]
  ·simp [h]
theorem rowK_lit (k:IntKind) (n:Nat) (w:Nat→Nat):(rowK k n w).all lit0=true:=by
 unfold rowK
 rw [List.all_map,List.all_eq_true]
 intro x _
 rfl
theorem rowK_ok (k:IntKind) (n:Nat) (w:Nat→Nat):(rowK k n w).all cellOk=true:=by
 unfold rowK
 rw [List.all_map,List.all_eq_true]
 intro x _
 rfl
theorem arrK_lit (k:IntKind) (n:Nat) (w:Nat→Nat):lit2 (arrK k n w)=true:=rowK_lit k n w
theorem rowK_ext {k:IntKind} {n:Nat} {w w':Nat→Nat} (h:∀ j,j<n→w j=w' j):rowK k n w=rowK k n w':=by
 unfold rowK
 apply List.map_congr_left
 intro j hj
 rw [h j (List.mem_range.1 hj)]
structure ArrT (t:TypeId) (n:Nat) (e:TypeId) (k:IntKind):Prop where
 und:E.P.underlying t=some (.array n e)
 unde:E.P.underlying e=some (.int k)
 info:∃ i,E.P.info? t=some i∧i.size=n
 infoe:∃ i,E.P.info? e=some i∧i.size=1
section
variable {t e:TypeId} {n:Nat} {k:IntKind} {m:Mem} {p j x:Nat} {w:Nat→Nat} {ro:Bool} {be:TypeId} {cs:List Value}
theorem ArrT.box (h:ArrT t n e k):abox E.P t (arrK k n w) m=some (.pointer (some ⟨m.length,0,none⟩),m++[.row false t (rowK k n w)]):=by
 obtain ⟨i,h1,_⟩:=h.info
 unfold abox arrK
 simp only [h1,vcells,rowK_ok,if_true]
theorem ArrT.load (h:ArrT t n e k) (hm:m[p]? = some (.row ro be (rowK k n w))):aload E.P t (.pointer (some ⟨p,0,none⟩)) m=some (arrK k n w):=by
 obtain ⟨i,h1,h2⟩:=h.info
 unfold aload
 simp only [lookRow hm,h.und,aggD,h1,h2]
 rw [if_pos (by rw [rowK_length]; omega),List.drop_zero,List.take_of_length_le (by rw [rowK_length]; omega)]
 rfl
theorem ArrT.store (h:ArrT t n e k) (hn:n≠1) (hm:m[p]? = some (.row false be cs)) (hl:cs.length=n):astore E.P t (.pointer (some ⟨p,0,none⟩)) (arrK k n w) m=some (m.set p (.row false be (rowK k n w))):=by
 obtain ⟨i,h1,h2⟩:=h.info
 unfold astore arrK
 simp only [hm,vcells,rowK_ok,if_true,h1,h2]
 rw [if_pos ⟨rowK_length k n w,by rw [rowK_length]; omega⟩]
 congr 2
 have:lay cs 0 (rowK k n w)=rowK k n w:=by
  unfold lay
  split
  ·rename_i v hv
   have:=congrArg List.length hv
   rw [rowK_length] at this
   simp at this
   omega
  ·rw [List.take_zero,List.nil_append,List.drop_of_length_le (by rw [rowK_length]; omega),List.append_nil]
 rw [this]
theorem ArrT.ix (h:ArrT t n e k) (hj:j<n):aindexAddr E.P t (.pointer (some ⟨p,0,none⟩)) (.int .i64 (j:Nat))=some (.pointer (some ⟨p,j,none⟩)):=by
 obtain ⟨i,h1,h2⟩:=h.infoe
 unfold aindexAddr
 simp only [h.und,h1,h2]
 rw [if_pos (by omega)]
 simp
theorem ArrT.loadE (h:ArrT t n e k) (b o:Nat) (m:Mem):aload E.P e (.pointer (some ⟨b,o,none⟩)) m=cellAt m b o:=aload_cell h.unde rfl b o m
theorem ArrT.storeE (h:ArrT t n e k) (hm:m[p]? = some (.row false be (rowK k n w))) (hj:j<n):astore E.P e (.pointer (some ⟨p,j,none⟩)) (.int k ((x:Nat):Int)) m=some (m.set p (.row false be (rowK k n (fun q=>if q=j then x else w q)))):=by
 obtain ⟨i,h1,h2⟩:=h.infoe
 rw [astore_cell h1 h2 hm (by rw [rowK_length]; exact hj) rfl,rowK_set]
end
theorem info_of {t:TypeId} {n:Nat} (h:(E.P.info? t).map (·.size)=some n):∃ i,E.P.info? t=some i∧i.size=n:=Option.map_eq_some_iff.1 h
theorem a23:ArrT 23 8 22 .u64:=⟨Tryd.underlying23,und22,info_of (by kernel_rfl),info_of (by kernel_rfl)⟩
theorem alloc23 (m:Mem):aalloc E.P 23 m=some (.pointer (some ⟨m.length,0,none⟩),m++[.row false 23 (rowK .u64 8 fun _=>0)]):=by kernel_rfl
theorem conv3_54' (k:Int):aconv E.P 3 64 (.int .i64 k)=some (.int .u64 (k%18446744073709551616)):=by kernel_rfl
theorem andU (a b:Int):abin .and .u64 a .u64 b=some (.int .u64 (wrapF .u64 ((((a%18446744073709551616).toNat &&& (b%18446744073709551616).toNat:Nat)):Int))):=by kernel_rfl
theorem subU (a b:Int):abin .sub .u64 a .u64 b=some (.int .u64 (wrapF .u64 (a-b))):=by kernel_rfl
theorem shlU {x n:Nat} (hn:n≤64):abin .shl .u64 ((x:Nat):Int) .u64 ((n:Nat):Int)=some (.int .u64 ((x*2^n%18446744073709551616:Nat):Int)):=by
 unfold abin
 simp only
 rw [if_neg (by omega),Int.toNat_natCast,show IntKind.u64.bits=64 from rfl,Nat.min_eq_left hn]
 simp only [wrapF]
 congr 2
theorem shrU {x n:Nat} (hn:n≤64):abin .shr .u64 ((x:Nat):Int) .u64 ((n:Nat):Int)=some (.int .u64 ((x / 2^n:Nat):Int)):=by
 unfold abin
 simp only
 rw [if_neg (by omega),Int.toNat_natCast,show IntKind.u64.bits=64 from rfl,Nat.min_eq_left hn,Int.fdiv_eq_ediv_of_nonneg _ (by exact Int.natCast_nonneg _)]
 congr 2
section
variable {self:Self} {nf:Nat} {m:Mem} {x n:Nat}
end
end Go.Am.Seat
namespace Go.Am.Num
def B:Nat→Nat→Nat
 | _,0=>1
 | 0,_+1=>0
 | n+1,k+1=>B n k+B n (k+1)
def pm (N b:Nat):Nat→Nat→Nat
 | 0,_=>1%N
 | f+1,e=>cond (Nat.beq e 0) (1%N) (cond (Nat.beq (e%2) 1) ((pm N b f (e / 2))^2%N*b%N) ((pm N b f (e / 2))^2%N))
theorem pm_eq (N b:Nat):∀ f e,e<2^f→pm N b f e=b^e%N:=by
 intro f
 induction f with
 | zero=>intro e h; have:e=0:=(by simpa using h); subst this; rfl
 | succ f ih =>
  intro e h
  simp only [pm]
  have h1:e / 2<2^f:=by rw [Nat.pow_succ] at h; omega
  rw [ih _ h1]
  cases h0:Nat.beq e 0 with
  | true=>have:=Nat.eq_of_beq_eq_true h0; subst this; rfl
  | false =>
   have hsq:(b^(e / 2)%N)^2%N=b^(2*(e / 2))%N:=by rw [←Nat.pow_mod,←Nat.pow_mul,Nat.mul_comm]
   cases h2:Nat.beq (e%2) 1 with
   | true =>
    have h3:=Nat.eq_of_beq_eq_true h2
    simp only [cond_false,cond_true]
    rw [hsq,Nat.mod_mul_mod,←Nat.pow_succ]
    congr 2
    omega
   | false =>
    have h3:e%2≠1:=Nat.ne_of_beq_eq_false h2
    simp only [cond_false]
    rw [hsq]
    congr 2
    omega
end Go.Am.Num
namespace Go.Am.Num
end Go.Am.Num
namespace Go.Am.Num
set_option maxHeartbeats 4000000
def wd (k V:Nat):Nat:=V / 18446744073709551616^k%18446744073709551616
theorem wd_lt (k V:Nat):wd k V<18446744073709551616:=Nat.mod_lt _ (by decide)
theorem wd_0 (V:Nat):wd 0 V=V%18446744073709551616:=by simp [wd]
theorem wd_1 (V:Nat):wd 1 V=V / 18446744073709551616%18446744073709551616:=by simp [wd]
theorem wd_2 (V:Nat):wd 2 V=V / 340282366920938463463374607431768211456%18446744073709551616:=rfl
theorem wd_3 (V:Nat):wd 3 V=V / 6277101735386680763835789423207666416102355444464034512896%18446744073709551616:=rfl
theorem wd_4 (V:Nat):wd 4 V=V / 115792089237316195423570985008687907853269984665640564039457584007913129639936%18446744073709551616:=rfl
def v4 (a b c d:Nat):Nat:=a+b*18446744073709551616+c*340282366920938463463374607431768211456+d*6277101735386680763835789423207666416102355444464034512896
theorem wd_v4 {a b c d:Nat} (ha:a<18446744073709551616) (hb:b<18446744073709551616) (hc:c<18446744073709551616) (hd:d<18446744073709551616) :
  wd 0 (v4 a b c d)=a∧wd 1 (v4 a b c d)=b∧wd 2 (v4 a b c d)=c∧wd 3 (v4 a b c d)=d:=by
 simp only [wd_0,wd_1,wd_2,wd_3,v4]
 omega
theorem v4_wd {V:Nat} (h:V<115792089237316195423570985008687907853269984665640564039457584007913129639936):v4 (wd 0 V) (wd 1 V) (wd 2 V) (wd 3 V)=V:=by
 simp only [wd_0,wd_1,wd_2,wd_3,v4]
 omega
theorem plus_ok (V n:Nat) :
  (wd 0 V+n)%18446744073709551616=wd 0 (V+n)∧(wd 1 V+(wd 0 V+n) / 18446744073709551616)%18446744073709551616=wd 1 (V+n)∧
  (wd 2 V+(wd 1 V+(wd 0 V+n) / 18446744073709551616) / 18446744073709551616)%18446744073709551616=wd 2 (V+n)∧
  (wd 3 V+(wd 2 V+(wd 1 V+(wd 0 V+n) / 18446744073709551616) / 18446744073709551616) / 18446744073709551616)%18446744073709551616=wd 3 (V+n):=by
 simp only [wd_0,wd_1,wd_2,wd_3]
 omega
theorem settle_ok {V S R:Nat} {a b c d more:Nat} (ha:a<18446744073709551616) (hb:b<18446744073709551616) (hc:c<18446744073709551616) (hd:d<18446744073709551616) (hm:more<4294967296)
  (hV:V=v4 a b c d+more*115792089237316195423570985008687907853269984665640564039457584007913129639936)
  (hS:S=v4 a b c (d%9223372036854775808)+19*(2*more+d / 9223372036854775808))
  (hR:R=S+19*(wd 3 (S+19) / 9223372036854775808)) :
  wd 0 R=wd 0 (V%57896044618658097711785492504343953926634992332820282019728792003956564819949)∧wd 1 R=wd 1 (V%57896044618658097711785492504343953926634992332820282019728792003956564819949)∧
  wd 2 R=wd 2 (V%57896044618658097711785492504343953926634992332820282019728792003956564819949)∧wd 3 R%9223372036854775808=wd 3 (V%57896044618658097711785492504343953926634992332820282019728792003956564819949):=by
 have hSV:V%57896044618658097711785492504343953926634992332820282019728792003956564819949=S%57896044618658097711785492504343953926634992332820282019728792003956564819949:=by
  have:V=S+(2*more+d / 9223372036854775808)*57896044618658097711785492504343953926634992332820282019728792003956564819949:=by
   simp only [hV,hS,v4]
   omega
  rw [this,Nat.add_mul_mod_self_right]
 have hSb:S<57896044618658097711785492504343953926634992332820282019728792003956564819968+274877906944:=by
  simp only [hS,v4]
  omega
 rw [hSV]
 clear hSV hV hS
 by_cases ht:S+19<57896044618658097711785492504343953926634992332820282019728792003956564819968
 ·have h1:wd 3 (S+19) / 9223372036854775808=0:=by rw [wd_3]; omega
  have h2:S%57896044618658097711785492504343953926634992332820282019728792003956564819949=S:=Nat.mod_eq_of_lt (by omega)
  rw [h1] at hR
  rw [h2,hR]
  simp only [wd_0,wd_1,wd_2,wd_3]
  omega
 ·have h1:wd 3 (S+19) / 9223372036854775808=1:=by rw [wd_3]; omega
  have h2:S%57896044618658097711785492504343953926634992332820282019728792003956564819949=S-57896044618658097711785492504343953926634992332820282019728792003956564819949:=by omega
  rw [h1] at hR
  rw [h2,hR]
  simp only [wd_0,wd_1,wd_2,wd_3]
  omega
theorem mul64_ok {x y:Nat} (hx:x<18446744073709551616) (hy:y<18446744073709551616) {x0 x1 y0 y1 w0 t w1 w2 w3 hi:Nat}
  (e1:x0=x%4294967296) (e2:x1=x / 4294967296) (e3:y0=y%4294967296) (e4:y1=y / 4294967296) (e5:w0=x0*y0%18446744073709551616) (e6:t=(x1*y0%18446744073709551616+w0 / 4294967296)%18446744073709551616)
  (e7:w1=t%4294967296) (e8:w2=t / 4294967296) (e9:w3=(w1+x0*y1%18446744073709551616)%18446744073709551616)
  (e10:hi=((x1*y1%18446744073709551616+w2)%18446744073709551616+w3 / 4294967296)%18446744073709551616):hi=x*y / 18446744073709551616:=by
 have hx0:x0<4294967296:=by omega
 have hx1:x1<4294967296:=by omega
 have hy0:y0<4294967296:=by omega
 have hy1:y1<4294967296:=by omega
 have b1:x0*y0≤4294967295*4294967295:=Nat.mul_le_mul (by omega) (by omega)
 have b2:x1*y0≤4294967295*4294967295:=Nat.mul_le_mul (by omega) (by omega)
 have b3:x0*y1≤4294967295*4294967295:=Nat.mul_le_mul (by omega) (by omega)
 have b4:x1*y1≤4294967295*4294967295:=Nat.mul_le_mul (by omega) (by omega)
 have hxx:x=x1*4294967296+x0:=by omega
 have hyy:y=y1*4294967296+y0:=by omega
 have hp:x*y=x1*y1*18446744073709551616+(x1*y0+x0*y1)*4294967296+x0*y0:=by
  rw [hxx,hyy,Nat.add_mul,Nat.mul_add,Nat.mul_add]
  have k1:x1*4294967296*(y1*4294967296)=x1*y1*18446744073709551616:=by
   rw [Nat.mul_mul_mul_comm]
  have k2:x1*4294967296*y0=x1*y0*4294967296:=by rw [Nat.mul_right_comm]
  have k3:x0*(y1*4294967296)=x0*y1*4294967296:=by rw [Nat.mul_assoc]
  rw [k1,k2,k3]
  omega
 rw [hp]
 clear hp hxx hyy e1 e2 e3 e4
 generalize x0*y0=p00 at *
 generalize x1*y0=p10 at *
 generalize x0*y1=p01 at *
 generalize x1*y1=p11 at *
 omega
theorem hi_lt {x n:Nat} (hx:x<18446744073709551616) (hn:n<18446744073709551616):x*n / 18446744073709551616≤18446744073709551614:=by
 have:x*n≤18446744073709551615*18446744073709551615:=Nat.mul_le_mul (by omega) (by omega)
 omega
theorem dm (x:Nat):∃ q r,x / 18446744073709551616=q∧x%18446744073709551616=r∧x=q*18446744073709551616+r∧r<18446744073709551616:=⟨_,_,rfl,rfl,by omega,by omega⟩
theorem digits5 {V m1 m2 m3 m4 e:Nat} (hV:V=m1+m2*18446744073709551616+m3*340282366920938463463374607431768211456+m4*6277101735386680763835789423207666416102355444464034512896+e*115792089237316195423570985008687907853269984665640564039457584007913129639936)
  (h1:m1<18446744073709551616) (h2:m2<18446744073709551616) (h3:m3<18446744073709551616) (h4:m4<18446744073709551616) (h5:e<18446744073709551616) :
  m1=wd 0 V∧m2=wd 1 V∧m3=wd 2 V∧m4=wd 3 V∧e=wd 4 V∧e=V / 115792089237316195423570985008687907853269984665640564039457584007913129639936:=by
 simp only [wd_0,wd_1,wd_2,wd_3,wd_4]
 omega
theorem stage1 {p0 p1 p2 p3 h0 h1 h2 h3 l0 l1 l2 l3 c1 c2 c3 r1 r2 r3:Nat} (e0:p0=h0*18446744073709551616+l0) (e1:p1=h1*18446744073709551616+l1) (e2:p2=h2*18446744073709551616+l2) (e3:p3=h3*18446744073709551616+l3)
  (f1:l1+h0=c1*18446744073709551616+r1) (f2:l2+h1+c1=c2*18446744073709551616+r2) (f3:l3+h2+c2=c3*18446744073709551616+r3) :
  p0+p1*18446744073709551616+p2*340282366920938463463374607431768211456+p3*6277101735386680763835789423207666416102355444464034512896=l0+r1*18446744073709551616+r2*340282366920938463463374607431768211456+r3*6277101735386680763835789423207666416102355444464034512896+(h3+c3)*115792089237316195423570985008687907853269984665640564039457584007913129639936:=by
 omega
theorem stage2 {a b c d l0 r1 r2 r3 H d1 d2 d3 d4 m1 m2 m3 m4:Nat} (f1:a+l0=d1*18446744073709551616+m1) (f2:b+r1+d1=d2*18446744073709551616+m2) (f3:c+r2+d2=d3*18446744073709551616+m3) (f4:d+r3+d3=d4*18446744073709551616+m4) :
  l0+r1*18446744073709551616+r2*340282366920938463463374607431768211456+r3*6277101735386680763835789423207666416102355444464034512896+H*115792089237316195423570985008687907853269984665640564039457584007913129639936+v4 a b c d =
   m1+m2*18446744073709551616+m3*340282366920938463463374607431768211456+m4*6277101735386680763835789423207666416102355444464034512896+(H+d4)*115792089237316195423570985008687907853269984665640564039457584007913129639936:=by
 unfold v4
 omega
theorem carry_le {x y c q r:Nat} (hx:x<18446744073709551616) (hy:y<18446744073709551616) (hc:c≤1) (h:x+y+c=q*18446744073709551616+r) (hr:r<18446744073709551616):q≤1:=by omega
theorem times_ok {x0 x1 x2 x3 n a b c d:Nat} (h0:x0<18446744073709551616) (h1:x1<18446744073709551616) (h2:x2<18446744073709551616) (h3:x3<18446744073709551616) (hn:n<18446744073709551616)
  (ha:a<18446744073709551616) (hb:b<18446744073709551616) (hc:c<18446744073709551616) (hd:d<18446744073709551616)
  {s1 s2 s3 H k1 k2 k3 k4 e V:Nat}
  (e1:s1=x1*n%18446744073709551616+x0*n / 18446744073709551616)
  (e2:s2=x2*n%18446744073709551616+x1*n / 18446744073709551616+s1 / 18446744073709551616)
  (e3:s3=x3*n%18446744073709551616+x2*n / 18446744073709551616+s2 / 18446744073709551616)
  (e4:H=(x3*n / 18446744073709551616+s3 / 18446744073709551616)%18446744073709551616)
  (f1:k1=a+x0*n%18446744073709551616)
  (f2:k2=b+s1%18446744073709551616+k1 / 18446744073709551616)
  (f3:k3=c+s2%18446744073709551616+k2 / 18446744073709551616)
  (f4:k4=d+s3%18446744073709551616+k3 / 18446744073709551616)
  (f5:e=(H+k4 / 18446744073709551616)%18446744073709551616)
  (hV:V=v4 x0 x1 x2 x3*n+v4 a b c d) :
  (s1 / 18446744073709551616≤1∧s2 / 18446744073709551616≤1∧k1 / 18446744073709551616≤1∧k2 / 18446744073709551616≤1∧k3 / 18446744073709551616≤1)∧
  k1%18446744073709551616=wd 0 V∧k2%18446744073709551616=wd 1 V∧k3%18446744073709551616=wd 2 V∧k4%18446744073709551616=wd 3 V∧e=wd 4 V∧e=V / 115792089237316195423570985008687907853269984665640564039457584007913129639936:=by
 have b0:=hi_lt h0 hn
 have b1:=hi_lt h1 hn
 have b2:=hi_lt h2 hn
 have b3:=hi_lt h3 hn
 have hX:v4 x0 x1 x2 x3*n=x0*n+x1*n*18446744073709551616+x2*n*340282366920938463463374607431768211456+x3*n*6277101735386680763835789423207666416102355444464034512896:=by
  unfold v4
  rw [Nat.add_mul,Nat.add_mul,Nat.add_mul,Nat.mul_right_comm x1,Nat.mul_right_comm x2,Nat.mul_right_comm x3]
 have hbig:v4 x0 x1 x2 x3*n≤115792089237316195423570985008687907853269984665640564039457584007913129639935*18446744073709551615:=Nat.mul_le_mul (by unfold v4; omega) (by omega)
 generalize v4 x0 x1 x2 x3*n=X at *
 generalize x0*n=p0 at *
 generalize x1*n=p1 at *
 generalize x2*n=p2 at *
 generalize x3*n=p3 at *
 obtain ⟨g0,l0,A0,C0,q3,q4⟩:=dm p0
 obtain ⟨g1,l1,A1,C1,q5,q6⟩:=dm p1
 obtain ⟨g2,l2,A2,C2,q7,q8⟩:=dm p2
 obtain ⟨g3,l3,A3,C3,q9,q10⟩:=dm p3
 obtain ⟨c1,r1,A4,C4,u3,u4⟩:=dm s1
 obtain ⟨c2,r2,A5,C5,u5,u6⟩:=dm s2
 obtain ⟨c3,r3,A6,C6,u7,u8⟩:=dm s3
 obtain ⟨d1,m1,A7,C7,u9,u10⟩:=dm k1
 obtain ⟨d2,m2,A8,C8,u11,u12⟩:=dm k2
 obtain ⟨d3,m3,A9,C9,u13,u14⟩:=dm k3
 obtain ⟨d4,m4,A10,C10,u15,u16⟩:=dm k4
 rw [A0] at b0
 rw [A1] at b1
 rw [A2] at b2
 rw [A3] at b3
 rw [C1,A0] at e1
 rw [C2,A1,A4] at e2
 rw [C3,A2,A5] at e3
 rw [A3,A6] at e4
 rw [C0] at f1
 rw [C4,A7] at f2
 rw [C5,A8] at f3
 rw [C6,A9] at f4
 rw [A10] at f5
 rw [A4,A5,A7,A8,A9,C7,C8,C9,C10]
 have i1:l1+g0=c1*18446744073709551616+r1:=e1.symm.trans u3
 have i2:l2+g1+c1=c2*18446744073709551616+r2:=e2.symm.trans u5
 have i3:l3+g2+c2=c3*18446744073709551616+r3:=e3.symm.trans u7
 have j1:a+l0=d1*18446744073709551616+m1:=f1.symm.trans u9
 have j2:b+r1+d1=d2*18446744073709551616+m2:=f2.symm.trans u11
 have j3:c+r2+d2=d3*18446744073709551616+m3:=f3.symm.trans u13
 have j4:d+r3+d3=d4*18446744073709551616+m4:=f4.symm.trans u15
 have w1:c1≤1:=carry_le (c:=0) q6 (by omega) (by omega) i1 u4
 have w2:c2≤1:=carry_le q8 (by omega) w1 i2 u6
 have w3:c3≤1:=carry_le q10 (by omega) w2 i3 u8
 have w4:d1≤1:=carry_le (c:=0) ha q4 (by omega) j1 u10
 have w5:d2≤1:=carry_le hb u4 w4 j2 u12
 have w6:d3≤1:=carry_le hc u6 w5 j3 u14
 have w7:d4≤1:=carry_le hd u8 w6 j4 u16
 have t1:=stage1 q3 q5 q7 q9 i1 i2 i3
 rw [←hX] at t1
 have hH:H=g3+c3:=by rw [e4]; exact Nat.mod_eq_of_lt (by omega)
 have hHb:H≤18446744073709551614:=by
  clear e1 e2 e3 e4 f1 f2 f3 f4 f5 u3 u5 u7 u9 u11 u13 u15 i1 i2 i3 j1 j2 j3 j4 q3 q5 q7 q9 hX hV
  omega
 have hee:e=H+d4:=by rw [f5]; exact Nat.mod_eq_of_lt (by omega)
 have t2:=stage2 (H:=H) j1 j2 j3 j4
 rw [hH] at t2
 rw [←t1] at t2
 have:=digits5 (hV.trans t2) u10 u12 u14 u16 (by omega)
 rw [hee,hH]
 exact ⟨⟨w1,w2,w4,w5,w6⟩,this⟩
end Go.Am.Num
namespace Go.Am.Seat
open Go.Proofs Go.Am Go.Am.Num
set_option maxHeartbeats 4000000
def rml_0:=opR Tryd.f83 [0]
def lml_0:List Oper:=match Tryd.f83.body with
 | some (.seq (.region _ o _) _)=>o.toList
 | _=>[]
theorem eml_0:rml_0.toList=lml_0:=rfl
def rml_1:=opR Tryd.f83 [1,0]
def lml_1:List Oper:=match Tryd.f83.body with
 | some (.seq _ (.seq (.region _ o _) _))=>o.toList
 | _=>[]
theorem eml_1:rml_1.toList=lml_1:=rfl
def rml_2:=opR Tryd.f83 [1,1,0]
def lml_2:List Oper:=match Tryd.f83.body with
 | some (.seq _ (.seq _ (.seq (.region _ o _) _)))=>o.toList
 | _=>[]
theorem eml_2:rml_2.toList=lml_2:=rfl
def rml_3:=opR Tryd.f83 [1,1,1,0]
def lml_3:List Oper:=match Tryd.f83.body with
 | some (.seq _ (.seq _ (.seq _ (.seq (.region _ o _) _))))=>o.toList
 | _=>[]
theorem eml_3:rml_3.toList=lml_3:=rfl
def rml_4:=opR Tryd.f83 [1,1,1,1,0]
def lml_4:List Oper:=match Tryd.f83.body with
 | some (.seq _ (.seq _ (.seq _ (.seq _ (.seq (.region _ o _) _)))))=>o.toList
 | _=>[]
theorem eml_4:rml_4.toList=lml_4:=rfl
def rml_5:=opR Tryd.f83 [1,1,1,1,1,0]
def lml_5:List Oper:=match Tryd.f83.body with
 | some (.seq _ (.seq _ (.seq _ (.seq _ (.seq _ (.seq (.region _ o _) _))))))=>o.toList
 | _=>[]
theorem eml_5:rml_5.toList=lml_5:=rfl
def rml_6:=opR Tryd.f83 [1,1,1,1,1,1,0]
def lml_6:List Oper:=match Tryd.f83.body with
 | some (.seq _ (.seq _ (.seq _ (.seq _ (.seq _ (.seq _ (.seq (.region _ o _) _)))))))=>o.toList
 | _=>[]
theorem eml_6:rml_6.toList=lml_6:=rfl
def rml_7:=opR Tryd.f83 [1,1,1,1,1,1,1,0]
def lml_7:List Oper:=match Tryd.f83.body with
 | some (.seq _ (.seq _ (.seq _ (.seq _ (.seq _ (.seq _ (.seq _ (.seq (.region _ o _) _))))))))=>o.toList
 | _=>[]
theorem eml_7:rml_7.toList=lml_7:=rfl
def rml_8:=opR Tryd.f83 [1,1,1,1,1,1,1,1,0]
def lml_8:List Oper:=match Tryd.f83.body with
 | some (.seq _ (.seq _ (.seq _ (.seq _ (.seq _ (.seq _ (.seq _ (.seq _ (.seq (.region _ o _) _)))))))))=>o.toList
 | _=>[]
theorem eml_8:rml_8.toList=lml_8:=rfl
def rml_9:=opR Tryd.f83 [1,1,1,1,1,1,1,1,1,0]
def lml_9:List Oper:=match Tryd.f83.body with
 | some (.seq _ (.seq _ (.seq _ (.seq _ (.seq _ (.seq _ (.seq _ (.seq _ (.seq _ (.seq (.region _ o _) _))))))))))=>o.toList
 | _=>[]
theorem eml_9:rml_9.toList=lml_9:=rfl
def rml_10:=opR Tryd.f83 [1,1,1,1,1,1,1,1,1,1,0]
def lml_10:List Oper:=match Tryd.f83.body with
 | some (.seq _ (.seq _ (.seq _ (.seq _ (.seq _ (.seq _ (.seq _ (.seq _ (.seq _ (.seq _ (.seq (.region _ o _) _)))))))))))=>o.toList
 | _=>[]
theorem eml_10:rml_10.toList=lml_10:=rfl
def rml_11:=opR Tryd.f83 [1,1,1,1,1,1,1,1,1,1,1,0]
def lml_11:List Oper:=match Tryd.f83.body with
 | some (.seq _ (.seq _ (.seq _ (.seq _ (.seq _ (.seq _ (.seq _ (.seq _ (.seq _ (.seq _ (.seq _ (.seq (.region _ o _) _))))))))))))=>o.toList
 | _=>[]
theorem eml_11:rml_11.toList=lml_11:=rfl
theorem bodyml:Tryd.f83.body=some (.seq (.region 0 rml_0 false) (.seq (.region 1 rml_1 false) (.seq (.region 2 rml_2 false) (.seq (.region 3 rml_3 false) (.seq (.region 4 rml_4 false) (.seq (.region 5 rml_5 false) (.seq (.region 6 rml_6 false) (.seq (.region 7 rml_7 false) (.seq (.region 8 rml_8 false) (.seq (.region 9 rml_9 false) (.seq (.region 10 rml_10 false) (.seq (.region 11 rml_11 false) .ret)))))))))))):=rfl
def rpl_0:=opR Tryd.f96 [0]
def lpl_0:List Oper:=match Tryd.f96.body with
 | some (.seq (.region _ o _) _)=>o.toList
 | _=>[]
theorem epl_0:rpl_0.toList=lpl_0:=rfl
def rpl_1:=opR Tryd.f96 [1,0]
def lpl_1:List Oper:=match Tryd.f96.body with
 | some (.seq _ (.seq (.region _ o _) _))=>o.toList
 | _=>[]
theorem epl_1:rpl_1.toList=lpl_1:=rfl
def rpl_2:=opR Tryd.f96 [1,1,0]
def lpl_2:List Oper:=match Tryd.f96.body with
 | some (.seq _ (.seq _ (.seq (.region _ o _) _)))=>o.toList
 | _=>[]
theorem epl_2:rpl_2.toList=lpl_2:=rfl
def rpl_3:=opR Tryd.f96 [1,1,1,0]
def lpl_3:List Oper:=match Tryd.f96.body with
 | some (.seq _ (.seq _ (.seq _ (.seq (.region _ o _) _))))=>o.toList
 | _=>[]
theorem epl_3:rpl_3.toList=lpl_3:=rfl
def rpl_4:=opR Tryd.f96 [1,1,1,1,0]
def lpl_4:List Oper:=match Tryd.f96.body with
 | some (.seq _ (.seq _ (.seq _ (.seq _ (.seq (.region _ o _) _)))))=>o.toList
 | _=>[]
theorem epl_4:rpl_4.toList=lpl_4:=rfl
theorem bodypl:Tryd.f96.body=some (.seq (.region 0 rpl_0 false) (.seq (.region 1 rpl_1 false) (.seq (.region 2 rpl_2 false) (.seq (.region 3 rpl_3 false) (.seq (.region 4 rpl_4 false) .ret))))):=rfl
def rse_0:=opR Tryd.f81 [0]
def lse_0:List Oper:=match Tryd.f81.body with
 | some (.seq (.region _ o _) _)=>o.toList
 | _=>[]
theorem ese_0:rse_0.toList=lse_0:=rfl
def rse_1:=opR Tryd.f81 [1,0]
def lse_1:List Oper:=match Tryd.f81.body with
 | some (.seq _ (.seq (.region _ o _) _))=>o.toList
 | _=>[]
theorem ese_1:rse_1.toList=lse_1:=rfl
def rse_2:=opR Tryd.f81 [1,1,0]
def lse_2:List Oper:=match Tryd.f81.body with
 | some (.seq _ (.seq _ (.seq (.region _ o _) _)))=>o.toList
 | _=>[]
theorem ese_2:rse_2.toList=lse_2:=rfl
def rse_3:=opR Tryd.f81 [1,1,1,0]
def lse_3:List Oper:=match Tryd.f81.body with
 | some (.seq _ (.seq _ (.seq _ (.seq (.region _ o _) _))))=>o.toList
 | _=>[]
theorem ese_3:rse_3.toList=lse_3:=rfl
def rse_4:=opR Tryd.f81 [1,1,1,1,0]
def lse_4:List Oper:=match Tryd.f81.body with
 | some (.seq _ (.seq _ (.seq _ (.seq _ (.seq (.region _ o _) _)))))=>o.toList
 | _=>[]
theorem ese_4:rse_4.toList=lse_4:=rfl
theorem bodyse:Tryd.f81.body=some (.seq (.region 0 rse_0 false) (.seq (.region 1 rse_1 false) (.seq (.region 2 rse_2 false) (.seq (.region 3 rse_3 false) (.seq (.region 4 rse_4 false) .ret))))):=rfl
def Ans (self:Self) (f:FuncId) (args:List Value) (v:Value):Prop:=∀ M:Mem,ainv E self f args M=some (v,M)
theorem wrapU (x:Nat):wrapF .u64 ((x:Nat):Int)=((x%18446744073709551616:Nat):Int):=by simp only [wrapF]; omega
theorem addN (x y:Nat):abin .add .u64 ((x:Nat):Int) .u64 ((y:Nat):Int)=some (.int .u64 (((x+y)%18446744073709551616:Nat):Int)):=by
 have:abin .add .u64 ((x:Nat):Int) .u64 ((y:Nat):Int)=some (.int .u64 (wrapF .u64 (((x:Nat):Int)+((y:Nat):Int)))):=by kernel_rfl
 rw [this,←Int.natCast_add,wrapU]
theorem mulN (x y:Nat):abin .mul .u64 ((x:Nat):Int) .u64 ((y:Nat):Int)=some (.int .u64 (((x*y)%18446744073709551616:Nat):Int)):=by
 have:abin .mul .u64 ((x:Nat):Int) .u64 ((y:Nat):Int)=some (.int .u64 (wrapF .u64 (((x:Nat):Int)*((y:Nat):Int)))):=by kernel_rfl
 rw [this,←Int.natCast_mul,wrapU]
theorem mul19 (y:Nat):abin .mul .u64 19 .u64 ((y:Nat):Int)=some (.int .u64 (((19*y)%18446744073709551616:Nat):Int)):=mulN 19 y
theorem shr32 (x:Nat):abin .shr .u64 ((x:Nat):Int) .u64 32=some (.int .u64 ((x / 4294967296:Nat):Int)):=shrU (n:=32) (by decide)
theorem shr63 (x:Nat):abin .shr .u64 ((x:Nat):Int) .u64 63=some (.int .u64 ((x / 9223372036854775808:Nat):Int)):=shrU (n:=63) (by decide)
theorem shl1 (x:Nat):abin .shl .u64 ((x:Nat):Int) .u64 1=some (.int .u64 ((x*2%18446744073709551616:Nat):Int)):=shlU (n:=1) (by decide)
theorem and_mask {x k:Nat} (hk:k≤64) (hx:x<18446744073709551616):abin .and .u64 ((x:Nat):Int) .u64 (((2^k-1:Nat)):Int)=some (.int .u64 ((x%2^k:Nat):Int)):=by
 have hb:2^k≤2^64:=Nat.pow_le_pow_right (by decide) hk
 have hpos:0<2^k:=Nat.pow_pos (by decide)
 have e1:(((x:Nat):Int)%18446744073709551616).toNat=x:=by omega
 have e2:((((2^k-1:Nat)):Int)%18446744073709551616).toNat=2^k-1:=by
  generalize 2^k=q at *
  omega
 rw [andU,e1,e2,Nat.and_two_pow_sub_one_eq_mod,wrapU,Nat.mod_eq_of_lt (Nat.lt_of_le_of_lt (Nat.mod_le _ _) hx)]
theorem and32 {x:Nat} (hx:x<18446744073709551616):abin .and .u64 ((x:Nat):Int) .u64 4294967295=some (.int .u64 ((x%4294967296:Nat):Int)):=and_mask (k:=32) (by decide) hx
theorem and63 {x:Nat} (hx:x<18446744073709551616):abin .and .u64 ((x:Nat):Int) .u64 9223372036854775807=some (.int .u64 ((x%9223372036854775808:Nat):Int)):=and_mask (k:=63) (by decide) hx
section
variable {self:Self} {nf:Nat} {m:Mem} {x y:Nat}
theorem ml_body (hx:x<18446744073709551616) (hy:y<18446744073709551616) :
  abody E self nf 83 [.int .u64 (x:Nat),.int .u64 (y:Nat)] m=some (pair64 (x*y / 18446744073709551616) (x*y%18446744073709551616),m):=by
 rw [abody_eqF (by kernel_rfl) Tryd.func83 bodyml (by kernel_rfl) (Nat.le_of_ble_eq_true rfl)]
 rw [show Tryd.f83.ntmps=51 from rfl]
 have a1:=and32 hx
 have a2:=and32 hy
 have a3:∀ t:Nat,abin .and .u64 ((t%18446744073709551616:Nat):Int) .u64 4294967295=some (.int .u64 ((t%18446744073709551616%4294967296:Nat):Int)):=fun t=>and32 (Nat.mod_lt _ (by decide))
 have hm:=mul64_ok hx hy rfl rfl rfl rfl rfl rfl rfl rfl rfl rfl
 simp only [eml_0,eml_1,eml_10,eml_11,eml_2,eml_3,eml_4,eml_5,eml_6,eml_7,eml_8,eml_9,lml_0,lml_1,lml_2,lml_3,lml_4,lml_5,lml_6,lml_7,lml_8,lml_9,lml_10,lml_11,agd_none,Tryd.f83,acodeN,aopsN,astep,aop,ev,nth_lst,aput,setAt_lst,upd_at,init_zero,init_succ,init_nil,Nat.reduceLT,Nat.reduceEqDiff,Option.map_some,if_true,if_false,a1,a2,a3,shr32,mulN,addN,finish,ares,aresL,ares1,hm]
 rfl
end
set_option maxHeartbeats 4000000
def tup4 (a b c d:Nat):Value:=.tuple ⟨[.int .u64 (a:Nat),.int .u64 (b:Nat),.int .u64 (c:Nat),.int .u64 (d:Nat)]⟩
def c4 (a b c d:Nat):List Value:=[.int .u64 (a:Nat),.int .u64 (b:Nat),.int .u64 (c:Nat),.int .u64 (d:Nat)]
def st4 (a b c d:Nat):Value:=.agg ⟨c4 a b c d⟩
def el (V:Nat):Value:=st4 (wd 0 V) (wd 1 V) (wd 2 V) (wd 3 V)
theorem callAdd:callableB E.P 61=false:=by kernel_rfl
theorem extAdd:E.ext 61=some .add64:=by kernel_rfl
theorem callSub:callableB E.P 62=false:=by kernel_rfl
theorem extSub:E.ext 62=some .sub64:=by kernel_rfl
theorem add64C (x y c:Nat) (m:Mem):aext .add64 [.int .u64 (x:Nat),.int .u64 (y:Nat),.int .u64 (c:Nat)] m=if c≤1 then some (pair64 ((x+y+c)%18446744073709551616) ((x+y+c) / 18446744073709551616),m) else none:=by
 simp only [aext,Int.toNat_natCast]
theorem add64O (x y:Nat) (m:Mem):aext .add64 [.int .u64 (x:Nat),.int .u64 (y:Nat),.int .u64 0] m=some (pair64 ((x+y)%18446744073709551616) ((x+y) / 18446744073709551616),m):=by
 rw [show (0:Int)=((0:Nat):Int) from rfl,add64C,if_pos (by decide)]
 rfl
theorem add64Z (x c:Nat) (m:Mem):aext .add64 [.int .u64 (x:Nat),.int .u64 0,.int .u64 (c:Nat)] m=if c≤1 then some (pair64 ((x+c)%18446744073709551616) ((x+c) / 18446744073709551616),m) else none:=by
 rw [show (0:Int)=((0:Nat):Int) from rfl,add64C]
 rfl
theorem ex0 (a b:Nat):aextract (pair64 a b) 0=some (.int .u64 ((a:Nat):Int)):=rfl
theorem ex1 (a b:Nat):aextract (pair64 a b) 1=some (.int .u64 ((b:Nat):Int)):=rfl
theorem ex40 (a b c d:Nat):aextract (tup4 a b c d) 0=some (.int .u64 ((a:Nat):Int)):=rfl
theorem ex41 (a b c d:Nat):aextract (tup4 a b c d) 1=some (.int .u64 ((b:Nat):Int)):=rfl
theorem ex42 (a b c d:Nat):aextract (tup4 a b c d) 2=some (.int .u64 ((c:Nat):Int)):=rfl
theorem ex43 (a b c d:Nat):aextract (tup4 a b c d) 3=some (.int .u64 ((d:Nat):Int)):=rfl
theorem info48:∃ i,E.P.info? 56=some i∧i.size=4:=info_of (by kernel_rfl)
theorem box48 (a b c d:Nat) (m:Mem):abox E.P 56 (st4 a b c d) m=some (.pointer (some ⟨m.length,0,none⟩),m++[.row false 56 (c4 a b c d)]):=by
 obtain ⟨i,h1,_⟩:=info48
 unfold abox st4
 have:(c4 a b c d).all cellOk=true:=rfl
 simp only [h1,vcells,this,if_true]
theorem alloc48 (m:Mem):aalloc E.P 56 m=some (.pointer (some ⟨m.length,0,none⟩),m++[.row false 56 (c4 0 0 0 0)]):=by kernel_rfl
theorem load48 {m:Mem} {p:Nat} {ro:Bool} {a b c d:Nat} {e:TypeId} (h:m[p]? = some (.row ro e (c4 a b c d))):aload E.P 56 (.pointer (some ⟨p,0,none⟩)) m=some (st4 a b c d):=by
 obtain ⟨i,h1,h2⟩:=info48
 have hu:E.P.underlying 56=some (.struct (match E.P.underlying 56 with | some (.struct fs)=>fs | _=>#[])):=by kernel_rfl
 unfold aload
 rw [hu]
 simp only [lookRow h,aggD,h1,h2]
 rfl
theorem store48 {m:Mem} {p:Nat} {a b c d:Nat} {e:TypeId} {cs:List Value} (h:m[p]? = some (.row false e cs)) (hl:cs.length=4):astore E.P 56 (.pointer (some ⟨p,0,none⟩)) (st4 a b c d) m=some (m.set p (.row false e (c4 a b c d))):=by
 obtain ⟨i,h1,h2⟩:=info48
 have hk:(c4 a b c d).all cellOk=true:=rfl
 unfold astore st4
 simp only [h,vcells,hk,if_true,h1,h2]
 rw [if_pos ⟨rfl,by rw [hl]; exact Nat.le_refl _⟩]
 congr 2
 match cs,hl with
 | [_,_,_,_],_=>rfl
theorem fa48_0 (p:Nat):afieldAddr E.P 56 (.pointer (some ⟨p,0,none⟩)) 0=some (.pointer (some ⟨p,0,none⟩)):=by kernel_rfl
theorem fa48_1 (p:Nat):afieldAddr E.P 56 (.pointer (some ⟨p,0,none⟩)) 1=some (.pointer (some ⟨p,1,none⟩)):=by kernel_rfl
theorem fa48_2 (p:Nat):afieldAddr E.P 56 (.pointer (some ⟨p,0,none⟩)) 2=some (.pointer (some ⟨p,2,none⟩)):=by kernel_rfl
theorem fa48_3 (p:Nat):afieldAddr E.P 56 (.pointer (some ⟨p,0,none⟩)) 3=some (.pointer (some ⟨p,3,none⟩)):=by kernel_rfl
theorem cell4 {m:Mem} {p:Nat} {ro:Bool} {a b c d:Nat} {e:TypeId} (h:m[p]? = some (.row ro e (c4 a b c d))) :
  cellAt m p 0=some (.int .u64 ((a:Nat):Int))∧cellAt m p 1=some (.int .u64 ((b:Nat):Int))∧cellAt m p 2=some (.int .u64 ((c:Nat):Int))∧cellAt m p 3=some (.int .u64 ((d:Nat):Int)):=by
 unfold cellAt
 rw [look_row h]
 exact ⟨rfl,rfl,rfl,rfl⟩
def apB4 (P:Program) (t ty:TypeId) (a b c d:Value):Option Value:=apure P [a,b,c,d] { dst:=none,op:=.build t #[(0,.tmp 0),(1,.tmp 1),(2,.tmp 2),(3,.tmp 3)],type:=ty,pos := "",after:=#[],guard:=none }
theorem apure_build4 {P:Program} {T:List Value} {t ty:TypeId} {a b c d:Nat} {pos:String} {af:Array Edge} {gu:Option (Nat×Bool)} {dd:Option Tmp} :
  apure P T { dst:=dd,op:=.build t #[(0,.tmp a),(1,.tmp b),(2,.tmp c),(3,.tmp d)],type:=ty,pos:=pos,after:=af,guard:=gu }=apB4 P t ty (nth T a) (nth T b) (nth T c) (nth T d):=by
 unfold apB4 apure
 simp [Op.operands,execOp,ev,nth_zero,nth_succ]
theorem build48 (a b c d:Nat):apB4 E.P 56 56 (.int .u64 (a:Nat)) (.int .u64 (b:Nat)) (.int .u64 (c:Nat)) (.int .u64 (d:Nat))=some (st4 a b c d):=by kernel_rfl
theorem build87 (a b c d:Nat):apB4 E.P 84 84 (.int .u64 (a:Nat)) (.int .u64 (b:Nat)) (.int .u64 (c:Nat)) (.int .u64 (d:Nat))=some (st4 a b c d):=by kernel_rfl
theorem ans_of {self:Self} {f:FuncId} {args:List Value} {v:Value} (ha:args.all lit2=true) (hf:E.fast f=none) (hv:lit2 v=true) (h:∀ m,∃ m',self f args m=some (v,m')):Ans self f args v:=by
 intro M
 obtain ⟨m',h'⟩:=h ((M.take E.G).map onlyTab)
 exact ainv_lit ha hf h' hv
section
variable {self:Self} {nf:Nat} {m:Mem} {V n a b c d more:Nat}
theorem pl_body (hn:n<18446744073709551616):abody E self nf 96 [.int .u64 (wd 0 V:Nat),.int .u64 (wd 1 V:Nat),.int .u64 (wd 2 V:Nat),.int .u64 (wd 3 V:Nat),.int .u64 (n:Nat)] m=some (tup4 (wd 0 (V+n)) (wd 1 (V+n)) (wd 2 (V+n)) (wd 3 (V+n)),m):=by
 rw [abody_eqF (by kernel_rfl) Tryd.func96 bodypl (by kernel_rfl) (Nat.le_of_ble_eq_true rfl)]
 rw [show Tryd.f96.ntmps=39 from rfl]
 have l0:=wd_lt 0 V
 have l1:=wd_lt 1 V
 have l2:=wd_lt 2 V
 obtain ⟨h0,h1,h2,h3⟩:=plus_ok V n
 rw [←h0,←h1,←h2,←h3]
 clear h0 h1 h2 h3
 have q1:(wd 0 V+n) / 18446744073709551616≤1:=by omega
 have q2:(wd 1 V+(wd 0 V+n) / 18446744073709551616) / 18446744073709551616≤1:=by omega
 generalize wd 0 V=w0 at *
 generalize wd 1 V=w1 at *
 generalize wd 2 V=w2 at *
 generalize wd 3 V=w3 at *
 simp only [epl_0,epl_1,epl_2,epl_3,epl_4,lpl_0,lpl_1,lpl_2,lpl_3,lpl_4,agd_none,Tryd.f96,acodeN,aopsN,astep,aop,ev,nth_lst,aput,setAt_lst,upd_at,init_zero,init_succ,init_nil,Nat.reduceLT,Nat.reduceEqDiff,Option.map_some,List.map_cons,List.map_nil,List.isEmpty_nil,bls,if_true,if_false,callAdd,extAdd,add64O,add64Z,ex0,ex1,q1,q2,addN,finish,ares,aresL,ares1]
 rfl
theorem or2 {x y:Nat} (hx:x<4294967296) (hy:y≤1):abin .or .u64 ((x*2%18446744073709551616:Nat):Int) .u64 ((y:Nat):Int)=some (.int .u64 ((2*x+y:Nat):Int)):=by
 rw [orN (by omega) (by omega),Nat.mod_eq_of_lt (by omega),Nat.mul_comm x 2]
 have:=Nat.two_pow_add_eq_or_of_lt (i:=1) (b:=y) (by omega) x
 rw [show 2^1=2 from rfl] at this
 rw [←this]
def P25519:Nat:=57896044618658097711785492504343953926634992332820282019728792003956564819949
theorem callPl:callableB E.P 96=true:=by kernel_rfl
theorem se_body (ha:a<18446744073709551616) (hb:b<18446744073709551616) (hc:c<18446744073709551616) (hd:d<18446744073709551616) (hm:more<4294967296)
  (hp:∀ V n,n<18446744073709551616→Ans self 96 [.int .u64 (wd 0 V:Nat),.int .u64 (wd 1 V:Nat),.int .u64 (wd 2 V:Nat),.int .u64 (wd 3 V:Nat),.int .u64 (n:Nat)] (tup4 (wd 0 (V+n)) (wd 1 (V+n)) (wd 2 (V+n)) (wd 3 (V+n)))) :
  ∃ m',abody E self nf 81 [.int .u64 (a:Nat),.int .u64 (b:Nat),.int .u64 (c:Nat),.int .u64 (d:Nat),.int .u64 (more:Nat)] m=some (el ((v4 a b c d+more*115792089237316195423570985008687907853269984665640564039457584007913129639936)%P25519),m'):=by
 rw [abody_eqF (by kernel_rfl) Tryd.func81 bodyse (by kernel_rfl) (Nat.le_of_ble_eq_true rfl)]
 rw [show Tryd.f81.ntmps=61 from rfl]
 have b1:=alloc48 m
 have gp:(m++[Blk.row false 56 (c4 0 0 0 0)])[m.length]? = some (.row false 56 (c4 0 0 0 0)):=by simp
 generalize hM:m++[Blk.row false 56 (c4 0 0 0 0)]=M at b1 gp
 have hdd:d%9223372036854775808<18446744073709551616:=by omega
 have hq:d / 9223372036854775808≤1:=by omega
 have ho:=or2 hm hq
 have hn1:19*(2*more+d / 9223372036854775808)%18446744073709551616=19*(2*more+d / 9223372036854775808):=Nat.mod_eq_of_lt (by omega)
 have a1:=and63 hd
 obtain ⟨S,hS⟩:∃ S,S=v4 a b c (d%9223372036854775808)+19*(2*more+d / 9223372036854775808):=⟨_,rfl⟩
 obtain ⟨w0,w1,w2,w3⟩:=wd_v4 ha hb hc hdd
 have c1:=hp (v4 a b c (d%9223372036854775808)) (19*(2*more+d / 9223372036854775808)) (by omega)
 rw [w0,w1,w2,w3,←hS] at c1
 have c2:=hp S 19 (by omega)
 rw [show (((19:Nat)):Int)=19 from rfl] at c2
 have hT:wd 3 (S+19) / 9223372036854775808≤1:=by have:=wd_lt 3 (S+19); omega
 have hn2:19*(wd 3 (S+19) / 9223372036854775808)%18446744073709551616=19*(wd 3 (S+19) / 9223372036854775808):=Nat.mod_eq_of_lt (by omega)
 obtain ⟨R,hR⟩:∃ R,R=S+19*(wd 3 (S+19) / 9223372036854775808):=⟨_,rfl⟩
 have c3:=hp S (19*(wd 3 (S+19) / 9223372036854775808)) (by omega)
 rw [←hR] at c3
 have a2:=and63 (wd_lt 3 R)
 obtain ⟨r0,r1,r2,r3⟩:=settle_ok ha hb hc hd hm rfl hS hR
 unfold el P25519
 rw [←r0,←r1,←r2,←r3]
 have st:=store48 (a:=wd 0 R) (b:=wd 1 R) (c:=wd 2 R) (d:=wd 3 R%9223372036854775808) gp rfl
 have ld:=load48 (p:=m.length) (a:=wd 0 R) (b:=wd 1 R) (c:=wd 2 R) (d:=wd 3 R%9223372036854775808) (m:=M.set m.length (.row false 56 (c4 (wd 0 R) (wd 1 R) (wd 2 R) (wd 3 R%9223372036854775808)))) (by rw [List.getElem?_set_self (lt_of_at gp)])
 clear r0 r1 r2 r3 w0 w1 w2 w3 hp hM
 unfold Ans at c1 c2 c3
 clear hS hR
 generalize wd 0 S=S0 at *
 generalize wd 1 S=S1 at *
 generalize wd 2 S=S2 at *
 generalize wd 3 S=S3 at *
 generalize wd 3 (S+19)=T3 at *
 generalize wd 0 R=R0 at *
 generalize wd 1 R=R1 at *
 generalize wd 2 R=R2 at *
 generalize wd 3 R=R3 at *
 simp only [ese_0,ese_1,ese_2,ese_3,ese_4,lse_0,lse_1,lse_2,lse_3,lse_4,agd_none,Tryd.f81,List.cons_append,List.nil_append,acodeN,aopsN,astep,aop,ev,nth_lst,aput,setAt_lst,upd_at,init_zero,init_succ,init_nil,Nat.reduceLT,Nat.reduceEqDiff,Option.map_some,List.map_cons,List.map_nil,List.isEmpty_nil,bls,if_true,if_false,b1,a1,shl1,shr63,ho,mul19,hn1,callPl,c1,ex40,ex41,ex42,ex43,c2,hn2,c3,a2,apure_build4,build48,st,ld,finish,ares,aresL,ares1]
 exact ⟨_,rfl⟩
end
end Go.Am.Seat
