import Derived.Test.YtcnhakfmnkegcaaDoorGrFieldParses35
import Derived.Test.YtcnhakfmnkegcaaDoorGrFieldParses33
import Derived.Test.YtcnhakfmnkegcaaDoorGrFieldParses32
import Derived.Test.YtcnhakfmnkegcaaDoorGrFieldParses14
import Derived.Test.YtcnhakfmnkegcaaDoorGrFieldParses26
set_option linter.unusedSimpArgs false
set_option linter.unusedVariables false
noncomputable section
set_option maxRecDepth 100000
namespace Go.Am.Seat
open Go.Proofs Go.Am Go.Am.Num
set_option maxHeartbeats 4000000
def KB:List Fact:=[awakeF5]
theorem KB_hold (F:Fact) (h:F∈KB):F.holds E.P mem5:=by
 simp only [KB,List.mem_cons,List.not_mem_nil,or_false] at h
 subst h
 exact awake05
theorem noF_KB:NoF KB:=by
 have h:(fieldFs.all fun f => !hasF KB f)=true:=by kernel_rfl
 intro f hf
 have:=List.all_eq_true.1 h f hf
 simpa using this
theorem awake5_call (x:Mem):ainv E (runK E mem5 KB 2000) 30 [] (mem5++x)=some (.bool true,mem5++x):=by
 have h:runK E mem5 KB 2000 30 [] mem5=some (.bool true,mem5):=by kernel_rfl
 exact ainv_lit rfl (by kernel_rfl) (by rw [show ((mem5++x).take E.G).map onlyTab=mem5 from rfl]; exact h) rfl
def fn8 (l:List Int) (i:Nat):Nat:=(l.getD i 0).toNat
theorem wf_u8 {n:Int} (h:(Lit.int .u8 n).wf=true):0≤n∧n<256:=by
 unfold Lit.wf at h
 simp only [Bool.and_eq_true,decide_eq_true_eq] at h
 have h1:IntKind.u8.min=0:=by decide
 have h2:IntKind.u8.max=255:=by decide
 rw [h1,h2] at h
 omega
theorem fn8_lt {l:List Int} (h:∀ n,n∈l→(Lit.int .u8 n).wf=true) (i:Nat):fn8 l i<256:=by
 unfold fn8
 by_cases hi:i<l.length
 ·have:=wf_u8 (h l[i] (List.getElem_mem hi))
  simp only [List.getD_eq_getElem?_getD,List.getElem?_eq_getElem hi,Option.getD_some]
  omega
 ·rw [List.getD_eq_getElem?_getD,List.getElem?_eq_none (by omega)]
  decide
theorem bytes_arr {l:List Int} (hl:l.length=32) (h:∀ n,n∈l→(Lit.int .u8 n).wf=true):Value.agg ⟨l.map (Value.int .u8)⟩=arrK .u8 32 (fn8 l):=by
 unfold arrK
 congr 2
 apply List.ext_getElem?
 intro j
 by_cases hj:j<32
 ·have hg:l[j]? = some l[j]:=by simp [hl,hj]
  rw [rowK_get hj,List.getElem?_map,hg]
  have:=wf_u8 (h l[j] (by simp))
  unfold fn8
  rw [List.getD_eq_getElem?_getD,hg]
  show some (Value.int .u8 l[j])=some (Value.int .u8 ((l[j].toNat:Nat):Int))
  rw [Int.toNat_of_nonneg this.1]
 ·rw [List.getElem?_eq_none (by rw [List.length_map,hl]; omega),List.getElem?_eq_none (by rw [rowK_length]; omega)]
def KT5 (m:Mem):Prop:=E.G≤m.length∧(m.take E.G).map onlyTab=mem5
theorem KT5.on {m m':Mem} (h:KT5 m) (hk:Kept m m'):KT5 m':=by
 refine ⟨Nat.le_trans h.1 hk.1,?_⟩
 rw [←h.2]
 congr 1
 apply List.ext_getElem?
 intro k
 rw [List.getElem?_take,List.getElem?_take]
 by_cases h1:k<E.G
 ·rw [if_pos h1,if_pos h1,hk.2 k (by have:=h.1; omega)]
 ·rw [if_neg h1,if_neg h1]
theorem callZeF:callableB E.P 33=true:=by kernel_rfl
section
variable {self:Self} {nf:Nat} {m:Mem} {F:Nat→Value} {px py X Y n:Nat} {u v:Value}
end
end Go.Am.Seat
namespace Go.Am.Seat
open Go.Proofs Go.Am Go.Am.Num Go.Am.Kn
theorem ofdc_0:rfdc_0.toList=[⟨some 2,.alloc 56,0,"field.go:27",#[],none⟩]:=rfl
theorem ofdc_1:rfdc_1.toList=[⟨some 9,.move (.tmp 0),9,"field.go:29",#[],none⟩,⟨some 10,.call { callee:=.value (.func 24),args:=#[.tmp 9],argTypes:=#[9] },45,"field.go:29",#[eD 0],none⟩,⟨some 8,.move (.tmp 10),45,"field.go:29",#[eD 1],none⟩,⟨some 11,.extract (.tmp 8) 0,24,"field.go:29",#[eD 2],none⟩,⟨some 12,.extract (.tmp 8) 1,39,"field.go:29",#[eD 2,{ on:=6,ground:=Ground.gcOnly Departure.lateStores }],none⟩,⟨some 3,.alloc 24,0,"field.go:29",#[],none⟩,⟨none,.store 24 (.tmp 3) (.tmp 11),0,"field.go:29",#[eD 5,eD 3,eC 1,eP 0,eP 1,eP 2,eP 3,{ on:=4,ground:=Ground.textOnly Departure.lateStores },eP 5],none⟩,⟨some 4,.assign (.tmp 12),39,"field.go:29",#[eD 4,eC 6,eP 0,eP 1,eP 2,eP 3,eP 4,eP 5,eP 6],none⟩]:=rfl
theorem ofdc_2:rfdc_2.toList=[⟨some 14,.load 24 (.tmp 3),24,"field.go:30",#[],none⟩,⟨some 15,.load 24 (Operand.global 0),24,"field.go:30",#[],none⟩,⟨some 16,.call { callee:=.value (.func 21),args:=#[.tmp 14,.tmp 15],argTypes:=#[24,24] },40,"field.go:30",#[eD 0,eD 1],none⟩,⟨some 13,.move (.tmp 16),40,"field.go:30",#[eD 2],none⟩,⟨some 17,.extract (.tmp 13) 0,24,"field.go:30",#[eD 3],none⟩,⟨some 18,.extract (.tmp 13) 1,24,"field.go:30",#[eD 3,{ on:=9,ground:=Ground.gcOnly Departure.lateStores }],none⟩,⟨some 19,.extract (.tmp 13) 2,39,"field.go:30",#[eD 3,{ on:=10,ground:=Ground.gcOnly Departure.lateStores }],none⟩,⟨some 5,.alloc 24,0,"field.go:30",#[],none⟩,⟨some 6,.alloc 24,0,"field.go:30",#[],none⟩,⟨none,.store 24 (.tmp 5) (.tmp 17),0,"field.go:30",#[eD 7,eD 4,eC 2,eP 0,eP 1,eP 2,eP 3,eP 4,{ on:=5,ground:=Ground.textOnly Departure.lateStores },{ on:=6,ground:=Ground.textOnly Departure.lateStores },eP 7,eP 8],none⟩,⟨none,.store 24 (.tmp 6) (.tmp 18),0,"field.go:30",#[eD 8,eD 5,eC 9,eP 0,eP 1,eP 2,eP 3,eP 4,eP 5,{ on:=6,ground:=Ground.textOnly Departure.lateStores },eP 7,eP 8,eP 9],none⟩,⟨some 7,.assign (.tmp 19),39,"field.go:30",#[eD 6,eC 10,eP 0,eP 1,eP 2,eP 3,eP 4,eP 5,eP 6,eP 7,eP 8,eP 9,eP 10],none⟩]:=rfl
theorem ofdc_3:rfdc_3.toList=[⟨some 20,.indexAddr 24 (.tmp 6) (.const (.int .i64 0)),0,"field.go:31",#[],none⟩,⟨some 21,.load 22 (.tmp 20),22,"field.go:31",#[eD 0],none⟩,⟨some 22,.indexAddr 24 (.tmp 6) (.const (.int .i64 1)),0,"field.go:31",#[],none⟩,⟨some 23,.load 22 (.tmp 22),22,"field.go:31",#[eD 2],none⟩,⟨some 24,.indexAddr 24 (.tmp 6) (.const (.int .i64 2)),0,"field.go:31",#[],none⟩,⟨some 25,.load 22 (.tmp 24),22,"field.go:31",#[eD 4],none⟩,⟨some 26,.indexAddr 24 (.tmp 6) (.const (.int .i64 3)),0,"field.go:31",#[],none⟩,⟨some 27,.load 22 (.tmp 26),22,"field.go:31",#[eD 6],none⟩,⟨some 28,.build 56 #[(0,.tmp 21),(1,.tmp 23),(2,.tmp 25),(3,.tmp 27)],56,"field.go:31",#[eD 1,eD 3,eD 5,eD 7],none⟩,⟨none,.store 56 (.tmp 2) (.tmp 28),0,"field.go:31",#[eD 8,eP 0,eP 1,eP 2,eP 3,eP 4,eP 5,eP 6,eP 7,eP 8],none⟩]:=rfl
theorem callDecW:callableB E.P 24=true:=by kernel_rfl
theorem callDivW9:callableB E.P 21=true:=by kernel_rfl
theorem prime_row:int64s primeW=rowOf (wN P25519):=by kernel_rfl
theorem exP0 (a b c:Value):aextract (.tuple ⟨[a,b,c]⟩) 0=some a:=rfl
theorem exP1 (a b c:Value):aextract (.tuple ⟨[a,b,c]⟩) 1=some b:=rfl
theorem exP2 (a b c:Value):aextract (.tuple ⟨[a,b,c]⟩) 2=some c:=rfl
theorem load_prime {m:Mem} (h:TabP m):aload E.P 24 (.pointer (some ⟨0,0,none⟩)) m=some (wdK P25519):=by
 have hlk:look m 0=some (true,24,rowOf (wN P25519)):=by
  unfold look
  rw [h,prime_row]
  rfl
 obtain ⟨i,h1,h2⟩:=info24
 unfold aload
 simp only [hlk,und24,aggD,h1,h2]
 rw [if_pos (by rw [rowOf_length]; omega),List.drop_zero,List.take_of_length_le (by rw [rowOf_length]; omega)]
 rfl
def decN (l:List Nat):Nat:=if decOk l=true then (if decV l<W8 then decV l else 0) else 0
def decE (l:List Nat):Int:=if decOk l=true then (if decV l<W8 then 0 else 7) else 4
theorem decAns_is (l:List Nat):decAns l=.tuple ⟨[wdK (decN l),.int .i64 (decE l)]⟩:=by
 unfold decAns decN decE
 split
 ·split<;>rfl
 ·rfl
theorem decN_lt (l:List Nat):decN l<W8:=by
 unfold decN
 split
 ·split
  ·assumption
  ·exact W8_pos
 ·exact W8_pos
theorem p_W8:P25519<W8:=by unfold W8; decide +kernel
section
variable {self:Self} {nf:Nat} {m:Mem} {F:Nat→Value} {s:ByteArray} {r x y z:Nat} {w v o l:Nat→Nat}
theorem fdc_0 {m1:Mem} (ha:aalloc E.P 56 m=some (.pointer (some ⟨r,0,none⟩),m1)):∃ F',acodeN E self nf (.region 0 rfdc_0 false) (lst F 29) m=some (.normal,lst F' 29,m1)∧F' 2=.pointer (some ⟨r,0,none⟩)∧F' 0=F 0:=by
 simp only [ofdc_0,agd_none,gdAt,gdV_bool,gdV_undef,List.append_eq,List.cons_append,List.nil_append,apure_call1,apure_call2,apure_call3,bft,btf,acodeN,List.getElem?_toArray,List.getElem?_cons_zero,List.getElem?_cons_succ,aopsN,adrawT,cls,astep,aop,afloat,ev,nth_lst,get_lst,aput,setAt_lst,upd_at,init_zero,init_succ,init_nil,Nat.reduceLT,Nat.reduceEqDiff,reduceIte,abuiltin,alen,Option.map_some,Option.map_none,orElse_some,apure_add,apure_eqlV,eqlVal_str,eqlVal_bool,eqlVal_ptr,eqlVal_slice,eqlVal_wide,eqlVal_int,allT,↓aop_eqlV,apure_neq,List.map_cons,List.map_nil,List.all_cons,List.all_nil,lit2,lit1,lit0,List.isEmpty_nil,bls,Bool.false_eq_true,if_true,if_false,List.length_map,beq_self_eq_true,uns,ha]
 exact ⟨_,rfl,rfl,rfl⟩
theorem fdc_1 {m1 m2:Mem} {e:Int} (h0:F 0=.string s) (hc:ainv E self 24 [.string s] m=some (.tuple ⟨[wide w,.int .i64 e]⟩,m)) (ha:aalloc E.P 24 m=some (.pointer (some ⟨x,0,none⟩),m1)) (st:astore E.P 24 (.pointer (some ⟨x,0,none⟩)) (wide w) m1=some m2) :
  ∃ F',acodeN E self nf (.region 1 rfdc_1 false) (lst F 29) m=some (.normal,lst F' 29,m2)∧F' 3=.pointer (some ⟨x,0,none⟩)∧F' 2=F 2:=by
 simp only [ofdc_1,agd_none,gdAt,gdV_bool,gdV_undef,List.append_eq,List.cons_append,List.nil_append,apure_call1,apure_call2,apure_call3,bft,btf,acodeN,List.getElem?_toArray,List.getElem?_cons_zero,List.getElem?_cons_succ,aopsN,adrawT,cls,astep,aop,afloat,ev,nth_lst,get_lst,aput,setAt_lst,upd_at,init_zero,init_succ,init_nil,Nat.reduceLT,Nat.reduceEqDiff,reduceIte,abuiltin,alen,Option.map_some,Option.map_none,orElse_some,apure_add,apure_eqlV,eqlVal_str,eqlVal_bool,eqlVal_ptr,eqlVal_slice,eqlVal_wide,eqlVal_int,allT,↓aop_eqlV,apure_neq,List.map_cons,List.map_nil,List.all_cons,List.all_nil,lit2,lit1,lit0,List.isEmpty_nil,bls,Bool.false_eq_true,if_true,if_false,List.length_map,beq_self_eq_true,uns,h0,callDecW,hc,ha,st,exW0,exW1]
 exact ⟨_,rfl,rfl,rfl⟩
theorem fdc_2 {m1 m2 m3 m4:Mem} {e:Int} (h3:F 3=.pointer (some ⟨x,0,none⟩)) (ld:aload E.P 24 (.pointer (some ⟨x,0,none⟩)) m=some (wide w)) (ld2:aload E.P 24 (.pointer (some ⟨0,0,none⟩)) m=some (wide v)) (hc:∀ M,ainv E self 21 [wide w,wide v] M=some (.tuple ⟨[wide o,wide l,.int .i64 e]⟩,M)) (ha:aalloc E.P 24 m=some (.pointer (some ⟨y,0,none⟩),m1)) (ha2:aalloc E.P 24 m1=some (.pointer (some ⟨z,0,none⟩),m2)) (st:astore E.P 24 (.pointer (some ⟨y,0,none⟩)) (wide o) m2=some m3) (st2:astore E.P 24 (.pointer (some ⟨z,0,none⟩)) (wide l) m3=some m4) :
  ∃ F',acodeN E self nf (.region 2 rfdc_2 false) (lst F 29) m=some (.normal,lst F' 29,m4)∧F' 6=.pointer (some ⟨z,0,none⟩)∧F' 2=F 2:=by
 simp only [ofdc_2,agd_none,gdAt,gdV_bool,gdV_undef,List.append_eq,List.cons_append,List.nil_append,apure_call1,apure_call2,apure_call3,bft,btf,acodeN,List.getElem?_toArray,List.getElem?_cons_zero,List.getElem?_cons_succ,aopsN,adrawT,cls,astep,aop,afloat,ev,nth_lst,get_lst,aput,setAt_lst,upd_at,init_zero,init_succ,init_nil,Nat.reduceLT,Nat.reduceEqDiff,reduceIte,abuiltin,alen,Option.map_some,Option.map_none,orElse_some,apure_add,apure_eqlV,eqlVal_str,eqlVal_bool,eqlVal_ptr,eqlVal_slice,eqlVal_wide,eqlVal_int,allT,↓aop_eqlV,apure_neq,List.map_cons,List.map_nil,List.all_cons,List.all_nil,lit2,lit1,lit0,List.isEmpty_nil,bls,Bool.false_eq_true,if_true,if_false,List.length_map,beq_self_eq_true,uns,h3,ld,ld2,callDivW9,hc,ha,ha2,st,st2,exP0,exP1,exP2]
 exact ⟨_,rfl,rfl,rfl⟩
theorem fdc_3 {m1:Mem} {a b c d:Nat} (h2:F 2=.pointer (some ⟨r,0,none⟩)) (h6:F 6=.pointer (some ⟨z,0,none⟩)) (c0:cellAt m z 0=some (U a)) (c1:cellAt m z 1=some (U b)) (c2:cellAt m z 2=some (U c)) (c3:cellAt m z 3=some (U d)) (st:astore E.P 56 (.pointer (some ⟨r,0,none⟩)) (st4 a b c d) m=some m1) :
  ∃ F',acodeN E self nf (.region 3 rfdc_3 false) (lst F 29) m=some (.normal,lst F' 29,m1)∧F' 2=.pointer (some ⟨r,0,none⟩):=by
 have i0:=ix24 (p:=z) (k:=0) (by omega)
 have i1:=ix24 (p:=z) (k:=1) (by omega)
 have i2:=ix24 (p:=z) (k:=2) (by omega)
 have i3:=ix24 (p:=z) (k:=3) (by omega)
 rw [show (((0:Nat):Int))=0 from rfl] at i0
 rw [show (((1:Nat):Int))=1 from rfl] at i1
 rw [show (((2:Nat):Int))=2 from rfl] at i2
 rw [show (((3:Nat):Int))=3 from rfl] at i3
 simp only [ofdc_3,agd_none,gdAt,gdV_bool,gdV_undef,List.append_eq,List.cons_append,List.nil_append,apure_call1,apure_call2,apure_call3,bft,btf,acodeN,List.getElem?_toArray,List.getElem?_cons_zero,List.getElem?_cons_succ,aopsN,adrawT,cls,astep,aop,afloat,ev,nth_lst,get_lst,aput,setAt_lst,upd_at,init_zero,init_succ,init_nil,Nat.reduceLT,Nat.reduceEqDiff,reduceIte,abuiltin,alen,Option.map_some,Option.map_none,orElse_some,apure_add,apure_eqlV,eqlVal_str,eqlVal_bool,eqlVal_ptr,eqlVal_slice,eqlVal_wide,eqlVal_int,allT,↓aop_eqlV,apure_neq,List.map_cons,List.map_nil,List.all_cons,List.all_nil,lit2,lit1,lit0,List.isEmpty_nil,bls,Bool.false_eq_true,if_true,if_false,List.length_map,beq_self_eq_true,uns,h2,h6,i0,i1,i2,i3,load22,c0,c1,c2,c3,apure_build4,build48,st]
 exact ⟨_,rfl,by simp only [upd_at,Nat.reduceEqDiff,reduceIte,h2]⟩
theorem fdc_body (hdc:CDecW self) (hdv:CDivW self) (hs:s.data.toList.length≤390) (hG:E.G≤m.length) (hT:TabP m):∃ m',abody E self nf 35 [.string s] m=some (el (decN (natsOf s)%P25519),m'):=by
 rw [abody_eqF (by kernel_rfl) Tryd.func35 bodyfdc (by kernel_rfl) (Nat.le_of_ble_eq_true rfl)]
 rw [show Tryd.f35.ntmps=29 from rfl]
 obtain ⟨A,ra,a2,a0⟩:=fdc_0 (self:=self) (nf:=nf) (F:=init [.string s]) (alloc48 m)
 obtain ⟨M,hM⟩:∃ M,M=m++[Blk.row false 56 (c4 0 0 0 0)]:=⟨_,rfl⟩
 rw [←hM] at ra
 have k0:Kept m M:=by rw [hM]; exact Kept.app _ _
 have gr:M[m.length]? = some (.row false 56 (c4 0 0 0 0)):=by rw [hM,List.getElem?_append_right (Nat.le_refl _)]; simp
 clear hM
 have hd:=hdc s hs M (Nat.le_trans hG k0.1)
 rw [decAns_is] at hd
 have hN:=decN_lt (natsOf s)
 generalize decN (natsOf s)=V at *
 have ha:=alloc24 M
 have g1:(M++[Blk.row false 24 (rowOf fun _=>0)])[M.length]? = some (.row false 24 (rowOf fun _=>0)):=by rw [List.getElem?_append_right (Nat.le_refl _)]; simp
 have st1:=store24 (w:=wN V) g1 (rowOf_length _)
 obtain ⟨B,rb,b3,b2⟩:=fdc_1 (self:=self) (nf:=nf) (F:=A) a0 hd ha st1
 obtain ⟨M1,hM1⟩:∃ M1,M1=(M++[Blk.row false 24 (rowOf fun _=>0)]).set M.length (.row false 24 (rowOf (wN V))):=⟨_,rfl⟩
 rw [←hM1] at rb
 have k1:Kept M M1:=by
  rw [hM1]
  exact ⟨by simp,fun k hk=>by rw [List.getElem?_set_ne (by omega),List.getElem?_append_left hk]⟩
 have gx:M1[M.length]? = some (.row false 24 (rowOf (wN V))):=by rw [hM1,List.getElem?_set_self (lt_of_at g1)]
 have l1:M1.length=M.length+1:=by rw [hM1]; simp
 clear hM1 st1 g1 ha
 have hTP:M1[0]? = some (.tab 24 (int64s primeW)):=by
  have h1:=(List.getElem?_eq_some_iff.1 hT).1
  rw [k1.2 _ (Nat.lt_of_lt_of_le h1 k0.1),k0.2 _ h1]
  exact hT
 have hp0:(P25519:Nat)≠0:=by decide
 have hdv1:=hdv V P25519 hN p_W8
 rw [if_neg hp0] at hdv1
 obtain ⟨e1,e2,e3,M2,ha1,ha2,s1,s2,g5,g6,low,_⟩:=two_more (m:=M) l1 (wN (V / P25519)) (wN (V%P25519))
 obtain ⟨C,rc,c6,c2⟩:=fdc_2 (self:=self) (nf:=nf) (F:=B) b3 (load24 gx) (load_prime hTP) hdv1 ha1 ha2 s1 s2
 have cell:∀ j,j<8→cellAt M2 (M.length+1+1) j=some (U (wN (V%P25519) j)):=fun j hj=>by rw [cellAt_row g6,rowOf_get hj]
 have gr2:M2[m.length]? = some (.row false 56 (c4 0 0 0 0)):=by
  have h1:=(List.getElem?_eq_some_iff.1 gr).1
  rw [low _ (by omega),k1.2 _ h1]
  exact gr
 have st:=store48 (a:=wN (V%P25519) 0) (b:=wN (V%P25519) 1) (c:=wN (V%P25519) 2) (d:=wN (V%P25519) 3) gr2 rfl
 obtain ⟨D,rd,d2⟩:=fdc_3 (self:=self) (nf:=nf) (F:=C) (c2.trans (b2.trans a2)) c6 (cell 0 (by omega)) (cell 1 (by omega)) (cell 2 (by omega)) (cell 3 (by omega)) st
 have ld:aload E.P 56 (.pointer (some ⟨m.length,0,none⟩)) (M2.set m.length (.row false 56 (c4 (wN (V%P25519) 0) (wN (V%P25519) 1) (wN (V%P25519) 2) (wN (V%P25519) 3))))=some (el (V%P25519)):=load48 (ro:=false) (e:=56) (by rw [List.getElem?_set_self (lt_of_at gr2)]; rfl)
 refine ⟨M2.set m.length (.row false 56 (c4 (wN (V%P25519) 0) (wN (V%P25519) 1) (wN (V%P25519) 2) (wN (V%P25519) 3))),?_⟩
 clear st cell hdv1
 generalize M2.set m.length (.row false 56 (c4 (wN (V%P25519) 0) (wN (V%P25519) 1) (wN (V%P25519) 2) (wN (V%P25519) 3)))=M9 at *
 generalize el (V%P25519)=eV at *
 generalize Code.region 0 rfdc_0 false=C0 at *
 generalize Code.region 1 rfdc_1 false=C1 at *
 generalize Code.region 2 rfdc_2 false=C2 at *
 generalize Code.region 3 rfdc_3 false=C3 at *
 simp only [acodeN,ra,rb,rc,rd,finish,ares,aresL,ares1,Tryd.f35,ev,nth_lst,Nat.reduceLT,if_true,d2,ld,Option.map_some]
end
def CFd (self:Self):Prop:=∀ (M:Mem) (s:ByteArray),KT5 M→s.data.toList.length≤390→ainv E self 35 [.string s] M=some (el (decN (natsOf s)%P25519),M)
theorem kFd {R:Nat→Self} {K:List Fact} (hR:Runs R K) (hK:NoL K) {n:Nat} (h0:hasF K 35=false) (h1:hasF K 24=false) (h2:hasF K 49=false) (h3:hasF K 48=false) (hn:1008≤n):CFd (R n):=by
 obtain ⟨j,rfl⟩:∃ j,n=j+1:=⟨n-1,by omega⟩
 intro M s hM hs
 obtain ⟨m',h⟩:=fdc_body (self:=R j) (nf:=j+1) (m:=mem5) (kDecW hR hK h1 h2 h3 (by omega)) (kDiv hR hK (by omega)) hs (Nat.le_of_ble_eq_true (by kernel_rfl)) rfl
 exact ainv_lit rfl (by kernel_rfl) (by rw [hM.2]; exact hR.b h0 h) rfl
end Go.Am.Seat
namespace Go.Am.Seat
open Go.Proofs Go.Am Go.Am.Num
theorem z46:zeroB E.P 54=some (.row false 54 (rowK .u8 32 fun _=>0)):=by kernel_rfl
def mask7 (w:Nat→Nat):Nat→Nat:=fun j=>if j=31 then w 31%128 else w j
theorem num32_mask (w:Nat→Nat):num32 (mask7 w)=val [w 0,w 1,w 2,w 3,w 4,w 5,w 6,w 7,w 8,w 9,w 10,w 11,w 12,w 13,w 14,w 15,w 16,w 17,w 18,w 19,w 20,w 21,w 22,w 23,w 24,w 25,w 26,w 27,w 28,w 29,w 30,w 31%128]:=rfl
theorem top7 {a b c d e f g h:Nat} (ha:a<256) (hb:b<256) (hc:c<256) (hd:d<256) (he:e<256) (hf:f<256) (hg:g<256) (hh:h<256) :
  (((((((h*256+g)*256+f)*256+e)*256+d)*256+c)*256+b)*256+a)%9223372036854775808=a+256*(b+256*(c+256*(d+256*(e+256*(f+256*(g+256*(h%128))))))):=by omega
theorem loose_num {w:Nat→Nat} (hw:∀ i,w i<256):looseF w=num32 (mask7 w)%p5:=by
 have key:v4 (accW w 0 8) (accW w 1 8) (accW w 2 8) (accW w 3 8%9223372036854775808)=num32 (mask7 w):=by
  have ht:accW w 3 8%9223372036854775808=w 24+256*(w 25+256*(w 26+256*(w 27+256*(w 28+256*(w 29+256*(w 30+256*(w 31%128))))))):=by
   have:=top7 (hw 24) (hw 25) (hw 26) (hw 27) (hw 28) (hw 29) (hw 30) (hw 31)
   simp only [accW,Nat.reduceMul,Nat.reduceAdd,Nat.reduceSub,Nat.zero_mul,Nat.zero_add]
   exact this
  rw [ht,num32_mask]
  generalize w 31%128=r
  simp only [val,v4,accW,Nat.reduceMul,Nat.reduceAdd,Nat.reduceSub,Nat.zero_mul,Nat.zero_add]
  omega
 unfold looseF
 rw [key,p5_eq]
theorem NumO.s {m:Mem} {nb nb0:List Blk} {ow ow0:List Nat} {j:Nat} {v:Value} {x:Nat} (h:NumO m nb ow j v x) (hn:NumN m nb0 ow0 j v x):NumS (m++nb) v x:=by
 rcases hn with ⟨rfl,rfl⟩ | ⟨L,n,k,h1,h2,rfl,h4,h5,hne⟩
 ·exact .inl ⟨rfl,rfl⟩
 ·rcases h with ⟨h6,_⟩ | ⟨_,h6⟩ | ⟨L',n',k',q1,q2,q3,q4,q5,qne⟩
  ·cases h6
  ·rcases h6 with h6 | ⟨b,a,c,h6,hb⟩
   ·cases h6
   ·simp only [Value.slice.injEq,Option.some.injEq,Addr.mk.injEq] at h6
    omega
  ·right
   refine ⟨m.length+k',false,L',n',q3,q1,q2,?_,qne⟩
   rw [List.getElem?_append_right (by omega),Nat.add_sub_cancel_left]
   exact q4
section
variable {self:Self} {nf:Nat} {m:Mem} {F:Nat→Value} {X Y:Nat} {wa wb:Nat→Nat}
end
end Go.Am.Seat
namespace Go.Am.Seat
open Go.Proofs Go.Am Go.Am.Num Go.Am.Kn
theorem val_bytes (X:Nat):∀ n,val ((List.range n).map fun i=>X / 256^i%256)=X%256^n
 | 0=>by rw [Nat.pow_zero,Nat.mod_one]; rfl
 | n+1=>by
  rw [List.range_succ,List.map_append,val_append,val_bytes X n,List.length_map,List.length_range,Nat.pow_succ,Nat.mod_mul]
  simp [val]
theorem val_at {l:List Nat} (h:∀ x∈l,x<256) {i c:Nat} (hc:l[i]? = some c):val l / 256^i%256=c:=by
 obtain ⟨hi,he⟩:=List.getElem?_eq_some_iff.1 hc
 rw [←val_drop h (by omega),List.drop_eq_getElem_cons hi,he]
 have hlt:=h c (List.mem_of_getElem? hc)
 show (c+256*val (l.drop (i+1)))%256=c
 omega
theorem num32_byteX {X:Nat} (hX:X<P25519):num32 (byteX X)=X:=by
 have e:(List.range 32).map (byteX X)=(List.range 32).map fun i=>X / 256^i%256:=List.map_congr_left fun i _=>byteX_dig X i
 unfold num32
 rw [e,val_bytes]
 exact Nat.mod_eq_of_lt (Nat.lt_trans hX (by decide +kernel))
theorem num32_at {w:Nat→Nat} (hw:∀ i,w i<256) {i:Nat} (hi:i<32):num32 w / 256^i%256=w i :=
 val_at (l:=(List.range 32).map w) (fun x hx=>by obtain ⟨j,_,rfl⟩:=List.mem_map.1 hx; exact hw j) (by rw [List.getElem?_map,List.getElem?_range hi]; rfl)
theorem num32_ext {w v:Nat→Nat} (h:∀ i,i<32→w i=v i):num32 w=num32 v:=by
 unfold num32
 rw [List.map_congr_left fun i hi=>h i (List.mem_range.1 hi)]
theorem same_bytes {u:Nat→Nat} (hu:∀ i,u i<256):((List.range 32).all fun j=>((byteX (looseF u) j:Nat):Int)==((u j:Nat):Int))=decide (num32 u<P25519):=by
 have hX:=looseF_lt u
 rw [Bool.eq_iff_iff,List.all_eq_true,decide_eq_true_eq]
 constructor
 ·intro h
  have e:num32 (byteX (looseF u))=num32 u:=num32_ext fun i hi=>by
   have:=h i (List.mem_range.2 hi)
   simp at this
   omega
  rw [num32_byteX hX] at e
  omega
 ·intro h j hj
  have h31:u 31<128:=by
   have h1:=num32_at hu (i:=31) (by omega)
   have h2:num32 u / 256^31<128:=Nat.div_lt_of_lt_mul (Nat.lt_trans h (by decide +kernel))
   rw [Nat.mod_eq_of_lt (by omega)] at h1
   omega
  have em:num32 (mask7 u)=num32 u:=num32_ext fun i _=>by
   unfold mask7
   split
   ·rename_i e; subst e; exact Nat.mod_eq_of_lt h31
   ·rfl
  have el:looseF u=num32 u:=by rw [loose_num hu,em,←p5_eq,Nat.mod_eq_of_lt h]
  rw [el,byteX_dig,num32_at hu (List.mem_range.1 hj)]
  simp
theorem apz48 {T:List Value} {dd:Option Tmp} {pos:String} {af:Array Edge} {g:Option (Nat×Bool)}:apure E.P T { dst:=dd,op:=.build 56 #[],type:=56,pos:=pos,after:=af,guard:=g }=some (el 0):=by kernel_rfl
section
variable {self:Self} {nf:Nat} {m:Mem} {X:Nat} {u v:Nat→Nat} {t:Bool}
theorem pa_any (hlo:Ans self 58 [arrK .u8 32 u] (el X)) (hby:Ans self 34 [el X] (arrK .u8 32 v)) (hq:∀ x y,neqVal E.P 54 x y (arrK .u8 32 v) (arrK .u8 32 u)=some (.bool t)) :
  ∃ m',abody E self nf 31 [arrK .u8 32 u] m=some (.tuple ⟨[el (if t then 0 else X),.int .i64 (if t then 7 else 0)]⟩,m'):=by
 rw [abody_eqF (by kernel_rfl) Tryd.func31 bodypa (by kernel_rfl) (Nat.le_of_ble_eq_true rfl)]
 rw [show Tryd.f31.ntmps=13 from rfl]
 have b1:=a46.box (w:=u) (m:=m)
 generalize hA:m++[Blk.row false 54 (rowK .u8 32 u)]=A at b1
 have lA:A.length=m.length+1:=by rw [←hA]; simp
 have b2:=alloc48 A
 rw [lA] at b2
 generalize hB:A++[Blk.row false 56 (c4 0 0 0 0)]=B at b2
 have lB:B.length=m.length+2:=by rw [←hB]; simp [lA]
 have gx:B[m.length]? = some (.row false 54 (rowK .u8 32 u)):=by
  rw [←hB,List.getElem?_append_left (by omega),←hA]; simp
 have gr:B[m.length+1]? = some (.row false 56 (c4 0 0 0 0)):=by
  rw [←hB,List.getElem?_append_right (by omega),lA]; simp
 have l1:=a46.load gx
 have b3:=alloc48 B
 rw [lB] at b3
 generalize hC:B++[Blk.row false 56 (c4 0 0 0 0)]=C at b3
 have gc:C[m.length+2]? = some (.row false 56 (c4 0 0 0 0)):=by
  rw [←hC,List.getElem?_append_right (by omega),lB]; simp
 have st1:=store48 (a:=Go.Am.Num.wd 0 X) (b:=Go.Am.Num.wd 1 X) (c:=Go.Am.Num.wd 2 X) (d:=Go.Am.Num.wd 3 X) gc rfl
 obtain ⟨D,hD⟩:∃ D,D=C.set (m.length+2) (.row false 56 (c4 (Go.Am.Num.wd 0 X) (Go.Am.Num.wd 1 X) (Go.Am.Num.wd 2 X) (Go.Am.Num.wd 3 X))):=⟨_,rfl⟩
 rw [←hD] at st1
 have dx:D[m.length]? = some (.row false 54 (rowK .u8 32 u)):=by
  rw [hD,List.getElem?_set_ne (by omega),←hC,List.getElem?_append_left (by omega)]; exact gx
 have dr:D[m.length+1]? = some (.row false 56 (c4 0 0 0 0)):=by
  rw [hD,List.getElem?_set_ne (by omega),←hC,List.getElem?_append_left (by omega)]; exact gr
 have dc:D[m.length+2]? = some (.row false 56 (c4 (Go.Am.Num.wd 0 X) (Go.Am.Num.wd 1 X) (Go.Am.Num.wd 2 X) (Go.Am.Num.wd 3 X))):=by
  rw [hD,List.getElem?_set_self (lt_of_at gc)]
 have l2:aload E.P 56 (.pointer (some ⟨m.length+2,0,none⟩)) (D.map sealed)=some (el X):=load48 (ro:=true) (e:=56) (by rw [List.getElem?_map,dc]; rfl)
 have l3:aload E.P 54 (.pointer (some ⟨m.length,0,none⟩)) (D.map sealed)=some (arrK .u8 32 u):=a46.load (ro:=true) (be:=54) (by rw [List.getElem?_map,dx]; rfl)
 have l4:aload E.P 56 (.pointer (some ⟨m.length+2,0,none⟩)) D=some (el X):=load48 dc
 unfold Ans at hlo hby
 cases t with
 | false =>
  have st2:astore E.P 56 (.pointer (some ⟨m.length+1,0,none⟩)) (el X) D=some (D.set (m.length+1) (.row false 56 (c4 (Go.Am.Num.wd 0 X) (Go.Am.Num.wd 1 X) (Go.Am.Num.wd 2 X) (Go.Am.Num.wd 3 X)))):=store48 dr rfl
  have l5:aload E.P 56 (.pointer (some ⟨m.length+1,0,none⟩)) (D.set (m.length+1) (.row false 56 (c4 (Go.Am.Num.wd 0 X) (Go.Am.Num.wd 1 X) (Go.Am.Num.wd 2 X) (Go.Am.Num.wd 3 X))))=some (el X):=load48 (ro:=false) (e:=56) (by rw [List.getElem?_set_self (lt_of_at dr)])
  refine ⟨D.set (m.length+1) (.row false 56 (c4 (Go.Am.Num.wd 0 X) (Go.Am.Num.wd 1 X) (Go.Am.Num.wd 2 X) (Go.Am.Num.wd 3 X))),?_⟩
  change astore E.P _ _ (el X) C=some D at st1
  generalize D.set (m.length+1) (.row false 56 (c4 (Go.Am.Num.wd 0 X) (Go.Am.Num.wd 1 X) (Go.Am.Num.wd 2 X) (Go.Am.Num.wd 3 X)))=D9 at *
  simp only [Bool.false_eq_true,if_false]
  generalize el X=eX at *
  simp only [↓dpa_2,↓spa_2,epa_0,epa_1,epa_2,epa_3,epa_4,lpa_0,lpa_1,lpa_2,lpa_3,lpa_4,agd_none,gdAt,gdV_bool,gdV_undef,Tryd.f31,List.append_eq,List.cons_append,List.nil_append,apure_call1,apure_call2,apure_call3,bft,btf,acodeN,List.getElem?_toArray,List.getElem?_cons_zero,List.getElem?_cons_succ,aopsN,adrawT,cls,astep,aop,afloat,ev,nth_lst,get_lst,aput,setAt_lst,upd_at,init_zero,init_succ,init_nil,Nat.reduceLT,Nat.reduceEqDiff,reduceIte,abuiltin,alen,Option.map_some,Option.map_none,orElse_some,apure_add,apure_eqlV,eqlVal_str,eqlVal_bool,eqlVal_ptr,eqlVal_slice,eqlVal_wide,eqlVal_int,allT,↓aop_eqlV,apure_neqV,List.map_cons,List.map_nil,List.all_cons,List.all_nil,lit2,lit1,lit0,List.isEmpty_nil,bls,Bool.false_eq_true,if_true,if_false,List.length_map,beq_self_eq_true,uns,b1,b2,l1,callLo,hlo,b3,st1,l2,l3,callBy,wrBy,addr46,hby,hq]
  simp only [arrK]
  simp only [↓dpa_2,↓spa_2,epa_0,epa_1,epa_2,epa_3,epa_4,lpa_0,lpa_1,lpa_2,lpa_3,lpa_4,agd_none,gdAt,gdV_bool,gdV_undef,Tryd.f31,List.append_eq,List.cons_append,List.nil_append,apure_call1,apure_call2,apure_call3,bft,btf,acodeN,List.getElem?_toArray,List.getElem?_cons_zero,List.getElem?_cons_succ,aopsN,adrawT,cls,astep,aop,afloat,ev,nth_lst,get_lst,aput,setAt_lst,upd_at,init_zero,init_succ,init_nil,Nat.reduceLT,Nat.reduceEqDiff,reduceIte,abuiltin,alen,Option.map_some,Option.map_none,orElse_some,apure_add,apure_eqlV,eqlVal_str,eqlVal_bool,eqlVal_ptr,eqlVal_slice,eqlVal_wide,eqlVal_int,allT,↓aop_eqlV,apure_neqV,List.map_cons,List.map_nil,List.all_cons,List.all_nil,lit2,lit1,lit0,List.isEmpty_nil,bls,Bool.false_eq_true,if_true,if_false,List.length_map,beq_self_eq_true,uns,l4,st2,l5,finish,ares,aresL,ares1]
 | true =>
  have st2:astore E.P 56 (.pointer (some ⟨m.length+1,0,none⟩)) (el 0) D=some (D.set (m.length+1) (.row false 56 (c4 (Go.Am.Num.wd 0 0) (Go.Am.Num.wd 1 0) (Go.Am.Num.wd 2 0) (Go.Am.Num.wd 3 0)))):=store48 dr rfl
  have l5:aload E.P 56 (.pointer (some ⟨m.length+1,0,none⟩)) (D.set (m.length+1) (.row false 56 (c4 (Go.Am.Num.wd 0 0) (Go.Am.Num.wd 1 0) (Go.Am.Num.wd 2 0) (Go.Am.Num.wd 3 0))))=some (el 0):=load48 (ro:=false) (e:=56) (by rw [List.getElem?_set_self (lt_of_at dr)])
  refine ⟨D.set (m.length+1) (.row false 56 (c4 (Go.Am.Num.wd 0 0) (Go.Am.Num.wd 1 0) (Go.Am.Num.wd 2 0) (Go.Am.Num.wd 3 0))),?_⟩
  have az:=fun T dd pos af g=>apz48 (T:=T) (dd:=dd) (pos:=pos) (af:=af) (g:=g)
  change astore E.P _ _ (el X) C=some D at st1
  generalize D.set (m.length+1) (.row false 56 (c4 (Go.Am.Num.wd 0 0) (Go.Am.Num.wd 1 0) (Go.Am.Num.wd 2 0) (Go.Am.Num.wd 3 0)))=D9 at *
  simp only [if_true]
  generalize el 0=eZ at *
  generalize el X=eX at *
  simp only [↓dpa_2,↓spa_2,epa_0,epa_1,epa_2,epa_3,epa_4,lpa_0,lpa_1,lpa_2,lpa_3,lpa_4,agd_none,gdAt,gdV_bool,gdV_undef,Tryd.f31,List.append_eq,List.cons_append,List.nil_append,apure_call1,apure_call2,apure_call3,bft,btf,acodeN,List.getElem?_toArray,List.getElem?_cons_zero,List.getElem?_cons_succ,aopsN,adrawT,cls,astep,aop,afloat,ev,nth_lst,get_lst,aput,setAt_lst,upd_at,init_zero,init_succ,init_nil,Nat.reduceLT,Nat.reduceEqDiff,reduceIte,abuiltin,alen,Option.map_some,Option.map_none,orElse_some,apure_add,apure_eqlV,eqlVal_str,eqlVal_bool,eqlVal_ptr,eqlVal_slice,eqlVal_wide,eqlVal_int,allT,↓aop_eqlV,apure_neqV,List.map_cons,List.map_nil,List.all_cons,List.all_nil,lit2,lit1,lit0,List.isEmpty_nil,bls,Bool.false_eq_true,if_true,if_false,List.length_map,beq_self_eq_true,uns,b1,b2,l1,callLo,hlo,b3,st1,l2,l3,callBy,wrBy,addr46,hby,hq]
  simp only [arrK]
  simp only [↓dpa_2,↓spa_2,epa_0,epa_1,epa_2,epa_3,epa_4,lpa_0,lpa_1,lpa_2,lpa_3,lpa_4,agd_none,gdAt,gdV_bool,gdV_undef,Tryd.f31,List.append_eq,List.cons_append,List.nil_append,apure_call1,apure_call2,apure_call3,bft,btf,acodeN,List.getElem?_toArray,List.getElem?_cons_zero,List.getElem?_cons_succ,aopsN,adrawT,cls,astep,aop,afloat,ev,nth_lst,get_lst,aput,setAt_lst,upd_at,init_zero,init_succ,init_nil,Nat.reduceLT,Nat.reduceEqDiff,reduceIte,abuiltin,alen,Option.map_some,Option.map_none,orElse_some,apure_add,apure_eqlV,eqlVal_str,eqlVal_bool,eqlVal_ptr,eqlVal_slice,eqlVal_wide,eqlVal_int,allT,↓aop_eqlV,apure_neqV,List.map_cons,List.map_nil,List.all_cons,List.all_nil,lit2,lit1,lit0,List.isEmpty_nil,bls,Bool.false_eq_true,if_true,if_false,List.length_map,beq_self_eq_true,uns,az,st2,l5,finish,ares,aresL,ares1]
end
end Go.Am.Seat
namespace Go.Am.Seat
open Go.Proofs Go.Am
set_option maxHeartbeats 4000000
section
variable {self:Self} {nf:Nat} {M:Mem} {F:Nat→Value} {w s:Nat→Nat} {n i:Int} {p q N:Nat} {L:List Value}
end
set_option maxHeartbeats 4000000
section
variable {self:Self} {nf:Nat} {Z:Mem} {w:Nat→Nat} {n i:Int} {N:Nat} {L:List Value}
end
end Go.Am.Seat
namespace Go.Am.Seat
open Go.Proofs Go.Am Go.Am.Num Go.Am.Kn
def neqI (P:Program) (s:TypeId) (x y:Operand) (u v:Value):Option Value:=match u with
 | .int k a=>(match v with
  | .int k' b=>(match abin .neq k a k' b with
   | some w=>some w
   | none=>neqVal P s x y u v)
  | _=>neqVal P s x y u v)
 | _=>neqVal P s x y u v
theorem aop_neqI {P:Program} {T:List Value} {m:Mem} {d:Option Tmp} {s t ty:TypeId} {x y:Operand} {pos:String} {af:Array Edge} {g:Option (Nat×Bool)} :
  aop P T m { dst:=d,op:=.binOp .neq s x y t,type:=ty,pos:=pos,after:=af,guard:=g }=(neqI P s x y (ev T x) (ev T y)).map (·,m):=by
 have hp:=apure_neqV (P:=P) (T:=T) (d:=d) (s:=s) (t:=t) (ty:=ty) (x:=x) (y:=y) (pos:=pos) (af:=af) (g:=g)
 unfold aop neqI
 simp only
 cases hx:ev T x with
 | int k a =>
  cases hy:ev T y with
  | int k' b =>
   simp only
   cases abin .neq k a k' b with
   | some w=>rfl
   | none=>simp only; rw [hp,hx,hy]
  | _=>simp only; rw [hp,hx,hy]
 | _=>simp only; rw [hp,hx]
theorem notW (b:Bool):apU E.P .not 4 4 (.bool b)=some (.bool !b):=by cases b<;>kernel_rfl
section
variable {self:Self} {nf:Nat} {m:Mem} {F:Nat→Value} {w v o:Nat→Nat} {p q s:Nat}
end
end Go.Am.Seat
