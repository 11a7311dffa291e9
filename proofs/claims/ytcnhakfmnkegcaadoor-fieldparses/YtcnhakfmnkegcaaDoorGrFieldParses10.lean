import Derived.Test.YtcnhakfmnkegcaaDoorGrFieldParses9
import Derived.Test.YtcnhakfmnkegcaaDoorGrFieldParses8
import Derived.Lib.UnsafeStr
set_option linter.unusedSimpArgs false
set_option linter.unusedVariables false
noncomputable section
set_option maxRecDepth 100000
namespace Go.Am
def opA:List Nat→Code→Array Oper
 | [],.region _ o _=>o
 | 0::p,.seq a _=>opA p a
 | 1::p,.seq _ b=>opA p b
 | 0::p,.cond _ a _=>opA p a
 | 1::p,.cond _ _ b=>opA p b
 | 0::p,.block _ a=>opA p a
 | 0::p,.loop a=>opA p a
 | _,_=>#[]
def opR (f:Func) (p:List Nat):Array Oper:=match f.body with
 | some c=>opA p c
 | none=>#[]
end Go.Am
namespace Go.Am.Seat
open Go.Proofs Go.Am
section
variable {K:List Fact} {n q:Nat} {m:Mem}
def Keeps (m:Mem) (q:Nat) (m':Mem):Prop:=∀ k,k<q→m'[k]? = m[k]?
theorem Keeps.trans {m1 m2 m3:Mem} {q:Nat} (h:Keeps m1 q m2) (h':Keeps m2 q m3):Keeps m1 q m3:=fun k hk=>(h' k hk).trans (h k hk)
theorem lt_of_at {b:Nat} {x:Blk} (h:m[b]? = some x):b<m.length:=(List.getElem?_eq_some_iff.1 h).1
end
theorem bytesOf_map:∀ (l:List Int),bytesOf (l.map (.int .u8))=some (l.map fun n=>UInt8.ofNat n.toNat)
 | []=>rfl
 | a::l=>by
  simp only [List.map_cons,bytesOf,bytesOf_map l]
section
variable {K:List Fact} {n q:Nat} {m:Mem}
end
theorem lss64 (a b:Int):abin .lss .i64 a .i64 b=some (.bool (decide (a<b))):=by kernel_rfl
section
variable {self:Self} {nf p q:Nat} {m m1 m2 m3:Mem}
end
section
variable {K:List Fact} {n nf p q:Nat} {m:Mem}
end
def bytesOfL (l:List UInt8):ByteArray:=⟨l.toArray⟩
theorem bytesOfL_list (l:List UInt8):(bytesOfL l).data.toList=l:=rfl
theorem und9:E.P.underlying 9=some .string:=Tryd.underlying9
theorem und5:E.P.underlying 5=some (.int .u8):=Tryd.underlying5
theorem und4:E.P.underlying 4=some .bool:=Tryd.underlying4
theorem und3:E.P.underlying 3=some (.int .i64):=Tryd.underlying3
theorem uns:E.P.underlying 3=some (.int .i64)∧E.P.underlying 4=some .bool∧E.P.underlying 5=some (.int .u8)∧E.P.underlying 9=some .string:=⟨und3,und4,und5,und9⟩
theorem bw3 (b:UInt8):wrapF .i64 ((b.toNat:Nat):Int)=((b.toNat:Nat):Int):=by
 have:=b.toNat_lt
 exact wrap_i64 (by omega) (by omega)
theorem w1 {i:Nat} (h:i<1000000000):wrapF .i64 ((i:Int)+1)=((i+1:Nat):Int):=by
 rw [wrap_i64 (by omega) (by omega)]
 omega
theorem add64' (a b:Int):abin .add .i64 a .i64 b=some (.int .i64 (wrapF .i64 (a+b))):=by kernel_rfl
theorem conv5_3 (k:Int):aconv E.P 5 3 (.int .u8 k)=some (.int .i64 (wrapF .i64 k)):=by kernel_rfl
theorem index9 {s:ByteArray} {i:Nat} {b:UInt8} (h:s.data.toList[i]? = some b):aindex E.P 9 (.string s) (.int .i64 (i:Nat))=some (.int .u8 (b.toNat:Int)):=by
 unfold aindex
 simp only [und9]
 rw [if_pos (by omega),Int.toNat_natCast,h]
section
variable {self:Self} {nf:Nat} {m:Mem} {F:Nat→Value} {s out:ByteArray} {i:Nat}
end
theorem conv3_5 (k:Int):aconv E.P 3 5 (.int .i64 k)=some (.int .u8 (k%256)):=by kernel_rfl
theorem aconv35 (a:Addr) (n c:Nat):aconv E.P 35 9 (.slice (some a) n c)=none:=by kernel_rfl
theorem conv35_str {m:Mem} {b n c:Nat} {ro:Bool} {e:TypeId} {l:List Int} {cs:List Value} (hm:m[b]? = some (.row ro e cs)) (hcs:cs.take n=l.map (.int .u8)) (hn:n≤cs.length) :
  aconvB E.P 35 9 (.slice (some ⟨b,0,none⟩) n c) m=some (.string (bytesOfL (l.map fun n=>UInt8.ofNat n.toNat)),m):=by
 unfold aconvB
 simp only [show E.P.underlying 35=some (.slice 5) from Tryd.underlying35,und9,und5]
 have hs:asrc m 1 (.slice (some ⟨b,0,none⟩) n c)=some (n,l.map (.int .u8)):=by
  unfold asrc
  simp only [lookRow hm]
  rw [if_pos (by omega),List.drop_zero,Nat.mul_one,hcs]
 rw [hs]
 simp only [bytesOf_map]
 rfl
section
variable {self:Self} {nf:Nat} {m:Mem} {F:Nat→Value} {s out:ByteArray} {i:Nat}
end
theorem neq64 (a b:Int):abin .neq .i64 a .i64 b=some (.bool (a != b)):=by kernel_rfl
theorem ainv_lit {self:Self} {g:FuncId} {args:List Value} {m m1:Mem} {v:Value} (ha:args.all lit2=true) (hf:E.fast g=none) (h:self g args ((m.take E.G).map onlyTab)=some (v,m1)) (hv:lit2 v=true):ainv E self g args m=some (v,m):=by
 unfold ainv
 rw [if_pos ha,hf,h]
 simp only
 unfold acoll
 rw [if_pos hv]
section
variable {self:Self} {nf:Nat} {m:Mem} {F:Nat→Value} {s:ByteArray} {k b cap:Nat} {cs:List Value}
theorem w2 {i:Nat} (h:i<1000000000):wrapF .i64 ((i:Int)+2)=((i+2:Nat):Int):=by
 rw [wrap_i64 (by omega) (by omega)]
 omega
end
theorem ainv_wr {self:Self} {g:FuncId} {args:List Value} {m:Mem} (hw:E.wr g=true) (ha:args.all lit2=false):ainv E self g args m=self g args m:=by
 unfold ainv
 rw [ha]
 simp only [Bool.false_eq_true,if_false,hw,if_true]
section
variable {K:List Fact} {n q c:Nat} {m:Mem} {l:List Int}
end
theorem bl (b:UInt8):wrapF .u8 ((((((b.toNat:Nat):Int)%256).toNat &&& ((15:Int)%256).toNat:Nat)):Int)=((b.toNat%16:Nat):Int):=by
 have h:=b.toNat_lt
 have e1:(((b.toNat:Nat):Int)%256).toNat=b.toNat:=by omega
 have e2:((15:Int)%256).toNat=2^4-1:=rfl
 rw [e1,e2,Nat.and_two_pow_sub_one_eq_mod]
 simp only [wrapF]
 omega
section
variable {self:Self} {nf q c:Nat} {m:Mem} {F:Nat→Value} {s:ByteArray} {i:Nat}
end
theorem sub64' (a b:Int):abin .sub .i64 a .i64 b=some (.int .i64 (wrapF .i64 (a-b))):=by kernel_rfl
theorem mul64' (a b:Int):abin .mul .i64 a .i64 b=some (.int .i64 (wrapF .i64 (a*b))):=by kernel_rfl
section
variable {self:Self} {nf q n:Nat} {m:Mem}
end
def rup_0:=opR Tryd.f66 [0]
def lup_0:List Oper:=match Tryd.f66.body with
 | some (.seq (.region _ o _) _)=>o.toList
 | _=>[]
theorem eup_0:rup_0.toList=lup_0:=rfl
def rup_1:=opR Tryd.f66 [1,0]
def lup_1:List Oper:=match Tryd.f66.body with
 | some (.seq _ (.seq (.region _ o _) _))=>o.toList
 | _=>[]
theorem eup_1:rup_1.toList=lup_1:=rfl
def rup_2:=opR Tryd.f66 [1,1,0]
def lup_2:List Oper:=match Tryd.f66.body with
 | some (.seq _ (.seq _ (.seq (.region _ o _) _)))=>o.toList
 | _=>[]
theorem eup_2:rup_2.toList=lup_2:=rfl
def rup_3:=opR Tryd.f66 [1,1,1,0,0]
def lup_3:List Oper:=match Tryd.f66.body with
 | some (.seq _ (.seq _ (.seq _ (.seq (.seq (.region _ o _) _) _))))=>o.toList
 | _=>[]
theorem eup_3:rup_3.toList=lup_3:=rfl
def lpup_0:Code:=match Tryd.f66.body with
 | some (.seq _ (.seq _ (.seq _ (.seq (.seq _ (.block _ (.loop c))) _))))=>c
 | _=>.skip
def rup_4:=opR Tryd.f66 [1,1,1,0,1,0,0,0,0]
def lup_4:List Oper:=match Tryd.f66.body with
 | some (.seq _ (.seq _ (.seq _ (.seq (.seq _ (.block _ (.loop (.seq (.seq (.region _ o _) _) _)))) _))))=>o.toList
 | _=>[]
theorem eup_4:rup_4.toList=lup_4:=rfl
def rup_6:=opR Tryd.f66 [1,1,1,0,1,0,0,1,0,0,0]
def lup_6:List Oper:=match Tryd.f66.body with
 | some (.seq _ (.seq _ (.seq _ (.seq (.seq _ (.block _ (.loop (.seq _ (.seq (.block _ (.seq (.region _ o _) _)) _))))) _))))=>o.toList
 | _=>[]
theorem eup_6:rup_6.toList=lup_6:=rfl
def rup_7:=opR Tryd.f66 [1,1,1,0,1,0,0,1,0,0,1,0]
def lup_7:List Oper:=match Tryd.f66.body with
 | some (.seq _ (.seq _ (.seq _ (.seq (.seq _ (.block _ (.loop (.seq _ (.seq (.block _ (.seq _ (.seq (.region _ o _) _))) _))))) _))))=>o.toList
 | _=>[]
theorem eup_7:rup_7.toList=lup_7:=rfl
def rup_8:=opR Tryd.f66 [1,1,1,0,1,0,0,1,0,0,1,1,0]
def lup_8:List Oper:=match Tryd.f66.body with
 | some (.seq _ (.seq _ (.seq _ (.seq (.seq _ (.block _ (.loop (.seq _ (.seq (.block _ (.seq _ (.seq _ (.cond _ (.region _ o _) _)))) _))))) _))))=>o.toList
 | _=>[]
theorem eup_8:rup_8.toList=lup_8:=rfl
theorem dup_8 {self:Self} {B:Nat} {T:List Value} {m:Mem} {lb:List (Nat×Nat)} {ls:Bool}:adrawN E self rup_8 B rup_8.toList 0 T m lb ls=adrawT E self rup_8 B rup_8.toList [(false,false),(false,false),(false,false),(false,false),(false,false),(false,false),(false,false),(false,false),(false,false),(false,false),(false,false),(false,false),(false,false),(false,false),(false,false)] 0 T m lb ls:=adraw_tab (by kernel_rfl)
theorem sup_8:E.sr 8 rup_8=false:=by kernel_rfl
def rup_5:=opR Tryd.f66 [1,1,1,0,1,0,0,1,1]
def lup_5:List Oper:=match Tryd.f66.body with
 | some (.seq _ (.seq _ (.seq _ (.seq (.seq _ (.block _ (.loop (.seq _ (.seq _ (.region _ o _)))))) _))))=>o.toList
 | _=>[]
theorem eup_5:rup_5.toList=lup_5:=rfl
theorem lpup_0_eq:lpup_0=(.seq (.seq (.region 4 rup_4 false) (.cond (.tmp 15) .skip (.exit 0))) (.seq (.block 1 (.seq (.region 6 rup_6 false) (.seq (.region 7 rup_7 false) (.cond (.tmp 29) (.region 8 rup_8 true) .skip)))) (.region 5 rup_5 false))):=rfl
def rup_9:=opR Tryd.f66 [1,1,1,1,0]
def lup_9:List Oper:=match Tryd.f66.body with
 | some (.seq _ (.seq _ (.seq _ (.seq _ (.seq (.region _ o _) _)))))=>o.toList
 | _=>[]
theorem eup_9:rup_9.toList=lup_9:=rfl
theorem bodyup:Tryd.f66.body=some (.seq (.region 0 rup_0 false) (.seq (.region 1 rup_1 false) (.seq (.region 2 rup_2 false) (.seq (.seq (.region 3 rup_3 false) (.block 0 (.loop lpup_0))) (.seq (.region 9 rup_9 false) .ret))))):=rfl
def rdn_0:=opR Tryd.f69 [0]
def ldn_0:List Oper:=match Tryd.f69.body with
 | some (.seq (.region _ o _) _)=>o.toList
 | _=>[]
theorem edn_0:rdn_0.toList=ldn_0:=rfl
def rdn_1:=opR Tryd.f69 [1,0]
def ldn_1:List Oper:=match Tryd.f69.body with
 | some (.seq _ (.seq (.region _ o _) _))=>o.toList
 | _=>[]
theorem edn_1:rdn_1.toList=ldn_1:=rfl
def rdn_2:=opR Tryd.f69 [1,1,0]
def ldn_2:List Oper:=match Tryd.f69.body with
 | some (.seq _ (.seq _ (.seq (.region _ o _) _)))=>o.toList
 | _=>[]
theorem edn_2:rdn_2.toList=ldn_2:=rfl
def rdn_3:=opR Tryd.f69 [1,1,1,0,0]
def ldn_3:List Oper:=match Tryd.f69.body with
 | some (.seq _ (.seq _ (.seq _ (.seq (.seq (.region _ o _) _) _))))=>o.toList
 | _=>[]
theorem edn_3:rdn_3.toList=ldn_3:=rfl
def lpdn_0:Code:=match Tryd.f69.body with
 | some (.seq _ (.seq _ (.seq _ (.seq (.seq _ (.block _ (.loop c))) _))))=>c
 | _=>.skip
def rdn_4:=opR Tryd.f69 [1,1,1,0,1,0,0,0,0]
def ldn_4:List Oper:=match Tryd.f69.body with
 | some (.seq _ (.seq _ (.seq _ (.seq (.seq _ (.block _ (.loop (.seq (.seq (.region _ o _) _) _)))) _))))=>o.toList
 | _=>[]
theorem edn_4:rdn_4.toList=ldn_4:=rfl
def rdn_6:=opR Tryd.f69 [1,1,1,0,1,0,0,1,0,0,0]
def ldn_6:List Oper:=match Tryd.f69.body with
 | some (.seq _ (.seq _ (.seq _ (.seq (.seq _ (.block _ (.loop (.seq _ (.seq (.block _ (.seq (.region _ o _) _)) _))))) _))))=>o.toList
 | _=>[]
theorem edn_6:rdn_6.toList=ldn_6:=rfl
def rdn_7:=opR Tryd.f69 [1,1,1,0,1,0,0,1,0,0,1,0]
def ldn_7:List Oper:=match Tryd.f69.body with
 | some (.seq _ (.seq _ (.seq _ (.seq (.seq _ (.block _ (.loop (.seq _ (.seq (.block _ (.seq _ (.seq (.region _ o _) _))) _))))) _))))=>o.toList
 | _=>[]
theorem edn_7:rdn_7.toList=ldn_7:=rfl
def rdn_8:=opR Tryd.f69 [1,1,1,0,1,0,0,1,0,0,1,1,0]
def ldn_8:List Oper:=match Tryd.f69.body with
 | some (.seq _ (.seq _ (.seq _ (.seq (.seq _ (.block _ (.loop (.seq _ (.seq (.block _ (.seq _ (.seq _ (.cond _ (.region _ o _) _)))) _))))) _))))=>o.toList
 | _=>[]
theorem edn_8:rdn_8.toList=ldn_8:=rfl
theorem ddn_8 {self:Self} {B:Nat} {T:List Value} {m:Mem} {lb:List (Nat×Nat)} {ls:Bool}:adrawN E self rdn_8 B rdn_8.toList 0 T m lb ls=adrawT E self rdn_8 B rdn_8.toList [(false,false),(false,false),(false,false),(false,false),(false,false),(false,false),(false,false),(false,false),(false,false),(false,false),(false,false),(false,false),(false,false),(false,false),(false,false)] 0 T m lb ls:=adraw_tab (by kernel_rfl)
theorem sdn_8:E.sr 8 rdn_8=false:=by kernel_rfl
def rdn_5:=opR Tryd.f69 [1,1,1,0,1,0,0,1,1]
def ldn_5:List Oper:=match Tryd.f69.body with
 | some (.seq _ (.seq _ (.seq _ (.seq (.seq _ (.block _ (.loop (.seq _ (.seq _ (.region _ o _)))))) _))))=>o.toList
 | _=>[]
theorem edn_5:rdn_5.toList=ldn_5:=rfl
theorem lpdn_0_eq:lpdn_0=(.seq (.seq (.region 4 rdn_4 false) (.cond (.tmp 15) .skip (.exit 0))) (.seq (.block 1 (.seq (.region 6 rdn_6 false) (.seq (.region 7 rdn_7 false) (.cond (.tmp 29) (.region 8 rdn_8 true) .skip)))) (.region 5 rdn_5 false))):=rfl
def rdn_9:=opR Tryd.f69 [1,1,1,1,0]
def ldn_9:List Oper:=match Tryd.f69.body with
 | some (.seq _ (.seq _ (.seq _ (.seq _ (.seq (.region _ o _) _)))))=>o.toList
 | _=>[]
theorem edn_9:rdn_9.toList=ldn_9:=rfl
theorem bodydn:Tryd.f69.body=some (.seq (.region 0 rdn_0 false) (.seq (.region 1 rdn_1 false) (.seq (.region 2 rdn_2 false) (.seq (.seq (.region 3 rdn_3 false) (.block 0 (.loop lpdn_0))) (.seq (.region 9 rdn_9 false) .ret))))):=rfl
def rowOf (w:Nat→Nat):List Value:=(List.range 8).map fun j=>.int .u64 ((w j:Nat):Int)
def wide (w:Nat→Nat):Value:=.agg ⟨rowOf w⟩
theorem rowOf_length (w:Nat→Nat):(rowOf w).length=8:=by simp [rowOf]
theorem rowOf_get {w:Nat→Nat} {j:Nat} (h:j<8):(rowOf w)[j]? = some (.int .u64 ((w j:Nat):Int)):=by
 unfold rowOf
 rw [List.getElem?_map,List.getElem?_range h]
 rfl
theorem rowOf_set {w:Nat→Nat} {i x:Nat}:(rowOf w).set i (.int .u64 ((x:Nat):Int))=rowOf (fun j=>if j=i then x else w j):=by
 apply List.ext_getElem?
 intro k
 rw [List.getElem?_set]
 by_cases hk:k<8
 ·rw [rowOf_get hk,rowOf_get hk,rowOf_length]
  by_cases h:i=k
  ·subst h; simp [hk]
  ·have h':¬ k=i:=fun e=>h e.symm
   simp [h,h']
 ·rw [List.getElem?_eq_none (by rw [rowOf_length]; omega),List.getElem?_eq_none (by rw [rowOf_length]; omega),rowOf_length]
  by_cases h:i=k
  ·subst h; simp [hk]
  ·simp [h]
theorem rowOf_lit (w:Nat→Nat):(rowOf w).all lit0=true:=by
 unfold rowOf
 rw [List.all_map,List.all_eq_true]
 intro x _
 rfl
theorem rowOf_ok (w:Nat→Nat):(rowOf w).all cellOk=true:=by
 unfold rowOf
 rw [List.all_map,List.all_eq_true]
 intro x _
 rfl
theorem wide_lit (w:Nat→Nat):lit2 (wide w)=true:=rowOf_lit w
theorem rowOf_ext {w w':Nat→Nat} (h:∀ j,j<8→w j=w' j):rowOf w=rowOf w':=by
 unfold rowOf
 apply List.map_congr_left
 intro j hj
 rw [h j (List.mem_range.1 hj)]
theorem info24:∃ i,E.P.info? 24=some i∧i.size=8:=by
 have h:(E.P.info? 24).map (·.size)=some 8:=by kernel_rfl
 exact Option.map_eq_some_iff.1 h
theorem info22:∃ i,E.P.info? 22=some i∧i.size=1:=by
 have h:(E.P.info? 22).map (·.size)=some 1:=by kernel_rfl
 exact Option.map_eq_some_iff.1 h
theorem und24:E.P.underlying 24=some (.array 8 22):=Tryd.underlying24
theorem und22:E.P.underlying 22=some (.int .u64):=Tryd.underlying22
theorem box24 (w:Nat→Nat) (m:Mem):abox E.P 24 (wide w) m=some (.pointer (some ⟨m.length,0,none⟩),m++[.row false 24 (rowOf w)]):=by
 obtain ⟨i,h1,_⟩:=info24
 unfold abox wide
 simp only [h1,vcells,rowOf_ok,if_true]
theorem alloc24 (m:Mem):aalloc E.P 24 m=some (.pointer (some ⟨m.length,0,none⟩),m++[.row false 24 (rowOf fun _=>0)]):=by kernel_rfl
theorem load24 {m:Mem} {p:Nat} {ro:Bool} {w:Nat→Nat} {e:TypeId} (h:m[p]? = some (.row ro e (rowOf w))):aload E.P 24 (.pointer (some ⟨p,0,none⟩)) m=some (wide w):=by
 obtain ⟨i,h1,h2⟩:=info24
 unfold aload
 simp only [lookRow h,und24,aggD,h1,h2]
 rw [if_pos (by rw [rowOf_length]; omega),List.drop_zero,List.take_of_length_le (by rw [rowOf_length]; omega)]
 rfl
theorem store24 {m:Mem} {p:Nat} {w:Nat→Nat} {e:TypeId} {cs:List Value} (h:m[p]? = some (.row false e cs)) (hl:cs.length=8):astore E.P 24 (.pointer (some ⟨p,0,none⟩)) (wide w) m=some (m.set p (.row false e (rowOf w))):=by
 obtain ⟨i,h1,h2⟩:=info24
 unfold astore wide
 simp only [h,vcells,rowOf_ok,if_true,h1,h2]
 rw [if_pos ⟨rowOf_length w,by rw [rowOf_length]; omega⟩]
 congr 2
 have:lay cs 0 (rowOf w)=rowOf w:=by
  unfold lay
  split
  ·rename_i v hv
   have:=congrArg List.length hv
   rw [rowOf_length] at this
   simp at this
  ·rw [List.take_zero,List.nil_append,List.drop_of_length_le (by rw [rowOf_length]; omega),List.append_nil]
 rw [this]
theorem ix24 {p k:Nat} (h:k<8):aindexAddr E.P 24 (.pointer (some ⟨p,0,none⟩)) (.int .i64 (k:Nat))=some (.pointer (some ⟨p,k,none⟩)):=by
 obtain ⟨i,h1,h2⟩:=info22
 unfold aindexAddr
 simp only [und24,h1,h2]
 rw [if_pos (by omega)]
 simp
theorem load22 (b o:Nat) (m:Mem):aload E.P 22 (.pointer (some ⟨b,o,none⟩)) m=cellAt m b o:=aload_cell und22 rfl b o m
theorem store22 {m:Mem} {p k x:Nat} {w:Nat→Nat} (h:m[p]? = some (.row false 24 (rowOf w))) (hk:k<8):astore E.P 22 (.pointer (some ⟨p,k,none⟩)) (.int .u64 ((x:Nat):Int)) m=some (m.set p (.row false 24 (rowOf (fun j=>if j=k then x else w j)))):=by
 obtain ⟨i,h1,h2⟩:=info22
 rw [astore_cell h1 h2 h (by rw [rowOf_length]; exact hk) rfl,rowOf_set]
theorem shlN {x n:Nat} (hn:n≤64):abin .shl .u64 ((x:Nat):Int) .i64 ((n:Nat):Int)=some (.int .u64 ((x*2^n%18446744073709551616:Nat):Int)):=by
 unfold abin
 simp only
 rw [if_neg (by omega),Int.toNat_natCast,show IntKind.u64.bits=64 from rfl,Nat.min_eq_left hn]
 simp only [wrapF]
 congr 2
theorem shrN {x n:Nat} (hn:n≤64):abin .shr .u64 ((x:Nat):Int) .i64 ((n:Nat):Int)=some (.int .u64 ((x / 2^n:Nat):Int)):=by
 unfold abin
 simp only
 rw [if_neg (by omega),Int.toNat_natCast,show IntKind.u64.bits=64 from rfl,Nat.min_eq_left hn,Int.fdiv_eq_ediv_of_nonneg _ (by exact Int.natCast_nonneg _)]
 congr 2
theorem orN {x y:Nat} (hx:x<18446744073709551616) (hy:y<18446744073709551616):abin .or .u64 ((x:Nat):Int) .u64 ((y:Nat):Int)=some (.int .u64 ((x ||| y:Nat):Int)):=by
 unfold abin abits
 simp only [if_true,Option.map_some,pow2]
 have e1:(((x:Nat):Int)%18446744073709551616).toNat=x:=by omega
 have e2:(((y:Nat):Int)%18446744073709551616).toNat=y:=by omega
 have h:x ||| y<2^64:=Nat.or_lt_two_pow (by omega) (by omega)
 rw [e1,e2]
 simp only [wrapF]
 congr 2
 omega
theorem gtr64' (a b:Int):abin .gtr .i64 a .i64 b=some (.bool (decide (a>b))):=by kernel_rfl
theorem wsub {a b:Nat} (h:b≤a) (ha:a<1000000):wrapF .i64 (((a:Nat):Int)-((b:Nat):Int))=((a-b:Nat):Int):=by
 rw [wrap_i64 (by omega) (by omega)]; omega
theorem wsub1 {a:Nat} (h:1≤a) (ha:a<1000000):wrapF .i64 (((a:Nat):Int)-1)=((a-1:Nat):Int):=by
 rw [wrap_i64 (by omega) (by omega)]; omega
theorem w64sub {a:Nat} (h:a≤64):wrapF .i64 ((64:Int)-((a:Nat):Int))=((64-a:Nat):Int):=by
 rw [wrap_i64 (by omega) (by omega)]; omega
def upW (w:Nat→Nat) (far near a:Nat):Nat:=if a<far then 0 else if far<a then (w (a-far)*2^near%18446744073709551616) ||| (w (a-far-1) / 2^(64-near)) else w (a-far)*2^near%18446744073709551616
def dnW (w:Nat→Nat) (far near a:Nat):Nat:=if a+far<8 then (if a+far+1<8 then (w (a+far) / 2^near) ||| (w (a+far+1)*2^(64-near)%18446744073709551616) else w (a+far) / 2^near) else 0
theorem div_lt64 {x n:Nat} (h:x<18446744073709551616):x / 2^n<18446744073709551616:=Nat.lt_of_le_of_lt (Nat.div_le_self _ _) h
section
variable {self:Self} {nf:Nat} {M:Mem} {F:Nat→Value} {p q:Nat} {w out:Nat→Nat} {far near i:Nat} {rp:Bool}
theorem set_twice {M:Mem} {q:Nat} {a b:Blk}:(M.set q a).set q b=M.set q b:=by simp
theorem iterUp (h2:F 2=.pointer (some ⟨p,0,none⟩)) (h7:F 7=.pointer (some ⟨q,0,none⟩)) (h5:F 5=.int .i64 (far:Nat)) (h6:F 6=.int .i64 (near:Nat)) (h8:F 8=.int .i64 (i:Nat))
  (hp:M[p]? = some (.row rp 24 (rowOf w))) (hq:M[q]? = some (.row false 24 (rowOf out))) (hpq:p≠q) (hfi:far≤i) (hi:i<8) (hn:near<64) (hw:∀ j,w j<18446744073709551616) :
  ∃ F',acodeN E self nf lpup_0 (lst F 45) M=some (.normal,lst F' 45,M.set q (.row false 24 (rowOf (fun j=>if j=i then upW w far near i else out j))))∧F' 2=F 2∧F' 4=F 4∧F' 5=F 5∧F' 6=F 6∧F' 7=F 7∧F' 8=.int .i64 ((i+1:Nat):Int):=by
 have hlt:decide (((i:Nat):Int)<8)=true:=decide_eq_true (by omega)
 have hqm:=lt_of_at hq
 have e1:=wsub hfi (by omega)
 have e2:=w1 (i:=i) (by omega)
 have e3:=w64sub (a:=near) (by omega)
 have c1:cellAt M p (i-far)=some (.int .u64 ((w (i-far):Nat):Int)):=by rw [cellAt_row hp,rowOf_get (by omega)]
 have i1:=ix24 (p:=p) (k:=i-far) (by omega)
 have i2:=ix24 (p:=q) (k:=i) hi
 have s1:=shlN (x:=w (i-far)) (n:=near) (by omega)
 have t1:=store22 (x:=w (i-far)*2^near%18446744073709551616) hq hi
 by_cases hg:far<i
 ·have hgt:decide (((i:Nat):Int)>((far:Nat):Int))=true:=decide_eq_true (by omega)
  generalize hM1:M.set q (.row false 24 (rowOf (fun j=>if j=i then w (i-far)*2^near%18446744073709551616 else out j)))=M1 at t1
  have hq1:M1[q]? = some (.row false 24 (rowOf (fun j=>if j=i then w (i-far)*2^near%18446744073709551616 else out j))):=by rw [←hM1,List.getElem?_set_self hqm]
  have hp1:M1[p]? = some (.row rp 24 (rowOf w)):=by rw [←hM1,List.getElem?_set_ne (fun e=>hpq e.symm)]; exact hp
  have hq1s:(M1.map sealed)[q]? = some (.row true 24 (rowOf (fun j=>if j=i then w (i-far)*2^near%18446744073709551616 else out j))):=by rw [List.getElem?_map,hq1]; rfl
  have hp1s:(M1.map sealed)[p]? = some (.row true 24 (rowOf w)):=by rw [List.getElem?_map,hp1]; rfl
  have c2:cellAt (M1.map sealed) q i=some (.int .u64 ((w (i-far)*2^near%18446744073709551616:Nat):Int)):=by rw [cellAt_row hq1s,rowOf_get hi]; simp
  have c3:cellAt (M1.map sealed) p (i-far-1)=some (.int .u64 ((w (i-far-1):Nat):Int)):=by rw [cellAt_row hp1s,rowOf_get (by omega)]
  have i3:=ix24 (p:=p) (k:=i-far-1) (by omega)
  have e4:=wsub1 (a:=i-far) (by omega) (by omega)
  have s2:=shrN (x:=w (i-far-1)) (n:=64-near) (by omega)
  have s3:=orN (x:=w (i-far)*2^near%18446744073709551616) (y:=w (i-far-1) / 2^(64-near)) (Nat.mod_lt _ (by omega)) (div_lt64 (hw _))
  have t2:=store22 (x:=(w (i-far)*2^near%18446744073709551616) ||| (w (i-far-1) / 2^(64-near))) hq1 hi
  have hfin:M1.set q (.row false 24 (rowOf fun j=>if j=i then w (i-far)*2^near%18446744073709551616 ||| w (i-far-1) / 2^(64-near) else if j=i then w (i-far)*2^near%18446744073709551616 else out j))=M.set q (.row false 24 (rowOf (fun j=>if j=i then upW w far near i else out j))):=by
   rw [←hM1,set_twice]
   have this:(rowOf fun j=>if j=i then w (i-far)*2^near%18446744073709551616 ||| w (i-far-1) / 2^(64-near) else if j=i then w (i-far)*2^near%18446744073709551616 else out j)=rowOf (fun j=>if j=i then upW w far near i else out j):=by
    apply rowOf_ext
    intro j _
    by_cases hj:j=i
    ·simp only [hj,if_true]
     unfold upW
     rw [if_neg (by omega),if_pos hg]
    ·simp only [hj,if_false]
   rw [this]
  simp only [lpup_0_eq,↓dup_8,↓sup_8,eup_4,eup_5,eup_6,eup_7,eup_8,lup_4,lup_5,lup_6,lup_7,lup_8,agd_none,Tryd.f66,acodeN,aopsN,adrawT,cls,astep,aop,afloat,ev,nth_lst,aput,setAt_lst,upd_at,Nat.reduceLT,Nat.reduceEqDiff,Option.map_some,bls,if_true,if_false,List.length_map,h2,h5,h6,h7,h8,lss64,hlt,sub64',e1,i1,load22,c1,s1,i2,t1,gtr64',hgt,c2,e4,i3,c3,e3,s2,s3,t2,add64',e2,hfin]
  exact ⟨_,rfl,by simp only [upd_at,Nat.reduceEqDiff,reduceIte,h2],rfl,by simp only [upd_at,Nat.reduceEqDiff,reduceIte,h5],by simp only [upd_at,Nat.reduceEqDiff,reduceIte,h6],by simp only [upd_at,Nat.reduceEqDiff,reduceIte,h7],rfl⟩
 ·have hgt:decide (((i:Nat):Int)>((far:Nat):Int))=false:=decide_eq_false (by omega)
  have hfin:M.set q (.row false 24 (rowOf fun j=>if j=i then w (i-far)*2^near%18446744073709551616 else out j))=M.set q (.row false 24 (rowOf (fun j=>if j=i then upW w far near i else out j))):=by
   have this:(rowOf fun j=>if j=i then w (i-far)*2^near%18446744073709551616 else out j)=rowOf (fun j=>if j=i then upW w far near i else out j):=by
    apply rowOf_ext
    intro j _
    by_cases hj:j=i
    ·simp only [hj,if_true]
     unfold upW
     rw [if_neg (by omega),if_neg hg]
    ·simp only [hj,if_false]
   rw [this]
  simp only [lpup_0_eq,eup_4,eup_5,eup_6,eup_7,lup_4,lup_5,lup_6,lup_7,agd_none,Tryd.f66,acodeN,aopsN,astep,aop,ev,nth_lst,aput,setAt_lst,upd_at,Nat.reduceLT,Nat.reduceEqDiff,Option.map_some,if_true,if_false,h2,h5,h6,h7,h8,lss64,hlt,sub64',e1,i1,load22,c1,s1,i2,t1,gtr64',hgt,add64',e2,hfin]
  exact ⟨_,rfl,by simp only [upd_at,Nat.reduceEqDiff,reduceIte,h2],rfl,by simp only [upd_at,Nat.reduceEqDiff,reduceIte,h5],by simp only [upd_at,Nat.reduceEqDiff,reduceIte,h6],by simp only [upd_at,Nat.reduceEqDiff,reduceIte,h7],rfl⟩
theorem lastUp (h8:F 8=.int .i64 (i:Nat)) (hi:8≤i):∃ F',acodeN E self nf lpup_0 (lst F 45) M=some (.exit 0,lst F' 45,M)∧F' 4=F 4∧F' 7=F 7:=by
 have hlt:decide (((i:Nat):Int)<8)=false:=decide_eq_false (by omega)
 simp only [lpup_0_eq,eup_4,lup_4,agd_none,Tryd.f66,acodeN,aopsN,astep,aop,ev,nth_lst,aput,setAt_lst,upd_at,Nat.reduceLT,Nat.reduceEqDiff,if_true,if_false,h8,lss64,hlt]
 exact ⟨_,rfl,rfl,rfl⟩
theorem quo64 (k:Int):abin .quo .i64 k .i64 64=some (.int .i64 (wrapF .i64 (k.tdiv 64))):=by kernel_rfl
theorem rem64 (k:Int):abin .rem .i64 k .i64 64=some (.int .i64 (k.tmod 64)):=by kernel_rfl
theorem wq64 {n:Nat} (h:n<1000000):wrapF .i64 (((n:Nat):Int).tdiv 64)=((n / 64:Nat):Int):=by
 rw [Int.tdiv_eq_ediv_of_nonneg (by omega),wrap_i64 (by omega) (by omega)]; omega
theorem wrm64 {n:Nat}:((n:Nat):Int).tmod 64=((n%64:Nat):Int):=by
 rw [Int.tmod_eq_emod_of_nonneg (by omega)]; omega
theorem up_body {m:Mem} {n:Nat} (hn:n<512) (hw:∀ j,w j<18446744073709551616) (hf:10<nf) :
  ∃ m',abody E self nf 66 [wide w,.int .i64 (n:Nat)] m=some (wide (upW w (n / 64) (n%64)),m'):=by
 rw [abody_eqF (by kernel_rfl) Tryd.func66 bodyup (by kernel_rfl) (Nat.le_of_ble_eq_true rfl)]
 rw [show Tryd.f66.ntmps=45 from rfl]
 have e1:=wq64 (n:=n) (by omega)
 have e2:=wrm64 (n:=n)
 have b1:=box24 w m
 have b2:=alloc24 (m++[.row false 24 (rowOf w)])
 have b3:=alloc24 (m++[Blk.row false 24 (rowOf w)]++[.row false 24 (rowOf fun _=>0)])
 generalize hM:m++[Blk.row false 24 (rowOf w)]++[.row false 24 (rowOf fun _=>0)]++[.row false 24 (rowOf fun _=>0)]=M at b3
 have hp:M[m.length]? = some (.row false 24 (rowOf w)):=by
  rw [←hM,List.getElem?_append_left (by simp),List.getElem?_append_left (by simp)]; simp
 have hr:M[m.length+1]? = some (.row false 24 (rowOf fun _=>0)):=by
  rw [←hM,List.getElem?_append_left (by simp),List.getElem?_append_right (by simp)]; simp
 have hq:M[m.length+2]? = some (.row false 24 (rowOf fun _=>0)):=by
  rw [←hM,List.getElem?_append_right (by simp)]; simp
 have l1:(m++[Blk.row false 24 (rowOf w)]).length=m.length+1:=by simp
 have l2:(m++[Blk.row false 24 (rowOf w)]++[Blk.row false 24 (rowOf fun _=>0)]).length=m.length+2:=by simp
 rw [l1] at b2
 rw [l2] at b3
 have hloop:=aloop_inv (body:=acodeN E self nf lpup_0) (N:=8-n / 64)
  (I:=fun k T M'=>M'[m.length]? = some (.row false 24 (rowOf w))∧M'[m.length+1]? = some (.row false 24 (rowOf fun _=>0))∧M'[m.length+2]? = some (.row false 24 (rowOf fun j=>if j<n / 64+k then upW w (n / 64) (n%64) j else 0))∧
   ∃ F,T=lst F 45∧F 2=.pointer (some ⟨m.length,0,none⟩)∧F 4=.pointer (some ⟨m.length+1,0,none⟩)∧F 5=.int .i64 ((n / 64:Nat):Int)∧F 6=.int .i64 ((n%64:Nat):Int)∧F 7=.pointer (some ⟨m.length+2,0,none⟩)∧F 8=.int .i64 ((n / 64+k:Nat):Int))
  (Q:=fun e T M'=>e=.exit 0∧M'[m.length+1]? = some (.row false 24 (rowOf fun _=>0))∧M'[m.length+2]? = some (.row false 24 (rowOf (upW w (n / 64) (n%64))))∧∃ F,T=lst F 45∧F 4=.pointer (some ⟨m.length+1,0,none⟩)∧F 7=.pointer (some ⟨m.length+2,0,none⟩)) (fun k T M' hk hI=>by
   obtain ⟨gp,gr,gq,F,rfl,g2,g4,g5,g6,g7,g8⟩:=hI
   by_cases hlt:n / 64+k<8
   ·left
    obtain ⟨F',hr',f2,f4,f5,f6,f7,f8⟩:=iterUp (self:=self) (nf:=nf) g2 g7 g5 g6 g8 gp gq (by omega) (by omega) hlt (by omega) hw
    refine ⟨_,_,hr',by omega,?_,?_,?_,F',rfl,by rw [f2,g2],by rw [f4,g4],by rw [f5,g5],by rw [f6,g6],by rw [f7,g7],by rw [f8]; rfl⟩
    ·rw [List.getElem?_set_ne (by omega)]; exact gp
    ·rw [List.getElem?_set_ne (by omega)]; exact gr
    ·rw [List.getElem?_set_self (lt_of_at gq)]
     congr 2
     apply rowOf_ext
     intro j _
     by_cases hj:j=n / 64+k
     ·rw [if_pos hj,if_pos (by omega),hj]
     ·rw [if_neg hj]
      by_cases hj2:j<n / 64+k
      ·rw [if_pos hj2,if_pos (by omega)]
      ·rw [if_neg hj2,if_neg (by omega)]
   ·right
    obtain ⟨F',hr',f4,f7⟩:=lastUp (self:=self) (nf:=nf) (M:=M') g8 (by omega)
    refine ⟨_,_,_,hr',by simp,rfl,gr,?_,F',rfl,by rw [f4,g4],by rw [f7,g7]⟩
    rw [gq]
    congr 2
    apply rowOf_ext
    intro j hj
    rw [if_pos (by omega)])
 obtain ⟨e,T',M2,hl,rfl,hr2,hq2,F',rfl,f4,f7⟩:=hloop (8-n / 64) 0 nf (lst (upd (upd (upd (upd (upd (upd (upd (upd (upd (upd (upd (init [wide w,.int .i64 (n:Nat)]) 2 (.pointer (some ⟨m.length,0,none⟩))) 4 (.pointer (some ⟨m.length+1,0,none⟩))) 9 (.int .i64 (n:Nat))) 10 (.int .i64 ((n / 64:Nat):Int))) 11 (.int .i64 (n:Nat))) 12 (.int .i64 ((n%64:Nat):Int))) 5 (.int .i64 ((n / 64:Nat):Int))) 6 (.int .i64 ((n%64:Nat):Int))) 7 (.pointer (some ⟨m.length+2,0,none⟩))) 13 (.int .i64 ((n / 64:Nat):Int))) 8 (.int .i64 ((n / 64:Nat):Int))) 45) M (by omega) (by omega)
  ⟨hp,hr,by
   rw [hq]
   congr 2
   apply rowOf_ext
   intro j _
   by_cases hj:j<n / 64+0
   ·rw [if_pos hj]
    unfold upW
    rw [if_pos (by omega)]
   ·rw [if_neg hj],_,rfl,rfl,rfl,rfl,rfl,rfl,rfl⟩
 have ld:=load24 hq2
 have st:=store24 (w:=upW w (n / 64) (n%64)) hr2 (rowOf_length _)
 have ld2:aload E.P 24 (.pointer (some ⟨m.length+1,0,none⟩)) (M2.set (m.length+1) (.row false 24 (rowOf (upW w (n / 64) (n%64)))))=some (wide (upW w (n / 64) (n%64))):=load24 (by rw [List.getElem?_set_self (lt_of_at hr2)])
 simp only [eup_0,eup_1,eup_2,eup_3,eup_9,lup_0,lup_1,lup_2,lup_3,lup_9,agd_none,Tryd.f66,acodeN,aopsN,astep,aop,ev,nth_lst,aput,setAt_lst,upd_at,init_zero,init_succ,init_nil,Nat.reduceLT,Nat.reduceEqDiff,Option.map_some,if_true,if_false,b1,b2,b3,quo64,rem64,e1,e2,hl,f4,f7,ld,st,ld2,finish,ares,aresL,ares1]
 exact ⟨_,rfl⟩
end
end Go.Am.Seat
