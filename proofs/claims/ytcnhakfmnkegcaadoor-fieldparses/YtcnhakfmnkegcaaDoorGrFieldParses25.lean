import Derived.Test.YtcnhakfmnkegcaaDoorGrFieldParses24
import Derived.Test.YtcnhakfmnkegcaaDoorGrFieldParses8
import Derived.Defers
import Derived.Recover
set_option linter.unusedSimpArgs false
set_option linter.unusedVariables false
set_option maxRecDepth 100000
namespace Go.Am.Seat
open Go.Proofs Go.Am Go.Am.Num Go.Am.Kn
theorem owof_0:rwof_0.toList=[⟨some 2,.alloc 24,0,"limb.go:30",#[],none⟩]:=rfl
theorem owof_1:rwof_1.toList=[⟨some 3,.move (.tmp 0),22,"limb.go:30",#[],none⟩,⟨some 4,.build 24 #[(0,.tmp 3)],24,"limb.go:30",#[eD 0],none⟩,⟨none,.store 24 (.tmp 2) (.tmp 4),0,"limb.go:30",#[eD 1,eP 0,eP 1],none⟩]:=rfl
noncomputable def apB1 (P:Program) (t ty:TypeId) (a:Value):Option Value:=apure P [a] { dst:=none,op:=.build t #[(0,.tmp 0)],type:=ty,pos := "",after:=#[],guard:=none }
theorem apure_build1 {P:Program} {T:List Value} {t ty:TypeId} {a:Nat} {pos:String} {af:Array Edge} {gu:Option (Nat×Bool)} {dd:Option Tmp} :
  apure P T { dst:=dd,op:=.build t #[(0,.tmp a)],type:=ty,pos:=pos,after:=af,guard:=gu }=apB1 P t ty (nth T a):=by
 unfold apB1 apure
 simp [Op.operands,execOp,ev,nth_zero]
theorem abuildOf (x:Nat):apB1 E.P 24 24 (U x)=some (wide fun j=>if j=0 then x else 0):=by kernel_rfl
section
variable {self:Self} {nf:Nat} {m m':Mem} {F:Nat→Value} {p q r s x y z c:Nat} {w v o l:Nat→Nat}
theorem wof_body:∃ m',abody E self nf 29 [U x] m=some (wide fun j=>if j=0 then x else 0,m'):=by
 rw [abody_eqF (by kernel_rfl) Tryd.func29 bodywof (by kernel_rfl) (Nat.le_of_ble_eq_true rfl)]
 rw [show Tryd.f29.ntmps=5 from rfl]
 have ha:=alloc24 m
 obtain ⟨M,hM⟩:∃ M,M=m++[Blk.row false 24 (rowOf fun _=>0)]:=⟨_,rfl⟩
 rw [←hM] at ha
 have g:M[m.length]? = some (.row false 24 (rowOf fun _=>0)):=by rw [hM,List.getElem?_append_right (Nat.le_refl _)]; simp
 have st:=store24 (w:=fun j=>if j=0 then x else 0) g (rowOf_length _)
 have ld:aload E.P 24 (.pointer (some ⟨m.length,0,none⟩)) (M.set m.length (.row false 24 (rowOf fun j=>if j=0 then x else 0)))=some (wide fun j=>if j=0 then x else 0):=load24 (by rw [List.getElem?_set_self (lt_of_at g)])
 have hb2:=abuildOf x
 generalize (wide fun j=>if j=0 then x else 0)=V at *
 simp only [owof_0,owof_1,agd_none,acodeN,aopsN,astep,aop,ev,nth_lst,aput,setAt_lst,upd_at,init_zero,init_succ,init_nil,Nat.reduceLT,Nat.reduceEqDiff,Option.map_some,if_true,if_false,ha,apure_build1,hb2,st,ld,finish,ares,aresL,ares1,Tryd.f29]
 exact ⟨_,rfl⟩
theorem two_more {m M:Mem} {n:Nat} (hl:M.length=n) (a b:Nat→Nat):∃ m1 m2 m3 m4,aalloc E.P 24 M=some (.pointer (some ⟨n,0,none⟩),m1)∧aalloc E.P 24 m1=some (.pointer (some ⟨n+1,0,none⟩),m2)∧astore E.P 24 (.pointer (some ⟨n,0,none⟩)) (wide a) m2=some m3∧astore E.P 24 (.pointer (some ⟨n+1,0,none⟩)) (wide b) m3=some m4∧
  m4[n]? = some (.row false 24 (rowOf a))∧m4[n+1]? = some (.row false 24 (rowOf b))∧(∀ k,k<n→m4[k]? = M[k]?)∧m4.length=n+2:=by
 have ha:=alloc24 M
 have ha2:=alloc24 (M++[Blk.row false 24 (rowOf fun _=>0)])
 rw [List.length_append,List.length_singleton,hl] at ha2
 rw [hl] at ha
 obtain ⟨N,hN⟩:∃ N,N=M++[Blk.row false 24 (rowOf fun _=>0)]++[Blk.row false 24 (rowOf fun _=>0)]:=⟨_,rfl⟩
 rw [←hN] at ha2
 have lN:N.length=n+2:=by rw [hN]; simp [hl]
 have gx:N[n]? = some (.row false 24 (rowOf fun _=>0)):=by rw [hN,List.getElem?_append_left (by simp [hl]),←hl,List.getElem?_append_right (Nat.le_refl _)]; simp
 have gy:N[n+1]? = some (.row false 24 (rowOf fun _=>0)):=by rw [hN,List.getElem?_append_right (by simp [hl])]; simp [hl]
 have low:∀ k,k<n→N[k]? = M[k]? := fun k hk=>by rw [hN,List.getElem?_append_left (by simp [hl]; omega),List.getElem?_append_left (by rw [hl]; exact hk)]
 have t1:=store24 (w:=a) gx (rowOf_length _)
 have gy2:(N.set n (.row false 24 (rowOf a)))[n+1]? = some (.row false 24 (rowOf fun _=>0)):=by rw [List.getElem?_set_ne (by omega)]; exact gy
 have t2:=store24 (w:=b) gy2 (rowOf_length _)
 refine ⟨_,_,_,_,ha,ha2,t1,t2,?_,?_,fun k hk=>?_,by rw [List.length_set,List.length_set]; exact lN⟩
 ·rw [List.getElem?_set_ne (by omega),List.getElem?_set_self (lt_of_at gx)]
 ·rw [List.getElem?_set_self (lt_of_at gy2)]
 ·rw [List.getElem?_set_ne (by omega),List.getElem?_set_ne (by omega)]; exact low k hk
end
end Go.Am.Seat
namespace Go.Am
def val:List Nat→Nat
 | []=>0
 | x::l=>x+256*val l
def dig (n:Nat):List Nat:=if h:n=0 then [] else (n%256)::dig (n / 256)
termination_by n
decreasing_by omega
theorem dig_zero:dig 0=[]:=by rw [dig]; simp
theorem dig_pos {n:Nat} (h:n≠0):dig n=(n%256)::dig (n / 256):=by rw [dig]; simp [h]
theorem val_dig (n:Nat):val (dig n)=n:=by
 induction n using Nat.strongRecOn with
 | ind n ih =>
  by_cases h:n=0
  ·subst h; rw [dig_zero]; rfl
  ·rw [dig_pos h,val,ih (n / 256) (by omega)]
   omega
theorem dig_lt (n:Nat):∀ x∈dig n,x<256:=by
 induction n using Nat.strongRecOn with
 | ind n ih =>
  by_cases h:n=0
  ·subst h; rw [dig_zero]; simp
  ·rw [dig_pos h]
   intro x hx
   rcases List.mem_cons.1 hx with rfl | hx
   ·omega
   ·exact ih (n / 256) (by omega) x hx
theorem val_append (a b:List Nat):val (a++b)=val a+256^a.length*val b:=by
 induction a with
 | nil=>simp [val]
 | cons x a ih=>simp only [List.cons_append,val,ih,List.length_cons,Nat.pow_succ]; rw [Nat.mul_add,Nat.mul_comm (256^a.length) 256,Nat.mul_assoc]; omega
theorem val_lt {l:List Nat} (h:∀ x∈l,x<256):val l<256^l.length:=by
 induction l with
 | nil=>simp [val]
 | cons x l ih =>
  have h1:=h x (by simp)
  have h2:=ih fun y hy=>h y (by simp [hy])
  simp only [val,List.length_cons,Nat.pow_succ]
  omega
theorem val_noughts:∀ {l:List Nat},(∀ x∈l,x=0)→val l=0
 | [],_=>rfl
 | x::l,h=>by
  rw [val,h x (by simp),val_noughts fun y hy=>h y (by simp [hy])]
theorem dig_val {l:List Nat} (h:∀ x∈l,x<256) (hl:l=[]∨∃ x,0<x∧l[l.length-1]? = some x):dig (val l)=l:=by
 induction l with
 | nil=>exact dig_zero
 | cons x l ih =>
  have hx:=h x (by simp)
  have hpos:l=[]→0<x:=by
   intro hn
   subst hn
   rcases hl with hl | ⟨y,h1,h2⟩
   ·cases hl
   ·simp at h2; omega
  have ih':=ih (fun y hy=>h y (by simp [hy])) (by
   by_cases hn:l=[]
   ·exact .inl hn
   ·right
    rcases hl with hl | ⟨y,h1,h2⟩
    ·cases hl
    ·refine ⟨y,h1,?_⟩
     have:0<l.length:=List.length_pos_iff.2 hn
     rw [List.length_cons,show l.length+1-1=(l.length-1)+1 by omega,List.getElem?_cons_succ] at h2
     exact h2)
  have hv:val l≠0∨l=[]:=by
   by_cases hn:l=[]
   ·exact .inr hn
   ·left
    intro h0
    rw [h0,dig_zero] at ih'
    exact hn ih'.symm
  have hne:val (x::l)≠0:=by
   rw [val]
   rcases hv with hv | hv
   ·omega
   ·have:=hpos hv; omega
  rw [dig_pos hne,val,show (x+256*val l)%256=x by omega,show (x+256*val l) / 256=val l by omega,ih']
theorem dig_last (n:Nat):dig n=[]∨∃ x,0<x∧(dig n)[(dig n).length-1]? = some x:=by
 induction n using Nat.strongRecOn with
 | ind n ih =>
  by_cases h:n=0
  ·subst h; left; exact dig_zero
  ·right
   rw [dig_pos h]
   rcases ih (n / 256) (by omega) with h1 | ⟨x,h1,h2⟩
   ·rw [h1]
    have h0:n / 256=0:=by rw [←val_dig (n / 256),h1]; rfl
    exact ⟨n%256,by omega,by simp⟩
   ·refine ⟨x,h1,?_⟩
    have:(dig (n / 256)).length≠0:=by
     intro h0
     rw [List.eq_nil_of_length_eq_zero h0] at h2
     simp at h2
    rw [List.length_cons,show (dig (n / 256)).length+1-1=((dig (n / 256)).length-1)+1 by omega,List.getElem?_cons_succ]
    exact h2
theorem dig_len_le {n k:Nat} (h:n<256^k):(dig n).length≤k:=by
 induction k generalizing n with
 | zero =>
  have:n=0:=by simpa using h
  subst this
  rw [dig_zero]; simp
 | succ k ih =>
  by_cases h0:n=0
  ·subst h0; rw [dig_zero]; simp
  ·rw [dig_pos h0,List.length_cons]
   have:=ih (n:=n / 256) (by rw [Nat.pow_succ] at h; omega)
   omega
theorem lt_dig_len (n:Nat):n<256^(dig n).length:=by
 have:=val_lt (dig_lt n)
 rw [val_dig] at this
 exact this
theorem dig_len_ge {n k:Nat} (h:256^k≤n):k<(dig n).length:=by
 have h1:=lt_dig_len n
 have h2:256^k<256^(dig n).length:=Nat.lt_of_le_of_lt h h1
 exact (Nat.pow_lt_pow_iff_right (by omega)).1 h2
theorem dig_inj {a b:Nat} (h:dig a=dig b):a=b:=by rw [←val_dig a,←val_dig b,h]
theorem val_take {l:List Nat} (h:∀ x∈l,x<256) (k:Nat):val (l.take k)=val l%256^k:=by
 have h1:val l=val (l.take k)+256^(l.take k).length*val (l.drop k):=by
  rw [←val_append,List.take_append_drop]
 have h2:=val_lt (l:=l.take k) fun x hx=>h x (List.mem_of_mem_take hx)
 by_cases hk:k≤l.length
 ·rw [List.length_take,Nat.min_eq_left hk] at h1 h2
  rw [h1,Nat.add_mul_mod_self_left,Nat.mod_eq_of_lt h2]
 ·rw [List.take_of_length_le (by omega)] at h2⊢
  rw [Nat.mod_eq_of_lt]
  exact Nat.lt_of_lt_of_le h2 (Nat.pow_le_pow_right (by omega) (by omega))
theorem val_drop {l:List Nat} (h:∀ x∈l,x<256) {k:Nat} (hk:k≤l.length):val (l.drop k)=val l / 256^k:=by
 have h1:val l=val (l.take k)+256^(l.take k).length*val (l.drop k):=by
  rw [←val_append,List.take_append_drop]
 have h2:=val_lt (l:=l.take k) fun x hx=>h x (List.mem_of_mem_take hx)
 rw [List.length_take,Nat.min_eq_left hk] at h1 h2
 rw [h1,Nat.add_mul_div_left _ _ (Nat.lt_of_le_of_lt (Nat.zero_le _) h2),Nat.div_eq_of_lt h2,Nat.zero_add]
theorem val_step {l:List Nat} {i x:Nat} (h:l[i]? = some x):val (l.take (i+1))=val (l.take i)+256^i*x:=by
 have hi:i<l.length:=(List.getElem?_eq_some_iff.1 h).1
 rw [List.take_add_one,h,val_append,List.length_take,Nat.min_eq_left (by omega)]
 simp [val]
theorem val_same {l:List Nat} {i:Nat} (h:l.length≤i):val (l.take (i+1))=val (l.take i):=by
 rw [List.take_of_length_le (by omega),List.take_of_length_le h]
theorem same_len:∀ {a b:List Nat},(∀ x∈a,x<256)→(∀ x∈b,x<256)→a.length=b.length→val a=val b→a=b
 | [],[],_,_,_,_=>rfl
 | x::a,y::b,ha,hb,hl,hv=>by
  have h1:=ha x (by simp)
  have h2:=hb y (by simp)
  simp only [val] at hv
  have h3:x=y:=by omega
  have h4:val a=val b:=by omega
  rw [h3,same_len (fun z hz=>ha z (by simp [hz])) (fun z hz=>hb z (by simp [hz])) (by simpa using hl) h4]
end Go.Am
namespace Go.Am
noncomputable section
def PPost (D:List Deferred) (P:Program) (ρ:Ren) (m:Mem) (w:World) (pv:Value) (T1:List Value) (m1:Mem) (e:Exit) (a1:Act) (w1:World):Prop :=
 ∃ pv' ρ1,e=.panic [{ v:=pv',recovered:=false }]∧a1.defers=D∧TR ρ1 T1 a1.tmps∧VR ρ1 pv pv'∧MR P ρ1 m1 w1∧Ext ρ m w ρ1 m1 w1
theorem PPost.after {D:List Deferred} {P:Program} {ρ ρ1:Ren} {m m1 m2:Mem} {w w1 w2:World} {pv:Value} {T2:List Value} {e:Exit} {a2:Act} (hx:Ext ρ m w ρ1 m1 w1) (h:PPost D P ρ1 m1 w1 pv T2 m2 e a2 w2):PPost D P ρ m w pv T2 m2 e a2 w2:=by
 obtain ⟨pv',ρ2,h1,h2,h3,h4,h5,h6⟩:=h
 exact ⟨pv',ρ2,h1,h2,h3,h4,h5,hx.trans h6⟩
end
end Go.Am
namespace Go.Am
noncomputable section
inductive PS where
 | none
 | live (pv:Value)
 | done
def PS.ok (ρ:Ren):PS→FrameMode→Prop
 | .none,u=>u=.returning
 | .live pv,u=>∃ pv',u=.panicking [{ v:=pv',recovered:=false }]∧VR ρ pv pv'
 | .done,u=>∃ pv',u=.panicking [{ v:=pv',recovered:=true }]
def SPost (D:List Deferred) (c₀:Frame) (cs:List Frame) (P:Program) (ρ:Ren) (m:Mem) (w:World) (T1:List Value) (m1:Mem) (s1:PS) (a1:Act) (cs1:List Frame) (w1:World):Prop :=
 a1.defers=D∧∃ ρ1 u1,cs1={ c₀ with mode:=u1 }::cs∧s1.ok ρ1 u1∧TR ρ1 T1 a1.tmps∧MR P ρ1 m1 w1∧Ext ρ m w ρ1 m1 w1
theorem SPost.after {D:List Deferred} {c₀:Frame} {cs:List Frame} {P:Program} {ρ ρ1:Ren} {m m1 m2:Mem} {w w1 w2:World} {T2:List Value} {s2:PS} {a2:Act} {cs2:List Frame} (hx:Ext ρ m w ρ1 m1 w1) (h:SPost D c₀ cs P ρ1 m1 w1 T2 m2 s2 a2 cs2 w2):SPost D c₀ cs P ρ m w T2 m2 s2 a2 cs2 w2:=by
 obtain ⟨h1,ρ2,u2,h2,h3,h4,h5,h6⟩:=h
 exact ⟨h1,ρ2,u2,h2,h3,h4,h5,hx.trans h6⟩
def DefIs (P:Program) (ρ:Ren) (g:FuncId) (dargs:List Value) (d:Deferred):Prop :=
 ∃ cap:Array Value,d.target=.fn (.func g) cap∧TR ρ dargs (d.args++cap)∧∀ w:World,(invoke d.target d.args).run P w=.ok (.enter g (d.args++cap)) w
theorem DefIs.mono {P:Program} {ρ ρ':Ren} (hl:ρ.le ρ') {g:FuncId} {dargs:List Value} {d:Deferred} (h:DefIs P ρ g dargs d):DefIs P ρ' g dargs d:=by
 obtain ⟨cap,h1,h2,h3⟩:=h
 exact ⟨cap,h1,h2.mono hl,h3⟩
end
end Go.Am
