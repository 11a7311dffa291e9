import Derived.Test.YtcnhakfmnkegcaaDoorGrFieldParses22
set_option linter.unusedSimpArgs false
set_option linter.unusedVariables false
set_option maxRecDepth 100000
namespace Go.Am.Seat
open Go.Proofs Go.Am Go.Am.Num Go.Am.Kn
def wN (x:Nat) (j:Nat):Nat:=x / 18446744073709551616^j%18446744073709551616
theorem wN_lt (x j:Nat):wN x j<18446744073709551616:=Nat.mod_lt _ (by decide)
theorem vN_wN (x:Nat):∀ n,vN (wN x) n=x%18446744073709551616^n
 | 0=>by rw [vN,Nat.pow_zero,Nat.mod_one]
 | n+1=>by rw [vN,vN_wN x n,wN,Nat.pow_succ,Nat.mod_mul]
theorem vN_inj {w v:Nat→Nat} (hw:∀ j,w j<18446744073709551616) (hv:∀ j,v j<18446744073709551616):∀ n,vN w n=vN v n→∀ j,j<n→w j=v j
 | 0,_,j,h=>absurd h (Nat.not_lt_zero j)
 | n+1,h,j,hj=>by
  rw [vN,vN] at h
  have h1:=vN_lt hw n
  have h2:=vN_lt hv n
  have hp:0<18446744073709551616^n:=Nat.pow_pos (by decide)
  have e:vN w n=vN v n:=by
   have a1:=Nat.add_mul_mod_self_left (vN w n) (18446744073709551616^n) (w n)
   have a2:=Nat.add_mul_mod_self_left (vN v n) (18446744073709551616^n) (v n)
   rw [h,a2,Nat.mod_eq_of_lt h1,Nat.mod_eq_of_lt h2] at a1
   exact a1.symm
  rcases Nat.lt_or_ge j n with h3 | h3
  ·exact vN_inj hw hv n e j h3
  ·have:j=n:=by omega
   subst this
   rw [e] at h
   exact Nat.eq_of_mul_eq_mul_left hp (Nat.add_left_cancel h)
def W8:Nat:=18446744073709551616^8
theorem W8_pos:0<W8:=Nat.pow_pos (by decide)
abbrev wdK (x:Nat):Value:=wide (wN x)
theorem wide_ext {w v:Nat→Nat} (h:∀ j,j<8→w j=v j):wide w=wide v:=by
 unfold wide rowOf
 congr 2
 apply List.map_congr_left
 intro j hj
 rw [h j (List.mem_range.1 hj)]
theorem wide_num {w:Nat→Nat} (hw:∀ j,w j<18446744073709551616):wide w=wdK (vN w 8):=wide_ext (vN_inj hw (wN_lt _) 8 (by rw [vN_wN,Nat.mod_eq_of_lt (vN_lt hw 8)]))
theorem vN_wN8 {x:Nat} (hx:x<W8):vN (wN x) 8=x:=by rw [vN_wN]; exact Nat.mod_eq_of_lt hx
theorem wN_zero:wN 0=fun _=>0:=funext fun j=>by unfold wN; rw [Nat.zero_div]
theorem wd_zero:wdK 0=wide fun _=>0:=by unfold wdK; rw [wN_zero]
theorem wd_small {x:Nat} (hx:x<18446744073709551616):wdK x=wide fun j=>if j=0 then x else 0:=wide_ext fun j hj=>by
 unfold wN
 by_cases h:j=0
 ·rw [if_pos h,h,Nat.pow_zero,Nat.div_one,Nat.mod_eq_of_lt hx]
 ·rw [if_neg h]
  have h1:18446744073709551616^1≤18446744073709551616^j:=Nat.pow_le_pow_right (by decide) (by omega)
  rw [Nat.pow_one] at h1
  rw [Nat.div_eq_of_lt (Nat.lt_of_lt_of_le hx h1)]
theorem all_wN {x y:Nat} (hx:x<W8) (hy:y<W8):((List.range 8).all fun j=>((wN x j:Nat):Int)==((wN y j:Nat):Int))=decide (x=y):=by
 rw [Bool.eq_iff_iff,List.all_eq_true,decide_eq_true_eq]
 constructor
 ·intro h
  have e:vN (wN x) 8=vN (wN y) 8:=vN_ext fun j hj=>by
   have:=h j (List.mem_range.2 hj)
   simp at this
   omega
  rw [vN_wN8 hx,vN_wN8 hy] at e
  exact e
 ·intro h j _
  rw [h]
  simp
theorem eqlWd {x y:Nat} {a b:Operand} (hx:x<W8) (hy:y<W8):eqlVal E.P 24 a b (wdK x) (wdK y)=some (.bool (decide (x=y))):=by rw [eql24,all_wN hx hy]
theorem eqlWd0 {x:Nat} {a b:Operand} (hx:x<W8):eqlVal E.P 24 a b (wdK x) (wide fun _=>0)=some (.bool (decide (x=0))):=by rw [←wd_zero]; exact eqlWd hx W8_pos
theorem lit_wd (x:Nat):lit2 (wdK x)=true:=by
 show (rowOf (wN x)).all lit0=true
 rw [List.all_eq_true]
 intro v hv
 unfold rowOf at hv
 obtain ⟨j,_,rfl⟩:=List.mem_map.1 hv
 rfl
theorem Uses.uniq {w:Nat→Nat} {n k:Nat} (h:Uses w n) (h':Uses w k):n=k:=by
 obtain ⟨a1,a2,a3⟩:=h
 obtain ⟨b1,b2,b3⟩:=h'
 rcases Nat.lt_trichotomy n k with h | h | h
 ·rcases b3 with h0 | h0
  ·omega
  ·exact absurd (a2 (k-1) (by omega) (by omega)) h0
 ·exact h
 ·rcases a3 with h0 | h0
  ·omega
  ·exact absurd (b2 (n-1) (by omega) (by omega)) h0
theorem Uses.num {w:Nat→Nat} {n:Nat} (h:Uses w n):vN w 8=vN w n:=by
 obtain ⟨h1,h2,_⟩:=h
 have:=vN_zero (w:=w) (n:=n) (8-n) fun j a b=>h2 j a (by omega)
 rw [show n+(8-n)=8 by omega] at this
 exact this
def CUs (self:Self):Prop:=∀ w:Nat→Nat,∃ n,Uses w n∧Ans self 43 [wide w] (.int .i64 ((n:Nat):Int))
def CCmpW (self:Self):Prop:=∀ x y,x<W8→y<W8→Ans self 18 [wdK x,wdK y] (.int .i64 (cmpV x y))
def CDw (self:Self):Prop:=∀ x d,x<W8→0<d→d<18446744073709551616→Ans self 46 [wdK x,U d] (.tuple ⟨[wdK (x / d),U (x%d)]⟩)
def CDlg (self:Self):Prop:=∀ x y k,x<W8→y<W8→Uses (wN y) (k+2)→Ans self 47 [wdK x,wdK y] (.tuple ⟨[wdK (x / y),wdK (x%y)]⟩)
def COfW (self:Self):Prop:=∀ x,x<18446744073709551616→Ans self 29 [U x] (wdK x)
def CDivW (self:Self):Prop:=∀ x y,x<W8→y<W8→Ans self 21 [wdK x,wdK y] (if y=0 then .tuple ⟨[wdK 0,wdK 0,.int .i64 9]⟩ else .tuple ⟨[wdK (x / y),wdK (x%y),.int .i64 0]⟩)
section
variable {self:Self} {nf:Nat} {m:Mem} {F:Nat→Value} {w v o l:Nat→Nat} {p q r s x y n:Nat}
theorem wdv_7 {m1 m2:Mem} {d:Nat} (hd:d<18446744073709551616) (h4:F 4=.pointer (some ⟨r,0,none⟩)) (h5:F 5=.pointer (some ⟨s,0,none⟩)) (h7:F 7=.pointer (some ⟨x,0,none⟩)) (h8:F 8=U d) (l1:aload E.P 24 (.pointer (some ⟨x,0,none⟩)) m=some (wide o)) (l2:aload E.P 24 (.pointer (some ⟨x,0,none⟩)) (m.map sealed)=some (wide o)) (hof:∀ M,ainv E self 29 [U d] M=some (wide l,M)) (st:astore E.P 24 (.pointer (some ⟨r,0,none⟩)) (wide o) m=some m1) (st2:astore E.P 24 (.pointer (some ⟨s,0,none⟩)) (wide l) m1=some m2) :
  ∃ F',acodeN E self nf (.region 7 rdv_7 true) (lst F 43) m=some (.normal,lst F' 43,m2)∧F' 6=.int .i64 0∧F' 4=.pointer (some ⟨r,0,none⟩)∧F' 5=.pointer (some ⟨s,0,none⟩):=by
 simp only [↓ddv_7,↓sdv_7,odv_7,agd_none,List.cons_append,List.nil_append,acodeN,adrawT,cls,astep,aop,afloat,ev,nth_lst,aput,setAt_lst,upd_at,Nat.reduceLT,Nat.reduceEqDiff,Option.map_some,List.map_cons,List.map_nil,List.isEmpty_nil,bls,if_true,if_false,List.length_map,h4,h5,h7,h8,l2,callOfW,hof,st,st2]
 exact ⟨_,rfl,rfl,by simp only [upd_at,Nat.reduceEqDiff,reduceIte,h4],by simp only [upd_at,Nat.reduceEqDiff,reduceIte,h5]⟩
theorem wdv_8 {m1 m2 m3 m4:Mem} (h2:F 2=.pointer (some ⟨p,0,none⟩)) (h3:F 3=.pointer (some ⟨q,0,none⟩)) (ld:aload E.P 24 (.pointer (some ⟨p,0,none⟩)) m=some (wide w)) (ld2:aload E.P 24 (.pointer (some ⟨q,0,none⟩)) m=some (wide v)) (hc:∀ M,ainv E self 47 [wide w,wide v] M=some (.tuple ⟨[wide o,wide l]⟩,M)) (ha:aalloc E.P 24 m=some (.pointer (some ⟨x,0,none⟩),m1)) (ha2:aalloc E.P 24 m1=some (.pointer (some ⟨y,0,none⟩),m2)) (st:astore E.P 24 (.pointer (some ⟨x,0,none⟩)) (wide o) m2=some m3) (st2:astore E.P 24 (.pointer (some ⟨y,0,none⟩)) (wide l) m3=some m4) :
  ∃ F',acodeN E self nf (.region 8 rdv_8 false) (lst F 43) m=some (.normal,lst F' 43,m4)∧F' 9=.pointer (some ⟨x,0,none⟩)∧F' 10=.pointer (some ⟨y,0,none⟩)∧∀ j,j<7→F' j=F j:=by
 have x0:nth [wide o,wide l] 0=wide o:=rfl
 have x1:nth [wide o,wide l] 1=wide l:=rfl
 simp only [odv_8,agd_none,List.cons_append,List.nil_append,acodeN,aopsN,astep,aop,ev,nth_lst,aput,setAt_lst,upd_at,Nat.reduceLT,Nat.reduceEqDiff,Option.map_some,List.map_cons,List.map_nil,List.isEmpty_nil,bls,if_true,if_false,h2,h3,ld,ld2,callDlg,hc,ha,ha2,st,st2,exW0,exW1]
 exact ⟨_,rfl,rfl,rfl,fun j h1=>by repeat rw [upd_ne (by omega)]⟩
structure Four (m M:Mem) (w v o l:Nat→Nat):Prop where
 len:M.length=m.length+4
 p:M[m.length]? = some (.row false 24 (rowOf w))
 q:M[m.length+1]? = some (.row false 24 (rowOf v))
 r:M[m.length+2]? = some (.row false 24 (rowOf o))
 s:M[m.length+3]? = some (.row false 24 (rowOf l))
theorem four (m:Mem) (w v:Nat→Nat):Four m (m++[Blk.row false 24 (rowOf w)]++[Blk.row false 24 (rowOf v)]++[.row false 24 (rowOf fun _=>0)]++[.row false 24 (rowOf fun _=>0)]) w v (fun _=>0) (fun _=>0) where
 len:=by simp
 p:=by rw [List.getElem?_append_left (by simp<;>omega),List.getElem?_append_left (by simp<;>omega),List.getElem?_append_left (by simp),List.getElem?_append_right (by simp)]; simp
 q:=by rw [List.getElem?_append_left (by simp<;>omega),List.getElem?_append_left (by simp),List.getElem?_append_right (by simp)]; simp
 r:=by rw [List.getElem?_append_left (by simp),List.getElem?_append_right (by simp)]; simp
 s:=by rw [List.getElem?_append_right (by simp)]; simp
theorem four_allocs (m:Mem) (w v:Nat→Nat):∃ m1 m2 m3 m4,abox E.P 24 (wide w) m=some (.pointer (some ⟨m.length,0,none⟩),m1)∧abox E.P 24 (wide v) m1=some (.pointer (some ⟨m.length+1,0,none⟩),m2)∧aalloc E.P 24 m2=some (.pointer (some ⟨m.length+2,0,none⟩),m3)∧aalloc E.P 24 m3=some (.pointer (some ⟨m.length+3,0,none⟩),m4)∧Four m m4 w v (fun _=>0) (fun _=>0):=by
 have l1:(m++[Blk.row false 24 (rowOf w)]).length=m.length+1:=by simp
 have l2:(m++[Blk.row false 24 (rowOf w)]++[Blk.row false 24 (rowOf v)]).length=m.length+2:=by simp
 have l3:(m++[Blk.row false 24 (rowOf w)]++[Blk.row false 24 (rowOf v)]++[Blk.row false 24 (rowOf fun _=>0)]).length=m.length+3:=by simp
 have b2:=box24 v (m++[.row false 24 (rowOf w)])
 have b3:=alloc24 (m++[Blk.row false 24 (rowOf w)]++[Blk.row false 24 (rowOf v)])
 have b4:=alloc24 (m++[Blk.row false 24 (rowOf w)]++[Blk.row false 24 (rowOf v)]++[Blk.row false 24 (rowOf fun _=>0)])
 rw [l1] at b2
 rw [l2] at b3
 rw [l3] at b4
 exact ⟨_,_,_,_,box24 w m,b2,b3,b4,four m w v⟩
theorem two_stored {m M:Mem} {w v o l a b:Nat→Nat} (h:Four m M w v o l):∃ M1 M2,astore E.P 24 (.pointer (some ⟨m.length+2,0,none⟩)) (wide a) M=some M1∧astore E.P 24 (.pointer (some ⟨m.length+3,0,none⟩)) (wide b) M1=some M2∧aload E.P 24 (.pointer (some ⟨m.length+2,0,none⟩)) M2=some (wide a)∧aload E.P 24 (.pointer (some ⟨m.length+3,0,none⟩)) M2=some (wide b):=by
 have s1:=store24 (w:=a) h.r (rowOf_length _)
 have g1:(M.set (m.length+2) (.row false 24 (rowOf a)))[m.length+3]? = some (.row false 24 (rowOf l)):=by rw [List.getElem?_set_ne (by omega)]; exact h.s
 have s2:=store24 (w:=b) g1 (rowOf_length _)
 refine ⟨_,_,s1,s2,?_,?_⟩
 ·exact load24 (by rw [List.getElem?_set_ne (by omega),List.getElem?_set_self (lt_of_at h.r)])
 ·exact load24 (by rw [List.getElem?_set_self (lt_of_at g1)])
theorem ne_beq {a b:Nat} (h:a≠b):(a==b)=false:=by simp [h]
theorem load24s {M:Mem} {k:Nat} {w:Nat→Nat} {e:TypeId} (h:M[k]? = some (.row false e (rowOf w))):aload E.P 24 (.pointer (some ⟨k,0,none⟩)) (M.map sealed)=some (wide w):=load24 (ro:=true) (e:=e) (by rw [List.getElem?_map,h]; rfl)
theorem dv_zero (hv:∀ i j,eqlVal E.P 24 i j (wide v) (wide fun _=>0)=some (.bool true)):∃ m',abody E self nf 21 [wide w,wide v] m=some (.tuple ⟨[wide fun _=>0,wide fun _=>0,.int .i64 9]⟩,m'):=by
 rw [abody_eqF (by kernel_rfl) Tryd.func21 bodydv (by kernel_rfl) (Nat.le_of_ble_eq_true rfl)]
 rw [show Tryd.f21.ntmps=43 from rfl]
 obtain ⟨m1,m2,m3,M,hb,hc,hd,he,h4⟩:=four_allocs m w v
 obtain ⟨A,ra,a2,a3,a4,a5⟩:=wdv_0 (self:=self) (nf:=nf) (F:=init [wide w,wide v]) hb hc hd he rfl rfl
 obtain ⟨B,rb,b13,bk⟩:=wdv_1 (self:=self) (nf:=nf) (b:=true) a3 (load24 h4.q) hv
 obtain ⟨M1,M2,s1,s2,l1,l2⟩:=two_stored (a:=fun _=>0) (b:=fun _=>0) h4
 obtain ⟨C,rc,c6,c4,c5⟩:=wdv_2 (self:=self) (nf:=nf) ((bk 4 (by omega)).trans a4) ((bk 5 (by omega)).trans a5) s1 s2
 refine ⟨M2,?_⟩
 generalize Code.region 0 rdv_0 false=C0 at *
 generalize Code.region 1 rdv_1 false=C1 at *
 generalize Code.region 2 rdv_2 false=C2 at *
 simp only [acodeN,ra,rb,rc,finish,ares,aresL,ares1,Tryd.f21,ev,nth_lst,Nat.reduceLT,if_true,b13,c4,c5,c6,l1,l2,Option.map_some]
theorem dv_less {c:Int} (hv:∀ i j,eqlVal E.P 24 i j (wide v) (wide fun _=>0)=some (.bool false)) (hc9:∀ M,ainv E self 18 [wide w,wide v] M=some (.int .i64 c,M)) (hb9:decide (c<0)=true):∃ m',abody E self nf 21 [wide w,wide v] m=some (.tuple ⟨[wide fun _=>0,wide w,.int .i64 0]⟩,m'):=by
 rw [abody_eqF (by kernel_rfl) Tryd.func21 bodydv (by kernel_rfl) (Nat.le_of_ble_eq_true rfl)]
 rw [show Tryd.f21.ntmps=43 from rfl]
 obtain ⟨m1,m2,m3,M,hb,hc,hd,he,h4⟩:=four_allocs m w v
 obtain ⟨A,ra,a2,a3,a4,a5⟩:=wdv_0 (self:=self) (nf:=nf) (F:=init [wide w,wide v]) hb hc hd he rfl rfl
 obtain ⟨B,rb,b13,bk⟩:=wdv_1 (self:=self) (nf:=nf) (b:=false) a3 (load24 h4.q) hv
 obtain ⟨C,rc,c19,ck⟩:=wdv_3 (self:=self) (nf:=nf) (b:=true) ((bk 2 (by omega)).trans a2) ((bk 3 (by omega)).trans a3) (load24 h4.p) (load24 h4.q) hc9 hb9
 obtain ⟨M1,M2,s1,s2,l1,l2⟩:=two_stored (a:=fun _=>0) (b:=w) h4
 obtain ⟨D,rd,d6,d4,d5⟩:=wdv_4 (self:=self) (nf:=nf) (ne_beq (show m.length+2≠m.length by omega)) (ne_beq (show m.length+3≠m.length by omega)) ((ck 2 (by omega)).trans ((bk 2 (by omega)).trans a2)) ((ck 4 (by omega)).trans ((bk 4 (by omega)).trans a4)) ((ck 5 (by omega)).trans ((bk 5 (by omega)).trans a5)) (load24 h4.p) (load24s h4.p) s1 s2
 refine ⟨M2,?_⟩
 generalize Code.region 0 rdv_0 false=C0 at *
 generalize Code.region 1 rdv_1 false=C1 at *
 generalize Code.region 2 rdv_2 false=C2 at *
 generalize Code.region 3 rdv_3 false=C3 at *
 generalize Code.region 4 rdv_4 true=C4 at *
 simp only [acodeN,ra,rb,rc,rd,finish,ares,aresL,ares1,Tryd.f21,ev,nth_lst,Nat.reduceLT,if_true,b13,c19,d4,d5,d6,l1,l2,Option.map_some]
theorem dv_word {c:Int} {d:Nat} (hd9:d<18446744073709551616) (hv0:v 0<18446744073709551616) (hv:∀ i j,eqlVal E.P 24 i j (wide v) (wide fun _=>0)=some (.bool false)) (hc9:∀ M,ainv E self 18 [wide w,wide v] M=some (.int .i64 c,M)) (hb9:decide (c<0)=false)
  (hu:∀ M,ainv E self 43 [wide v] M=some (.int .i64 ((1:Nat):Int),M)) (hdw:∀ M,ainv E self 46 [wide w,U (v 0)] M=some (.tuple ⟨[wide o,U d]⟩,M)) (hof:∀ M,ainv E self 29 [U d] M=some (wide l,M)):∃ m',abody E self nf 21 [wide w,wide v] m=some (.tuple ⟨[wide o,wide l,.int .i64 0]⟩,m'):=by
 rw [abody_eqF (by kernel_rfl) Tryd.func21 bodydv (by kernel_rfl) (Nat.le_of_ble_eq_true rfl)]
 rw [show Tryd.f21.ntmps=43 from rfl]
 obtain ⟨m1,m2,m3,M,hb,hc,hd,he,h4⟩:=four_allocs m w v
 obtain ⟨A,ra,a2,a3,a4,a5⟩:=wdv_0 (self:=self) (nf:=nf) (F:=init [wide w,wide v]) hb hc hd he rfl rfl
 obtain ⟨B,rb,b13,bk⟩:=wdv_1 (self:=self) (nf:=nf) (b:=false) a3 (load24 h4.q) hv
 obtain ⟨C,rc,c19,ck⟩:=wdv_3 (self:=self) (nf:=nf) (b:=false) ((bk 2 (by omega)).trans a2) ((bk 3 (by omega)).trans a3) (load24 h4.p) (load24 h4.q) hc9 hb9
 have kc:∀ j,j<7→C j=A j:=fun j hj=>(ck j hj).trans (bk j hj)
 obtain ⟨D,rd,d24,dk⟩:=wdv_5 (self:=self) (nf:=nf) (b:=true) ((kc 3 (by omega)).trans a3) (load24 h4.q) hu (by decide)
 have kd:∀ j,j<7→D j=A j:=fun j hj=>(dk j hj).trans (kc j hj)
 have ha:=alloc24 M
 rw [h4.len] at ha
 have gx:(M++[Blk.row false 24 (rowOf fun _=>0)])[m.length+4]? = some (.row false 24 (rowOf fun _=>0)):=by rw [←h4.len,List.getElem?_append_right (Nat.le_refl _)]; simp
 have st:=store24 (w:=o) gx (rowOf_length _)
 have cx:cellAt M (m.length+1) 0=some (U (v 0)):=by rw [cellAt_row h4.q,rowOf_get (by omega)]
 obtain ⟨G,rg,g7,g8,gk⟩:=wdv_6 (self:=self) (nf:=nf) ((kd 2 (by omega)).trans a2) ((kd 3 (by omega)).trans a3) (load24 h4.p) cx hdw ha st
 obtain ⟨N,hN⟩:∃ N,N=(M++[Blk.row false 24 (rowOf fun _=>0)]).set (m.length+4) (.row false 24 (rowOf o)):=⟨_,rfl⟩
 rw [←hN] at rg
 have f4:m.length+4<(M++[Blk.row false 24 (rowOf fun _=>0)]).length:=by simp [h4.len]
 have nx:N[m.length+4]? = some (.row false 24 (rowOf o)):=by rw [hN,List.getElem?_set_self f4]
 have low:∀ k,k<m.length+4→N[k]? = M[k]? := fun k hk=>by rw [hN,List.getElem?_set_ne (by omega),List.getElem?_append_left (by rw [h4.len]; exact hk)]
 have nr:=(low (m.length+2) (by omega)).trans h4.r
 have ns:=(low (m.length+3) (by omega)).trans h4.s
 clear hN st gx
 have s1:=store24 (w:=o) nr (rowOf_length _)
 have g1:(N.set (m.length+2) (.row false 24 (rowOf o)))[m.length+3]? = some (.row false 24 (rowOf fun _=>0)):=by rw [List.getElem?_set_ne (by omega)]; exact ns
 have s2:=store24 (w:=l) g1 (rowOf_length _)
 obtain ⟨H,rh,x6,x4,x5⟩:=wdv_7 (self:=self) (nf:=nf) hd9 ((gk 4 (by omega)).trans ((kd 4 (by omega)).trans a4)) ((gk 5 (by omega)).trans ((kd 5 (by omega)).trans a5)) g7 g8 (load24 nx) (load24s nx) hof s1 s2
 have l1:aload E.P 24 (.pointer (some ⟨m.length+2,0,none⟩)) ((N.set (m.length+2) (.row false 24 (rowOf o))).set (m.length+3) (.row false 24 (rowOf l)))=some (wide o):=load24 (by rw [List.getElem?_set_ne (by omega),List.getElem?_set_self (lt_of_at nr)])
 have l2:aload E.P 24 (.pointer (some ⟨m.length+3,0,none⟩)) ((N.set (m.length+2) (.row false 24 (rowOf o))).set (m.length+3) (.row false 24 (rowOf l)))=some (wide l):=load24 (by rw [List.getElem?_set_self (lt_of_at g1)])
 refine ⟨(N.set (m.length+2) (.row false 24 (rowOf o))).set (m.length+3) (.row false 24 (rowOf l)),?_⟩
 generalize (N.set (m.length+2) (.row false 24 (rowOf o))).set (m.length+3) (.row false 24 (rowOf l))=M2 at *
 generalize Code.region 0 rdv_0 false=C0 at *
 generalize Code.region 1 rdv_1 false=C1 at *
 generalize Code.region 2 rdv_2 false=C2 at *
 generalize Code.region 3 rdv_3 false=C3 at *
 generalize Code.region 4 rdv_4 true=C4 at *
 generalize Code.region 5 rdv_5 false=C5 at *
 generalize Code.region 6 rdv_6 false=C6 at *
 generalize Code.region 7 rdv_7 true=C7 at *
 simp only [acodeN,ra,rb,rc,rd,rg,rh,finish,ares,aresL,ares1,Tryd.f21,ev,nth_lst,Nat.reduceLT,if_true,b13,c19,d24,x4,x5,x6,l1,l2,Option.map_some]
theorem dv_long {c:Int} (hv:∀ i j,eqlVal E.P 24 i j (wide v) (wide fun _=>0)=some (.bool false)) (hc9:∀ M,ainv E self 18 [wide w,wide v] M=some (.int .i64 c,M)) (hb9:decide (c<0)=false)
  (hu:∀ M,ainv E self 43 [wide v] M=some (.int .i64 ((n:Nat):Int),M)) (hn:n≠1) (hdw:∀ M,ainv E self 47 [wide w,wide v] M=some (.tuple ⟨[wide o,wide l]⟩,M)):∃ m',abody E self nf 21 [wide w,wide v] m=some (.tuple ⟨[wide o,wide l,.int .i64 0]⟩,m'):=by
 rw [abody_eqF (by kernel_rfl) Tryd.func21 bodydv (by kernel_rfl) (Nat.le_of_ble_eq_true rfl)]
 rw [show Tryd.f21.ntmps=43 from rfl]
 obtain ⟨m1,m2,m3,M,hb,hc,hd,he,h4⟩:=four_allocs m w v
 obtain ⟨A,ra,a2,a3,a4,a5⟩:=wdv_0 (self:=self) (nf:=nf) (F:=init [wide w,wide v]) hb hc hd he rfl rfl
 obtain ⟨B,rb,b13,bk⟩:=wdv_1 (self:=self) (nf:=nf) (b:=false) a3 (load24 h4.q) hv
 obtain ⟨C,rc,c19,ck⟩:=wdv_3 (self:=self) (nf:=nf) (b:=false) ((bk 2 (by omega)).trans a2) ((bk 3 (by omega)).trans a3) (load24 h4.p) (load24 h4.q) hc9 hb9
 have kc:∀ j,j<7→C j=A j:=fun j hj=>(ck j hj).trans (bk j hj)
 obtain ⟨D,rd,d24,dk⟩:=wdv_5 (self:=self) (nf:=nf) (b:=false) ((kc 3 (by omega)).trans a3) (load24 h4.q) hu (by rw [beq_eq_false_iff_ne]; omega)
 have kd:∀ j,j<7→D j=A j:=fun j hj=>(dk j hj).trans (kc j hj)
 have ha:=alloc24 M
 have ha2:=alloc24 (M++[Blk.row false 24 (rowOf fun _=>0)])
 rw [List.length_append,List.length_singleton,h4.len] at ha2
 rw [h4.len] at ha
 obtain ⟨N,hN⟩:∃ N,N=M++[Blk.row false 24 (rowOf fun _=>0)]++[Blk.row false 24 (rowOf fun _=>0)]:=⟨_,rfl⟩
 rw [←hN] at ha2
 have gx:N[m.length+4]? = some (.row false 24 (rowOf fun _=>0)):=by rw [hN,List.getElem?_append_left (by simp [h4.len]),←h4.len,List.getElem?_append_right (Nat.le_refl _)]; simp
 have gy:N[m.length+5]? = some (.row false 24 (rowOf fun _=>0)):=by rw [hN,List.getElem?_append_right (by simp [h4.len])]; simp [h4.len]
 have low:∀ k,k<m.length+4→N[k]? = M[k]? := fun k hk=>by rw [hN,List.getElem?_append_left (by simp [h4.len]; omega),List.getElem?_append_left (by rw [h4.len]; exact hk)]
 clear hN
 have t1:=store24 (w:=o) gx (rowOf_length _)
 have gy2:(N.set (m.length+4) (.row false 24 (rowOf o)))[m.length+5]? = some (.row false 24 (rowOf fun _=>0)):=by rw [List.getElem?_set_ne (by omega)]; exact gy
 have t2:=store24 (w:=l) gy2 (rowOf_length _)
 obtain ⟨G,rg,g9,g10,gk⟩:=wdv_8 (self:=self) (nf:=nf) ((kd 2 (by omega)).trans a2) ((kd 3 (by omega)).trans a3) (load24 h4.p) (load24 h4.q) hdw ha ha2 t1 t2
 obtain ⟨O,hO⟩:∃ O,O=(N.set (m.length+4) (.row false 24 (rowOf o))).set (m.length+5) (.row false 24 (rowOf l)):=⟨_,rfl⟩
 rw [←hO] at rg
 have ox:O[m.length+4]? = some (.row false 24 (rowOf o)):=by rw [hO,List.getElem?_set_ne (by omega),List.getElem?_set_self (lt_of_at gx)]
 have oy:O[m.length+5]? = some (.row false 24 (rowOf l)):=by rw [hO,List.getElem?_set_self (lt_of_at gy2)]
 have low2:∀ k,k<m.length+4→O[k]? = M[k]? := fun k hk=>by rw [hO,List.getElem?_set_ne (by omega),List.getElem?_set_ne (by omega)]; exact low k hk
 have nr:=(low2 (m.length+2) (by omega)).trans h4.r
 have ns:=(low2 (m.length+3) (by omega)).trans h4.s
 clear hO t1 t2 gx gy gy2 low
 have s1:=store24 (w:=o) nr (rowOf_length _)
 have g1:(O.set (m.length+2) (.row false 24 (rowOf o)))[m.length+3]? = some (.row false 24 (rowOf fun _=>0)):=by rw [List.getElem?_set_ne (by omega)]; exact ns
 have s2:=store24 (w:=l) g1 (rowOf_length _)
 obtain ⟨H,rh,x6,x4,x5⟩:=wdv_9 (self:=self) (nf:=nf) (ne_beq (show m.length+2≠m.length+5 by omega)) (ne_beq (show m.length+3≠m.length+5 by omega)) ((gk 4 (by omega)).trans ((kd 4 (by omega)).trans a4)) ((gk 5 (by omega)).trans ((kd 5 (by omega)).trans a5)) g9 g10 (load24s ox) (load24s oy) s1 s2
 have l1:aload E.P 24 (.pointer (some ⟨m.length+2,0,none⟩)) ((O.set (m.length+2) (.row false 24 (rowOf o))).set (m.length+3) (.row false 24 (rowOf l)))=some (wide o):=load24 (by rw [List.getElem?_set_ne (by omega),List.getElem?_set_self (lt_of_at nr)])
 have l2:aload E.P 24 (.pointer (some ⟨m.length+3,0,none⟩)) ((O.set (m.length+2) (.row false 24 (rowOf o))).set (m.length+3) (.row false 24 (rowOf l)))=some (wide l):=load24 (by rw [List.getElem?_set_self (lt_of_at g1)])
 refine ⟨(O.set (m.length+2) (.row false 24 (rowOf o))).set (m.length+3) (.row false 24 (rowOf l)),?_⟩
 generalize (O.set (m.length+2) (.row false 24 (rowOf o))).set (m.length+3) (.row false 24 (rowOf l))=M2 at *
 generalize Code.region 0 rdv_0 false=C0 at *
 generalize Code.region 1 rdv_1 false=C1 at *
 generalize Code.region 2 rdv_2 false=C2 at *
 generalize Code.region 3 rdv_3 false=C3 at *
 generalize Code.region 4 rdv_4 true=C4 at *
 generalize Code.region 5 rdv_5 false=C5 at *
 generalize Code.region 6 rdv_6 false=C6 at *
 generalize Code.region 7 rdv_7 true=C7 at *
 generalize Code.region 8 rdv_8 false=C8 at *
 generalize Code.region 9 rdv_9 true=C9 at *
 simp only [acodeN,ra,rb,rc,rd,rg,rh,finish,ares,aresL,ares1,Tryd.f21,ev,nth_lst,Nat.reduceLT,if_true,b13,c19,d24,x4,x5,x6,l1,l2,Option.map_some]
end
theorem dvw_body {self:Self} {nf:Nat} {m:Mem} {x y:Nat} (hx:x<W8) (hy:y<W8) (cc:CCmpW self) (cu:CUs self) (cw:CDw self) (cl:CDlg self) (co:COfW self) :
  ∃ m',abody E self nf 21 [wdK x,wdK y] m=some (if y=0 then .tuple ⟨[wdK 0,wdK 0,.int .i64 9]⟩ else .tuple ⟨[wdK (x / y),wdK (x%y),.int .i64 0]⟩,m'):=by
 by_cases h0:y=0
 ·rw [if_pos h0]
  have:=dv_zero (self:=self) (nf:=nf) (m:=m) (w:=wN x) (v:=wN y) fun i j=>by rw [eqlWd0 hy,decide_eq_true h0]
  rw [wd_zero]
  exact this
 ·rw [if_neg h0]
  have hz:∀ i j,eqlVal E.P 24 i j (wide (wN y)) (wide fun _=>0)=some (.bool false):=fun i j=>by rw [eqlWd0 hy,decide_eq_false h0]
  have hc:=cc x y hx hy
  by_cases h1:x<y
  ·have:=dv_less (self:=self) (nf:=nf) (m:=m) (w:=wN x) (v:=wN y) hz hc (decide_eq_true (by unfold cmpV; rw [if_pos h1]; decide))
   rw [Nat.div_eq_of_lt h1,Nat.mod_eq_of_lt h1,wd_zero]
   exact this
  ·have hn:decide (cmpV x y<0)=false:=decide_eq_false (by unfold cmpV; rw [if_neg h1]; split<;>decide)
   obtain ⟨n,hu,ha⟩:=cu (wN y)
   have hnum:=hu.num
   rw [vN_wN8 hy] at hnum
   match n,hu,ha,hnum with
   | 0,hu,ha,hnum=>exact absurd hnum h0
   | 1,hu,ha,hnum =>
    rw [show vN (wN y) 1=wN y 0 by rw [vN,vN,Nat.pow_zero,Nat.one_mul,Nat.zero_add]] at hnum
    have hlt:=wN_lt y 0
    rw [←hnum] at hlt
    have hm:x%y<18446744073709551616:=Nat.lt_trans (Nat.mod_lt _ (Nat.pos_of_ne_zero h0)) hlt
    have:=cw x y hx (Nat.pos_of_ne_zero h0) hlt
    exact dv_word (self:=self) (nf:=nf) (m:=m) (w:=wN x) (v:=wN y) hm (wN_lt y 0) hz hc hn ha (by rw [←hnum]; exact this) (co _ hm)
   | n+2,hu,ha,hnum=>exact dv_long (self:=self) (nf:=nf) (m:=m) (w:=wN x) (v:=wN y) hz hc hn ha (by omega) (cl x y n hx hy hu)
section
variable {self:Self} {nf:Nat} {m m':Mem} {F:Nat→Value} {p q r s k c a b:Nat} {w v o:Nat→Nat} {be be':TypeId} {id:FuncId}
end
section
variable {w v:Nat→Nat}
end
section
variable {self:Self} {nf:Nat} {m m':Mem} {F:Nat→Value} {p q r s c:Nat} {w v o:Nat→Nat}
end
end Go.Am.Seat
