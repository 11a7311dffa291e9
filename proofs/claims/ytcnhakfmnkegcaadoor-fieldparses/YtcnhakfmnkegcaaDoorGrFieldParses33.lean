import Derived.Test.YtcnhakfmnkegcaaDoorGrFieldParses32
import Derived.Test.YtcnhakfmnkegcaaDoorGrFieldParses30
import Derived.Test.YtcnhakfmnkegcaaDoorGrFieldParses31
set_option linter.unusedSimpArgs false
set_option linter.unusedVariables false
noncomputable section
set_option maxRecDepth 100000
namespace Go.Am.Seat
open Go.Proofs Go.Am
abbrev p5:Nat:=57896044618658097711785492504343953926634992332820282019728792003956564819949
def bnd:Nat→Nat→Prop
 | 0,y=>y<256^65
 | 1,y=>y<256^36
 | 2,y=>y<256^32+256^6
 | _,y=>y<256^32
theorem div_bnd {y k:Nat} (h:y<256^(32+k)):y / 256^32<256^k:=by
 rw [Nat.pow_add] at h
 exact Nat.div_lt_of_lt_mul h
theorem bnd_step {i y:Nat} (h:bnd i y) (hy:256^32≤y):bnd (i+1) (y%256^32+y / 256^32*38)∧i<3:=by
 have hm:y%256^32<256^32:=Nat.mod_lt _ (Nat.pow_pos (by omega))
 match i,h with
 | 0,h =>
  have h1:y / 256^32<256^33:=div_bnd h
  refine ⟨?_,by omega⟩
  show _<256^36
  have e1:256^36=256^33*(256*256*256):=by rw [show 36=33+3 from rfl,Nat.pow_add]
  have e2:256^33=256^32*256:=Nat.pow_succ ..
  generalize 256^33=A at *
  generalize 256^32=B at *
  generalize y / B=d at *
  generalize y%B=r at *
  omega
 | 1,h =>
  have h1:y / 256^32<256^4:=div_bnd (k:=4) h
  refine ⟨?_,by omega⟩
  show _<256^32+256^6
  generalize y / 256^32=d at *
  generalize y%256^32=r at *
  generalize 256^32=B at *
  omega
 | 2,h =>
  refine ⟨?_,by omega⟩
  show _<256^32
  have h:y<256^32+256^6:=h
  have hB:256^6+38<256^32:=by decide +kernel
  have e1:=Nat.div_add_mod y (256^32)
  generalize 256^32=B at *
  have hd:y / B=1:=Nat.div_eq_of_lt_le (by omega) (by omega)
  rw [hd] at e1⊢
  generalize y%B=r at *
  omega
 | i+3,h=>exact absurd (show y<256^32 from h) (by omega)
theorem red_mod (y:Nat):(y%256^32+y / 256^32*38)%p5=y%p5:=by
 have e1:256^32=p5*2+38:=by decide +kernel
 have e2:y=(y%256^32+y / 256^32*38)+p5*(2*(y / 256^32)):=by
  have h:=Nat.div_add_mod y (256^32)
  generalize y / 256^32=d at *
  generalize y%256^32=r at *
  rw [e1] at h
  rw [←h,Nat.add_mul]
  rw [show p5*(2*d)=p5*2*d by rw [Nat.mul_assoc]]
  omega
 conv=>rhs; rw [e2]
 rw [Nat.add_mul_mod_self_left]
theorem bnd_len {i y:Nat} (h:bnd i y):(dig y).length≤65:=by
 refine dig_len_le ?_
 match i,h with
 | 0,h=>exact h
 | 1,h=>exact Nat.lt_of_lt_of_le (show y<256^36 from h) (Nat.pow_le_pow_right (by omega) (by omega))
 | 2,h=>exact Nat.lt_of_lt_of_le (show y<256^32+256^6 from h) (by decide +kernel)
 | i+3,h=>exact Nat.lt_of_lt_of_le (show y<256^32 from h) (Nat.pow_le_pow_right (by omega) (by omega))
section
variable {self:Self} {nf:Nat} {m:Mem} {F:Nat→Value}
theorem red_l0 {a:Value} {x:Nat} (cm:CMul self) (ca:CAddL self) (h0:F 0=a) (hN:NumS m a x) (hx:x<256^65) (hnf:1000<nf) :
  ∃ G m' y,aloop (acodeN E self nf lprred_0) nf (lst F 41) m=some (.exit 0,lst G 41,m')∧Kept m m'∧NumS m' (G 0) y∧y<256^32∧y%p5=x%p5∧(G 0=a∧y=x∨NumB m.length (G 0) m' y):=by
 have hl:=aloop_inv (body:=acodeN E self nf lprred_0) (N:=3)
  (I:=fun i T m'=>∃ G y,T=lst G 41∧Kept m m'∧NumS m' (G 0) y∧bnd i y∧y%p5=x%p5∧(G 0=a∧y=x∨NumB m.length (G 0) m' y))
  (Q:=fun e T m'=>e=.exit 0∧∃ G y,T=lst G 41∧Kept m m'∧NumS m' (G 0) y∧y<256^32∧y%p5=x%p5∧(G 0=a∧y=x∨NumB m.length (G 0) m' y)) (fun i T m' hi hI=>by
   obtain ⟨G,y,rfl,hK,gN,gb,gm,go⟩:=hI
   have hlen:=bnd_len gb
   by_cases h32:(dig y).length≤32
   ·right
    obtain ⟨F',hr,f0⟩:=red_b (self:=self) (nf:=nf) (m:=m') rfl gN.len h32
    have hy:y<256^32:=Nat.lt_of_lt_of_le (lt_dig_len y) (Nat.pow_le_pow_right (by omega) h32)
    exact ⟨_,_,_,hr,by simp,rfl,F',y,rfl,hK,by rw [f0]; exact gN,hy,gm,by rw [f0]; exact go⟩
   ·left
    have hy:256^32≤y:=by
     by_cases h:256^32≤y
     ·exact h
     ·have:=dig_len_le (n:=y) (k:=32) (by omega); omega
    rcases gN with ⟨h1,rfl⟩ | ⟨b,ro,L,n,hv,hW⟩
    ·rw [dig_zero] at h32; simp at h32
    ·have hnl:(dig y).length=n:=by rw [←hW.2.1,List.length_take,Nat.min_eq_left hW.1]
     obtain ⟨F',nb,hr,hB⟩:=red_a (self:=self) (nf:=nf) (m:=m') cm ca hv hW (by omega) (by omega)
     obtain ⟨b1,b2⟩:=bnd_step gb hy
     exact ⟨_,_,hr,b2,F',_,rfl,hK.trans (Kept.app _ _),hB.s,b1,(red_mod y).trans gm,.inr (hB.mono hK.1)⟩)
 obtain ⟨e,T',m',hr,rfl,G,y,rfl,h⟩:=hl 3 0 nf (lst F 41) m (by omega) (by omega) ⟨F,x,rfl,Kept.refl _,by rw [h0]; exact hN,hx,rfl,.inl ⟨h0,rfl⟩⟩
 exact ⟨G,m',y,hr,h⟩
theorem p5_len:(dig p5).length≤800:=Nat.le_trans (dig_len_le (k:=32) (by decide +kernel)) (by omega)
theorem q32_len {y:Nat} (h:y<256^32):(dig y).length≤800:=Nat.le_trans (dig_len_le h) (by omega)
theorem red_l2 {a w:Value} {x:Nat} (cc:CCmp self) (cs:CSub self) {m0:Mem} (hm0:m0.length≤m.length) (h4:F 4=w) (hw:NumA m w (dig p5)) (hN:NumS m (F 0) x) (hx:x<256^32) (ho:F 0=a∨NumB m0.length (F 0) m x) (hnf:1000<nf) :
  ∃ G m' y,aloop (acodeN E self nf lprred_2) nf (lst F 41) m=some (.exit 4,lst G 41,m')∧Kept m m'∧y=x%p5∧NumS m' (G 0) y∧(G 0=a∧y=x∨NumB m0.length (G 0) m' y):=by
 have hp:0<p5:=by decide +kernel
 have h2p:256^32<p5*3:=by decide +kernel
 have hl:=aloop_inv (body:=acodeN E self nf lprred_2) (N:=2)
  (I:=fun i T m'=>∃ G,T=lst G 41∧Kept m m'∧G 4=w∧p5*i≤x∧NumS m' (G 0) (x-p5*i)∧(G 0=a∧i=0∨NumB m0.length (G 0) m' (x-p5*i)))
  (Q:=fun e T m'=>e=.exit 4∧∃ G y,T=lst G 41∧Kept m m'∧y=x%p5∧NumS m' (G 0) y∧(G 0=a∧y=x∨NumB m0.length (G 0) m' y)) (fun i T m' hi hI=>by
   obtain ⟨G,rfl,hK,g4,gi,gN,go⟩:=hI
   have hlen:x-p5*i<256^32:=Nat.lt_of_le_of_lt (Nat.sub_le _ _) hx
   by_cases hle:p5≤x-p5*i
   ·left
    obtain ⟨F',m2,hr,hR,f4⟩:=red_d (self:=self) (nf:=nf) (m:=m') cc cs rfl g4 gN.a (hw.on hK) (q32_len hlen) p5_len hle
    have e1:p5*(i+1)=p5*i+p5:=Nat.mul_succ ..
    refine ⟨_,_,hr,?_,F',rfl,hK.trans hR.keeps,f4,by omega,?_,.inr ?_⟩
    ·by_cases h2:i<2
     ·exact h2
     ·have:i=2:=by omega
      subst this
      omega
    ·rw [e1,←Nat.sub_sub]; exact hR.s
    ·rw [e1,←Nat.sub_sub]; exact hR.b.mono (Nat.le_trans hm0 hK.1)
   ·right
    obtain ⟨F',hr,f0⟩:=red_e (self:=self) (nf:=nf) (m:=m') cc rfl g4 gN.a (hw.on hK) (q32_len hlen) p5_len (by omega)
    have hy:x-p5*i=x%p5:=by
     have e1:x=(x-p5*i)+p5*i:=by omega
     conv=>rhs; rw [e1]
     rw [Nat.add_mul_mod_self_left,Nat.mod_eq_of_lt (by omega)]
    refine ⟨_,_,_,hr,by simp,rfl,F',x-p5*i,rfl,hK,hy,by rw [f0]; exact gN,?_⟩
    rw [f0]
    rcases go with ⟨g0,rfl⟩ | g
    ·exact .inl ⟨g0,by simp⟩
    ·exact .inr g)
 obtain ⟨e,T',m',hr,rfl,G,y,rfl,h⟩:=hl 2 0 nf (lst F 41) m (by omega) (by omega) ⟨F,rfl,Kept.refl _,h4,by simp,by simpa using hN,by
  rcases ho with ho | ho
  ·exact .inl ⟨ho,rfl⟩
  ·exact .inr (by simpa using ho)⟩
 exact ⟨G,m',y,hr,h⟩
end
theorem callP5:callableB E.P 32=true:=by kernel_rfl
theorem NumB.on {B r:Nat} {v:Value} {m m':Mem} (h:NumB B v m r) (hk:Kept m m'):NumB B v m' r:=by
 rcases h with h | ⟨L,n,b,ro,h1,h2,h3,h4,h5,hne⟩
 ·exact .inl h
 ·exact .inr ⟨L,n,b,ro,h1,h2,h3,h4,by rw [hk.2 b (List.getElem?_eq_some_iff.1 h5).1]; exact h5,hne⟩
section
variable {self:Self} {nf:Nat} {m:Mem} {F:Nat→Value}
theorem red_0:∃ F',acodeN E self nf (.region 0 rrred_0 false) (lst F 41) m=some (.normal,lst F' 41,m)∧F' 0=F 0:=by
 simp only [erred_0,lrred_0,agd_none,gdAt,gdV_bool,gdV_undef,Tryd.f37,List.append_eq,List.cons_append,List.nil_append,apure_call1,apure_call2,apure_call3,bft,btf,acodeN,List.getElem?_toArray,List.getElem?_cons_zero,List.getElem?_cons_succ,aopsN,adrawT,cls,astep,aop,afloat,ev,nth_lst,get_lst,aput,setAt_lst,upd_at,init_zero,init_succ,init_nil,Nat.reduceLT,Nat.reduceEqDiff,reduceIte,len_N,abuiltin_app,Option.map_some,Option.map_none,orElse_some,apure_add,apure_eqlV,eqlVal_str,eqlVal_bool,eqlVal_ptr,eqlVal_slice,eqlVal_wide,eqlVal_int,allT,↓aop_eqlV,apure_neq,List.map_cons,List.map_nil,List.all_cons,List.all_nil,lit2,lit1,lit0,List.isEmpty_nil,bls,Bool.false_eq_true,if_true,if_false,List.length_map,beq_self_eq_true,uns]
 exact ⟨_,rfl,rfl⟩
theorem red_3 {n:Nat} (hv:lenV (F 0)=some ((n:Nat):Int)):∃ F',acodeN E self nf (.region 3 rrred_3 false) (lst F 41) m=some (.normal,lst F' 41,m)∧F' 0=F 0∧F' 3=.int .i64 ((n:Nat):Int):=by
 simp only [erred_3,lrred_3,agd_none,gdAt,gdV_bool,gdV_undef,Tryd.f37,List.append_eq,List.cons_append,List.nil_append,apure_call1,apure_call2,apure_call3,bft,btf,acodeN,List.getElem?_toArray,List.getElem?_cons_zero,List.getElem?_cons_succ,aopsN,adrawT,cls,astep,aop,afloat,ev,nth_lst,get_lst,aput,setAt_lst,upd_at,init_zero,init_succ,init_nil,Nat.reduceLT,Nat.reduceEqDiff,reduceIte,len_N,abuiltin_app,Option.map_some,Option.map_none,orElse_some,apure_add,apure_eqlV,eqlVal_str,eqlVal_bool,eqlVal_ptr,eqlVal_slice,eqlVal_wide,eqlVal_int,allT,↓aop_eqlV,apure_neq,List.map_cons,List.map_nil,List.all_cons,List.all_nil,lit2,lit1,lit0,List.isEmpty_nil,bls,Bool.false_eq_true,if_true,if_false,List.length_map,beq_self_eq_true,uns,hv]
 exact ⟨_,rfl,rfl,rfl⟩
theorem red_7 (cp:CP5 self):∃ F' m',acodeN E self nf (.region 7 rrred_7 false) (lst F 41) m=some (.normal,lst F' 41,m')∧F' 0=F 0∧NumR m (F' 4) m' p5:=by
 obtain ⟨v,m',e1,r1⟩:=cp m
 simp only [erred_7,lrred_7,agd_none,gdAt,gdV_bool,gdV_undef,Tryd.f37,List.append_eq,List.cons_append,List.nil_append,apure_call1,apure_call2,apure_call3,bft,btf,acodeN,List.getElem?_toArray,List.getElem?_cons_zero,List.getElem?_cons_succ,aopsN,adrawT,cls,astep,aop,afloat,ev,nth_lst,get_lst,aput,setAt_lst,upd_at,init_zero,init_succ,init_nil,Nat.reduceLT,Nat.reduceEqDiff,reduceIte,len_N,abuiltin_app,Option.map_some,Option.map_none,orElse_some,apure_add,apure_eqlV,eqlVal_str,eqlVal_bool,eqlVal_ptr,eqlVal_slice,eqlVal_wide,eqlVal_int,allT,↓aop_eqlV,apure_neq,List.map_cons,List.map_nil,List.all_cons,List.all_nil,lit2,lit1,lit0,List.isEmpty_nil,bls,Bool.false_eq_true,if_true,if_false,List.length_map,beq_self_eq_true,uns,callP5,e1]
 exact ⟨_,_,rfl,rfl,by simp only [upd_at,Nat.reduceEqDiff,reduceIte]; exact r1⟩
theorem red_10:∃ F',acodeN E self nf (.region 10 rrred_10 false) (lst F 41) m=some (.normal,lst F' 41,m)∧F' 2=F 0:=by
 simp only [erred_10,lrred_10,agd_none,gdAt,gdV_bool,gdV_undef,Tryd.f37,List.append_eq,List.cons_append,List.nil_append,apure_call1,apure_call2,apure_call3,bft,btf,acodeN,List.getElem?_toArray,List.getElem?_cons_zero,List.getElem?_cons_succ,aopsN,adrawT,cls,astep,aop,afloat,ev,nth_lst,get_lst,aput,setAt_lst,upd_at,init_zero,init_succ,init_nil,Nat.reduceLT,Nat.reduceEqDiff,reduceIte,len_N,abuiltin_app,Option.map_some,Option.map_none,orElse_some,apure_add,apure_eqlV,eqlVal_str,eqlVal_bool,eqlVal_ptr,eqlVal_slice,eqlVal_wide,eqlVal_int,allT,↓aop_eqlV,apure_neq,List.map_cons,List.map_nil,List.all_cons,List.all_nil,lit2,lit1,lit0,List.isEmpty_nil,bls,Bool.false_eq_true,if_true,if_false,List.length_map,beq_self_eq_true,uns]
 exact ⟨_,rfl,rfl⟩
theorem red_l1 {x:Nat} {v:Value} (h0:F 0=v) (hN:NumS m v x) (hl:(dig x).length≤1000) (h3:F 3=.int .i64 (((dig x).length:Nat):Int)) (hnf:1000<nf) :
  ∃ G,aloop (acodeN E self nf lprred_1) nf (lst F 41) m=some (.exit 2,lst G 41,m)∧G 0=v∧G 3=F 3:=by
 obtain ⟨G,hr,g⟩:=red_c (self:=self) (nf:=nf) h0 hN hl h3
 have hl:=aloop_inv (body:=acodeN E self nf lprred_1) (N:=0) (I:=fun i T m'=>T=lst F 41∧m'=m) (Q:=fun e T m'=>e=.exit 2∧T=lst G 41∧m'=m) (fun i T m' hi hI=>by
  obtain ⟨rfl,rfl⟩:=hI
  exact .inr ⟨_,_,_,hr,by simp,rfl,rfl,rfl⟩)
 obtain ⟨e,T',m',h1,rfl,rfl,rfl⟩:=hl 0 0 nf (lst F 41) m (by omega) (by omega) ⟨rfl,rfl⟩
 exact ⟨G,h1,g⟩
theorem red_body {a:Value} {x:Nat} (cm:CMul self) (ca:CAddL self) (cc:CCmp self) (cs:CSub self) (cp:CP5 self) (hN:NumS m a x) (hx:x<256^65) (hnf:1000<nf) :
  ∃ v m1,abody E self nf 37 [a] m=some (v,m1)∧(v=a∧x%p5=x∨NumB m.length v m1 (x%p5)):=by
 rw [abody_eqF (by kernel_rfl) Tryd.func37 bodyrred (by kernel_rfl) (Nat.le_of_ble_eq_true rfl)]
 rw [show Tryd.f37.ntmps=41 from rfl]
 obtain ⟨A,ra,a0⟩:=red_0 (self:=self) (nf:=nf) (m:=m) (F:=init [a])
 have a0:A 0=a:=a0
 obtain ⟨B,m1,y,rb,kb,nb,yb,eb,ob⟩:=red_l0 (self:=self) (nf:=nf) cm ca a0 hN hx hnf
 obtain ⟨C,rc,c0,c3⟩:=red_3 (self:=self) (nf:=nf) (m:=m1) (F:=B) nb.len
 have nc:NumS m1 (C 0) y:=by rw [c0]; exact nb
 have hl:=q32_len yb
 obtain ⟨D,rd,d0,d3⟩:=red_l1 (self:=self) (nf:=nf) (m:=m1) (F:=C) rfl nc (by omega) c3 hnf
 obtain ⟨H,re,e0⟩:=red_6 (self:=self) (nf:=nf) (m:=m1) (F:=D) d0 nc (d3.trans c3)
 obtain ⟨I,m2,rf,f0,f4⟩:=red_7 (self:=self) (nf:=nf) (m:=m1) (F:=H) cp
 have i0:I 0=B 0:=f0.trans (e0.trans c0)
 obtain ⟨J,m3,z,rg,kg,ez,nz,oz⟩:=red_l2 (self:=self) (nf:=nf) (m:=m2) (F:=I) (a:=I 0) (x:=y) cc cs (m0:=m) (Nat.le_trans kb.1 f4.keeps.1) rfl f4.is (by rw [i0]; exact nb.on f4.keeps) yb (.inl rfl) hnf
 obtain ⟨K,rh,k2⟩:=red_10 (self:=self) (nf:=nf) (m:=m3) (F:=J)
 have hz:z=x%p5:=by rw [ez,eb]
 refine ⟨J 0,m3,?_,?_⟩
 ·generalize hc0:Code.region 0 rrred_0 false=C0 at *
  generalize Code.region 3 rrred_3 false=C3 at *
  generalize Code.region 6 rrred_6 false=C6 at *
  generalize Code.region 7 rrred_7 false=C7 at *
  generalize Code.region 10 rrred_10 false=C10 at *
  simp only [acodeN,ra,rb,rc,rd,re,rf,rg,rh,if_true,finish,ares,aresL,ares1,Tryd.f37,ev,nth_lst,Nat.reduceLT,k2,Option.map_some]
 ·rw [←hz]
  rcases oz with ⟨o1,o2⟩ | o1
  ·rw [o1,i0,o2]
   rcases ob with ⟨o3,o4⟩ | o3
   ·exact .inl ⟨o3,o4⟩
   ·exact .inr ((o3.on f4.keeps).on kg)
  ·exact .inr o1
end
def CRed (self:Self):Prop:=∀ (m:Mem) (a:Value) (x:Nat),NumS m a x→x<256^65→∃ v m',ainv E self 37 [a] m=some (v,m')∧(v=a∧m'=m∧x%p5=x∨NumR m v m' (x%p5))
theorem cred {R:Nat→Self} {n:Nat} (hRb:∀ (args:List Value) (m:Mem) (r:Value×Mem),abody E (R n) (n+1) 37 args m=some r→R (n+1) 37 args m=some r) (cm:CMul (R n)) (ca:CAddL (R n)) (cc:CCmp (R n)) (cs:CSub (R n)) (cp:CP5 (R n)) (hn:1000≤n):CRed (R (n+1)):=by
 intro m a x hN hx
 rcases hN with ⟨rfl,rfl⟩ | hrow
 ·obtain ⟨v,m1,h1,h2⟩:=red_body (self:=R n) (nf:=n+1) (m:=(m.take E.G).map onlyTab) cm ca cc cs cp (.inl ⟨rfl,rfl⟩) hx (by omega)
  unfold ainv
  rw [show ([Value.slice none 0 0].all lit2)=true from rfl,show E.fast 37=none from by kernel_rfl]
  simp only [if_true,hRb _ _ _ h1]
  rcases h2 with ⟨rfl,h3⟩ | h2
  ·exact ⟨.slice none 0 0,m,by unfold acoll; exact if_pos rfl,.inl ⟨rfl,rfl,h3⟩⟩
  ·obtain ⟨v',m',h4,h5⟩:=h2.coll (m:=m)
   exact ⟨v',m',h4,.inr h5⟩
 ·have hN:NumS m a x:=.inr hrow
  obtain ⟨v,m1,h1,h2⟩:=red_body (self:=R n) (nf:=n+1) (m:=m.map Am.sealed) cm ca cc cs cp hN.sealed hx (by omega)
  obtain ⟨b,ro,L,k,rfl,hW⟩:=hrow
  unfold ainv
  rw [show ([Value.slice (some ⟨b,0,none⟩) k L.length].all lit2)=false from rfl,show E.wr 37=false from by kernel_rfl]
  simp only [Bool.false_eq_true,if_false,hRb _ _ _ h1]
  rcases h2 with ⟨rfl,h3⟩ | h2
  ·exact ⟨_,m,acoll_old (by rw [List.length_map]; exact (List.getElem?_eq_some_iff.1 hW.2.2.1).1),.inl ⟨rfl,rfl,h3⟩⟩
  ·obtain ⟨v',m',h4,h5⟩:=h2.coll (m:=m)
   exact ⟨v',m',h4,.inr h5⟩
theorem CRed.new {self:Self} (cr:CRed self) {B:Nat} {m:Mem} {a:Value} {x:Nat} (h:NumB B a m x) (hx:x<256^65) (hB:B≤m.length):∃ v m',ainv E self 37 [a] m=some (v,m')∧NumB B v m' (x%p5):=by
 obtain ⟨v,m',h1,h2⟩:=cr m a x h.s hx
 rcases h2 with ⟨rfl,rfl,h3⟩ | h2
 ·exact ⟨_,_,h1,by rw [h3]; exact h⟩
 ·exact ⟨_,_,h1,h2.b.mono hB⟩
theorem callRed:callableB E.P 37=true:=by kernel_rfl
theorem p5_lt:p5<256^32:=by decide +kernel
section
variable {self:Self} {nf:Nat} {m:Mem} {a b:Value} {x y:Nat}
end
section
variable {self:Self} {nf:Nat} {m:Mem} {a:Value} {x:Nat}
end
end Go.Am.Seat
namespace Go.Am.Seat
open Go.Proofs Go.Am Go.Am.Num
def rrby5_0:=opR Tryd.f60 [0]
def lrby5_0:List Oper:=match Tryd.f60.body with
 | some (.seq (.region _ o _) _)=>o.toList
 | _=>[]
theorem erby5_0:rrby5_0.toList=lrby5_0:=rfl
def rrby5_1:=opR Tryd.f60 [1,0]
def lrby5_1:List Oper:=match Tryd.f60.body with
 | some (.seq _ (.seq (.region _ o _) _))=>o.toList
 | _=>[]
theorem erby5_1:rrby5_1.toList=lrby5_1:=rfl
def rrby5_2:=opR Tryd.f60 [1,1,0,0]
def lrby5_2:List Oper:=match Tryd.f60.body with
 | some (.seq _ (.seq _ (.seq (.seq (.region _ o _) _) _)))=>o.toList
 | _=>[]
theorem erby5_2:rrby5_2.toList=lrby5_2:=rfl
def lprby5_0:Code:=match Tryd.f60.body with
 | some (.seq _ (.seq _ (.seq (.seq _ (.block _ (.loop c))) _)))=>c
 | _=>.skip
def rrby5_3:=opR Tryd.f60 [1,1,0,1,0,0,0,0]
def lrby5_3:List Oper:=match Tryd.f60.body with
 | some (.seq _ (.seq _ (.seq (.seq _ (.block _ (.loop (.seq (.seq (.region _ o _) _) _)))) _)))=>o.toList
 | _=>[]
theorem erby5_3:rrby5_3.toList=lrby5_3:=rfl
theorem grby5_3_4 {T:List Value} {dd:Option Tmp} {op:Op} {ty:TypeId} {pos:String} {af:Array Edge} {want:Bool}:agd rrby5_3 T { dst:=dd,op:=op,type:=ty,pos:=pos,after:=af,guard:=some (4,want) }=gdAt T 9 want:=agd_at (by kernel_rfl)
def rrby5_5:=opR Tryd.f60 [1,1,0,1,0,0,1,0,0]
def lrby5_5:List Oper:=match Tryd.f60.body with
 | some (.seq _ (.seq _ (.seq (.seq _ (.block _ (.loop (.seq _ (.seq (.block _ (.region _ o _)) _))))) _)))=>o.toList
 | _=>[]
theorem erby5_5:rrby5_5.toList=lrby5_5:=rfl
def rrby5_4:=opR Tryd.f60 [1,1,0,1,0,0,1,1]
def lrby5_4:List Oper:=match Tryd.f60.body with
 | some (.seq _ (.seq _ (.seq (.seq _ (.block _ (.loop (.seq _ (.seq _ (.region _ o _)))))) _)))=>o.toList
 | _=>[]
theorem erby5_4:rrby5_4.toList=lrby5_4:=rfl
theorem lprby5_0_eq:lprby5_0=(.seq (.seq (.region 3 rrby5_3 false) (.cond (.tmp 12) .skip (.exit 0))) (.seq (.block 1 (.region 5 rrby5_5 false)) (.region 4 rrby5_4 false))):=rfl
def rrby5_6:=opR Tryd.f60 [1,1,1,0]
def lrby5_6:List Oper:=match Tryd.f60.body with
 | some (.seq _ (.seq _ (.seq _ (.seq (.region _ o _) _))))=>o.toList
 | _=>[]
theorem erby5_6:rrby5_6.toList=lrby5_6:=rfl
theorem bodyrby5:Tryd.f60.body=some (.seq (.region 0 rrby5_0 false) (.seq (.region 1 rrby5_1 false) (.seq (.seq (.region 2 rrby5_2 false) (.block 0 (.loop lprby5_0))) (.seq (.region 6 rrby5_6 false) .ret)))):=rfl
theorem dig_at:∀ (i x:Nat),i<(dig x).length→(dig x)[i]? = some (x / 256^i%256)
 | 0,x,h=>by
  have hx:x≠0:=by intro h0; subst h0; rw [dig_zero] at h; simp at h
  rw [dig_pos hx]
  simp
 | i+1,x,h=>by
  have hx:x≠0:=by intro h0; subst h0; rw [dig_zero] at h; simp at h
  rw [dig_pos hx] at h⊢
  rw [List.getElem?_cons_succ,dig_at i (x / 256) (by simpa using h),Nat.div_div_eq_div_mul,Nat.pow_succ,Nat.mul_comm 256]
theorem dig_past {i x:Nat} (h:(dig x).length≤i):x / 256^i%256=0:=by
 have h1:=lt_dig_len x
 have h2:256^(dig x).length≤256^i:=Nat.pow_le_pow_right (by omega) h
 rw [Nat.div_eq_of_lt (by omega)]
theorem low_part (Y:Nat):∀ r,r<8→Y%18446744073709551616 / 2^(8*r)%256=Y / 2^(8*r)%256
 | 0,_=>by simp only [Nat.mul_zero,Nat.pow_zero,Nat.div_one]; omega
 | 1,_=>by simp only [Nat.reduceMul,Nat.reducePow]; omega
 | 2,_=>by simp only [Nat.reduceMul,Nat.reducePow]; omega
 | 3,_=>by simp only [Nat.reduceMul,Nat.reducePow]; omega
 | 4,_=>by simp only [Nat.reduceMul,Nat.reducePow]; omega
 | 5,_=>by simp only [Nat.reduceMul,Nat.reducePow]; omega
 | 6,_=>by simp only [Nat.reduceMul,Nat.reducePow]; omega
 | 7,_=>by simp only [Nat.reduceMul,Nat.reducePow]; omega
 | r+8,h=>by omega
theorem byteX_dig (X i:Nat):byteX X i=X / 256^i%256:=by
 unfold byteX wd
 rw [low_part _ _ (Nat.mod_lt _ (by omega)),Nat.div_div_eq_div_mul]
 have e1:(18446744073709551616:Nat)=256^8:=by decide
 have e2:(2:Nat)^(8*(i%8))=256^(i%8):=by rw [Nat.pow_mul]
 rw [e1,e2,←Nat.pow_mul,←Nat.pow_add,Nat.div_add_mod]
theorem conv3_5n {x:Nat} (h:x<256):aconv E.P 3 5 (.int .i64 ((x:Nat):Int))=some (.int .u8 ((x:Nat):Int)):=by
 rw [conv3_5]
 congr 2
 omega
section
variable {self:Self} {nf:Nat} {m M:Mem} {F:Nat→Value} {a:Value} {x i q:Nat} {v:Nat→Nat}
theorem rby_it (h0:F 0=a) (h3:F 3=.pointer (some ⟨q,0,none⟩)) (h4:F 4=.int .i64 (i:Nat)) (hN:NumA M a (dig x)) (hi:i<(dig x).length) (hi9:i<32) (hq:M[q]? = some (.row false 54 (rowK .u8 32 v))) :
  ∃ F',acodeN E self nf lprby5_0 (lst F 23) M=some (.normal,lst F' 23,M.set q (.row false 54 (rowK .u8 32 fun j=>if j=i then x / 256^i%256 else v j)))∧F' 0=F 0∧F' 2=F 2∧F' 3=F 3∧F' 4=.int .i64 ((i+1:Nat):Int):=by
 have q1:decide (((i:Nat):Int)<(((dig x).length:Nat):Int))=true:=decide_eq_true (by omega)
 have q2:decide (((i:Nat):Int)<32)=true:=decide_eq_true (by omega)
 have la:=hN.1
 obtain ⟨b,o,i1,c1⟩:=hN.2 i _ (dig_at i x hi)
 have hd:x / 256^i%256<256:=Nat.mod_lt _ (by omega)
 generalize x / 256^i%256=d at *
 have i2:=a46.ix (p:=q) (j:=i) hi9
 have st:=a46.storeE (x:=d) hq hi9
 have e4:=w1 (i:=i) (by omega)
 simp only [lprby5_0_eq,erby5_0,erby5_1,erby5_2,erby5_3,erby5_4,erby5_5,erby5_6,lrby5_0,lrby5_1,lrby5_2,lrby5_3,lrby5_4,lrby5_5,lrby5_6,grby5_3_4,agd_none,gdAt,gdV_bool,gdV_undef,Tryd.f60,List.append_eq,List.cons_append,List.nil_append,apure_call1,apure_call2,apure_call3,bft,btf,acodeN,List.getElem?_toArray,List.getElem?_cons_zero,List.getElem?_cons_succ,aopsN,adrawT,cls,astep,aop,afloat,ev,nth_lst,get_lst,aput,setAt_lst,upd_at,init_zero,init_succ,init_nil,Nat.reduceLT,Nat.reduceEqDiff,reduceIte,len_N,abuiltin_app,Option.map_some,Option.map_none,orElse_some,apure_add,apure_eqlV,eqlVal_str,eqlVal_bool,eqlVal_ptr,eqlVal_slice,eqlVal_wide,eqlVal_int,allT,↓aop_eqlV,apure_neq,List.map_cons,List.map_nil,List.all_cons,List.all_nil,lit2,lit1,lit0,List.isEmpty_nil,bls,Bool.false_eq_true,if_true,if_false,List.length_map,beq_self_eq_true,uns,h0,h3,h4,la,lss64,q1,q2,i1,load3,c1,conv3_5n hd,i2,st,add64',e4]
 exact ⟨_,rfl,by simp only [upd_at,Nat.reduceEqDiff,reduceIte,h0],rfl,by simp only [upd_at,Nat.reduceEqDiff,reduceIte,h3],rfl⟩
theorem rby_ex (h0:F 0=a) (h4:F 4=.int .i64 (i:Nat)) (hN:NumA M a (dig x)) (hi:(dig x).length≤i) :
  ∃ F',acodeN E self nf lprby5_0 (lst F 23) M=some (.exit 0,lst F' 23,M)∧F' 2=F 2∧F' 3=F 3:=by
 have q1:decide (((i:Nat):Int)<(((dig x).length:Nat):Int))=false:=decide_eq_false (by omega)
 have la:=hN.1
 simp only [lprby5_0_eq,erby5_0,erby5_1,erby5_2,erby5_3,erby5_4,erby5_5,erby5_6,lrby5_0,lrby5_1,lrby5_2,lrby5_3,lrby5_4,lrby5_5,lrby5_6,grby5_3_4,agd_none,gdAt,gdV_bool,gdV_undef,Tryd.f60,List.append_eq,List.cons_append,List.nil_append,apure_call1,apure_call2,apure_call3,bft,btf,acodeN,List.getElem?_toArray,List.getElem?_cons_zero,List.getElem?_cons_succ,aopsN,adrawT,cls,astep,aop,afloat,ev,nth_lst,get_lst,aput,setAt_lst,upd_at,init_zero,init_succ,init_nil,Nat.reduceLT,Nat.reduceEqDiff,reduceIte,len_N,abuiltin_app,Option.map_some,Option.map_none,orElse_some,apure_add,apure_eqlV,eqlVal_str,eqlVal_bool,eqlVal_ptr,eqlVal_slice,eqlVal_wide,eqlVal_int,allT,↓aop_eqlV,apure_neq,List.map_cons,List.map_nil,List.all_cons,List.all_nil,lit2,lit1,lit0,List.isEmpty_nil,bls,Bool.false_eq_true,if_true,if_false,List.length_map,beq_self_eq_true,uns,h0,h4,la,lss64,q1]
 exact ⟨_,rfl,rfl,rfl⟩
theorem rby5_body (hN:NumA m a (dig x)) (hx:x<256^32) (hnf:1000<nf):∃ m',abody E self nf 60 [a] m=some (arrK .u8 32 (byteX x),m'):=by
 rw [abody_eqF (by kernel_rfl) Tryd.func60 bodyrby5 (by kernel_rfl) (Nat.le_of_ble_eq_true rfl)]
 rw [show Tryd.f60.ntmps=23 from rfl]
 have hlen:=dig_len_le hx
 have b1:=alloc46 m
 obtain ⟨A,hA⟩:∃ A,A=m++[Blk.row false 54 (rowK .u8 32 fun _=>0)]:=⟨_,rfl⟩
 rw [←hA] at b1
 have b2:=alloc46 A
 have lA:A.length=m.length+1:=by rw [hA]; simp
 rw [lA] at b2
 obtain ⟨N,hN9⟩:∃ N,N=A++[Blk.row false 54 (rowK .u8 32 fun _=>0)]:=⟨_,rfl⟩
 rw [←hN9] at b2
 have gq:N[m.length+1]? = some (.row false 54 (rowK .u8 32 fun _=>0)):=by rw [hN9,←lA]; simp
 have gr:N[m.length]? = some (.row false 54 (rowK .u8 32 fun _=>0)):=by rw [hN9,List.getElem?_append_left (by omega),hA]; simp
 have gk:∀ k,k<m.length→N[k]? = m[k]? := fun k hk=>by rw [hN9,List.getElem?_append_left (by omega),hA,List.getElem?_append_left hk]
 have hl:=aloop_inv (body:=acodeN E self nf lprby5_0) (N:=32)
  (I:=fun i T M=>∃ G,T=lst G 23∧G 0=a∧G 2=.pointer (some ⟨m.length,0,none⟩)∧G 3=.pointer (some ⟨m.length+1,0,none⟩)∧G 4=.int .i64 (i:Nat)∧i≤(dig x).length∧M[m.length+1]? = some (.row false 54 (rowK .u8 32 fun j=>if j<i then x / 256^j%256 else 0))∧(∀ k,k≠m.length+1→M[k]? = N[k]?))
  (Q:=fun e T M=>e=.exit 0∧∃ G,T=lst G 23∧G 2=.pointer (some ⟨m.length,0,none⟩)∧G 3=.pointer (some ⟨m.length+1,0,none⟩)∧M[m.length+1]? = some (.row false 54 (rowK .u8 32 (byteX x)))∧(∀ k,k≠m.length+1→M[k]? = N[k]?)) (fun i T M hi hI=>by
   obtain ⟨G,rfl,g0,g2,g3,g4,gi,gr,gk9⟩:=hI
   have hNM:NumA M a (dig x):=hN.keep fun k hk=>(gk9 k (by omega)).trans (gk k hk)
   by_cases hlt:i<(dig x).length
   ·left
    obtain ⟨F',hr,f0,f2,f3,f4⟩:=rby_it (self:=self) (nf:=nf) g0 g3 g4 hNM hlt (by omega) gr
    refine ⟨_,_,hr,by omega,F',rfl,f0.trans g0,f2.trans g2,f3.trans g3,f4,hlt,?_,fun k hk=>by rw [List.getElem?_set_ne (fun e=>hk e.symm),gk9 k hk]⟩
    rw [List.getElem?_set_self (lt_of_at gr)]
    refine congrArg (fun l=>some (Blk.row false 54 l)) (rowK_ext fun j _=>?_)
    by_cases hj:j=i
    ·subst hj
     rw [if_pos rfl,if_pos (by omega)]
    ·rw [if_neg hj]
     by_cases hj2:j<i
     ·rw [if_pos hj2,if_pos (by omega)]
     ·rw [if_neg hj2,if_neg (by omega)]
   ·right
    obtain ⟨F',hr,f2,f3⟩:=rby_ex (self:=self) (nf:=nf) (i:=i) g0 g4 hNM (by omega)
    refine ⟨_,_,_,hr,by simp,rfl,F',rfl,f2.trans g2,f3.trans g3,?_,gk9⟩
    rw [gr]
    refine congrArg (fun l=>some (Blk.row false 54 l)) (rowK_ext fun j _=>?_)
    rw [byteX_dig]
    by_cases hj:j<i
    ·rw [if_pos hj]
    ·rw [if_neg hj,dig_past (by omega)])
 obtain ⟨e,T',M1,hr,rfl,G,rfl,g2,g3,kq,ko⟩:=hl 32 0 nf (lst (upd (upd (upd (init [a]) 2 (.pointer (some ⟨m.length,0,none⟩))) 3 (.pointer (some ⟨m.length+1,0,none⟩))) 4 (.int .i64 0)) 23) N (by omega) (by omega) ⟨_,rfl,rfl,rfl,rfl,rfl,by omega,by rw [gq]; simp,fun _ _=>rfl⟩
 have kr:M1[m.length]? = some (.row false 54 (rowK .u8 32 fun _=>0)):=by rw [ko _ (by omega)]; exact gr
 have ld1:=a46.load kq
 have st2:=a46.store (w:=byteX x) (by omega) kr (rowK_length _ _ _)
 have ld2:aload E.P 54 (.pointer (some ⟨m.length,0,none⟩)) (M1.set m.length (.row false 54 (rowK .u8 32 (byteX x))))=some (arrK .u8 32 (byteX x)):=a46.load (by rw [List.getElem?_set_self (lt_of_at kr)])
 generalize byteX x=R at *
 clear kq kr ko gr gk gq hN9 hA hl
 simp only [erby5_0,erby5_1,erby5_2,erby5_3,erby5_4,erby5_5,erby5_6,lrby5_0,lrby5_1,lrby5_2,lrby5_3,lrby5_4,lrby5_5,lrby5_6,grby5_3_4,agd_none,gdAt,gdV_bool,gdV_undef,Tryd.f60,List.append_eq,List.cons_append,List.nil_append,apure_call1,apure_call2,apure_call3,bft,btf,acodeN,List.getElem?_toArray,List.getElem?_cons_zero,List.getElem?_cons_succ,aopsN,adrawT,cls,astep,aop,afloat,ev,nth_lst,get_lst,aput,setAt_lst,upd_at,init_zero,init_succ,init_nil,Nat.reduceLT,Nat.reduceEqDiff,reduceIte,len_N,abuiltin_app,Option.map_some,Option.map_none,orElse_some,apure_add,apure_eqlV,eqlVal_str,eqlVal_bool,eqlVal_ptr,eqlVal_slice,eqlVal_wide,eqlVal_int,allT,↓aop_eqlV,apure_neq,List.map_cons,List.map_nil,List.all_cons,List.all_nil,lit2,lit1,lit0,List.isEmpty_nil,bls,Bool.false_eq_true,if_true,if_false,List.length_map,beq_self_eq_true,uns,b1,b2,hr,g2,g3,ld1,st2,ld2,finish,ares,aresL,ares1]
 exact ⟨_,rfl⟩
end
def CByt5 (self:Self):Prop:=∀ (m:Mem) (a:Value) (x:Nat),NumA m a (dig x)→x<256^32→ainv E self 60 [a] m=some (arrK .u8 32 (byteX x),m)
theorem cbyt5 {R:Nat→Self} {K:List Fact} (hR:Runs R K) {n:Nat} (hK:hasF K 60=false) (hn:1000≤n):CByt5 (R (n+1)):=by
 intro m a x ha hx
 by_cases hl:([a].all lit2)=true
 ·have hl9:=hl
  simp only [List.all_cons,List.all_nil,Bool.and_true] at hl9
  obtain ⟨rfl,h1⟩:=ha.lit hl9
  obtain ⟨m',hb⟩:=rby5_body (self:=R n) (nf:=n+1) (m:=(m.take E.G).map onlyTab) (a:=.slice none 0 0) (x:=x) (by rw [h1]; exact NumA.nil _) hx (by omega)
  exact ainv_lit hl (by kernel_rfl) (hR.b hK hb) (arrK_lit _ _ _)
 ·obtain ⟨m',hb⟩:=rby5_body (self:=R n) (nf:=n+1) ha.sealed hx (by omega)
  exact ainv_look (by simpa using hl) (by kernel_rfl) (hR.b hK hb) (arrK_lit _ _ _)
set_option maxHeartbeats 4000000
theorem bytes_same {X Y:Nat} (hX:X<P25519) (hY:Y<P25519):((List.range 32).all fun j=>((byteX X j:Nat):Int)==((byteX Y j:Nat):Int))=decide (X=Y):=by
 by_cases h:X=Y
 ·subst h; simp
 ·rw [decide_eq_false h]
  cases hq:(List.range 32).all (fun j=>((byteX X j:Nat):Int)==((byteX Y j:Nat):Int)) with
  | false=>rfl
  | true =>
   exfalso
   apply h
   rw [List.all_eq_true] at hq
   have hb:∀ j,j<32→byteX X j=byteX Y j:=fun j hj=>by
    have:=hq j (List.mem_range.2 hj)
    exact Int.ofNat.inj (by simpa using this)
   rw [←loose_byteX hX,←loose_byteX hY]
   unfold looseF
   have ha:∀ k,k<4→accW (byteX X) k 8=accW (byteX Y) k 8:=fun k hk=>accW_ext k (fun i hi=>hb (8*k+i) (by omega)) 8 (Nat.le_refl _)
   rw [ha 0 (by omega),ha 1 (by omega),ha 2 (by omega),ha 3 (by omega)]
theorem callPa:callableB E.P 31=true:=by kernel_rfl
theorem callAw5:callableB E.P 30=true:=by kernel_rfl
section
variable {self:Self} {nf:Nat} {F:Nat→Value} {B D N N2:Mem} {va vb vP vQ vX vY bX bY vN vA:Value} {pa pb px py pu pv pn:Nat} {rX rY:Blk}
end
section
variable {self:Self} {nf:Nat} {m:Mem} {a b:Nat→Nat}
end
def ris5_0:=opR Tryd.f36 [0]
def lis5_0:List Oper:=match Tryd.f36.body with
 | some (.seq (.region _ o _) _)=>o.toList
 | _=>[]
theorem eis5_0:ris5_0.toList=lis5_0:=rfl
def ris5_1:=opR Tryd.f36 [1,0]
def lis5_1:List Oper:=match Tryd.f36.body with
 | some (.seq _ (.seq (.region _ o _) _))=>o.toList
 | _=>[]
theorem eis5_1:ris5_1.toList=lis5_1:=rfl
theorem bodyis5:Tryd.f36.body=some (.seq (.region 0 ris5_0 false) (.seq (.region 1 ris5_1 false) .ret)):=rfl
theorem ix35 {b L c j:Nat} (h:j<L):aindexAddr E.P 35 (.slice (some ⟨b,0,none⟩) L c) (.int .i64 (j:Nat))=some (.pointer (some ⟨b,j,none⟩)):=by
 obtain ⟨i,h1,h2⟩:=info_of (t:=5) (n:=1) (by kernel_rfl)
 unfold aindexAddr
 simp only [show E.P.underlying 35=some (.slice 5) from Tryd.underlying35,h1]
 rw [if_pos (by omega)]
 simp [h2]
theorem make35n (c:Nat) (hc:c<1000000) (m:Mem):amakeSlice E.P 35 (.int .i64 (c:Nat)) (.int .i64 (c:Nat)) m=some (.slice (some ⟨m.length,0,none⟩) c c,m++[.row false 5 (List.replicate c (.int .u8 0))]):=by
 have hz:zero1 E.P 5=some (.int .u8 0):=by kernel_rfl
 have hi:(E.P.info? 5).map (·.bytes)=some 1:=by kernel_rfl
 obtain ⟨i,h1,h2⟩:=Option.map_eq_some_iff.1 hi
 unfold amakeSlice
 simp only [show E.P.underlying 35=some (.slice 5) from Tryd.underlying35,hz,h1,h2]
 rw [wrap_i64 (n:=(c:Int)) (by omega) (by omega),if_pos (by omega)]
 simp
theorem rowK_zero:List.replicate 32 (Value.int .u8 0)=rowK .u8 32 fun _=>0:=by kernel_rfl
def text32 (w:Nat→Nat):ByteArray:=bytesOfL (((List.range 32).map fun j=>((w j:Nat):Int)).map fun n=>UInt8.ofNat n.toNat)
def num32 (w:Nat→Nat):Nat:=val ((List.range 32).map w)
theorem text32_val {w:Nat→Nat} (hw:∀ i,w i<256):natsOf (text32 w)=(List.range 32).map w:=by
 unfold natsOf text32
 rw [bytesOfL_list,List.map_map,List.map_map]
 apply List.map_congr_left
 intro j _
 have:=hw j
 simp only [Function.comp,Int.toNat_natCast,UInt8.toNat_ofNat']
 omega
theorem text32_len (w:Nat→Nat):(text32 w).data.toList.length=32:=by
 unfold text32
 rw [bytesOfL_list]
 simp
theorem num32_lt {w:Nat→Nat} (hw:∀ i,w i<256):num32 w<256^32:=by
 have:=val_lt (l:=(List.range 32).map w) (fun x hx=>by
  obtain ⟨j,_,rfl⟩:=List.mem_map.1 hx
  exact hw j)
 rw [List.length_map,List.length_range] at this
 exact this
section
variable {self:Self} {nf:Nat} {m M:Mem} {F:Nat→Value} {i p q:Nat} {w v:Nat→Nat}
end
theorem p5_eq:P25519=p5:=by decide +kernel
theorem callByt5:callableB E.P 60=true:=by kernel_rfl
section
variable {self:Self} {nf:Nat} {m:Mem} {a:Value} {X y:Nat}
theorem is5_body (hby:∀ X,Ans self 34 [el X] (arrK .u8 32 (byteX X))) (cb:CByt5 self) (hN:NumA m a (dig y)) (hX:X<P25519) (hy:y<p5) :
  ∃ m',abody E self nf 36 [el X,a] m=some (.bool (decide (X=y)),m'):=by
 rw [abody_eqF (by kernel_rfl) Tryd.func36 bodyis5 (by kernel_rfl) (Nat.le_of_ble_eq_true rfl)]
 rw [show Tryd.f36.ntmps=10 from rfl]
 have b1:=box48 (wd 0 X) (wd 1 X) (wd 2 X) (wd 3 X) m
 obtain ⟨A,hA⟩:∃ A,A=m++[Blk.row false 56 (c4 (wd 0 X) (wd 1 X) (wd 2 X) (wd 3 X))]:=⟨_,rfl⟩
 rw [←hA] at b1
 have kA:Kept m A:=by rw [hA]; exact Kept.app _ _
 have l1:aload E.P 56 (.pointer (some ⟨m.length,0,none⟩)) A=some (st4 (wd 0 X) (wd 1 X) (wd 2 X) (wd 3 X)):=load48 (ro:=false) (e:=56) (by rw [hA]; simp)
 rw [←el_st] at b1 l1
 have c1:=hby X A
 have c2:=cb A a y (hN.on kA) (Nat.lt_trans hy p5_lt)
 have hs:=bytes_same hX (by rw [p5_eq]; exact hy:y<P25519)
 simp only [eis5_0,eis5_1,lis5_0,lis5_1,agd_none,gdAt,gdV_bool,gdV_undef,Tryd.f36,List.append_eq,List.cons_append,List.nil_append,apure_call1,apure_call2,apure_call3,bft,btf,acodeN,List.getElem?_toArray,List.getElem?_cons_zero,List.getElem?_cons_succ,aopsN,adrawT,cls,astep,aop,afloat,ev,nth_lst,get_lst,aput,setAt_lst,upd_at,init_zero,init_succ,init_nil,Nat.reduceLT,Nat.reduceEqDiff,reduceIte,len_N,abuiltin_app,Option.map_some,Option.map_none,orElse_some,apure_add,apure_eqlV,eqlVal_str,eqlVal_bool,eqlVal_ptr,eqlVal_slice,eqlVal_wide,eqlVal_int,allT,↓aop_eqlV,apure_neq,List.map_cons,List.map_nil,List.all_cons,List.all_nil,lit2,lit1,lit0,List.isEmpty_nil,bls,Bool.false_eq_true,if_true,if_false,List.length_map,beq_self_eq_true,uns,b1,l1,callBy,c1,callByt5,c2,eql46,hs,finish,ares,aresL,ares1]
 exact ⟨_,rfl⟩
end
def CIs5 (self:Self):Prop:=∀ (m:Mem) (a:Value) (X y:Nat),NumA m a (dig y)→X<P25519→y<p5→ainv E self 36 [el X,a] m=some (.bool (decide (X=y)),m)
theorem cis5 {R:Nat→Self} {K:List Fact} (hR:Runs R K) {n:Nat} (hK:hasF K 36=false) (hby:∀ X,Ans (R n) 34 [el X] (arrK .u8 32 (byteX X))) (cb:CByt5 (R n)):CIs5 (R (n+1)):=by
 intro m a X y ha hX hy
 by_cases hl:([el X,a].all lit2)=true
 ·have hl9:=hl
  simp only [List.all_cons,List.all_nil,Bool.and_true,Bool.and_eq_true] at hl9
  obtain ⟨rfl,h1⟩:=ha.lit hl9.2
  obtain ⟨m',hb⟩:=is5_body (self:=R n) (nf:=n+1) (m:=(m.take E.G).map onlyTab) (a:=.slice none 0 0) (X:=X) (y:=y) hby cb (by rw [h1]; exact NumA.nil _) hX hy
  exact ainv_lit hl (by kernel_rfl) (hR.b hK hb) rfl
 ·obtain ⟨m',hb⟩:=is5_body (self:=R n) (nf:=n+1) hby cb ha.sealed hX hy
  exact ainv_look (by simpa using hl) (by kernel_rfl) (hR.b hK hb) rfl
theorem callIs5:callableB E.P 36=true:=by kernel_rfl
theorem TabP.on {m m':Mem} (h:TabP m) (hk:Kept m m'):TabP m':=by
 unfold TabP at *
 rw [hk.2 _ (List.getElem?_eq_some_iff.1 h).1]
 exact h
section
variable {self:Self} {nf:Nat} {m:Mem} {F:Nat→Value} {px py X Y n:Nat} {u v:Value}
end
def c12 (X Y Z:Nat):List Value:=c4 (wd 0 X) (wd 1 X) (wd 2 X) (wd 3 X)++c4 (wd 0 Y) (wd 1 Y) (wd 2 Y) (wd 3 Y)++c4 (wd 0 Z) (wd 1 Z) (wd 2 Z) (wd 3 Z)
abbrev rowEl (X:Nat):Blk:=.row false 56 (c4 (wd 0 X) (wd 1 X) (wd 2 X) (wd 3 X))
theorem st48z {m:Mem} {p X:Nat} (h:m[p]? = some (.row false 56 (c4 0 0 0 0))):astore E.P 56 (.pointer (some ⟨p,0,none⟩)) (el X) m=some (m.set p (rowEl X)):=store48 h rfl
theorem ld48on {m:Mem} {p X:Nat} (h:m[p]? = some (rowEl X)):aload E.P 56 (.pointer (some ⟨p,0,none⟩)) m=some (el X):=load48 (ro:=false) (e:=56) h
section
variable {self:Self} {nf:Nat} {m M:Mem} {F:Nat→Value} {q pa pr A Z S i:Nat}
end
end Go.Am.Seat
