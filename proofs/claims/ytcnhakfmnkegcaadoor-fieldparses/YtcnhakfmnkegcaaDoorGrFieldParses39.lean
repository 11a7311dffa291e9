import Derived.Test.YtcnhakfmnkegcaaDoorGrFieldParses37
import Derived.Test.YtcnhakfmnkegcaaDoorGrFieldParses38
import Derived.Test.YtcnhakfmnkegcaaDoorGrFieldParses36
import Derived.Test.YtcnhakfmnkegcaaDoorGrFieldParses8
import Derived.Lib.LaidTab
import Derived.ChangeShapes
import Derived.Test.YtcnhakfmnkegcaaDoorGrFieldParses0
set_option linter.unusedSimpArgs false
set_option linter.unusedVariables false
set_option maxRecDepth 100000
namespace Go.Am.Seat
open Go.Proofs Go.Am Go.Am.Num Go.Am.Kn
structure FpAll (slf:Self):Prop where
 pa:∀ u:Nat→Nat,(∀ i,u i<256)→Ans slf 31 [arrK .u8 32 u] (.tuple ⟨[el (if (!decide (num32 u<P25519))=true then 0 else looseF u),.int .i64 (if (!decide (num32 u<P25519))=true then 7 else 0)]⟩)
 bt:∀ X,Ans slf 34 [el X] (arrK .u8 32 (byteX X))
 ze:Ans slf 33 [el 0] (.bool true)
 co:COf slf
 cp:CP5 slf
 cc:CCmp slf
 cd:CDec slf
 cr:CRed slf
 is:CIs5 slf
 fd:CFd slf
 aw:∀ x,ainv E slf 30 [] (mem5++x)=some (.bool true,mem5++x)
theorem elem_more (M:Mem) (X:Nat):∃ m1 M1,aalloc E.P 56 M=some (.pointer (some ⟨M.length,0,none⟩),m1)∧astore E.P 56 (.pointer (some ⟨M.length,0,none⟩)) (el X) m1=some M1∧M1[M.length]? = some (rowEl X)∧Kept M M1:=by
 have ha:=alloc48 M
 have g:(M++[Blk.row false 56 (c4 0 0 0 0)])[M.length]? = some (.row false 56 (c4 0 0 0 0)):=by rw [List.getElem?_append_right (Nat.le_refl _)]; simp
 have st:=st48z (X:=X) g
 refine ⟨_,_,ha,st,by rw [List.getElem?_set_self (lt_of_at g)],by simp,fun k hk=>?_⟩
 rw [List.getElem?_set_ne (by omega),List.getElem?_append_left hk]
theorem p_256:P25519<256^32:=by decide +kernel
theorem len_gt (r:Nat):decide ((((dig r).length:Nat):Int)>64) = !decide (r<W8):=by
 by_cases h:r<W8
 ·have h1:(dig r).length≤64:=dig_len_le (by rw [←W8_256]; exact h)
  rw [decide_eq_true h,decide_eq_false (by omega)]
  rfl
 ·have h1:64<(dig r).length:=dig_len_ge (by rw [←W8_256]; omega)
  rw [decide_eq_false h,decide_eq_true (by omega)]
  rfl
section
variable {self:Self} {nf:Nat} {s:ByteArray} {u:Nat→Nat}
theorem fp_rest (rl:FpAll self) (hs:s.data.toList.length≤200) {M:Mem} {F:Nat→Value} (h1:F 1=.string s) (hM:KT5 M) :
  ∃ G M',acodeN E self nf (.seq (.region 17 rfp_17 false) (.seq (.seq (.region 18 rfp_18 false) (.cond (.tmp 66) (.seq (.region 19 rfp_19 false) .ret) .skip)) (.seq (.region 20 rfp_20 false) .ret))) (lst F 75) M=some (.ret,lst G 75,M')∧G 4=.bool true:=by
 obtain ⟨N,M1,e1,alt⟩:=rl.cd M s (by omega)
 obtain ⟨A,ra,a9,a10,ak⟩:=fp_17 (self:=self) (nf:=nf) (F:=F) h1 e1
 have a1:A 1=.string s:=(ak 1 (by omega)).trans h1
 rcases alt with ⟨hno,rfl,rfl⟩ | ⟨hok,nN⟩
 ·rw [hno] at a10
  obtain ⟨B,rb,b66,bk⟩:=fp_18n (self:=self) (nf:=nf) (m:=M1) (F:=A) a10
  have e2:=rl.fd M1 s hM (by omega)
  rw [show decN (natsOf s)=0 by unfold decN; rw [hno]; rfl,Nat.zero_mod] at e2
  obtain ⟨C,rc,c4⟩:=fp_19 (self:=self) (nf:=nf) (F:=B) ((bk 1 (by omega)).trans a1) e2 rl.ze
  refine ⟨C,M1,?_,c4⟩
  clear e1 e2 rl
  generalize Code.region 17 rfp_17 false=C17 at *
  generalize Code.region 18 rfp_18 false=C18 at *
  generalize Code.region 19 rfp_19 false=C19 at *
  generalize Code.region 20 rfp_20 false=C20 at *
  simp only [acodeN,ra,rb,rc,ev,nth_lst,Nat.reduceLT,if_true,b66]
 ·rw [hok] at a10
  obtain ⟨B,rb,b66,bk⟩:=fp_18 (self:=self) (nf:=nf) (m:=M1) (F:=A) a9 a10 nN.is.1 (len_gt _)
  have hM1:=hM.on nN.keeps
  have e2:=rl.fd M1 s hM1 (by omega)
  by_cases hlt:decV (natsOf s)<W8
  ·rw [decide_eq_true hlt] at b66
   rw [show decN (natsOf s)=decV (natsOf s) by unfold decN; rw [if_pos hok,if_pos hlt]] at e2
   have h65:decV (natsOf s)<256^65:=Nat.lt_trans hlt (by rw [W8_256]; decide +kernel)
   obtain ⟨R,M2,e3,alt⟩:=rl.cr M1 N (decV (natsOf s)) nN.s h65
   have hR:NumA M2 R (dig (decV (natsOf s)%p5)):=by
    rcases alt with ⟨rfl,rfl,e⟩ | h
    ·rw [e]; exact nN.is
    ·exact h.is
   have hp:(0:Nat)<P25519:=by decide
   have e4:=rl.is M2 R (decV (natsOf s)%P25519) (decV (natsOf s)%p5) hR (Nat.mod_lt _ hp) (by rw [←p5_eq]; exact Nat.mod_lt _ hp)
   rw [p5_eq,decide_eq_true rfl] at e4
   rw [p5_eq] at e2
   obtain ⟨C,rc,c4⟩:=fp_20 (self:=self) (nf:=nf) (F:=B) ((bk 1 (by omega)).trans a1) ((bk 9 (by omega)).trans a9) e2 e3 e4
   refine ⟨C,M2,?_,c4⟩
   clear e1 e2 e3 e4 rl
   generalize Code.region 17 rfp_17 false=C17 at *
   generalize Code.region 18 rfp_18 false=C18 at *
   generalize Code.region 19 rfp_19 false=C19 at *
   generalize Code.region 20 rfp_20 false=C20 at *
   simp only [acodeN,ra,rb,rc,ev,nth_lst,Nat.reduceLT,if_true,b66,Bool.not_true]
  ·rw [decide_eq_false hlt] at b66
   rw [show decN (natsOf s)=0 by unfold decN; rw [if_pos hok,if_neg hlt],Nat.zero_mod] at e2
   obtain ⟨C,rc,c4⟩:=fp_19 (self:=self) (nf:=nf) (F:=B) ((bk 1 (by omega)).trans a1) e2 rl.ze
   refine ⟨C,M1,?_,c4⟩
   clear e1 e2 rl
   generalize Code.region 17 rfp_17 false=C17 at *
   generalize Code.region 18 rfp_18 false=C18 at *
   generalize Code.region 19 rfp_19 false=C19 at *
   generalize Code.region 20 rfp_20 false=C20 at *
   simp only [acodeN,ra,rb,rc,ev,nth_lst,Nat.reduceLT,if_true,b66,Bool.not_false]
theorem fp_bytes (rl:FpAll self) (hu:∀ i,u i<256) {M:Mem} {F:Nat→Value} {p x q:Nat} (h2:F 2=.pointer (some ⟨p,0,none⟩)) (h5:F 5=.pointer (some ⟨x,0,none⟩)) (h7:F 7=.slice (some ⟨q,0,none⟩) 32 32) (h6:F 6=.int .i64 (if (!decide (num32 u<P25519))=true then 7 else 0)) (gp:M[p]? = some (.row false 54 (rowK .u8 32 u))) (gx:M[x]? = some (rowEl (if (!decide (num32 u<P25519))=true then 0 else looseF u))) (gq:M[q]? = some (.row false 5 (rowK .u8 32 u))) :
  ∃ G M',acodeN E self nf (.seq (.region 12 rfp_12 false) (.cond (.tmp 39) (.seq (.region 13 rfp_13 false) (.cond (.tmp 46) (.seq (.region 14 rfp_14 false) .ret) .skip)) (.seq (.region 15 rfp_15 true) (.cond (.tmp 54) (.seq (.region 16 rfp_16 false) .ret) .skip)))) (lst F 75) M=some (.normal,lst G 75,M')∧Kept M M'∧G 1=F 1:=by
 have e1:aconvB E.P 35 9 (.slice (some ⟨q,0,none⟩) 32 32) M=some (.string (text32 u),M):=conv35_str (l:=(List.range 32).map fun j=>((u j:Nat):Int)) gq (by rw [List.take_of_length_le (by rw [rowK_length]; omega),List.map_map]; rfl) (by rw [rowK_length]; omega)
 obtain ⟨v1,M1,e2,n1⟩:=rl.co M (text32 u) (by rw [text32_len]; omega)
 rw [text32_val hu] at n1
 have n1:NumR M v1 M1 (num32 u):=n1
 obtain ⟨v2,M2,e3,n2⟩:=rl.cp M1
 have n2:NumR M1 v2 M2 P25519:=n2
 have h32:=num32_lt hu
 have d1:(dig (num32 u)).length≤32:=dig_len_le h32
 have d2:(dig P25519).length≤32:=dig_len_le p_256
 have e4:=rl.cc M2 v1 v2 (num32 u) P25519 (n1.is.on n2.keeps) n2.is (by omega) (by omega)
 have kM:Kept M M2:=n1.keeps.trans n2.keeps
 have hb:decide (cmpN (num32 u) P25519≥0) = !decide (num32 u<P25519):=by
  unfold cmpN
  by_cases hl:num32 u<P25519
  ·rw [if_pos hl,decide_eq_true hl]; rfl
  ·rw [if_neg hl,decide_eq_false hl]; split<;>rfl
 obtain ⟨A,ra,a39,ak⟩:=fp_12 (self:=self) (nf:=nf) (F:=F) h7 e1 e2 e3 e4 hb
 by_cases hl:num32 u<P25519
 ·rw [decide_eq_true hl] at a39 h6 gx
  simp only [Bool.not_true,Bool.false_eq_true,if_false] at a39 h6 gx
  have hq:∀ i j,neqVal E.P 54 i j (arrK .u8 32 (byteX (looseF u))) (arrK .u8 32 u)=some (.bool false):=fun i j=>by rw [neq46,same_bytes hu,decide_eq_true hl]; rfl
  have gxs:(M2.map Am.sealed)[x]? = some (.row true 56 (c4 (Go.Am.Num.wd 0 (looseF u)) (Go.Am.Num.wd 1 (looseF u)) (Go.Am.Num.wd 2 (looseF u)) (Go.Am.Num.wd 3 (looseF u)))):=by
   rw [List.getElem?_map,kM.2 x (lt_of_at gx),gx]; rfl
  have gps:(M2.map Am.sealed)[p]? = some (.row true 54 (rowK .u8 32 u)):=by
   rw [List.getElem?_map,kM.2 p (lt_of_at gp),gp]; rfl
  obtain ⟨B,rb,b54,bk⟩:=fp_15 (self:=self) (nf:=nf) (m:=M2) (F:=A) ((ak 2 (by omega)).trans h2) ((ak 5 (by omega)).trans h5) ((ak 6 (by omega)).trans h6) (load48 (ro:=true) (e:=56) gxs) (a46.load gps) (rl.bt (looseF u)) hq
  refine ⟨B,M2,?_,kM,(bk 1 (by omega)).trans (ak 1 (by omega))⟩
  clear e1 e2 e3 e4 rl hq
  generalize Code.region 12 rfp_12 false=C12 at *
  generalize Code.region 13 rfp_13 false=C13 at *
  generalize Code.region 15 rfp_15 true=C15 at *
  simp only [acodeN,ra,rb,ev,nth_lst,Nat.reduceLT,if_true,a39,b54]
 ·rw [decide_eq_false hl] at a39 h6 gx
  simp only [Bool.not_false,if_true] at a39 h6 gx
  have gx2:M2[x]? = some (rowEl 0):=by rw [kM.2 x (lt_of_at gx)]; exact gx
  obtain ⟨B,rb,b46,bk⟩:=fp_13 (self:=self) (nf:=nf) (m:=M2) (F:=A) ((ak 5 (by omega)).trans h5) ((ak 6 (by omega)).trans h6) (ld48on gx2) rl.ze
  refine ⟨B,M2,?_,kM,(bk 1 (by omega)).trans (ak 1 (by omega))⟩
  clear e1 e2 e3 e4 rl
  generalize Code.region 12 rfp_12 false=C12 at *
  generalize Code.region 13 rfp_13 false=C13 at *
  generalize Code.region 15 rfp_15 true=C15 at *
  simp only [acodeN,ra,rb,ev,nth_lst,Nat.reduceLT,if_true,a39,b46]
theorem fp_loop {M:Mem} {F:Nat→Value} {p q:Nat} (hpq:p≠q) (h2:F 2=.pointer (some ⟨p,0,none⟩)) (h7:F 7=.slice (some ⟨q,0,none⟩) 32 32) (h23:F 23=.int .i64 32) (h24:F 24=.int .i64 ((0:Nat):Int)) (gp:M[p]? = some (.row false 54 (rowK .u8 32 u))) (gq:M[q]? = some (.row false 5 (rowK .u8 32 fun _=>0))) (hnf:1000<nf) :
  ∃ G M',aloop (acodeN E self nf lpfp_0) nf (lst F 75) M=some (.exit 0,lst G 75,M')∧M'[q]? = some (.row false 5 (rowK .u8 32 u))∧M'.length=M.length∧(∀ k,k≠q→M'[k]? = M[k]?)∧∀ j,j≠8→j<11→G j=F j:=by
 have hl:=aloop_inv (body:=acodeN E self nf lpfp_0) (N:=32)
  (I:=fun i T m=>∃ G,T=lst G 75∧G 23=.int .i64 32∧G 24=.int .i64 (i:Nat)∧m.length=M.length∧m[q]? = some (.row false 5 (rowK .u8 32 fun j=>if j<i then u j else 0))∧(∀ k,k≠q→m[k]? = M[k]?)∧∀ j,j≠8→j<11→G j=F j)
  (Q:=fun e T m=>e=.exit 0∧∃ G,T=lst G 75∧m[q]? = some (.row false 5 (rowK .u8 32 u))∧m.length=M.length∧(∀ k,k≠q→m[k]? = M[k]?)∧∀ j,j≠8→j<11→G j=F j) (fun i T m hi hI=>by
   obtain ⟨G,rfl,g23,g24,gl,gr,go,gk⟩:=hI
   by_cases hlt:i<32
   ·left
    obtain ⟨H,hr,x24,x23,hk⟩:=fp_it (self:=self) (nf:=nf) ((gk 2 (by omega) (by omega)).trans h2) ((gk 7 (by omega) (by omega)).trans h7) g23 g24 hlt ((go p hpq).trans gp) gr
    refine ⟨_,_,hr,by omega,H,rfl,x23.trans g23,x24,by rw [List.length_set]; exact gl,?_,fun k hk2=>by rw [List.getElem?_set_ne (fun e=>hk2 e.symm)]; exact go k hk2,fun j h1 h2=>(hk j h1 h2).trans (gk j h1 h2)⟩
    rw [List.getElem?_set_self (lt_of_at gr)]
    refine congrArg (fun l=>some (Blk.row false 5 l)) (rowK_ext fun j _=>?_)
    by_cases hj:j=i
    ·subst hj
     rw [if_pos rfl,if_pos (by omega)]
    ·rw [if_neg hj]
     by_cases hj2:j<i
     ·rw [if_pos hj2,if_pos (by omega)]
     ·rw [if_neg hj2,if_neg (by omega)]
   ·right
    obtain ⟨H,hr,hk⟩:=fp_ex (self:=self) (nf:=nf) (M:=m) g23 g24 (by omega)
    refine ⟨_,_,_,hr,by simp,rfl,H,rfl,?_,gl,go,fun j h1 h2=>(hk j h2).trans (gk j h1 h2)⟩
    rw [gr]
    refine congrArg (fun l=>some (Blk.row false 5 l)) (rowK_ext fun j hj=>?_)
    rw [if_pos (by omega)])
 obtain ⟨e,T',M',hr,rfl,G,rfl,gr,gl,go,gk⟩:=hl 32 0 nf (lst F 75) M (by omega) (by omega) ⟨F,rfl,h23,h24,rfl,by rw [gq]; simp,fun _ _=>rfl,fun _ _ _=>rfl⟩
 exact ⟨G,M',hr,gr,gl,go,gk⟩
theorem fp_body (rl:FpAll self) (hu:∀ i,u i<256) (hnf:1000<nf):∃ m',abody E self nf 6 [arrK .u8 32 u,.string s] mem5=some (.bool true,m'):=by
 rw [abody_eqF (by kernel_rfl) Tryd.func6 bodyfp (by kernel_rfl) (Nat.le_of_ble_eq_true rfl)]
 rw [show Tryd.f6.ntmps=75 from rfl]
 have hT:KT5 mem5:=⟨Nat.le_of_ble_eq_true (by kernel_rfl),rfl⟩
 obtain ⟨A0,r0,a2,a1⟩:=fp_0 (self:=self) (nf:=nf) (m:=mem5) (F:=init [arrK .u8 32 u,.string s]) (u:=u) rfl
 have a1:A0 1=.string s:=a1
 have hA:=rl.aw [Blk.row false 54 (rowK .u8 32 u)]
 obtain ⟨n,hn⟩:∃ n,n=mem5.length:=⟨_,rfl⟩
 obtain ⟨M0,hM0⟩:∃ M,M=mem5++[Blk.row false 54 (rowK .u8 32 u)]:=⟨_,rfl⟩
 rw [←hM0] at r0 hA
 rw [←hn] at a2
 have k0:KT5 M0:=hT.on (by rw [hM0]; exact Kept.app _ _)
 have gp0:M0[n]? = some (.row false 54 (rowK .u8 32 u)):=by rw [hM0,hn,List.getElem?_append_right (Nat.le_refl _)]; simp
 clear hM0 hn hT
 obtain ⟨A1,r1,c12,ak1⟩:=fp_1 (self:=self) (nf:=nf) (F:=A0) hA
 by_cases hs:200<s.data.toList.length
 ·obtain ⟨A3,r3,c15,ak3⟩:=fp_3 (self:=self) (nf:=nf) (m:=M0) (F:=A1) ((ak1 1 (by omega)).trans a1) (b:=true) (decide_eq_true (by omega))
  obtain ⟨A4,r4,c4⟩:=fp_4 (self:=self) (nf:=nf) (m:=M0) (F:=A3)
  refine ⟨M0,?_⟩
  clear rl hA
  generalize arrK .u8 32 u=va at *
  generalize Code.region 0 rfp_0 false=C0 at *
  generalize Code.region 1 rfp_1 false=C1 at *
  generalize Code.region 3 rfp_3 false=C3 at *
  generalize Code.region 4 rfp_4 false=C4 at *
  simp only [acodeN,r0,r1,r3,r4,ev,nth_lst,Nat.reduceLT,if_true,c12,c15,finish,ares,aresL,ares1,Tryd.f6,c4,Option.map_some]
 ·obtain ⟨A3,r3,c15,ak3⟩:=fp_3 (self:=self) (nf:=nf) (m:=M0) (F:=A1) ((ak1 1 (by omega)).trans a1) (b:=false) (decide_eq_false (by omega))
  have hpa:=rl.pa u hu M0
  obtain ⟨X,hX⟩:∃ X,X=(if (!decide (num32 u<P25519))=true then 0 else looseF u):=⟨_,rfl⟩
  rw [←hX] at hpa
  obtain ⟨m1,M1,ha,st,gx,k1⟩:=elem_more M0 X
  obtain ⟨A5,r5,c5,c6,ak5⟩:=fp_5 (self:=self) (nf:=nf) (F:=A3) ((ak3 2 (by omega)).trans ((ak1 2 (by omega)).trans a2)) gp0 hpa ha st
  obtain ⟨A6,r6,c7,ak6⟩:=fp_6 (self:=self) (nf:=nf) (m:=M1) (F:=A5)
  obtain ⟨M2,hM2⟩:∃ M,M=M1++[Blk.row false 5 (rowK .u8 32 fun _=>0)]:=⟨_,rfl⟩
  rw [←hM2] at r6
  have k2:Kept M1 M2:=by rw [hM2]; exact Kept.app _ _
  have gq:M2[M1.length]? = some (.row false 5 (rowK .u8 32 fun _=>0)):=by rw [hM2,List.getElem?_append_right (Nat.le_refl _)]; simp
  have l0:=lt_of_at gp0
  have lk:=k1.1
  have lx:=lt_of_at gx
  clear hM2
  obtain ⟨A7,r7,c23,c24,ak7⟩:=fp_7 (self:=self) (nf:=nf) (m:=M2) (F:=A6) c7
  have k67:∀ j,j≠7→j<11→A7 j=A5 j:=fun j h1 h2=>(ak7 j h2).trans (ak6 j h1 h2)
  have s2:A7 2=.pointer (some ⟨n,0,none⟩):=(k67 2 (by omega) (by omega)).trans ((ak5 2 (by omega) (by omega) (by omega)).trans ((ak3 2 (by omega)).trans ((ak1 2 (by omega)).trans a2)))
  have s1:A7 1=.string s:=(k67 1 (by omega) (by omega)).trans ((ak5 1 (by omega) (by omega) (by omega)).trans ((ak3 1 (by omega)).trans ((ak1 1 (by omega)).trans a1)))
  have gp2:M2[n]? = some (.row false 54 (rowK .u8 32 u)):=by rw [k2.2 n (by omega),k1.2 n l0]; exact gp0
  obtain ⟨A8,M3,r8,gq3,l3,o3,ak8⟩:=fp_loop (self:=self) (nf:=nf) (u:=u) (p:=n) (q:=M1.length) (by omega) s2 ((ak7 7 (by omega)).trans c7) c23 c24 gp2 gq hnf
  have gp3:=(o3 n (by omega)).trans gp2
  have gx3:M3[M0.length]? = some (rowEl X):=by rw [o3 _ (by omega),k2.2 _ lx]; exact gx
  have kM3:Kept M1 M3:=⟨by rw [l3]; exact k2.1,fun k hk=>by rw [o3 k (by omega),k2.2 k hk]⟩
  rw [hX] at gx3
  obtain ⟨A9,M4,r9,k4,x1⟩:=fp_bytes (self:=self) (nf:=nf) rl hu ((ak8 2 (by omega) (by omega)).trans s2) ((ak8 5 (by omega) (by omega)).trans ((k67 5 (by omega) (by omega)).trans c5)) ((ak8 7 (by omega) (by omega)).trans ((ak7 7 (by omega)).trans c7)) ((ak8 6 (by omega) (by omega)).trans ((k67 6 (by omega) (by omega)).trans c6)) gp3 gx3 gq3
  obtain ⟨A10,M5,r10,c4⟩:=fp_rest (self:=self) (nf:=nf) rl (by omega) (x1.trans ((ak8 1 (by omega) (by omega)).trans s1)) (((k0.on k1).on kM3).on k4)
  refine ⟨M5,?_⟩
  clear rl hA hpa
  generalize arrK .u8 32 u=va at *
  generalize Code.seq (Code.region 17 rfp_17 false) (Code.seq (Code.seq (Code.region 18 rfp_18 false) (Code.cond (Operand.tmp 66) (Code.seq (Code.region 19 rfp_19 false) Code.ret) Code.skip)) (Code.seq (Code.region 20 rfp_20 false) Code.ret))=CR at *
  generalize Code.seq (Code.region 12 rfp_12 false) (Code.cond (Operand.tmp 39) (Code.seq (Code.region 13 rfp_13 false) (Code.cond (Operand.tmp 46) (Code.seq (Code.region 14 rfp_14 false) Code.ret) Code.skip)) (Code.seq (Code.region 15 rfp_15 true) (Code.cond (Operand.tmp 54) (Code.seq (Code.region 16 rfp_16 false) Code.ret) Code.skip)))=CB at *
  generalize Code.region 0 rfp_0 false=C0 at *
  generalize Code.region 1 rfp_1 false=C1 at *
  generalize Code.region 3 rfp_3 false=C3 at *
  generalize Code.region 5 rfp_5 false=C5 at *
  generalize Code.region 6 rfp_6 false=C6 at *
  generalize Code.region 7 rfp_7 false=C7 at *
  simp only [acodeN,r0,r1,r3,r5,r6,r7,r8,r9,r10,ev,nth_lst,Nat.reduceLT,if_true,c12,c15,finish,ares,aresL,ares1,Tryd.f6,c4,Option.map_some]
end
noncomputable abbrev RP:Nat→Self:=fun n=>runK E mem5 KB n
theorem hRP:Runs RP KB:=runsK mem5 KB
theorem noL5:NoL KB:=by
 have h:(limbFs.all fun f => !hasF KB f)=true:=by kernel_rfl
 intro f hf
 have:=List.all_eq_true.1 h f hf
 simpa using this
theorem cmulP {k:Nat} (hk:1002≤k):CMul (RP k):=by obtain ⟨j,rfl⟩:∃ j,k=j+2:=⟨k-2,by omega⟩; exact cmul hRP rfl rfl (by omega)
theorem cp5P {k:Nat} (hk:1005≤k):CP5 (RP k):=by obtain ⟨j,rfl⟩:∃ j,k=j+5:=⟨k-5,by omega⟩; exact cp5 (n:=j+4) hRP rfl (cmod (n:=j+3) hRP rfl (cdec (n:=j) hRP rfl rfl rfl rfl rfl (by omega)))
theorem credP {k:Nat} (hk:1101≤k):CRed (RP k):=by
 obtain ⟨j,rfl⟩:∃ j,k=j+1:=⟨k-1,by omega⟩
 obtain ⟨i,rfl⟩:∃ i,j=i+2:=⟨j-2,by omega⟩
 exact cred (R:=RP) (fun args m r h=>hRP.b rfl h) (cmulP (by omega)) (caddL (R:=RP) hRP rfl rfl (by omega)) (ccmp (R:=RP) (n:=i+1) hRP rfl (by omega)) (csub (R:=RP) hRP rfl rfl (by omega)) (cp5P (by omega)) (by omega)
theorem fpAll:FpAll (runK E mem5 KB 2000) where
 pa:=fun u hu=>ans_of (by simp only [List.all_cons,arrK_lit]; rfl) (by kernel_rfl) rfl fun m=>by
  obtain ⟨m',h⟩:=pa_any (self:=RP 1999) (nf:=2000) (m:=m) (u:=u) (X:=looseF u) (v:=byteX (looseF u)) (t := !decide (num32 u<P25519)) (L_lo (MM:=mem5) (n:=1996) noF_KB (by omega) u hu) (L_by (MM:=mem5) (n:=1998) noF_KB (by omega) _) fun i j=>by rw [neq46,same_bytes hu]
  exact ⟨m',hRP.b rfl h⟩
 bt:=fun X=>L_by (MM:=mem5) (n:=1999) noF_KB (by omega) X
 ze:=L_ze (MM:=mem5) (n:=1999) noF_KB 0 (by decide)
 co:=cof (R:=RP) (n:=1998) hRP rfl rfl (by omega)
 cp:=cp5P (k:=2000) (by omega)
 cc:=ccmp (R:=RP) (n:=1999) hRP rfl (by omega)
 cd:=cdec (R:=RP) (n:=1997) hRP rfl rfl rfl rfl rfl (by omega)
 cr:=credP (k:=2000) (by omega)
 is:=cis5 (R:=RP) (n:=1999) hRP rfl (fun X=>L_by (MM:=mem5) (n:=1998) noF_KB (by omega) X) (cbyt5 (R:=RP) (n:=1998) hRP rfl (by omega))
 fd:=kFd (R:=RP) (n:=2000) hRP noL5 rfl rfl rfl rfl (by omega)
 aw:=awake5_call
theorem lawFP (a:Nat→Nat) (s:ByteArray) (ha:∀ i,a i<256):∃ m',runK E mem5 KB 2001 6 [arrK .u8 32 a,.string s] mem5=some (.bool true,m'):=by
 rw [runK_other (rfl:hasF KB 6=false)]
 exact fp_body fpAll ha (by omega)
theorem lawFPw (a:List Int) (la:a.length=32) (wa:∀ n,n∈a→(Lit.int .u8 n).wf=true) (s:ByteArray) :
  ∃ m',runK E mem5 KB 2001 6 [.agg ⟨a.map (.int .u8)⟩,.string s] mem5=some (.bool true,m'):=by
 rw [bytes_arr la wa]
 exact lawFP _ s (fn8_lt wa)
end Go.Am.Seat
namespace Go.Am
noncomputable section
def ren0 (P:Program) (m:Mem):Ren:=fun k=>match m[k]? with
 | some (.tab e cs)=>some ⟨k,cs.length,((P.info? e).map (·.size)).getD 0⟩
 | some _=>some ⟨k,0,0⟩
 | none=>none
def BlkAt (P:Program) (W:World) (k:Nat):Blk→Prop
 | .dead=>True
 | .tab e cs=>W.heap[k]? = some (.cells ⟨cs⟩ e (0,0))∧(P.info? e).isSome=true∧cs.all lit0=true
 | .row .. => False
theorem mr_tabs {P:Program} {m:Mem} {W:World} (hG:P.globals.size≤m.length) (hsize:m.length≤W.heap.size) (hb:∀ k b,m[k]? = some b→BlkAt P W k b):MR P (ren0 P m) m W:=by
 have hr:∀ k x,ren0 P m k=some x→k<m.length∧x.r=k:=by
  intro k x h
  unfold ren0 at h
  cases hm:m[k]? with
  | none=>rw [hm] at h; cases h
  | some b =>
   have hk:k<m.length:=(List.getElem?_eq_some_iff.1 hm).1
   rw [hm] at h
   cases b<;>(cases h; exact ⟨hk,rfl⟩)
 have hs:∀ k,k<m.length→∃ x,ren0 P m k=some x∧x.r=k:=by
  intro k hk
  have hm:m[k]? = some m[k]:=by simp [hk]
  cases hq:m[k] with
  | dead=>exact ⟨_,by unfold ren0; rw [hm,hq],rfl⟩
  | row ro e cs=>exact ⟨_,by unfold ren0; rw [hm,hq],rfl⟩
  | tab e cs=>exact ⟨_,by unfold ren0; rw [hm,hq],rfl⟩
 have hl:∀ k ro e cs,look m k=some (ro,e,cs)→m[k]? = some (.tab e cs):=by
  intro k ro e cs h
  unfold look at h
  split at h
  ·rename_i b hm
   have:=hb k b hm
   cases b with
   | dead=>simp [Blk.cells?] at h
   | row=>exact absurd this id
   | tab e' cs' =>
    simp [Blk.cells?] at h
    obtain ⟨_,rfl,rfl⟩:=h
    exact hm
  ·cases h
 refine ⟨fun k hk=>?_,fun k x h=>?_,fun g hg=>hs g (by omega),fun k ro e cs h=>?_,fun k e cs k' ro' e' cs' x x' h=>?_,fun k e cs h=>?_⟩
 ·unfold ren0
  rw [List.getElem?_eq_none hk]
 ·obtain ⟨h1,h2⟩:=hr k x h
  omega
 ·have hm:=hl k ro e cs h
  obtain ⟨h1,h2,h3⟩:=hb k _ hm
  refine ⟨⟨k,cs.length,((P.info? e).map (·.size)).getD 0⟩,⟨cs⟩,(0,0),by unfold ren0; rw [hm],h1,rfl,Nat.le_refl _,fun i u hu=>⟨u,by simpa using hu,.lit ?_⟩,fun _=>loose_zero _,?_⟩
  ·exact lit2_of_lit1 (lit1_of_lit0 (List.all_eq_true.1 h3 u (List.mem_of_getElem? hu)))
  ·cases hi:P.info? e with
   | none=>rw [hi] at h2; cases h2
   | some i=>rfl
 ·exact absurd (hb k _ h) id
 ·obtain ⟨_,_,h3⟩:=hb k _ h
  intro v hv
  exact List.all_eq_true.1 h3 v hv
theorem shaped_at {P:Program} {W:World} (h:W.ShapedOpen P) {g:Nat} {t:TypeId} (hg:g<P.globals.size) (h0:(((begin P (fun _ _=>0) default).world.heap[g]?).bind Obj.row?).map (·.2)=some t) :
  ∃ cs,W.heap[g]? = some (.cells cs t (0,0)):=by
 obtain ⟨⟨z,t'⟩,h1,h2⟩:=Option.map_eq_some_iff.1 h0
 simp only at h2
 subst h2
 obtain ⟨cs,hc,_⟩:=h.1 g z t' hg h1
 exact ⟨cs,hc⟩
theorem tab_at {P:Program} {W:World} {name:String} {k:IntKind} {zs:List Int} {g:Nat} {t:TypeId} {cs:Array Value} (hg:P.globalNamed name=some g) (hc:W.heap[g]? = some (.cells cs t (0,0))) (h:Lib.TabIs P W name k zs) :
  W.heap[g]? = some (.cells ⟨zs.map (.int k)⟩ t (0,0)):=by
 unfold Lib.TabIs World.var? at h
 rw [hg] at h
 simp only [Option.bind_some,hc] at h
 cases h
 exact hc
theorem laid_tail {P:Program} {x:String×DataW Unit} {r:List (String×DataW Unit)} {w:World} (h:laidMet P (x::r) w):laidMet P r w:=by
 obtain ⟨ps,hv,hnd,hrows⟩:=h
 obtain ⟨n,d⟩:=x
 obtain ⟨g,t,cs,fuel,p,q,_,_,_,_,hq,rfl⟩:=hv
 exact ⟨q,hq,List.Nodup.sublist (List.sublist_append_right _ _) hnd,fun b off hm=>hrows b off (List.mem_append_right _ hm)⟩
theorem below_of_ends {P:Program} {ρ:Ren} {m m1:Mem} {w w1:World} {v:Value} {e:Ending} (hm:∀ (k:Nat) (e:TypeId) (cs:List Value),m[k]?≠some (Blk.row false e cs)) (hv:lit2 v=true) (h:Ends P ρ m w v m1 e w1):e=.returned v∧Go.RowKit.Below w.heap.size w w1:=by
 obtain ⟨v',ρ1,rfl,hvr,_,hx⟩:=h
 refine ⟨?_,⟨hx.os,hx.tape,hx.output,hx.size,fun r hr=>hx.kept r hr fun k e cs _ hk _=>absurd hk (hm k e cs)⟩⟩
 rw [hvr.eq_of_lit2 hv]
end
end Go.Am
namespace Go.Am
theorem mapM_spec {α β:Type} (f:α→Option β):∀ (l:List α) (xs:List β),l.mapM f=some xs→xs.length=l.length∧∀ (i:Nat) (a:α),l[i]? = some a→∃ x,xs[i]? = some x∧f a=some x
 | [],xs,h=>by
  simp only [List.mapM_nil,Option.pure_def,Option.some.injEq] at h
  subst h
  exact ⟨rfl,fun i a ha=>by simp at ha⟩
 | b::l,xs,h=>by
  simp only [List.mapM_cons,Option.pure_def,Option.bind_eq_bind] at h
  obtain ⟨x,hx,h⟩:=Option.bind_eq_some_iff.1 h
  obtain ⟨ys,hy,h⟩:=Option.bind_eq_some_iff.1 h
  cases h
  obtain ⟨h1,h2⟩:=mapM_spec f l ys hy
  refine ⟨by simp [h1],fun i a ha=>?_⟩
  cases i with
  | zero=>simp at ha; subst ha; exact ⟨x,rfl,hx⟩
  | succ i=>simp at ha; simpa using h2 i a ha
theorem mapM_mk {α β:Type} {f:α→Option β} {g:α→β}:∀ (l:List α),(∀ a,a∈l→f a=some (g a))→l.mapM f=some (l.map g)
 | [],_=>rfl
 | b::l,h=>by
  simp only [List.mapM_cons,Option.pure_def,Option.bind_eq_bind,List.map_cons]
  rw [h b (by simp),mapM_mk l fun a ha=>h a (by simp [ha])]
  rfl
theorem take_one {α:Type} {l:List α} {i:Nat} (h:i<l.length):(l.drop i).take 1=[l[i]]:=by
 rw [List.drop_eq_getElem_cons h]
 rfl
variable {H:Type} {enc:TypeId×Value→H} {P:Program} {W:World} {base:Nat} {spare:Nat→Bool} {held:Bool}
theorem open_arr {r:Reach} {b0:Nat} {t e:TypeId} {n:Nat} {k:IntKind} {v:Value} {d:DataW H} {ps:List MemPlace} (ht:P.underlying t=some (.array n e)) (he:P.underlying e=some (.int k)) (hc:P.cellsOf t=n) (hce:P.cellsOf e=1)
  (hval:Value.okWide P W r b0 t v) (hd:DataW.Trod enc P W base spare held t v d ps) :
  ∃ l:List Int,l.length=n∧v=.agg ⟨l.map (.int k)⟩∧d=.agg (l.map fun x=>.lit (.int k x))∧ps=[]∧∀ x,x∈l→(Lit.int k x).wf=true:=by
 unfold Value.okWide at hval
 simp only [ht] at hval
 obtain ⟨⟨cs⟩,rfl,hsz,_⟩:=hval
 have hlen:cs.length=n:=by rw [hc] at hsz; simpa using hsz
 obtain ⟨fuel,hf⟩:=hd
 cases fuel with
 | zero=>simp [DataW.trod] at hf
 | succ fuel =>
  unfold DataW.trod at hf
  simp only [ht,Value.cells,hlen,hc,hce,if_true,Nat.mul_one] at hf
  obtain ⟨xs,hx,hd⟩:=Option.map_eq_some_iff.1 hf
  obtain ⟨h1,h2⟩:=mapM_spec _ _ _ hx
  have hxl:xs.length=n:=by rw [h1]; simp
  have key:∀ i,i<n→∃ x:Int,cs[i]? = some (.int k x)∧xs[i]? = some (.lit (.int k x),[])∧(Lit.int k x).wf=true:=by
   intro i hi
   obtain ⟨x,hx1,hx2⟩:=h2 i i (List.getElem?_range hi)
   rw [take_one (by omega)] at hx2
   obtain ⟨y,g,rfl,w⟩:=DataW.trod_int he hx2
   simp only [List.cons.injEq,and_true] at g
   exact ⟨y,by rw [←g]; simp [hlen,hi],hx1,w⟩
  let l:List Int:=cs.map fun v=>match v with | .int _ x=>x | _=>0
  have hl:l.length=n:=by simp [l,hlen]
  have hget:∀ i,i<n→∃ x:Int,l[i]? = some x∧cs[i]? = some (.int k x)∧xs[i]? = some (.lit (.int k x),[])∧(Lit.int k x).wf=true:=by
   intro i hi
   obtain ⟨x,a1,a2,a3⟩:=key i hi
   exact ⟨x,by simp [l,a1],a1,a2,a3⟩
  have e1:cs=l.map (.int k):=by
   apply List.ext_getElem?
   intro i
   by_cases hi:i<n
   ·obtain ⟨x,a0,a1,_⟩:=hget i hi
    rw [a1,List.getElem?_map,a0]; rfl
   ·rw [List.getElem?_eq_none (by omega),List.getElem?_eq_none (by simp; omega)]
  have e2:xs=l.map fun x=>(.lit (.int k x),[]):=by
   apply List.ext_getElem?
   intro i
   by_cases hi:i<n
   ·obtain ⟨x,a0,_,a2,_⟩:=hget i hi
    rw [a2,List.getElem?_map,a0]; rfl
   ·rw [List.getElem?_eq_none (by omega),List.getElem?_eq_none (by simp; omega)]
  have e3:(l.map fun x=>((.lit (.int k x),[]):DataW H×List MemPlace)).flatMap (·.2)=[]:=by
   rw [List.flatMap_map]
   simp
  rw [e2] at hd
  simp only [Prod.mk.injEq] at hd
  obtain ⟨d1,d2⟩:=hd
  refine ⟨l,hl,by rw [e1],?_,?_,?_⟩
  ·rw [←d1,List.map_map]; rfl
  ·rw [←d2]; exact e3
  ·intro x hx
   obtain ⟨i,hi,rfl⟩:=List.mem_iff_getElem.1 hx
   obtain ⟨y,a0,_,_,a3⟩:=hget i (by omega)
   rw [List.getElem?_eq_getElem hi] at a0
   cases a0
   exact a3
theorem shut_arr {t e:TypeId} {n:Nat} {k:IntKind} {l:List Int} (ht:P.underlying t=some (.array n e)) (he:P.underlying e=some (.int k)) (hc:P.cellsOf t=n) (hce:P.cellsOf e=1) (hl:l.length=n) (hw:∀ x,x∈l→(Lit.int k x).wf=true) :
  DataW.Trod enc P W base spare held t (.agg ⟨l.map (.int k)⟩) (.agg (l.map fun x=>.lit (.int k x))) []:=by
 refine ⟨2,?_⟩
 unfold DataW.trod
 simp only [ht,Value.cells,List.length_map,hl,hc,hce,if_true,Nat.mul_one]
 have h:(List.range n).mapM (fun i=>DataW.trod enc P W base spare held 1 e (List.take 1 (List.drop i (l.map (Value.int k)))))=some ((List.range n).map fun i=>((.lit (.int k (l.getD i 0)),[]):DataW H×List MemPlace)):=by
  refine mapM_mk _ fun i hi=>?_
  have hi':i<l.length:=by rw [hl]; exact List.mem_range.1 hi
  rw [take_one (by simpa using hi')]
  have hg:l.getD i 0=l[i]:=by simp [hi']
  rw [hg]
  simp only [List.getElem_map,DataW.trod,he,hw l[i] (List.getElem_mem hi'),and_self,if_true]
 rw [h]
 have e1:(List.range n).map (fun i=>(DataW.lit (.int k (l.getD i 0)):DataW H))=l.map fun x=>.lit (.int k x):=by
  apply List.ext_getElem?
  intro i
  by_cases hi:i<n
  ·have hi':i<l.length:=by omega
   simp [hi,hi']
  ·rw [List.getElem?_eq_none (by simp; omega),List.getElem?_eq_none (by simp; omega)]
 have e2:((List.range n).map fun i=>((.lit (.int k (l.getD i 0)),[]):DataW H×List MemPlace)).flatMap (·.2)=[]:=by
  rw [List.flatMap_map]
  simp
 simp only [Option.map_some,List.map_map]
 rw [e2]
 congr 3
end Go.Am
