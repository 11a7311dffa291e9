import Derived.Test.YtcnhakfmnkegcaaDoorGrFieldParses31
import Derived.Test.YtcnhakfmnkegcaaDoorGrFieldParses29
set_option linter.unusedSimpArgs false
set_option linter.unusedVariables false
noncomputable section
set_option maxRecDepth 100000
namespace Go.Am.Seat
open Go.Proofs Go.Am Go.Am.Num Go.Am.Kn
theorem decV_le {l:List Nat}:∀ k i,decV (l.take i)≤decV (l.take (i+k))
 | 0,i=>Nat.le_refl _
 | k+1,i=>by
  have h:=decV_le (l:=l) k i
  cases hx:l[i+k]? with
  | none =>
   have:l.length≤i+k:=by
    rcases Nat.lt_or_ge (i+k) l.length with h1 | h1
    ·rw [List.getElem?_eq_getElem h1] at hx; cases hx
    ·exact h1
   rw [List.take_of_length_le (show l.length≤i+(k+1) by omega)]
   rw [List.take_of_length_le this] at h
   exact h
  | some c =>
   rw [show i+(k+1)=(i+k)+1 by omega,decV_step hx]
   omega
theorem decV_top {l:List Nat} {i:Nat} (h:i≤l.length):decV (l.take i)≤decV l:=by
 have:=decV_le (l:=l) (l.length-i) i
 rw [show i+(l.length-i)=l.length by omega,List.take_length] at this
 exact this
def decAns (l:List Nat):Value:=if decOk l=true then (if decV l<W8 then .tuple ⟨[wdK (decV l),.int .i64 0]⟩ else .tuple ⟨[wdK 0,.int .i64 7]⟩) else .tuple ⟨[wdK 0,.int .i64 4]⟩
section
variable {self:Self} {nf:Nat} {m M:Mem} {F:Nat→Value} {s:ByteArray} {k r q x n:Nat}
structure DcAt (m:Mem) (G:Nat→Value) (s:ByteArray) (r q k:Nat):Prop where
 g:E.G≤m.length
 gr:m[r]? = some (.row false 24 (rowOf fun _=>0))
 gq:m[q]? = some (.row false 24 (rowOf (wN (decV ((natsOf s).take k)))))
 lt:decV ((natsOf s).take k)<W8
 s0:G 0=.string s
 s2:G 2=.pointer (some ⟨r,0,none⟩)
 s4:G 4=.pointer (some ⟨q,0,none⟩)
 s13:G 13=.int .i64 ((s.data.toList.length:Nat):Int)
 s14:G 14=.int .i64 ((k:Nat):Int)
theorem wdc_it (hmw:CMw self) (hrq:r≠q) (h:DcAt m F s r q k) (hs:s.data.toList.length≤390) (hk:k<s.data.toList.length) (hok:digitsOk (natsOf s)=true) :
  (∃ G m',acodeN E self nf lpwdc_0 (lst F 33) m=some (.normal,lst G 33,m')∧DcAt m' G s r q (k+1))∨
  (∃ G m',acodeN E self nf lpwdc_0 (lst F 33) m=some (.ret,lst G 33,m')∧W8≤decV (natsOf s)∧G 2=.pointer (some ⟨r,0,none⟩)∧G 3=.int .i64 7∧aload E.P 24 (.pointer (some ⟨r,0,none⟩)) m'=some (wdK 0)):=by
 have hnl:=natsOf_len s
 have hx:s.data.toList[k]? = some (s.data.toList[k]'hk):=by simp [hk]
 have hn:(natsOf s)[k]? = some (s.data.toList[k]'hk).toNat:=by unfold natsOf; rw [List.getElem?_map,hx]; rfl
 generalize s.data.toList[k]'hk=ch at hx hn
 have hdig:48≤ch.toNat∧ch.toNat≤57:=by
  unfold digitsOk at hok
  rw [List.all_eq_true] at hok
  exact of_decide_eq_true (hok ch.toNat (List.mem_of_getElem? hn))
 have hv:=decV_step hn
 have hlt:=h.lt
 have hq0:=h.gq
 generalize hA:decV ((natsOf s).take k)=acc at hv hlt hq0
 have hc:∀ M,ainv E self 49 [wdK acc,.int .u64 10,U (ch.toNat-48)] M=some (.tuple ⟨[wdK ((acc*10+(ch.toNat-48))%W8),U ((acc*10+(ch.toNat-48)) / W8)]⟩,M):=hmw acc 10 (ch.toNat-48) hlt (by decide) (by omega)
 rw [←hv] at hc
 have hle:decV ((natsOf s).take (k+1))≤decV (natsOf s):=decV_top (by omega)
 obtain ⟨A,ra,a15,ak⟩:=wdc_5 (self:=self) (nf:=nf) (m:=m) h.s13 h.s14 (b:=true) (decide_eq_true (by omega))
 obtain ⟨B,rb,b5,bk⟩:=wdc_6 (self:=self) (nf:=nf) (m:=m) ((ak 14 (by omega)).trans h.s14)
 have kb:∀ j,j≠5→j<15→B j=F j:=fun j h1 h2=>(bk j h1 h2).trans (ak j h2)
 obtain ⟨m1,m2,ha,st,ga,k2⟩:∃ m1 m2,aalloc E.P 24 m=some (.pointer (some ⟨m.length,0,none⟩),m1)∧astore E.P 24 (.pointer (some ⟨m.length,0,none⟩)) (wdK (decV ((natsOf s).take (k+1))%W8)) m1=some m2∧m2[m.length]? = some (.row false 24 (rowOf (wN (decV ((natsOf s).take (k+1))%W8))))∧(m.length≤m2.length∧∀ j,j<m.length→m2[j]? = m[j]?):=by
  have ha:=alloc24 m
  have g:(m++[Blk.row false 24 (rowOf fun _=>0)])[m.length]? = some (.row false 24 (rowOf fun _=>0)):=by rw [List.getElem?_append_right (Nat.le_refl _)]; simp
  have st:=store24 (w:=wN (decV ((natsOf s).take (k+1))%W8)) g (rowOf_length _)
  refine ⟨_,_,ha,st,by rw [List.getElem?_set_self (lt_of_at g)],by simp,fun j hj=>?_⟩
  rw [List.getElem?_set_ne (by omega),List.getElem?_append_left hj]
 obtain ⟨C,rc,c6,c7,ck⟩:=wdc_7 (self:=self) (nf:=nf) (m:=m) (decide_eq_true h.g) ((kb 0 (by omega) (by omega)).trans h.s0) ((kb 4 (by omega) (by omega)).trans h.s4) b5 hx hdig.1 (load24s hq0) hc ha st
 have kc:∀ j,j≠5→j≠6→j≠7→j<15→C j=F j:=fun j h1 h2 h3 h4=>(ck j h2 h3 h4).trans (kb j h1 h4)
 have gr2:m2[r]? = some (.row false 24 (rowOf fun _=>0)):=(k2.2 r (lt_of_at h.gr)).trans h.gr
 have gq2:m2[q]? = some (.row false 24 (rowOf (wN acc))):=(k2.2 q (lt_of_at h.gq)).trans hq0
 by_cases hbig:decV ((natsOf s).take (k+1))<W8
 ·left
  have hm:decV ((natsOf s).take (k+1))%W8=decV ((natsOf s).take (k+1)):=Nat.mod_eq_of_lt hbig
  have hz:decV ((natsOf s).take (k+1)) / W8=0:=Nat.div_eq_of_lt hbig
  rw [hz] at c7
  rw [hm] at ga
  obtain ⟨D,rd,d28,dk⟩:=wdc_8 (self:=self) (nf:=nf) (m:=m2) c7 (b:=false) rfl
  have st2:=store24 (w:=wN (decV ((natsOf s).take (k+1)))) gq2 (rowOf_length _)
  obtain ⟨G,rg,gk⟩:=wdc_10 (self:=self) (nf:=nf) (m:=m2) ((dk 4 (by omega)).trans ((kc 4 (by omega) (by omega) (by omega) (by omega)).trans h.s4)) ((dk 6 (by omega)).trans c6) (load24 ga) st2
  obtain ⟨m3,hm3⟩:∃ m3,m3=m2.set q (.row false 24 (rowOf (wN (decV ((natsOf s).take (k+1)))))):=⟨_,rfl⟩
  rw [←hm3] at rg
  obtain ⟨H,rh,x14,hk2⟩:=wdc_11 (self:=self) (nf:=nf) (m:=m3) ((gk 14 (by omega)).trans ((dk 14 (by omega)).trans ((kc 14 (by omega) (by omega) (by omega) (by omega)).trans h.s14))) (by omega)
  have kh:∀ j,j≠5→j≠6→j≠7→j<14→H j=F j:=fun j h1 h2 h3 h4=>(hk2 j h4).trans ((gk j (by omega)).trans ((dk j (by omega)).trans (kc j h1 h2 h3 (by omega))))
  refine ⟨H,m3,?_,?_,?_,?_,hbig,(kh 0 (by omega) (by omega) (by omega) (by omega)).trans h.s0,(kh 2 (by omega) (by omega) (by omega) (by omega)).trans h.s2,(kh 4 (by omega) (by omega) (by omega) (by omega)).trans h.s4,(kh 13 (by omega) (by omega) (by omega) (by omega)).trans h.s13,x14⟩
  ·rw [lpwdc_0_eq]
   clear hm3 hc hA ha st ga st2
   generalize Code.region 5 rwdc_5 false=C5 at *
   generalize Code.region 6 rwdc_6 false=C6 at *
   generalize Code.region 7 rwdc_7 true=C7 at *
   generalize Code.region 8 rwdc_8 false=C8 at *
   generalize Code.region 10 rwdc_10 false=C10 at *
   generalize Code.region 11 rwdc_11 false=C11 at *
   simp only [acodeN,ra,rb,rc,rd,rg,rh,ev,nth_lst,Nat.reduceLT,if_true,a15,d28]
  ·rw [hm3,List.length_set]; have:=h.g; omega
  ·rw [hm3,List.getElem?_set_ne (fun e=>hrq e.symm)]; exact gr2
  ·rw [hm3,List.getElem?_set_self (lt_of_at gq2)]
 ·right
  have hz:decV ((natsOf s).take (k+1)) / W8≠0:=by
   exact fun e=>hbig ((Nat.div_eq_zero_iff_lt W8_pos).1 e)
  obtain ⟨D,rd,d28,dk⟩:=wdc_8 (self:=self) (nf:=nf) (m:=m2) c7 (b:=true) (by rw [bne_iff_ne]; omega)
  have st2:=store24 (w:=fun _=>0) gr2 (rowOf_length _)
  obtain ⟨G,rg,g2,g3⟩:=wdc_9 (self:=self) (nf:=nf) (m:=m2) ((dk 2 (by omega)).trans ((kc 2 (by omega) (by omega) (by omega) (by omega)).trans h.s2)) st2
  refine ⟨G,m2.set r (.row false 24 (rowOf fun _=>0)),?_,by omega,g2,g3,?_⟩
  ·rw [lpwdc_0_eq]
   clear hc hA ha st ga st2
   generalize m2.set r (.row false 24 (rowOf fun _=>0))=m9 at *
   generalize Code.region 5 rwdc_5 false=C5 at *
   generalize Code.region 6 rwdc_6 false=C6 at *
   generalize Code.region 7 rwdc_7 true=C7 at *
   generalize Code.region 8 rwdc_8 false=C8 at *
   generalize Code.region 9 rwdc_9 false=C9 at *
   simp only [acodeN,ra,rb,rc,rd,rg,ev,nth_lst,Nat.reduceLT,if_true,a15,d28]
  ·rw [wd_zero]
   exact load24 (by rw [List.getElem?_set_self (lt_of_at gr2)])
theorem wdc_x (h13:F 13=.int .i64 ((n:Nat):Int)) (h14:F 14=.int .i64 ((n:Nat):Int)):∃ F',acodeN E self nf lpwdc_0 (lst F 33) m=some (.exit 0,lst F' 33,m)∧∀ j,j<15→F' j=F j:=by
 obtain ⟨A,ra,a15,ak⟩:=wdc_5 (self:=self) (nf:=nf) (m:=m) h13 h14 (b:=false) (decide_eq_false (by omega))
 rw [lpwdc_0_eq]
 refine ⟨A,?_,ak⟩
 generalize Code.region 5 rwdc_5 false=C5 at *
 simp only [acodeN,ra,ev,nth_lst,Nat.reduceLT,if_true,a15]
theorem wdc_loop (hmw:CMw self) (hrq:r≠q) (h:DcAt m F s r q 0) (hs:s.data.toList.length≤390) (hok:digitsOk (natsOf s)=true) (hnf:1000<nf) :
  ∃ e G m',aloop (acodeN E self nf lpwdc_0) nf (lst F 33) m=some (e,lst G 33,m')∧((e=.exit 0∧DcAt m' G s r q s.data.toList.length)∨(e=.ret∧W8≤decV (natsOf s)∧G 2=.pointer (some ⟨r,0,none⟩)∧G 3=.int .i64 7∧aload E.P 24 (.pointer (some ⟨r,0,none⟩)) m'=some (wdK 0))):=by
 have hloop:=aloop_inv (body:=acodeN E self nf lpwdc_0) (N:=s.data.toList.length)
  (I:=fun k T m'=>∃ G,T=lst G 33∧DcAt m' G s r q k)
  (Q:=fun e T m'=>∃ G,T=lst G 33∧((e=.exit 0∧DcAt m' G s r q s.data.toList.length)∨(e=.ret∧W8≤decV (natsOf s)∧G 2=.pointer (some ⟨r,0,none⟩)∧G 3=.int .i64 7∧aload E.P 24 (.pointer (some ⟨r,0,none⟩)) m'=some (wdK 0)))) (fun k T m' hk hI=>by
   obtain ⟨G,rfl,hD⟩:=hI
   by_cases h1:k=s.data.toList.length
   ·right
    subst h1
    obtain ⟨A,ra,ak⟩:=wdc_x (self:=self) (nf:=nf) (m:=m') hD.s13 hD.s14
    exact ⟨_,_,_,ra,by simp,A,rfl,.inl ⟨rfl,hD.g,hD.gr,hD.gq,hD.lt,(ak 0 (by omega)).trans hD.s0,(ak 2 (by omega)).trans hD.s2,(ak 4 (by omega)).trans hD.s4,(ak 13 (by omega)).trans hD.s13,(ak 14 (by omega)).trans hD.s14⟩⟩
   ·rcases wdc_it (self:=self) (nf:=nf) hmw hrq hD hs (by omega) hok with ⟨A,m1,ra,hA⟩ | ⟨A,m1,ra,h2,h3,h4,h5⟩
    ·left
     exact ⟨_,_,ra,by omega,A,rfl,hA⟩
    ·right
     exact ⟨_,_,_,ra,by simp,A,rfl,.inr ⟨rfl,h2,h3,h4,h5⟩⟩)
 obtain ⟨e,T',m',hr,G,rfl,hq⟩:=hloop s.data.toList.length 0 nf (lst F 33) m (by omega) (by omega) ⟨F,rfl,h⟩
 exact ⟨e,G,m',hr,hq⟩
theorem wdc_body (hmw:CMw self) (his:CIsn self) (hs:s.data.toList.length≤390) (hG:E.G≤m.length) (hnf:1000<nf):∃ m',abody E self nf 24 [.string s] m=some (decAns (natsOf s),m'):=by
 rw [abody_eqF (by kernel_rfl) Tryd.func24 bodywdc (by kernel_rfl) (Nat.le_of_ble_eq_true rfl)]
 rw [show Tryd.f24.ntmps=33 from rfl]
 have hnl:=natsOf_len s
 obtain ⟨A,ra,a2,a0⟩:=wdc_0 (self:=self) (nf:=nf) (F:=init [.string s]) (alloc24 m)
 obtain ⟨M,hM⟩:∃ M,M=m++[Blk.row false 24 (rowOf fun _=>0)]:=⟨_,rfl⟩
 rw [←hM] at ra
 have lM:M.length=m.length+1:=by rw [hM]; simp
 have gr:M[m.length]? = some (.row false 24 (rowOf fun _=>0)):=by rw [hM,List.getElem?_append_right (Nat.le_refl _)]; simp
 clear hM
 obtain ⟨B,rb,b10,bk⟩:=wdc_1 (self:=self) (nf:=nf) (m:=M) a0 (his s hs)
 unfold decAns
 by_cases hok:decOk (natsOf s)=true
 ·rw [if_pos hok]
  rw [hok] at b10
  have hdo:digitsOk (natsOf s)=true:=by
   unfold decOk at hok
   simp only [Bool.and_eq_true] at hok
   exact hok.2.2
  have ha:=alloc24 M
  rw [lM] at ha
  obtain ⟨C,rc,c4,ck⟩:=wdc_3 (self:=self) (nf:=nf) (F:=B) ha
  obtain ⟨N,hN⟩:∃ N,N=M++[Blk.row false 24 (rowOf fun _=>0)]:=⟨_,rfl⟩
  rw [←hN] at rc
  have nr:N[m.length]? = some (.row false 24 (rowOf fun _=>0)):=by rw [hN,List.getElem?_append_left (by omega)]; exact gr
  have nq:N[m.length+1]? = some (.row false 24 (rowOf fun _=>0)):=by rw [hN,←lM,List.getElem?_append_right (Nat.le_refl _)]; simp
  have lN:N.length=m.length+2:=by rw [hN]; simp [lM]
  clear hN
  obtain ⟨D,rd,d13,d14,dk⟩:=wdc_4 (self:=self) (nf:=nf) (m:=N) ((ck 0 (by omega)).trans ((bk 0 (by omega)).trans a0))
  have hD0:DcAt N D s m.length (m.length+1) 0:=⟨by omega,nr,by rw [List.take_zero,show decV []=0 from rfl,wN_zero]; exact nq,by rw [List.take_zero]; exact W8_pos,(dk 0 (by omega)).trans ((ck 0 (by omega)).trans ((bk 0 (by omega)).trans a0)),(dk 2 (by omega)).trans ((ck 2 (by omega)).trans ((bk 2 (by omega)).trans a2)),(dk 4 (by omega)).trans c4,d13,d14⟩
  obtain ⟨e,G,m',rl,hq⟩:=wdc_loop (self:=self) (nf:=nf) hmw (by omega) hD0 hs hdo hnf
  rcases hq with ⟨rfl,hD⟩ | ⟨rfl,hbig,g2,g3,ld⟩
  ·have hlt:=hD.lt
   have hDq:=hD.gq
   rw [←hnl,List.take_length] at hlt hDq
   rw [if_pos hlt]
   have st:=store24 (w:=wN (decV (natsOf s))) hD.gr (rowOf_length _)
   obtain ⟨H,rh,h2,h3⟩:=wdc_12 (self:=self) (nf:=nf) (m:=m') hD.s2 hD.s4 (load24 hDq) st
   have ld2:aload E.P 24 (.pointer (some ⟨m.length,0,none⟩)) (m'.set m.length (.row false 24 (rowOf (wN (decV (natsOf s))))))=some (wdK (decV (natsOf s))):=load24 (by rw [List.getElem?_set_self (lt_of_at hD.gr)])
   refine ⟨m'.set m.length (.row false 24 (rowOf (wN (decV (natsOf s))))),?_⟩
   clear hD hDq hD0 hlt
   generalize m'.set m.length (.row false 24 (rowOf (wN (decV (natsOf s)))))=m9 at *
   generalize wdK (decV (natsOf s))=V at *
   generalize Code.region 0 rwdc_0 false=C0 at *
   generalize Code.region 1 rwdc_1 false=C1 at *
   generalize Code.region 3 rwdc_3 false=C3 at *
   generalize Code.region 4 rwdc_4 false=C4 at *
   generalize Code.region 12 rwdc_12 false=C12 at *
   simp only [acodeN,ra,rb,rc,rd,rl,rh,finish,ares,aresL,ares1,Tryd.f24,ev,nth_lst,Nat.reduceLT,if_true,b10,h2,h3,ld2,Option.map_some,Bool.not_true]
  ·rw [if_neg (by omega)]
   refine ⟨m',?_⟩
   clear hD0
   generalize wdK 0=V at *
   generalize Code.region 0 rwdc_0 false=C0 at *
   generalize Code.region 1 rwdc_1 false=C1 at *
   generalize Code.region 3 rwdc_3 false=C3 at *
   generalize Code.region 4 rwdc_4 false=C4 at *
   simp only [acodeN,ra,rb,rc,rd,rl,finish,ares,aresL,ares1,Tryd.f24,ev,nth_lst,Nat.reduceLT,if_true,b10,g2,g3,ld,Option.map_some,Bool.not_true]
 ·rw [if_neg hok]
  have hno:decOk (natsOf s)=false:=by simpa using hok
  rw [hno] at b10
  have st:=store24 (w:=fun _=>0) gr (rowOf_length _)
  obtain ⟨C,rc,c2,c3⟩:=wdc_2 (self:=self) (nf:=nf) (m:=M) ((bk 2 (by omega)).trans a2) st
  have ld:aload E.P 24 (.pointer (some ⟨m.length,0,none⟩)) (M.set m.length (.row false 24 (rowOf fun _=>0)))=some (wdK 0):=by
   rw [wd_zero]
   exact load24 (by rw [List.getElem?_set_self (lt_of_at gr)])
  refine ⟨M.set m.length (.row false 24 (rowOf fun _=>0)),?_⟩
  generalize M.set m.length (.row false 24 (rowOf fun _=>0))=m9 at *
  generalize wdK 0=V at *
  generalize Code.region 0 rwdc_0 false=C0 at *
  generalize Code.region 1 rwdc_1 false=C1 at *
  generalize Code.region 2 rwdc_2 false=C2 at *
  simp only [acodeN,ra,rb,rc,finish,ares,aresL,ares1,Tryd.f24,ev,nth_lst,Nat.reduceLT,if_true,b10,c2,c3,ld,Option.map_some,Bool.not_false]
end
theorem decAns_lit (l:List Nat):lit2 (decAns l)=true:=by unfold decAns; split<;>(try split)<;>rfl
def CDecW (self:Self):Prop:=∀ s:ByteArray,s.data.toList.length≤390→AnsG self 24 [.string s] (decAns (natsOf s))
theorem kDecW {R:Nat→Self} {K:List Fact} (hR:Runs R K) (hK:NoL K) {n:Nat} (h1:hasF K 24=false) (h2:hasF K 49=false) (h3:hasF K 48=false) (hn:1004≤n):CDecW (R n):=by
 obtain ⟨j,rfl⟩:∃ j,n=j+1:=⟨n-1,by omega⟩
 intro s hs
 refine ans_ofG rfl (by kernel_rfl) (decAns_lit _) fun m hm=>?_
 obtain ⟨m',h⟩:=wdc_body (self:=R j) (nf:=j+1) (m:=m) (kMw hR hK h2 (by omega)) (kIsn hR h3 (by omega)) hs hm (by omega)
 exact ⟨m',hR.b h1 h⟩
end Go.Am.Seat
namespace Go.Am.Seat
open Go.Proofs Go.Am
def rrmod_0:=opR Tryd.f59 [0]
def lrmod_0:List Oper:=match Tryd.f59.body with
 | some (.seq (.region _ o _) _)=>o.toList
 | _=>[]
theorem ermod_0:rrmod_0.toList=lrmod_0:=rfl
def rrmod_1:=opR Tryd.f59 [1,0]
def lrmod_1:List Oper:=match Tryd.f59.body with
 | some (.seq _ (.seq (.region _ o _) _))=>o.toList
 | _=>[]
theorem ermod_1:rrmod_1.toList=lrmod_1:=rfl
def rrmod_2:=opR Tryd.f59 [1,1,0]
def lrmod_2:List Oper:=match Tryd.f59.body with
 | some (.seq _ (.seq _ (.seq (.region _ o _) _)))=>o.toList
 | _=>[]
theorem ermod_2:rrmod_2.toList=lrmod_2:=rfl
theorem bodyrmod:Tryd.f59.body=some (.seq (.region 0 rrmod_0 false) (.seq (.region 1 rrmod_1 false) (.seq (.region 2 rrmod_2 false) .ret))):=rfl
def rrp5_0:=opR Tryd.f32 [0]
def lrp5_0:List Oper:=match Tryd.f32.body with
 | some (.seq (.region _ o _) _)=>o.toList
 | _=>[]
theorem erp5_0:rrp5_0.toList=lrp5_0:=rfl
def rrp5_1:=opR Tryd.f32 [1,0]
def lrp5_1:List Oper:=match Tryd.f32.body with
 | some (.seq _ (.seq (.region _ o _) _))=>o.toList
 | _=>[]
theorem erp5_1:rrp5_1.toList=lrp5_1:=rfl
theorem bodyrp5:Tryd.f32.body=some (.seq (.region 0 rrp5_0 false) (.seq (.region 1 rrp5_1 false) .ret)):=rfl
theorem callDec:callableB E.P 25=true:=by kernel_rfl
theorem callMod:callableB E.P 59=true:=by kernel_rfl
theorem NumR.b {m m':Mem} {v:Value} {r:Nat} (h:NumR m v m' r):NumB m.length v m' r:=by
 rcases h with ⟨rfl,rfl,rfl⟩ | ⟨L,n,h1,h2,rfl,rfl,hne⟩
 ·exact .inl ⟨rfl,rfl⟩
 ·exact .inr ⟨L,n,m.length,false,h1,h2,Nat.le_refl _,rfl,by simp,hne⟩
theorem rmod_body {self:Self} {nf:Nat} {m:Mem} {s:ByteArray} (cd:CDec self) (hs:s.data.toList.length≤390) (ho:decOk (natsOf s)=true) :
  ∃ v m1,abody E self nf 59 [.string s] m=some (v,m1)∧NumB m.length v m1 (decV (natsOf s)):=by
 rw [abody_eqF (by kernel_rfl) Tryd.func59 bodyrmod (by kernel_rfl) (Nat.le_of_ble_eq_true rfl)]
 rw [show Tryd.f59.ntmps=11 from rfl]
 obtain ⟨v,m',h1,h2⟩:=cd m s hs
 rcases h2 with ⟨h3,_⟩ | ⟨_,h3⟩
 ·rw [ho] at h3; cases h3
 ·simp only [ermod_0,ermod_1,ermod_2,lrmod_0,lrmod_1,lrmod_2,agd_none,gdAt,gdV_bool,gdV_undef,Tryd.f59,List.append_eq,List.cons_append,List.nil_append,apure_call1,apure_call2,apure_call3,bft,btf,acodeN,List.getElem?_toArray,List.getElem?_cons_zero,List.getElem?_cons_succ,aopsN,adrawT,cls,astep,aop,afloat,ev,nth_lst,get_lst,aput,setAt_lst,upd_at,init_zero,init_succ,init_nil,Nat.reduceLT,Nat.reduceEqDiff,reduceIte,len_N,abuiltin_app,Option.map_some,Option.map_none,orElse_some,apure_add,apure_eqlV,eqlVal_str,eqlVal_bool,eqlVal_ptr,eqlVal_slice,eqlVal_wide,eqlVal_int,allT,↓aop_eqlV,apure_neq,List.map_cons,List.map_nil,List.all_cons,List.all_nil,lit2,lit1,lit0,List.isEmpty_nil,bls,Bool.false_eq_true,if_true,if_false,List.length_map,beq_self_eq_true,uns,callDec,h1,aextract,finish,ares,aresL,ares1]
  exact ⟨_,_,rfl,h3.b⟩
def CMod (self:Self):Prop:=∀ (m:Mem) (s:ByteArray),s.data.toList.length≤390→decOk (natsOf s)=true→∃ v m',ainv E self 59 [.string s] m=some (v,m')∧NumR m v m' (decV (natsOf s))
theorem cmod {R:Nat→Self} {K:List Fact} (hR:Runs R K) {n:Nat} (k0:hasF K 59=false) (cd:CDec (R n)):CMod (R (n+1)):=by
 intro m s hs ho
 obtain ⟨v,m1,h1,h2⟩:=rmod_body (self:=R n) (nf:=n+1) (m:=(m.take E.G).map onlyTab) (s:=s) cd hs ho
 unfold ainv
 rw [show ([Value.string s].all lit2)=true from rfl,show E.fast 59=none from by kernel_rfl]
 simp only [if_true,hR.b k0 h1]
 exact h2.coll
def pText:ByteArray:=match lrp5_1 with
 | { op:=.call { args:=⟨[.const (.string s)]⟩,.. },.. }::_=>s
 | _=>⟨#[]⟩
theorem pText_len:pText.data.toList.length≤390:=Nat.le_of_ble_eq_true (by kernel_rfl)
theorem pText_ok:decOk (natsOf pText)=true:=by kernel_rfl
theorem pText_val:decV (natsOf pText)=57896044618658097711785492504343953926634992332820282019728792003956564819949:=by kernel_rfl
theorem rp5_body {self:Self} {nf:Nat} {m:Mem} (cd:CMod self) :
  ∃ v m1,abody E self nf 32 [] m=some (v,m1)∧NumB m.length v m1 57896044618658097711785492504343953926634992332820282019728792003956564819949:=by
 rw [abody_eqF (by kernel_rfl) Tryd.func32 bodyrp5 (by kernel_rfl) (Nat.le_of_ble_eq_true rfl)]
 rw [show Tryd.f32.ntmps=2 from rfl]
 obtain ⟨v,m',h1,h2⟩:=cd m pText pText_len pText_ok
 rw [pText_val] at h2
 simp only [pText,lrp5_1,Tryd.f32] at h1
 simp only [erp5_0,erp5_1,lrp5_0,lrp5_1,agd_none,gdAt,gdV_bool,gdV_undef,Tryd.f32,List.append_eq,List.cons_append,List.nil_append,apure_call1,apure_call2,apure_call3,bft,btf,acodeN,List.getElem?_toArray,List.getElem?_cons_zero,List.getElem?_cons_succ,aopsN,adrawT,cls,astep,aop,afloat,ev,nth_lst,get_lst,aput,setAt_lst,upd_at,init_zero,init_succ,init_nil,Nat.reduceLT,Nat.reduceEqDiff,reduceIte,len_N,abuiltin_app,Option.map_some,Option.map_none,orElse_some,apure_add,apure_eqlV,eqlVal_str,eqlVal_bool,eqlVal_ptr,eqlVal_slice,eqlVal_wide,eqlVal_int,allT,↓aop_eqlV,apure_neq,List.map_cons,List.map_nil,List.all_cons,List.all_nil,lit2,lit1,lit0,List.isEmpty_nil,bls,Bool.false_eq_true,if_true,if_false,List.length_map,beq_self_eq_true,uns,callMod,List.append_eq,List.cons_append,List.nil_append] at h1⊢
 simp only [h1,finish,ares,aresL,ares1]
 exact ⟨_,_,rfl,h2.b⟩
def CP5 (self:Self):Prop:=∀ (m:Mem),∃ v m',ainv E self 32 [] m=some (v,m')∧NumR m v m' 57896044618658097711785492504343953926634992332820282019728792003956564819949
theorem cp5 {R:Nat→Self} {K:List Fact} (hR:Runs R K) {n:Nat} (k0:hasF K 32=false) (cd:CMod (R n)):CP5 (R (n+1)):=by
 intro m
 obtain ⟨v,m1,h1,h2⟩:=rp5_body (self:=R n) (nf:=n+1) (m:=(m.take E.G).map onlyTab) cd
 unfold ainv
 rw [show (([]:List Value).all lit2)=true from rfl,show E.fast 32=none from by kernel_rfl]
 simp only [if_true,hR.b k0 h1]
 exact h2.coll
def Kept (m m':Mem):Prop:=m.length≤m'.length∧∀ k,k<m.length→m'[k]? = m[k]?
theorem Kept.refl (m:Mem):Kept m m:=⟨Nat.le_refl _,fun _ _=>rfl⟩
theorem Kept.trans {a b c:Mem} (h:Kept a b) (h':Kept b c):Kept a c:=⟨Nat.le_trans h.1 h'.1,fun k hk=>(h'.2 k (by have:=h.1; omega)).trans (h.2 k hk)⟩
theorem NumR.keeps {m m':Mem} {v:Value} {r:Nat} (h:NumR m v m' r):Kept m m':=⟨by
 rcases h with ⟨rfl,rfl,rfl⟩ | ⟨L,n,h1,h2,rfl,rfl,hne⟩
 ·exact Nat.le_refl _
 ·simp,h.kept⟩
theorem Kept.app (m nb:Mem):Kept m (m++nb):=⟨by simp,fun k hk=>List.getElem?_append_left hk⟩
theorem NumA.on {m m':Mem} {v:Value} {l:List Nat} (h:NumA m v l) (hk:Kept m m'):NumA m' v l:=h.keep hk.2
def NumO (m:Mem) (nb:List Blk) (ow:List Nat) (j:Nat) (v:Value) (x:Nat):Prop :=
 (v=.slice none 0 0∧x=0)∨(NumA m v (dig x)∧NumIn m.length v)∨
 ∃ (L:List Nat) (n k:Nat),n≤L.length∧L.take n=dig x∧v=.slice (some ⟨m.length+k,0,none⟩) n L.length∧nb[k]? = some (.row false 3 (cellsN L))∧ow[k]? = some j∧L≠[]
def NumN (m:Mem) (nb:List Blk) (ow:List Nat) (j:Nat) (v:Value) (x:Nat):Prop:=(v=.slice none 0 0∧x=0)∨
 ∃ (L:List Nat) (n k:Nat),n≤L.length∧L.take n=dig x∧v=.slice (some ⟨m.length+k,0,none⟩) n L.length∧nb[k]? = some (.row false 3 (cellsN L))∧ow[k]? = some j∧L≠[]
theorem NumN.o {m:Mem} {nb:List Blk} {ow:List Nat} {j:Nat} {v:Value} {x:Nat} (h:NumN m nb ow j v x):NumO m nb ow j v x:=h.elim .inl fun h=>.inr (.inr h)
theorem NumN.b {m:Mem} {nb:List Blk} {ow:List Nat} {j:Nat} {v:Value} {x:Nat} (h:NumN m nb ow j v x):NumB m.length v (m++nb) x:=by
 rcases h with ⟨rfl,rfl⟩ | ⟨L,n,k,h1,h2,rfl,h4,h5,hne⟩
 ·exact .inl ⟨rfl,rfl⟩
 ·refine .inr ⟨L,n,m.length+k,false,h1,h2,by omega,rfl,?_,hne⟩
  rw [List.getElem?_append_right (by omega),Nat.add_sub_cancel_left]
  exact h4
def US (nb:List Blk) (ow:List Nat):Prop:=nb.length=ow.length∧∀ b∈nb,∃ ro e cs,b=Blk.row ro e cs∧cs.all lit0=true
theorem US.nil:US [] []:=⟨rfl,fun b hb=>by cases hb⟩
theorem NumO.old {m:Mem} {nb:List Blk} {ow:List Nat} {j:Nat} {v:Value} {x:Nat} (h:NumA m v (dig x)) (hi:NumIn m.length v):NumO m nb ow j v x:=.inr (.inl ⟨h,hi⟩)
theorem NumO.more {m:Mem} {nb bs:List Blk} {ow os:List Nat} {j:Nat} {v:Value} {x:Nat} (h:NumO m nb ow j v x):NumO m (nb++bs) (ow++os) j v x:=by
 rcases h with h | h | ⟨L,n,k,h1,h2,h3,h4,h5,hne⟩
 ·exact .inl h
 ·exact .inr (.inl h)
 ·refine .inr (.inr ⟨L,n,k,h1,h2,h3,?_,?_,hne⟩)
  ·rw [List.getElem?_append_left (List.getElem?_eq_some_iff.1 h4).1]; exact h4
  ·rw [List.getElem?_append_left (List.getElem?_eq_some_iff.1 h5).1]; exact h5
theorem mask_len {ops:Array Oper} {i:Nat} {nb:List Blk} {ow:List Nat} (h:nb.length=ow.length):(maskN ops i nb ow).length=nb.length:=by
 unfold maskN
 rw [List.length_map,List.length_zip]
 omega
theorem mask_get {ops:Array Oper} {i k j:Nat} {nb:List Blk} {ow:List Nat} {b:Blk} (h1:nb[k]? = some b) (h2:ow[k]? = some j) (hc:chainB ops 4 i j=true):(maskN ops i nb ow)[k]? = some b:=by
 unfold maskN
 have hz:(List.zip nb ow)[k]? = some (b,j):=List.getElem?_zip_eq_some.2 ⟨h1,h2⟩
 rw [List.getElem?_map,hz]
 simp [hc]
theorem NumO.at {ops:Array Oper} {i:Nat} {m:Mem} {nb:List Blk} {ow:List Nat} {j:Nat} {v:Value} {x:Nat} (h:NumO m nb ow j v x) (hc:chainB ops 4 i j=true):NumA ((m++maskN ops i nb ow).map Am.sealed) v (dig x)∧belowP (pW ops i m.length ow) 4 v=true:=by
 rcases h with ⟨rfl,rfl⟩ | ⟨h1,h2⟩ | ⟨L,n,k,h1,h2,rfl,h4,h5,hne⟩
 ·rw [dig_zero]; exact ⟨NumA.nil _,rfl⟩
 ·exact ⟨(h1.keep fun k hk=>List.getElem?_append_left hk).sealed,h2.below fun k hk=>by unfold pW; simp [hk]⟩
 ·refine ⟨?_,?_⟩
  ·rw [←h2]
   refine (NumA.row (ro:=false) ?_ h1).sealed
   rw [List.getElem?_append_right (by omega),Nat.add_sub_cancel_left]
   exact mask_get h4 h5 hc
  ·show pW ops i m.length ow (m.length+k)=true
   unfold pW
   rw [Nat.add_sub_cancel_left,h5]
   simp [hc]
theorem NumO.end {m:Mem} {nb:List Blk} {ow:List Nat} {j:Nat} {v:Value} {x:Nat} (h:NumO m nb ow j v x):NumA (m++nb) v (dig x)∧NumIn (m++nb).length v:=by
 rcases h with ⟨rfl,rfl⟩ | ⟨h1,h2⟩ | ⟨L,n,k,h1,h2,rfl,h4,h5,hne⟩
 ·rw [dig_zero]; exact ⟨NumA.nil _,.inl rfl⟩
 ·exact ⟨h1.keep fun k hk=>List.getElem?_append_left hk,h2.mono (by simp)⟩
 ·have:=(List.getElem?_eq_some_iff.1 h4).1
  refine ⟨?_,.inr ⟨_,_,_,rfl,by simp; omega⟩⟩
  rw [←h2]
  refine NumA.row (ro:=false) ?_ h1
  rw [List.getElem?_append_right (by omega),Nat.add_sub_cancel_left]
  exact h4
theorem lit0_below (p:Nat→Bool) {c:Value} (h:lit0 c=true):belowP p 4 c=true:=by
 cases c with
 | pointer a=>cases a with
  | none=>rfl
  | some a=>cases h
 | slice a l c=>cases a with
  | none=>rfl
  | some a=>cases h
 | func f a b =>
  simp only [lit0,Bool.and_eq_true] at h
  have h1:a=#[]:=Array.toList_eq_nil_iff.1 (List.isEmpty_iff.1 h.1)
  have h2:b=#[]:=Array.toList_eq_nil_iff.1 (List.isEmpty_iff.1 h.2)
  subst h1; subst h2
  rfl
 | iface t v=>simp [lit0] at h
 | agg c=>simp [lit0] at h
 | tuple c=>simp [lit0] at h
 | _=>exact h
theorem US.rows {ops:Array Oper} {i:Nat} {nb:List Blk} {ow:List Nat} (h:US nb ow) (p:Nat→Bool):rowsP p (maskN ops i nb ow)=true:=by
 unfold rowsP maskN
 rw [List.all_map,List.all_eq_true]
 intro q hq
 obtain ⟨b,j⟩:=q
 have hb:=(List.of_mem_zip hq).1
 obtain ⟨ro,e,cs,rfl,hc⟩:=h.2 b hb
 simp only [Function.comp]
 by_cases hj:chainB ops 4 i j=true
 ·simp only [hj,if_true]
  rw [List.all_eq_true] at hc⊢
  intro c hm
  exact lit0_below p (hc c hm)
 ·simp only [hj]
  rfl
theorem US.add {nb bs:List Blk} {ow:List Nat} {i:Nat} (h:US nb ow) (hb:∀ b∈bs,∃ ro e cs,b=Blk.row ro e cs∧cs.all lit0=true):US (nb++bs) (ow++List.replicate bs.length i) :=
 ⟨by rw [List.length_append,List.length_append,List.length_replicate,h.1],fun b hm=>(List.mem_append.1 hm).elim (h.2 b) (hb b)⟩
section
variable {self:Self} {ops:Array Oper} {m:Mem} {o:Oper} {l:List Oper} {i c:Nat} {T:List Value} {nb:List Blk} {ow:List Nat} {v:Value}
theorem u_num {r:Nat} (us:US nb ow) (hg:agd ops T o=some true) (hok:okOp E.P o.op=true) (hc:cls E.P E.wr o=c+1) (hp:opsP (pW ops i m.length ow) T o=true) (hw:isW E.P E.wr ops i=true)
  (hs:∃ v M',astep E self T ((m++maskN ops i nb ow).map Am.sealed) o=some (v,M')∧NumR ((m++maskN ops i nb ow).map Am.sealed) v M' r) :
  ∃ v' nb' ow',amkUT E self ops m (o::l) i T nb ow=amkUT E self ops m l (i+1) (aput T o.dst v') nb' ow'∧NumN m nb' ow' i v' r∧US nb' ow'∧∀ j u x,NumO m nb ow j u x→NumO m nb' ow' j u x:=by
 obtain ⟨v,M',h1,h2⟩:=hs
 have hl:((m++maskN ops i nb ow).map Am.sealed).length=m.length+nb.length:=by rw [List.length_map,List.length_append,mask_len us.1]
 obtain ⟨bs,h3,h4,h5⟩:=num_at2 h2
 rw [hl] at h3
 refine ⟨v,nb++bs,ow++List.replicate bs.length i,u_make hg hok hc hp (us.rows _) h1 h3 (by rw [hw,Bool.or_true]),?_,us.add ?_,fun j u x h=>h.more⟩
 ·rcases h2 with ⟨rfl,rfl,rfl⟩ | ⟨L,n,q1,q2,rfl,rfl,hne⟩
  ·exact .inl ⟨rfl,rfl⟩
  ·have e1:bs=[.row false 3 (cellsN L)]:=by
    have:=acollAt_new (ro:=false) (e:=3) (cs:=cellsN L) (m1:=(m++maskN ops i nb ow).map Am.sealed++[.row false 3 (cellsN L)]) (n:=m.length+nb.length) (N:=m.length+nb.length) (b:=((m++maskN ops i nb ow).map Am.sealed).length) (o:=0) (k:=n) (c:=L.length) (by rw [hl]; exact Nat.le_refl _) (by simp) (cellsN_lits L)
    rw [this] at h3
    simp only [Option.some.injEq,Prod.mk.injEq] at h3
    exact h3.2.symm
   subst e1
   refine .inr ⟨L,n,nb.length,q1,q2,by rw [hl],by simp,?_,hne⟩
   rw [us.1,List.getElem?_append_right (Nat.le_refl _),Nat.sub_self]
   rfl
 ·intro b hb
  rcases h4 with rfl | ⟨L,rfl⟩
  ·cases hb
  ·simp only [List.mem_cons,List.not_mem_nil,or_false] at hb
   exact ⟨_,_,_,hb,cellsN_lits L⟩
theorem u_row {ro:Bool} {e:TypeId} {cs:List Value} {k q:Nat} (us:US nb ow) (hg:agd ops T o=some true) (hok:okOp E.P o.op=true) (hc:cls E.P E.wr o=c+1) (hp:opsP (pW ops i m.length ow) T o=true) (hw:isW E.P E.wr ops i=true) (hcs:cs.all lit0=true)
  (hs:astep E self T ((m++maskN ops i nb ow).map Am.sealed) o=some (.slice (some ⟨((m++maskN ops i nb ow).map Am.sealed).length,0,none⟩) k q,(m++maskN ops i nb ow).map Am.sealed++[.row ro e cs])) :
  ∃ b nb' ow',amkUT E self ops m (o::l) i T nb ow=amkUT E self ops m l (i+1) (aput T o.dst (.slice (some ⟨m.length+b,0,none⟩) k q)) nb' ow'∧nb'[b]? = some (.row ro e cs)∧ow'[b]? = some i∧US nb' ow'∧∀ j u x,NumO m nb ow j u x→NumO m nb' ow' j u x:=by
 have hl:((m++maskN ops i nb ow).map Am.sealed).length=m.length+nb.length:=by rw [List.length_map,List.length_append,mask_len us.1]
 refine ⟨nb.length,nb++[.row ro e cs],ow++[i],?_,by simp,by rw [us.1,List.getElem?_append_right (Nat.le_refl _),Nat.sub_self]; rfl,us.add (bs:=[.row ro e cs]) ?_,fun j u x h=>h.more⟩
 ·exact u_make hg hok hc hp (us.rows _) hs (acollAt_new (by rw [hl]; exact Nat.le_refl _) (by simp) hcs) (by rw [hw,Bool.or_true])
 ·intro b hb
  simp only [List.mem_cons,List.not_mem_nil,or_false] at hb
  exact ⟨_,_,_,hb,hcs⟩
end
def Ends2 (q:List Value→List Blk→Prop) (r:Option (List Value×List Blk)):Prop:=∃ T nb,r=some (T,nb)∧q T nb
section
variable {q:List Value→List Blk→Prop} {self:Self} {ops:Array Oper} {m:Mem} {o:Oper} {l:List Oper} {i:Nat} {T:List Value} {nb:List Blk} {ow:List Nat}
theorem k_float (v:Value) (hg:agd ops T o=some true) (hok:okOp E.P o.op=true) (hc:cls E.P E.wr o=0) (hf:afloat E.P T o=some v) (h:Ends2 q (amkUT E self ops m l (i+1) (aput T o.dst v) nb ow)):Ends2 q (amkUT E self ops m (o::l) i T nb ow):=by
 rw [u_float hg hok hc hf]; exact h
theorem k_num (c r:Nat) (us:US nb ow) (hg:agd ops T o=some true) (hok:okOp E.P o.op=true) (hc:cls E.P E.wr o=c+1) (hw:isW E.P E.wr ops i=true) (hp:opsP (pW ops i m.length ow) T o=true)
  (hs:∃ v M',astep E self T ((m++maskN ops i nb ow).map Am.sealed) o=some (v,M')∧NumR ((m++maskN ops i nb ow).map Am.sealed) v M' r)
  (h:∀ v' nb' ow',NumO m nb' ow' i v' r→US nb' ow'→(∀ j u x,NumO m nb ow j u x→NumO m nb' ow' j u x)→Ends2 q (amkUT E self ops m l (i+1) (aput T o.dst v') nb' ow')):Ends2 q (amkUT E self ops m (o::l) i T nb ow):=by
 obtain ⟨v',nb',ow',e,n,us',k⟩:=u_num (l:=l) us hg hok hc hp hw hs
 rw [e]; exact h v' nb' ow' n.o us' k
theorem k_numN (c r:Nat) (us:US nb ow) (hg:agd ops T o=some true) (hok:okOp E.P o.op=true) (hc:cls E.P E.wr o=c+1) (hw:isW E.P E.wr ops i=true) (hp:opsP (pW ops i m.length ow) T o=true)
  (hs:∃ v M',astep E self T ((m++maskN ops i nb ow).map Am.sealed) o=some (v,M')∧NumR ((m++maskN ops i nb ow).map Am.sealed) v M' r)
  (h:∀ v' nb' ow',NumN m nb' ow' i v' r→US nb' ow'→(∀ j u x,NumO m nb ow j u x→NumO m nb' ow' j u x)→Ends2 q (amkUT E self ops m l (i+1) (aput T o.dst v') nb' ow')):Ends2 q (amkUT E self ops m (o::l) i T nb ow):=by
 obtain ⟨v',nb',ow',e,n,us',k⟩:=u_num (l:=l) us hg hok hc hp hw hs
 rw [e]; exact h v' nb' ow' n us' k
theorem k_row (c:Nat) {ro:Bool} {e:TypeId} {cs:List Value} {k d:Nat} (us:US nb ow) (hg:agd ops T o=some true) (hok:okOp E.P o.op=true) (hc:cls E.P E.wr o=c+1) (hw:isW E.P E.wr ops i=true) (hp:opsP (pW ops i m.length ow) T o=true) (hcs:cs.all lit0=true)
  (hs:astep E self T ((m++maskN ops i nb ow).map Am.sealed) o=some (.slice (some ⟨((m++maskN ops i nb ow).map Am.sealed).length,0,none⟩) k d,(m++maskN ops i nb ow).map Am.sealed++[.row ro e cs]))
  (h:∀ b nb' ow',nb'[b]? = some (.row ro e cs)→ow'[b]? = some i→US nb' ow'→(∀ j u x,NumO m nb ow j u x→NumO m nb' ow' j u x)→Ends2 q (amkUT E self ops m l (i+1) (aput T o.dst (.slice (some ⟨m.length+b,0,none⟩) k d)) nb' ow')):Ends2 q (amkUT E self ops m (o::l) i T nb ow):=by
 obtain ⟨b,nb',ow',e1,h1,h2,us',k'⟩:=u_row (l:=l) us hg hok hc hp hw hcs hs
 rw [e1]; exact h b nb' ow' h1 h2 us' k'
theorem k_end (h:q T nb):Ends2 q (amkUT E self ops m [] i T nb ow):=⟨T,nb,rfl,h⟩
end
theorem row_at {ops:Array Oper} {i b j:Nat} {m:Mem} {nb:List Blk} {ow:List Nat} {ro:Bool} {e:TypeId} {cs:List Value} (h1:nb[b]? = some (.row ro e cs)) (h2:ow[b]? = some j) (hc:chainB ops 4 i j=true) :
  ((m++maskN ops i nb ow).map Am.sealed)[m.length+b]? = some (.row true e cs)∧pW ops i m.length ow (m.length+b)=true:=by
 refine ⟨?_,?_⟩
 ·rw [List.getElem?_map,List.getElem?_append_right (by omega),Nat.add_sub_cancel_left,mask_get h1 h2 hc]
  rfl
 ·unfold pW
  rw [Nat.add_sub_cancel_left,h2]
  simp [hc]
def rrred_0:=opR Tryd.f37 [0]
def lrred_0:List Oper:=match Tryd.f37.body with
 | some (.seq (.region _ o _) _)=>o.toList
 | _=>[]
theorem erred_0:rrred_0.toList=lrred_0:=rfl
def lprred_0:Code:=match Tryd.f37.body with
 | some (.seq _ (.seq (.block _ (.loop c)) _))=>c
 | _=>.skip
def rrred_1:=opR Tryd.f37 [1,0,0,0,0,0]
def lrred_1:List Oper:=match Tryd.f37.body with
 | some (.seq _ (.seq (.block _ (.loop (.seq (.seq (.region _ o _) _) _))) _))=>o.toList
 | _=>[]
theorem erred_1:rrred_1.toList=lrred_1:=rfl
def rrred_2:=opR Tryd.f37 [1,0,0,0,1,0]
def lrred_2:List Oper:=match Tryd.f37.body with
 | some (.seq _ (.seq (.block _ (.loop (.seq _ (.block _ (.region _ o _))))) _))=>o.toList
 | _=>[]
theorem erred_2:rrred_2.toList=lrred_2:=rfl
theorem lprred_0_eq:lprred_0=(.seq (.seq (.region 1 rrred_1 false) (.cond (.tmp 7) .skip (.exit 0))) (.block 1 (.region 2 rrred_2 true))):=rfl
def rrred_3:=opR Tryd.f37 [1,1,0]
def lrred_3:List Oper:=match Tryd.f37.body with
 | some (.seq _ (.seq _ (.seq (.region _ o _) _)))=>o.toList
 | _=>[]
theorem erred_3:rrred_3.toList=lrred_3:=rfl
def lprred_1:Code:=match Tryd.f37.body with
 | some (.seq _ (.seq _ (.seq _ (.seq (.block _ (.loop c)) _))))=>c
 | _=>.skip
def rrred_4:=opR Tryd.f37 [1,1,1,0,0,0,0,0]
def lrred_4:List Oper:=match Tryd.f37.body with
 | some (.seq _ (.seq _ (.seq _ (.seq (.block _ (.loop (.seq (.seq (.region _ o _) _) _))) _))))=>o.toList
 | _=>[]
theorem erred_4:rrred_4.toList=lrred_4:=rfl
theorem grred_4_2 {T:List Value} {dd:Option Tmp} {op:Op} {ty:TypeId} {pos:String} {af:Array Edge} {want:Bool}:agd rrred_4 T { dst:=dd,op:=op,type:=ty,pos:=pos,after:=af,guard:=some (2,want) }=gdAt T 19 want:=agd_at (by kernel_rfl)
def rrred_5:=opR Tryd.f37 [1,1,1,0,0,0,1,0]
def lrred_5:List Oper:=match Tryd.f37.body with
 | some (.seq _ (.seq _ (.seq _ (.seq (.block _ (.loop (.seq _ (.block _ (.region _ o _))))) _))))=>o.toList
 | _=>[]
theorem erred_5:rrred_5.toList=lrred_5:=rfl
theorem lprred_1_eq:lprred_1=(.seq (.seq (.region 4 rrred_4 false) (.cond (.tmp 26) .skip (.exit 2))) (.block 3 (.region 5 rrred_5 false))):=rfl
def rrred_6:=opR Tryd.f37 [1,1,1,1,0]
def lrred_6:List Oper:=match Tryd.f37.body with
 | some (.seq _ (.seq _ (.seq _ (.seq _ (.seq (.region _ o _) _)))))=>o.toList
 | _=>[]
theorem erred_6:rrred_6.toList=lrred_6:=rfl
def rrred_7:=opR Tryd.f37 [1,1,1,1,1,0]
def lrred_7:List Oper:=match Tryd.f37.body with
 | some (.seq _ (.seq _ (.seq _ (.seq _ (.seq _ (.seq (.region _ o _) _))))))=>o.toList
 | _=>[]
theorem erred_7:rrred_7.toList=lrred_7:=rfl
def lprred_2:Code:=match Tryd.f37.body with
 | some (.seq _ (.seq _ (.seq _ (.seq _ (.seq _ (.seq _ (.seq (.block _ (.loop c)) _)))))))=>c
 | _=>.skip
def rrred_8:=opR Tryd.f37 [1,1,1,1,1,1,0,0,0,0,0]
def lrred_8:List Oper:=match Tryd.f37.body with
 | some (.seq _ (.seq _ (.seq _ (.seq _ (.seq _ (.seq _ (.seq (.block _ (.loop (.seq (.seq (.region _ o _) _) _))) _)))))))=>o.toList
 | _=>[]
theorem erred_8:rrred_8.toList=lrred_8:=rfl
def rrred_9:=opR Tryd.f37 [1,1,1,1,1,1,0,0,0,1,0]
def lrred_9:List Oper:=match Tryd.f37.body with
 | some (.seq _ (.seq _ (.seq _ (.seq _ (.seq _ (.seq _ (.seq (.block _ (.loop (.seq _ (.block _ (.region _ o _))))) _)))))))=>o.toList
 | _=>[]
theorem erred_9:rrred_9.toList=lrred_9:=rfl
theorem lprred_2_eq:lprred_2=(.seq (.seq (.region 8 rrred_8 false) (.cond (.tmp 36) .skip (.exit 4))) (.block 5 (.region 9 rrred_9 false))):=rfl
def rrred_10:=opR Tryd.f37 [1,1,1,1,1,1,1,0]
def lrred_10:List Oper:=match Tryd.f37.body with
 | some (.seq _ (.seq _ (.seq _ (.seq _ (.seq _ (.seq _ (.seq _ (.seq (.region _ o _) _))))))))=>o.toList
 | _=>[]
theorem erred_10:rrred_10.toList=lrred_10:=rfl
theorem bodyrred:Tryd.f37.body=some (.seq (.region 0 rrred_0 false) (.seq (.block 0 (.loop lprred_0)) (.seq (.region 3 rrred_3 false) (.seq (.block 2 (.loop lprred_1)) (.seq (.region 6 rrred_6 false) (.seq (.region 7 rrred_7 false) (.seq (.block 4 (.loop lprred_2)) (.seq (.region 10 rrred_10 false) .ret)))))))):=rfl
theorem sr2r:E.sr 2 rrred_2=true:=by kernel_rfl
theorem mk2r:E.mkr 2 rrred_2=true:=by kernel_rfl
theorem dep2r:depB E.P E.wr rrred_2=true:=by kernel_rfl
theorem ch54r:chainB rrred_2 4 5 4=true:=by kernel_rfl
theorem ch65r:chainB rrred_2 4 6 5=true:=by kernel_rfl
theorem lowF:∀ p:Nat→Bool,∀ g,belowP p 4 (.func (.func g) #[] #[])=true:=fun _ _=>rfl
theorem acollAt_old {m1:Mem} {n N b o k c:Nat} (hb:b<n):acollAt n N (.slice (some ⟨b,o,none⟩) k c) m1=some (.slice (some ⟨b,o,none⟩) k c,[]):=by
 unfold acollAt
 rw [if_neg (by simp [lit2,lit1,lit0])]
 have h1:idsL n (partsOf (.slice (some ⟨b,o,none⟩) k c)) []=[]:=by
  simp [partsOf,idsL,idOf,addIds,hb]
 have h2:closeIds n m1 2 []=[]:=by
  simp only [closeIds,List.foldl_nil]
 simp only [h1,h2]
 rw [if_pos (by simp [nodupB])]
 have h3:rid n N [] b=some b:=by
  unfold rid
  rw [if_pos hb]
 simp only [renB,ren3,ren2,ren1,h3]
theorem k_old {q:List Value→List Blk→Prop} {self:Self} {ops:Array Oper} {m:Mem} {o:Oper} {l:List Oper} {i:Nat} {T:List Value} {nb:List Blk} {ow:List Nat} (c:Nat) {b off k d:Nat} {M':Mem} (us:US nb ow) (hg:agd ops T o=some true) (hok:okOp E.P o.op=true) (hc:cls E.P E.wr o=c+1) (hp:opsP (pW ops i m.length ow) T o=true)
  (hs:astep E self T ((m++maskN ops i nb ow).map Am.sealed) o=some (.slice (some ⟨b,off,none⟩) k d,M')) (hb:b<m.length) (h:Ends2 q (amkUT E self ops m l (i+1) (aput T o.dst (.slice (some ⟨b,off,none⟩) k d)) nb ow)):Ends2 q (amkUT E self ops m (o::l) i T nb ow):=by
 rw [u_make hg hok hc hp (us.rows _) hs (acollAt_old (by omega)) rfl]
 simpa using h
theorem sl3_27 {b n c:Nat} (hc:32≤c):aslice3 E.P 27 (.slice (some ⟨b,0,none⟩) n c) none (some (.int .i64 32)) (.int .i64 32)=some (.slice (some ⟨b,0,none⟩) 32 32):=by
 obtain ⟨i,h1,h2⟩:=info3
 unfold aslice3
 simp only [und27,h1]
 unfold abound
 simp only
 rw [if_pos (by omega)]
 simp
theorem slLo_27 {m:Mem} {b n c:Nat} {ro:Bool} {cs:List Value} (h:m[b]? = some (.row ro 3 cs)) (hn:32<n) (hc:n≤c):aslice E.P 27 (.slice (some ⟨b,0,none⟩) n c) (some (.int .i64 32)) none m=some (.slice (some ⟨b,32,none⟩) (n-32) (c-32)):=by
 obtain ⟨i,h1,h2⟩:=info3
 unfold aslice
 simp only [und27,h1,lookRow h]
 unfold abounds abound
 simp only
 rw [if_pos (by omega)]
 simp only
 rw [if_neg (by simp [h2]; omega)]
 simp [h2]
theorem slHi_27 {m:Mem} {b n c:Nat} {ro:Bool} {cs:List Value} (h:m[b]? = some (.row ro 3 cs)) (hc0:0<c) (hc:n≤c):aslice E.P 27 (.slice (some ⟨b,0,none⟩) n c) none (some (.int .i64 (n:Nat))) m=some (.slice (some ⟨b,0,none⟩) n c):=by
 obtain ⟨i,h1,h2⟩:=info3
 unfold aslice
 simp only [und27,h1,lookRow h]
 unfold abounds abound
 simp only
 rw [if_pos (by omega)]
 simp only
 rw [if_neg (by simp [h2]; omega)]
 simp
theorem ix27o {b o L c j:Nat} (h:j<L):aindexAddr E.P 27 (.slice (some ⟨b,o,none⟩) L c) (.int .i64 (j:Nat))=some (.pointer (some ⟨b,o+j,none⟩)):=by
 obtain ⟨i,h1,h2⟩:=info3
 unfold aindexAddr
 simp only [und27,h1]
 rw [if_pos (by omega)]
 simp [h2]
theorem NumA.rowAt {m:Mem} {b o n c:Nat} {ro:Bool} {L:List Nat} (h:m[b]? = some (.row ro 3 (cellsN L))) (hn:o+n≤L.length):NumA m (.slice (some ⟨b,o,none⟩) n c) ((L.drop o).take n):=by
 refine ⟨by simp only [lenV,List.length_take,List.length_drop,Nat.min_eq_left (show n≤L.length-o by omega)],fun i x hx=>⟨b,o+i,?_,?_⟩⟩
 ·have hi:i<n:=by
   have:=(List.getElem?_eq_some_iff.1 hx).1
   rw [List.length_take] at this
   omega
  exact ix27o hi
 ·have hi:i<n:=by
   have:=(List.getElem?_eq_some_iff.1 hx).1
   rw [List.length_take] at this
   omega
  rw [List.getElem?_take,if_pos hi,List.getElem?_drop] at hx
  rw [cellAt_row h,cellsN_get hx]
theorem dig38:dig 38=[38]:=by rw [dig_pos (by omega)]; rw [show 38 / 256=0 from rfl,dig_zero]
def NumW (m:Mem) (b:Nat) (ro:Bool) (L:List Nat) (n x:Nat):Prop:=n≤L.length∧L.take n=dig x∧m[b]? = some (.row ro 3 (cellsN L))∧L≠[]
theorem NumW.parts {m:Mem} {b n x:Nat} {ro:Bool} {L:List Nat} (h:NumW m b ro L n x) (hn:32<n):NumA m (.slice (some ⟨b,0,none⟩) 32 32) ((dig x).take 32)∧NumA m (.slice (some ⟨b,32,none⟩) (n-32) (L.length-32)) (dig (x / 256^32))∧val ((dig x).take 32)=x%256^32:=by
 obtain ⟨h1,h2,h3,_⟩:=h
 have hl:(dig x).length=n:=by rw [←h2,List.length_take,Nat.min_eq_left h1]
 refine ⟨?_,?_,?_⟩
 ·have:=NumA.row (n:=32) (c:=32) h3 (by omega)
  have e:L.take 32=(dig x).take 32:=by rw [←h2,List.take_take,Nat.min_eq_left (by omega)]
  rw [e] at this
  exact this
 ·have:=NumA.rowAt (o:=32) (n:=n-32) (c:=L.length-32) h3 (by omega)
  have e:(L.drop 32).take (n-32)=dig (x / 256^32):=by
   have e1:(L.drop 32).take (n-32)=(dig x).drop 32:=by rw [←h2,List.drop_take]
   rw [e1]
   have e2:=val_drop (dig_lt x) (k:=32) (by omega)
   rw [val_dig] at e2
   rw [←e2]
   refine (dig_val (fun y hy=>dig_lt x y (List.mem_of_mem_drop hy)) ?_).symm
   right
   rcases dig_last x with h0 | ⟨z,hz,hz2⟩
   ·rw [h0] at hl; simp at hl; omega
   ·refine ⟨z,hz,?_⟩
    rw [List.length_drop,List.getElem?_drop,show 32+((dig x).length-32-1)=(dig x).length-1 by omega]
    exact hz2
  rw [e] at this
  exact this
 ·rw [val_take (dig_lt x),val_dig]
theorem red2 {self:Self} {m:Mem} {F:Nat→Value} {b n x:Nat} {ro:Bool} {L:List Nat} (cm:CMul self) (ca:CAddL self) (h0:F 0=.slice (some ⟨b,0,none⟩) n L.length) (hN:NumW m b ro L n x) (hn:32<n) (hn9:n≤100) :
  ∃ F' nb,amk E self rrred_2 (lst F 41) m=some (lst F' 41,m++nb)∧NumB m.length (F' 0) (m++nb) (x%256^32+x / 256^32*38):=by
 suffices key:Ends2 (fun T nb=>∃ F',T=lst F' 41∧NumB m.length (F' 0) (m++nb) (x%256^32+x / 256^32*38)) (amkUT E self rrred_2 m rrred_2.toList 0 (lst F 41) [] []) by
  obtain ⟨_,nb,h1,F',rfl,h3⟩:=key
  exact ⟨F',nb,amk_of dep2r h1,h3⟩
 have hb:b<m.length:=(List.getElem?_eq_some_iff.1 hN.2.2.1).1
 have hnl:(dig x).length=n:=by rw [←hN.2.1,List.length_take,Nat.min_eq_left hN.1]
 have hL:=hN.1
 obtain ⟨p1,p2,p3⟩:=hN.parts hn
 have hrow:∀ X:Mem,((m++X).map Am.sealed)[b]? = some (.row true 3 (cellsN L)):=by
  intro X
  rw [List.getElem?_map,List.getElem?_append_left hb,hN.2.2.1]
  rfl
 have lowB:∀ (ops:Array Oper) (i:Nat) (ow:List Nat) (o k c:Nat),belowP (pW ops i m.length ow) 4 (.slice (some ⟨b,o,none⟩) k c)=true:=by
  intro ops i ow o k c
  show pW ops i m.length ow b=true
  unfold pW
  simp [hb]
 have onto:∀ (v:Value) (l:List Nat) (X:Mem),NumA m v l→NumA ((m++X).map Am.sealed) v l:=fun v l X h=>(h.keep fun k hk=>List.getElem?_append_left hk).sealed
 rw [erred_2]
 simp only [lrred_2,Tryd.f37]
 refine k_float (.slice (some ⟨b,0,none⟩) n L.length) agd_none (by kernel_rfl) (by kernel_rfl) (by simp only [List.append_eq,List.cons_append,List.nil_append,apure_call1,apure_call2,apure_call3,bft,btf,acodeN,List.getElem?_toArray,List.getElem?_cons_zero,List.getElem?_cons_succ,aopsN,adrawT,cls,astep,aop,afloat,ev,nth_lst,get_lst,aput,setAt_lst,upd_at,init_zero,init_succ,init_nil,Nat.reduceLT,Nat.reduceEqDiff,reduceIte,len_N,abuiltin_app,Option.map_some,Option.map_none,orElse_some,apure_add,apure_eqlV,eqlVal_str,eqlVal_bool,eqlVal_ptr,eqlVal_slice,eqlVal_wide,eqlVal_int,allT,↓aop_eqlV,apure_neq,List.map_cons,List.map_nil,List.all_cons,List.all_nil,lit2,lit1,lit0,List.isEmpty_nil,bls,Bool.false_eq_true,if_true,if_false,List.length_map,beq_self_eq_true,uns,h0]) ?_
 simp only [aput,setAt_lst,Nat.reduceLT,if_true,Nat.reduceAdd]
 refine k_old 0 US.nil agd_none (by kernel_rfl) (by kernel_rfl) (by simp only [opsP,Op.operands,Call.operands,List.toList_toArray,Array.toList_append,Option.toArray,List.cons_append,List.nil_append,List.append_nil,List.all_cons,List.all_nil,ev,nth_lst,upd_at,Nat.reduceEqDiff,reduceIte,Nat.reduceLT,if_true,Bool.and_self,Bool.and_true,lowF,lowB]; rfl) (b:=b) (off:=0) (k:=32) (d:=32) (M':=(m++maskN rrred_2 1 [] []).map Am.sealed) (by simp only [List.append_eq,List.cons_append,List.nil_append,apure_call1,apure_call2,apure_call3,bft,btf,acodeN,List.getElem?_toArray,List.getElem?_cons_zero,List.getElem?_cons_succ,aopsN,adrawT,cls,astep,aop,afloat,ev,nth_lst,get_lst,aput,setAt_lst,upd_at,init_zero,init_succ,init_nil,Nat.reduceLT,Nat.reduceEqDiff,reduceIte,len_N,abuiltin_app,Option.map_some,Option.map_none,orElse_some,apure_add,apure_eqlV,eqlVal_str,eqlVal_bool,eqlVal_ptr,eqlVal_slice,eqlVal_wide,eqlVal_int,allT,↓aop_eqlV,apure_neq,List.map_cons,List.map_nil,List.all_cons,List.all_nil,lit2,lit1,lit0,List.isEmpty_nil,bls,Bool.false_eq_true,if_true,if_false,List.length_map,beq_self_eq_true,uns,sl3_27 (show 32≤L.length by omega)]) hb ?_
 simp only [aput,setAt_lst,Nat.reduceLT,if_true,Nat.reduceAdd]
 refine k_float (.slice (some ⟨b,0,none⟩) n L.length) agd_none (by kernel_rfl) (by kernel_rfl) (by simp only [List.append_eq,List.cons_append,List.nil_append,apure_call1,apure_call2,apure_call3,bft,btf,acodeN,List.getElem?_toArray,List.getElem?_cons_zero,List.getElem?_cons_succ,aopsN,adrawT,cls,astep,aop,afloat,ev,nth_lst,get_lst,aput,setAt_lst,upd_at,init_zero,init_succ,init_nil,Nat.reduceLT,Nat.reduceEqDiff,reduceIte,len_N,abuiltin_app,Option.map_some,Option.map_none,orElse_some,apure_add,apure_eqlV,eqlVal_str,eqlVal_bool,eqlVal_ptr,eqlVal_slice,eqlVal_wide,eqlVal_int,allT,↓aop_eqlV,apure_neq,List.map_cons,List.map_nil,List.all_cons,List.all_nil,lit2,lit1,lit0,List.isEmpty_nil,bls,Bool.false_eq_true,if_true,if_false,List.length_map,beq_self_eq_true,uns,h0]) ?_
 simp only [aput,setAt_lst,Nat.reduceLT,if_true,Nat.reduceAdd]
 refine k_old 0 US.nil agd_none (by kernel_rfl) (by kernel_rfl) (by simp only [opsP,Op.operands,Call.operands,List.toList_toArray,Array.toList_append,Option.toArray,List.cons_append,List.nil_append,List.append_nil,List.all_cons,List.all_nil,ev,nth_lst,upd_at,Nat.reduceEqDiff,reduceIte,Nat.reduceLT,if_true,Bool.and_self,Bool.and_true,lowF,lowB]; rfl) (b:=b) (off:=32) (k:=n-32) (d:=L.length-32) (M':=(m++maskN rrred_2 3 [] []).map Am.sealed) (by simp only [List.append_eq,List.cons_append,List.nil_append,apure_call1,apure_call2,apure_call3,bft,btf,acodeN,List.getElem?_toArray,List.getElem?_cons_zero,List.getElem?_cons_succ,aopsN,adrawT,cls,astep,aop,afloat,ev,nth_lst,get_lst,aput,setAt_lst,upd_at,init_zero,init_succ,init_nil,Nat.reduceLT,Nat.reduceEqDiff,reduceIte,len_N,abuiltin_app,Option.map_some,Option.map_none,orElse_some,apure_add,apure_eqlV,eqlVal_str,eqlVal_bool,eqlVal_ptr,eqlVal_slice,eqlVal_wide,eqlVal_int,allT,↓aop_eqlV,apure_neq,List.map_cons,List.map_nil,List.all_cons,List.all_nil,lit2,lit1,lit0,List.isEmpty_nil,bls,Bool.false_eq_true,if_true,if_false,List.length_map,beq_self_eq_true,uns,slLo_27 (hrow (maskN rrred_2 3 [] [])) hn hL]) hb ?_
 simp only [aput,setAt_lst,Nat.reduceLT,if_true,Nat.reduceAdd]
 refine k_row 1 US.nil agd_none (by kernel_rfl) (by kernel_rfl) (by kernel_rfl) (by simp only [opsP,Op.operands,Call.operands,List.toList_toArray,Array.toList_append,Option.toArray,List.cons_append,List.nil_append,List.append_nil,List.all_cons,List.all_nil,ev,nth_lst,upd_at,Nat.reduceEqDiff,reduceIte,Nat.reduceLT,if_true,Bool.and_self,Bool.and_true,lowF]; rfl) (cs:=cellsN [38]) (e:=3) (ro:=false) (k:=1) (d:=1) rfl (by simp only [List.append_eq,List.cons_append,List.nil_append,apure_call1,apure_call2,apure_call3,bft,btf,acodeN,List.getElem?_toArray,List.getElem?_cons_zero,List.getElem?_cons_succ,aopsN,adrawT,cls,astep,aop,afloat,ev,nth_lst,get_lst,aput,setAt_lst,upd_at,init_zero,init_succ,init_nil,Nat.reduceLT,Nat.reduceEqDiff,reduceIte,len_N,abuiltin_app,Option.map_some,Option.map_none,orElse_some,apure_add,apure_eqlV,eqlVal_str,eqlVal_bool,eqlVal_ptr,eqlVal_slice,eqlVal_wide,eqlVal_int,allT,↓aop_eqlV,apure_neq,List.map_cons,List.map_nil,List.all_cons,List.all_nil,lit2,lit1,lit0,List.isEmpty_nil,bls,Bool.false_eq_true,if_true,if_false,List.length_map,beq_self_eq_true,uns,build27]; rfl) fun b4 nb4 ow4 r4 o4 us4 k4=>?_
 simp only [aput,setAt_lst,Nat.reduceLT,if_true,Nat.reduceAdd]
 have a4:=row_at (m:=m) r4 o4 ch54r
 have n4:NumA ((m++maskN rrred_2 5 nb4 ow4).map Am.sealed) (.slice (some ⟨m.length+b4,0,none⟩) 1 1) (dig 38):=by
  rw [dig38]
  exact NumA.row (n:=1) (L:=[38]) a4.1 (by simp)
 have w4:belowP (pW rrred_2 5 m.length ow4) 4 (.slice (some ⟨m.length+b4,0,none⟩) 1 1)=true:=a4.2
 have hx9:(dig (x / 256^32)).length≤100:=by
  have e1:=p2.1
  unfold lenV at e1
  simp only [Option.some.injEq] at e1
  omega
 refine k_num 1 (x / 256^32*38) us4 agd_none (by kernel_rfl) (by kernel_rfl) (by kernel_rfl) (by simp only [opsP,Op.operands,Call.operands,List.toList_toArray,Array.toList_append,Option.toArray,List.cons_append,List.nil_append,List.append_nil,List.all_cons,List.all_nil,ev,nth_lst,upd_at,Nat.reduceEqDiff,reduceIte,Nat.reduceLT,if_true,Bool.and_self,Bool.and_true,lowF,lowB,w4]) (by
   obtain ⟨v,M',h3,h4⟩:=cm ((m++maskN rrred_2 5 nb4 ow4).map Am.sealed) _ _ (x / 256^32) 38 (onto _ _ _ p2) n4 (by omega) (by rw [dig38]; simp)
   refine ⟨v,M',?_,h4⟩
   simp only [List.append_eq,List.cons_append,List.nil_append,apure_call1,apure_call2,apure_call3,bft,btf,acodeN,List.getElem?_toArray,List.getElem?_cons_zero,List.getElem?_cons_succ,aopsN,adrawT,cls,astep,aop,afloat,ev,nth_lst,get_lst,aput,setAt_lst,upd_at,init_zero,init_succ,init_nil,Nat.reduceLT,Nat.reduceEqDiff,reduceIte,len_N,abuiltin_app,Option.map_some,Option.map_none,orElse_some,apure_add,apure_eqlV,eqlVal_str,eqlVal_bool,eqlVal_ptr,eqlVal_slice,eqlVal_wide,eqlVal_int,allT,↓aop_eqlV,apure_neq,List.map_cons,List.map_nil,List.all_cons,List.all_nil,lit2,lit1,lit0,List.isEmpty_nil,bls,Bool.false_eq_true,if_true,if_false,List.length_map,beq_self_eq_true,uns,callMulR]
   exact h3) fun v5 nb5 ow5 n5 us5 k5=>?_
 simp only [aput,setAt_lst,Nat.reduceLT,if_true,Nat.reduceAdd]
 have a5:=n5.at ch65r
 have h38:(dig (x / 256^32*38)).length≤101:=by
  refine dig_len_le ?_
  have h1:=lt_dig_len (x / 256^32)
  have h9:256^(dig (x / 256^32)).length≤256^100:=Nat.pow_le_pow_right (by omega) hx9
  have h10:256^101=256^100*256:=Nat.pow_succ ..
  rw [h10]
  generalize 256^100=P at *
  generalize x / 256^32=y at *
  omega
 refine k_numN 1 (x%256^32+x / 256^32*38) us5 agd_none (by kernel_rfl) (by kernel_rfl) (by kernel_rfl) (by simp only [opsP,Op.operands,Call.operands,List.toList_toArray,Array.toList_append,Option.toArray,List.cons_append,List.nil_append,List.append_nil,List.all_cons,List.all_nil,ev,nth_lst,upd_at,Nat.reduceEqDiff,reduceIte,Nat.reduceLT,if_true,Bool.and_self,Bool.and_true,lowF,lowB,a5.2]) (by
   obtain ⟨v,M',h3,h4⟩:=ca ((m++maskN rrred_2 6 nb5 ow5).map Am.sealed) _ v5 ((dig x).take 32) (dig (x / 256^32*38)) (x%256^32+x / 256^32*38) (onto _ _ _ p1) a5.1 (fun y hy=>dig_lt x y (List.mem_of_mem_take hy)) (dig_lt _) (by rw [List.length_take]; omega) (by omega) (by rw [p3,val_dig])
   refine ⟨v,M',?_,h4⟩
   simp only [List.append_eq,List.cons_append,List.nil_append,apure_call1,apure_call2,apure_call3,bft,btf,acodeN,List.getElem?_toArray,List.getElem?_cons_zero,List.getElem?_cons_succ,aopsN,adrawT,cls,astep,aop,afloat,ev,nth_lst,get_lst,aput,setAt_lst,upd_at,init_zero,init_succ,init_nil,Nat.reduceLT,Nat.reduceEqDiff,reduceIte,len_N,abuiltin_app,Option.map_some,Option.map_none,orElse_some,apure_add,apure_eqlV,eqlVal_str,eqlVal_bool,eqlVal_ptr,eqlVal_slice,eqlVal_wide,eqlVal_int,allT,↓aop_eqlV,apure_neq,List.map_cons,List.map_nil,List.all_cons,List.all_nil,lit2,lit1,lit0,List.isEmpty_nil,bls,Bool.false_eq_true,if_true,if_false,List.length_map,beq_self_eq_true,uns,callAddR]
   exact h3) fun v6 nb6 ow6 n6 us6 k6=>?_
 simp only [aput,setAt_lst,Nat.reduceLT,if_true,Nat.reduceAdd]
 refine k_float v6 agd_none (by kernel_rfl) (by kernel_rfl) (by simp only [List.append_eq,List.cons_append,List.nil_append,apure_call1,apure_call2,apure_call3,bft,btf,acodeN,List.getElem?_toArray,List.getElem?_cons_zero,List.getElem?_cons_succ,aopsN,adrawT,cls,astep,aop,afloat,ev,nth_lst,get_lst,aput,setAt_lst,upd_at,init_zero,init_succ,init_nil,Nat.reduceLT,Nat.reduceEqDiff,reduceIte,len_N,abuiltin_app,Option.map_some,Option.map_none,orElse_some,apure_add,apure_eqlV,eqlVal_str,eqlVal_bool,eqlVal_ptr,eqlVal_slice,eqlVal_wide,eqlVal_int,allT,↓aop_eqlV,apure_neq,List.map_cons,List.map_nil,List.all_cons,List.all_nil,lit2,lit1,lit0,List.isEmpty_nil,bls,Bool.false_eq_true,if_true,if_false,List.length_map,beq_self_eq_true,uns,id_eq]) ?_
 simp only [aput,setAt_lst,Nat.reduceLT,if_true,Nat.reduceAdd]
 refine k_end ⟨_,rfl,?_⟩
 simp only [upd_at,Nat.reduceEqDiff,reduceIte]
 exact n6.b
def NumS (m:Mem) (v:Value) (x:Nat):Prop:=(v=.slice none 0 0∧x=0)∨∃ (b:Nat) (ro:Bool) (L:List Nat) (n:Nat),v=.slice (some ⟨b,0,none⟩) n L.length∧NumW m b ro L n x
theorem NumS.a {m:Mem} {v:Value} {x:Nat} (h:NumS m v x):NumA m v (dig x):=by
 rcases h with ⟨rfl,rfl⟩ | ⟨b,ro,L,n,rfl,h1,h2,h3,hne⟩
 ·rw [dig_zero]; exact NumA.nil _
 ·rw [←h2]; exact NumA.row h3 h1
theorem NumS.on {m m':Mem} {v:Value} {x:Nat} (h:NumS m v x) (hk:Kept m m'):NumS m' v x:=by
 rcases h with h | ⟨b,ro,L,n,rfl,h1,h2,h3,hne⟩
 ·exact .inl h
 ·exact .inr ⟨b,ro,L,n,rfl,h1,h2,by rw [hk.2 b (List.getElem?_eq_some_iff.1 h3).1]; exact h3,hne⟩
theorem NumS.sealed {m:Mem} {v:Value} {x:Nat} (h:NumS m v x):NumS (m.map Am.sealed) v x:=by
 rcases h with h | ⟨b,ro,L,n,rfl,h1,h2,h3,hne⟩
 ·exact .inl h
 ·exact .inr ⟨b,true,L,n,rfl,h1,h2,by rw [List.getElem?_map,h3]; rfl,hne⟩
theorem NumB.s {m:Mem} {B:Nat} {v:Value} {x:Nat} (h:NumB B v m x):NumS m v x:=by
 rcases h with h | ⟨L,n,b,ro,h1,h2,h3,rfl,h5,hne⟩
 ·exact .inl h
 ·exact .inr ⟨b,false,L,n,rfl,h1,h2,h5,hne⟩
theorem NumR.s {m m':Mem} {v:Value} {x:Nat} (h:NumR m v m' x):NumS m' v x:=h.b.s
theorem NumS.len {m:Mem} {v:Value} {x:Nat} (h:NumS m v x):lenV v=some (((dig x).length:Nat):Int):=h.a.1
def apS (P:Program) (t ty:TypeId) (v n:Value):Option Value:=apure P [v,n] { dst:=none,op:=.slice t (.tmp 0) none (some (.tmp 1)) none,type:=ty,pos := "",after:=#[],guard:=none }
theorem callCmp5:callableB E.P 11=true:=by kernel_rfl
theorem callSubR:callableB E.P 16=true:=by kernel_rfl
theorem apure_sl {P:Program} {T:List Value} {t ty:TypeId} {k j:Nat} {pos:String} {af:Array Edge} {g:Option (Nat×Bool)} {d:Option Tmp}:apure P T { dst:=d,op:=.slice t (.tmp k) none (some (.tmp j)) none,type:=ty,pos:=pos,after:=af,guard:=g }=apS P t ty (nth T k) (nth T j):=by
 unfold apS apure
 simp only [Op.operands,execOp,ev,nth_zero,List.all_cons,List.all_nil]
 rfl
theorem sl_nil:apS E.P 27 27 (.slice none 0 0) (.int .i64 0)=some (.slice none 0 0):=by kernel_rfl
section
variable {self:Self} {nf:Nat} {m:Mem} {F:Nat→Value}
theorem red_a {b n x:Nat} {ro:Bool} {L:List Nat} (cm:CMul self) (ca:CAddL self) (h0:F 0=.slice (some ⟨b,0,none⟩) n L.length) (hN:NumW m b ro L n x) (hn:32<n) (hn9:n≤100) :
  ∃ F' nb,acodeN E self nf lprred_0 (lst F 41) m=some (.normal,lst F' 41,m++nb)∧NumB m.length (F' 0) (m++nb) (x%256^32+x / 256^32*38):=by
 have q0:decide (((n:Nat):Int)>32)=true:=decide_eq_true (by omega)
 obtain ⟨F',nb,hr,hB⟩:=red2 (self:=self) (m:=m) (F:=upd (upd (upd F 5 (.slice (some ⟨b,0,none⟩) n L.length)) 6 (.int .i64 ((n:Nat):Int))) 7 (.bool true)) cm ca (by simp only [upd_at,Nat.reduceEqDiff,reduceIte,h0]) hN hn hn9
 simp only [lprred_0_eq,erred_0,erred_1,erred_10,erred_2,erred_3,erred_4,erred_5,erred_6,erred_7,erred_8,erred_9,lrred_0,lrred_1,lrred_2,lrred_3,lrred_4,lrred_5,lrred_6,lrred_7,lrred_8,lrred_9,lrred_10,grred_4_2,agd_none,gdAt,gdV_bool,gdV_undef,Tryd.f37,List.append_eq,List.cons_append,List.nil_append,apure_call1,apure_call2,apure_call3,bft,btf,acodeN,List.getElem?_toArray,List.getElem?_cons_zero,List.getElem?_cons_succ,aopsN,adrawT,cls,astep,aop,afloat,ev,nth_lst,get_lst,aput,setAt_lst,upd_at,init_zero,init_succ,init_nil,Nat.reduceLT,Nat.reduceEqDiff,reduceIte,len_N,abuiltin_app,Option.map_some,Option.map_none,orElse_some,apure_add,apure_eqlV,eqlVal_str,eqlVal_bool,eqlVal_ptr,eqlVal_slice,eqlVal_wide,eqlVal_int,allT,↓aop_eqlV,apure_neq,List.map_cons,List.map_nil,List.all_cons,List.all_nil,lit2,lit1,lit0,List.isEmpty_nil,bls,Bool.false_eq_true,if_true,if_false,List.length_map,beq_self_eq_true,uns,h0,lenV,gtr64',q0,sr2r,mk2r,hr]
 exact ⟨F',nb,rfl,hB⟩
theorem red_b {n:Nat} {v:Value} (h0:F 0=v) (hv:lenV v=some ((n:Nat):Int)) (hn:n≤32) :
  ∃ F',acodeN E self nf lprred_0 (lst F 41) m=some (.exit 0,lst F' 41,m)∧F' 0=v:=by
 have q0:decide (((n:Nat):Int)>32)=false:=decide_eq_false (by omega)
 simp only [lprred_0_eq,erred_0,erred_1,erred_10,erred_2,erred_3,erred_4,erred_5,erred_6,erred_7,erred_8,erred_9,lrred_0,lrred_1,lrred_2,lrred_3,lrred_4,lrred_5,lrred_6,lrred_7,lrred_8,lrred_9,lrred_10,grred_4_2,agd_none,gdAt,gdV_bool,gdV_undef,Tryd.f37,List.append_eq,List.cons_append,List.nil_append,apure_call1,apure_call2,apure_call3,bft,btf,acodeN,List.getElem?_toArray,List.getElem?_cons_zero,List.getElem?_cons_succ,aopsN,adrawT,cls,astep,aop,afloat,ev,nth_lst,get_lst,aput,setAt_lst,upd_at,init_zero,init_succ,init_nil,Nat.reduceLT,Nat.reduceEqDiff,reduceIte,len_N,abuiltin_app,Option.map_some,Option.map_none,orElse_some,apure_add,apure_eqlV,eqlVal_str,eqlVal_bool,eqlVal_ptr,eqlVal_slice,eqlVal_wide,eqlVal_int,allT,↓aop_eqlV,apure_neq,List.map_cons,List.map_nil,List.all_cons,List.all_nil,lit2,lit1,lit0,List.isEmpty_nil,bls,Bool.false_eq_true,if_true,if_false,List.length_map,beq_self_eq_true,uns,h0,hv,gtr64',q0]
 exact ⟨_,rfl,by simp only [upd_at,Nat.reduceEqDiff,reduceIte,h0]⟩
theorem red_c {x:Nat} {v:Value} (h0:F 0=v) (hN:NumS m v x) (hl:(dig x).length≤1000) (h3:F 3=.int .i64 (((dig x).length:Nat):Int)) :
  ∃ F',acodeN E self nf lprred_1 (lst F 41) m=some (.exit 2,lst F' 41,m)∧F' 0=v∧F' 3=F 3:=by
 by_cases hz:(dig x).length=0
 ·have q0:decide ((((dig x).length:Nat):Int)>0)=false:=decide_eq_false (by omega)
  simp only [lprred_1_eq,erred_0,erred_1,erred_10,erred_2,erred_3,erred_4,erred_5,erred_6,erred_7,erred_8,erred_9,lrred_0,lrred_1,lrred_2,lrred_3,lrred_4,lrred_5,lrred_6,lrred_7,lrred_8,lrred_9,lrred_10,grred_4_2,agd_none,gdAt,gdV_bool,gdV_undef,Tryd.f37,List.append_eq,List.cons_append,List.nil_append,apure_call1,apure_call2,apure_call3,bft,btf,acodeN,List.getElem?_toArray,List.getElem?_cons_zero,List.getElem?_cons_succ,aopsN,adrawT,cls,astep,aop,afloat,ev,nth_lst,get_lst,aput,setAt_lst,upd_at,init_zero,init_succ,init_nil,Nat.reduceLT,Nat.reduceEqDiff,reduceIte,len_N,abuiltin_app,Option.map_some,Option.map_none,orElse_some,apure_add,apure_eqlV,eqlVal_str,eqlVal_bool,eqlVal_ptr,eqlVal_slice,eqlVal_wide,eqlVal_int,allT,↓aop_eqlV,apure_neq,List.map_cons,List.map_nil,List.all_cons,List.all_nil,lit2,lit1,lit0,List.isEmpty_nil,bls,Bool.false_eq_true,if_true,if_false,List.length_map,beq_self_eq_true,uns,h0,h3,gtr64',q0]
  exact ⟨_,rfl,by simp only [upd_at,Nat.reduceEqDiff,reduceIte,h0],by simp only [upd_at,Nat.reduceEqDiff,reduceIte,h3]⟩
 ·have q0:decide ((((dig x).length:Nat):Int)>0)=true:=decide_eq_true (by omega)
  have e1:=wsub1 (a:=(dig x).length) (by omega) (by omega)
  rcases dig_last x with h9 | ⟨z,hz0,hz1⟩
  ·rw [h9] at hz; simp at hz
  obtain ⟨b,o,i1,c1⟩:=hN.a.2 _ z hz1
  have q1:(((z:Nat):Int)==0)=false:=by rw [beq_eq_false_iff_ne]; omega
  simp only [lprred_1_eq,erred_0,erred_1,erred_10,erred_2,erred_3,erred_4,erred_5,erred_6,erred_7,erred_8,erred_9,lrred_0,lrred_1,lrred_2,lrred_3,lrred_4,lrred_5,lrred_6,lrred_7,lrred_8,lrred_9,lrred_10,grred_4_2,agd_none,gdAt,gdV_bool,gdV_undef,Tryd.f37,List.append_eq,List.cons_append,List.nil_append,apure_call1,apure_call2,apure_call3,bft,btf,acodeN,List.getElem?_toArray,List.getElem?_cons_zero,List.getElem?_cons_succ,aopsN,adrawT,cls,astep,aop,afloat,ev,nth_lst,get_lst,aput,setAt_lst,upd_at,init_zero,init_succ,init_nil,Nat.reduceLT,Nat.reduceEqDiff,reduceIte,len_N,abuiltin_app,Option.map_some,Option.map_none,orElse_some,apure_add,apure_eqlV,eqlVal_str,eqlVal_bool,eqlVal_ptr,eqlVal_slice,eqlVal_wide,eqlVal_int,allT,↓aop_eqlV,apure_neq,List.map_cons,List.map_nil,List.all_cons,List.all_nil,lit2,lit1,lit0,List.isEmpty_nil,bls,Bool.false_eq_true,if_true,if_false,List.length_map,beq_self_eq_true,uns,h0,h3,gtr64',q0,sub64',e1,i1,load3,c1,eql64,q1]
  exact ⟨_,rfl,by simp only [upd_at,Nat.reduceEqDiff,reduceIte,h0],by simp only [upd_at,Nat.reduceEqDiff,reduceIte,h3]⟩
theorem red_6 {x:Nat} {v:Value} (h0:F 0=v) (hN:NumS m v x) (h3:F 3=.int .i64 (((dig x).length:Nat):Int)) :
  ∃ F',acodeN E self nf (.region 6 rrred_6 false) (lst F 41) m=some (.normal,lst F' 41,m)∧F' 0=v:=by
 rcases hN with ⟨rfl,rfl⟩ | ⟨b,ro,L,n,rfl,h1,h2,h4,hne⟩
 ·rw [dig_zero] at h3
  have h3:F 3=.int .i64 0:=h3
  simp only [erred_6,lrred_6,agd_none,gdAt,gdV_bool,gdV_undef,Tryd.f37,List.append_eq,List.cons_append,List.nil_append,apure_call1,apure_call2,apure_call3,bft,btf,acodeN,List.getElem?_toArray,List.getElem?_cons_zero,List.getElem?_cons_succ,aopsN,adrawT,cls,astep,aop,afloat,ev,nth_lst,get_lst,aput,setAt_lst,upd_at,init_zero,init_succ,init_nil,Nat.reduceLT,Nat.reduceEqDiff,reduceIte,len_N,abuiltin_app,Option.map_some,Option.map_none,orElse_some,apure_add,apure_eqlV,eqlVal_str,eqlVal_bool,eqlVal_ptr,eqlVal_slice,eqlVal_wide,eqlVal_int,allT,↓aop_eqlV,apure_neq,List.map_cons,List.map_nil,List.all_cons,List.all_nil,lit2,lit1,lit0,List.isEmpty_nil,bls,Bool.false_eq_true,if_true,if_false,List.length_map,beq_self_eq_true,uns,h0,h3,apure_sl,sl_nil]
  exact ⟨_,rfl,rfl⟩
 ·have hnl:(dig x).length=n:=by rw [←h2,List.length_take,Nat.min_eq_left h1]
  rw [hnl] at h3
  have s1:=slHi_27 (n:=n) h4 (List.length_pos_iff.2 hne) h1
  simp only [erred_6,lrred_6,agd_none,gdAt,gdV_bool,gdV_undef,Tryd.f37,List.append_eq,List.cons_append,List.nil_append,apure_call1,apure_call2,apure_call3,bft,btf,acodeN,List.getElem?_toArray,List.getElem?_cons_zero,List.getElem?_cons_succ,aopsN,adrawT,cls,astep,aop,afloat,ev,nth_lst,get_lst,aput,setAt_lst,upd_at,init_zero,init_succ,init_nil,Nat.reduceLT,Nat.reduceEqDiff,reduceIte,len_N,abuiltin_app,Option.map_some,Option.map_none,orElse_some,apure_add,apure_eqlV,eqlVal_str,eqlVal_bool,eqlVal_ptr,eqlVal_slice,eqlVal_wide,eqlVal_int,allT,↓aop_eqlV,apure_neq,List.map_cons,List.map_nil,List.all_cons,List.all_nil,lit2,lit1,lit0,List.isEmpty_nil,bls,Bool.false_eq_true,if_true,if_false,List.length_map,beq_self_eq_true,uns,h0,h3,s1]
  exact ⟨_,rfl,rfl⟩
theorem red_d {x y:Nat} {v w:Value} (cc:CCmp self) (cs:CSub self) (h0:F 0=v) (h4:F 4=w) (hv:NumA m v (dig x)) (hw:NumA m w (dig y)) (hlx:(dig x).length≤800) (hly:(dig y).length≤800) (hle:y≤x) :
  ∃ F' m',acodeN E self nf lprred_2 (lst F 41) m=some (.normal,lst F' 41,m')∧NumR m (F' 0) m' (x-y)∧F' 4=w:=by
 have e1:=cc m v w x y hv hw hlx hly
 obtain ⟨u,m',e2,r2⟩:=cs m v w x y hv hw hle hlx
 have q1:decide (cmpN x y≥0)=true:=decide_eq_true (by unfold cmpN; split<;>(try split)<;>omega)
 simp only [lprred_2_eq,erred_0,erred_1,erred_10,erred_2,erred_3,erred_4,erred_5,erred_6,erred_7,erred_8,erred_9,lrred_0,lrred_1,lrred_2,lrred_3,lrred_4,lrred_5,lrred_6,lrred_7,lrred_8,lrred_9,lrred_10,grred_4_2,agd_none,gdAt,gdV_bool,gdV_undef,Tryd.f37,List.append_eq,List.cons_append,List.nil_append,apure_call1,apure_call2,apure_call3,bft,btf,acodeN,List.getElem?_toArray,List.getElem?_cons_zero,List.getElem?_cons_succ,aopsN,adrawT,cls,astep,aop,afloat,ev,nth_lst,get_lst,aput,setAt_lst,upd_at,init_zero,init_succ,init_nil,Nat.reduceLT,Nat.reduceEqDiff,reduceIte,len_N,abuiltin_app,Option.map_some,Option.map_none,orElse_some,apure_add,apure_eqlV,eqlVal_str,eqlVal_bool,eqlVal_ptr,eqlVal_slice,eqlVal_wide,eqlVal_int,allT,↓aop_eqlV,apure_neq,List.map_cons,List.map_nil,List.all_cons,List.all_nil,lit2,lit1,lit0,List.isEmpty_nil,bls,Bool.false_eq_true,if_true,if_false,List.length_map,beq_self_eq_true,uns,h0,h4,callCmp5,e1,geq64,q1,callSubR,e2]
 exact ⟨_,_,rfl,by simp only [upd_at,Nat.reduceEqDiff,reduceIte]; exact r2,by simp only [upd_at,Nat.reduceEqDiff,reduceIte,h4]⟩
theorem red_e {x y:Nat} {v w:Value} (cc:CCmp self) (h0:F 0=v) (h4:F 4=w) (hv:NumA m v (dig x)) (hw:NumA m w (dig y)) (hlx:(dig x).length≤800) (hly:(dig y).length≤800) (hlt:x<y) :
  ∃ F',acodeN E self nf lprred_2 (lst F 41) m=some (.exit 4,lst F' 41,m)∧F' 0=v:=by
 have e1:=cc m v w x y hv hw hlx hly
 have q1:decide (cmpN x y≥0)=false:=decide_eq_false (by unfold cmpN; split<;>(try split)<;>omega)
 simp only [lprred_2_eq,erred_0,erred_1,erred_10,erred_2,erred_3,erred_4,erred_5,erred_6,erred_7,erred_8,erred_9,lrred_0,lrred_1,lrred_2,lrred_3,lrred_4,lrred_5,lrred_6,lrred_7,lrred_8,lrred_9,lrred_10,grred_4_2,agd_none,gdAt,gdV_bool,gdV_undef,Tryd.f37,List.append_eq,List.cons_append,List.nil_append,apure_call1,apure_call2,apure_call3,bft,btf,acodeN,List.getElem?_toArray,List.getElem?_cons_zero,List.getElem?_cons_succ,aopsN,adrawT,cls,astep,aop,afloat,ev,nth_lst,get_lst,aput,setAt_lst,upd_at,init_zero,init_succ,init_nil,Nat.reduceLT,Nat.reduceEqDiff,reduceIte,len_N,abuiltin_app,Option.map_some,Option.map_none,orElse_some,apure_add,apure_eqlV,eqlVal_str,eqlVal_bool,eqlVal_ptr,eqlVal_slice,eqlVal_wide,eqlVal_int,allT,↓aop_eqlV,apure_neq,List.map_cons,List.map_nil,List.all_cons,List.all_nil,lit2,lit1,lit0,List.isEmpty_nil,bls,Bool.false_eq_true,if_true,if_false,List.length_map,beq_self_eq_true,uns,h0,h4,callCmp5,e1,geq64,q1]
 exact ⟨_,rfl,by simp only [upd_at,Nat.reduceEqDiff,reduceIte,h0]⟩
end
end Go.Am.Seat
