import Derived.Test.YtcnhakfmnkegcaaDoorGrFieldParses11
set_option linter.unusedSimpArgs false
set_option linter.unusedVariables false
noncomputable section
set_option maxRecDepth 100000
namespace Go.Am.Seat
open Go.Proofs Go.Am
theorem pv_und {t:TypeId} {d:TypeDesc} (h:E.P.underlying t=some d):pv E.P (underlying t)=some d:=by
 unfold underlying
 rw [pv_bind (a:=E.P) rfl,h]
 rfl
theorem pv_eqInt (d:Nat) (a b:Int):pv E.P (Op.equalIn (d+1) 22 (.int .u64 a) (.int .u64 b))=some (a==b):=by
 unfold Op.equalIn
 rw [pv_bind (pv_und und22)]
 rfl
theorem pv_part (w:Nat→Nat) {j:Nat} (h:j<8):pv E.P (part 22 ⟨rowOf w⟩ (j*1))=some (.int .u64 ((w j:Nat):Int)):=by
 have ha:pv E.P (isAgg 22)=some false:=by kernel_rfl
 unfold part
 rw [pv_bind ha]
 have hg:(⟨rowOf w⟩:Array Value)[j*1]? = some (.int .u64 ((w j:Nat):Int)):=by
  rw [Nat.mul_one,List.getElem?_toArray,rowOf_get h]
 simp only [Bool.false_eq_true,if_false,hg]
 rfl
theorem pv_size:pv E.P (sizeOf 22)=some 1:=by kernel_rfl
def eqBody (u v:Nat→Nat) (i:Nat) (_s:Option Bool×Unit):Sem (ForInStep (Option Bool×Unit)):=do
 let a ←part 22 ⟨rowOf u⟩ (i*1)
 let b ←part 22 ⟨rowOf v⟩ (i*1)
 let c ←Op.equalIn 9999 22 a b
 if (!c)=true then pure (ForInStep.done (some false,())) else pure (ForInStep.yield (none,()))
theorem pv_body (u v:Nat→Nat) {i:Nat} (h:i<8) (x:Option Bool×Unit):pv E.P (eqBody u v i x)=some (if ((u i:Nat):Int)==((v i:Nat):Int) then ForInStep.yield (none,()) else ForInStep.done (some false,())):=by
 unfold eqBody
 rw [pv_bind (pv_part u h),pv_bind (pv_part v h),pv_bind (pv_eqInt 9998 _ _)]
 cases hq:(((u i:Nat):Int)==((v i:Nat):Int))<;>rfl
theorem pv_loop (u v:Nat→Nat):∀ l:List Nat,(∀ i,i∈l→i<8)→pv E.P (forIn l (none,()) (eqBody u v))=some (if l.all (fun j=>((u j:Nat):Int)==((v j:Nat):Int)) then (none,()) else (some false,()))
 | [],_=>rfl
 | a::l,h=>by
  rw [List.forIn_cons,pv_bind (pv_body u v (h a (by simp)) _),List.all_cons]
  cases hq:(((u a:Nat):Int)==((v a:Nat):Int)) with
  | true =>
   simp only [if_true,Bool.true_and]
   exact pv_loop u v l fun i hi=>h i (by simp [hi])
  | false=>rfl
theorem pv_equal (u v:Nat→Nat):pv E.P (Op.equal 24 (wide u) (wide v))=some ((List.range 8).all fun j=>((u j:Nat):Int)==((v j:Nat):Int)):=by
 unfold Op.equal Op.maxDepth
 rw [show (10000:Nat)=9999+1 from rfl]
 unfold Op.equalIn wide
 rw [pv_bind (pv_und und24)]
 simp only
 rw [pv_bind pv_size]
 simp only [Std.Legacy.Range.forIn_eq_forIn_range',Std.Legacy.Range.size,Nat.sub_zero,Nat.div_one,List.range'_succ,List.range'_zero,Nat.reduceAdd,Nat.reduceSub]
 have hl:=pv_loop u v [0,1,2,3,4,5,6,7] (by decide)
 show pv E.P (forIn [0,1,2,3,4,5,6,7] (none,()) (eqBody u v) >>= _)=_
 rw [pv_bind hl]
 rw [show List.range 8=[0,1,2,3,4,5,6,7] from rfl]
 cases hq:[0,1,2,3,4,5,6,7].all (fun j=>((u j:Nat):Int)==((v j:Nat):Int))<;>rfl
def eqlVal (P:Program) (s:TypeId) (x y:Operand) (u v:Value):Option Value :=
 if lit2 u&&(lit2 v&&true) then
  match pv P ((eqGuard .eql s x y u v >>= fun _=>binOp .eql s u v) >>= fun r=>pure (Next.value r)) with
  | some (.value r)=>if lit2 r then some r else none
  | _=>none
 else none
theorem apure_eqlV {P:Program} {T:List Value} {d:Option Tmp} {s t ty:TypeId} {x y:Operand} {pos:String} {af:Array Edge} {g:Option (Nat×Bool)} :
  apure P T { dst:=d,op:=.binOp .eql s x y t,type:=ty,pos:=pos,after:=af,guard:=g }=eqlVal P s x y (ev T x) (ev T y):=by
 unfold apure eqlVal
 simp only [Op.operands,List.all_cons,List.all_nil,execOp]
 rfl
theorem eqlVal_str {P:Program} {s:TypeId} {x y:Operand} {a c:ByteArray}:eqlVal P s x y (.string a) (.string c)=some (.bool (a.toList==c.toList)):=rfl
theorem eqlVal_bool {x y:Operand} {p q:Bool}:eqlVal E.P 4 x y (.bool p) (.bool q)=some (.bool (p==q)):=rfl
theorem eqlVal_ptr {P:Program} {s:TypeId} {x y:Operand} {a:Addr} {v:Value}:eqlVal P s x y (.pointer (some a)) v=none:=rfl
theorem eqlVal_slice {P:Program} {s:TypeId} {x y:Operand} {a:Addr} {n c:Nat} {v:Value}:eqlVal P s x y (.slice (some a) n c) v=none:=rfl
theorem eqlVal_wide {x y:Operand} {u v:Nat→Nat}:eqlVal E.P 24 x y (wide u) (wide v)=some (.bool ((List.range 8).all fun j=>((u j:Nat):Int)==((v j:Nat):Int))):=by
 have hg:pv E.P (eqGuard .eql 24 x y (wide u) (wide v))=some ():=by
  have hq:E.P.eqGuardType E.P.depth 24=false:=by kernel_rfl
  unfold eqGuard wide
  simp only [Bool.not_true,Bool.false_eq_true,if_false]
  rw [pv_bind (a:=E.P) rfl,pv_bind (a:=E.P) rfl]
  rw [hq]
  rfl
 have hb:pv E.P (binOp .eql 24 (wide u) (wide v))=some (.bool ((List.range 8).all fun j=>((u j:Nat):Int)==((v j:Nat):Int))):=by
  show pv E.P (Op.equal 24 (wide u) (wide v) >>= fun c=>pure (Value.bool c))=_
  rw [pv_bind (pv_equal u v)]
  rfl
 unfold eqlVal
 rw [wide_lit,wide_lit]
 simp only [Bool.and_self,if_true]
 rw [pv_bind (a:=Value.bool ((List.range 8).all fun j=>((u j:Nat):Int)==((v j:Nat):Int))) (by rw [pv_bind hg,hb])]
 rfl
theorem eqlVal_int {P:Program} {s:TypeId} {x y:Operand} {k:IntKind} {a b:Int}:eqlVal P s x y (.int k a) (.int k b)=some (.bool (a==b)):=by
 unfold eqlVal
 simp only [lit2,lit1,lit0,Bool.and_self,if_true,eqGuard,binOp,ne_eq,not_true,if_false,Op.intCmp]
 rfl
theorem allT:((List.range 8).all fun _=>true)=true:=rfl
theorem aop_eqlV {P:Program} {T:List Value} {m:Mem} {d:Option Tmp} {s t ty:TypeId} {x y:Operand} {pos:String} {af:Array Edge} {g:Option (Nat×Bool)} :
  aop P T m { dst:=d,op:=.binOp .eql s x y t,type:=ty,pos:=pos,after:=af,guard:=g }=(eqlVal P s x y (ev T x) (ev T y)).map (·,m):=by
 have hp:=apure_eqlV (P:=P) (T:=T) (d:=d) (s:=s) (t:=t) (ty:=ty) (x:=x) (y:=y) (pos:=pos) (af:=af) (g:=g)
 unfold aop
 simp only
 cases hx:ev T x with
 | int k a =>
  cases hy:ev T y with
  | int k' b =>
   simp only
   by_cases hk:k=k'
   ·subst hk
    rw [eqlVal_int]
    have:abin .eql k a k b=some (.bool (a==b)):=by unfold abin; simp only [if_true]
    rw [this]
    rfl
   ·have:abin .eql k a k' b=none:=by unfold abin; simp only [hk,if_false]
    rw [this]
    simp only
    rw [hp,hx,hy]
  | _=>simp only; rw [hp,hx,hy]
 | _=>simp only; rw [hp,hx]
end Go.Am.Seat
