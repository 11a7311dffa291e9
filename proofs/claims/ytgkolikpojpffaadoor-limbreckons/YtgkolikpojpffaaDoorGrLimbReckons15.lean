/-
  Texts of my own, put together: E3, A4, E4, E5, E6, E7, E8.
-/
import Derived.Test.YtgkolikpojpffaaDoorGrLimbReckons14
set_option linter.unusedSimpArgs false
set_option linter.unusedVariables false
set_option maxRecDepth 100000
namespace Go.Am.Seat
open Go.Proofs Go.Am Go.Am.Num
set_option maxHeartbeats 4000000
-- ntmps 111
-- ntmps 86
theorem callMl : callableB E.P 83 = true := by kernel_rfl
section
variable {self : Self} {nf : Nat} {m : Mem} {x0 x1 x2 x3 n a b c d : Nat}
end
end Go.Am.Seat
namespace Go.Am.Num
set_option maxHeartbeats 4000000
end Go.Am.Num
namespace Go.Am.Seat
open Go.Proofs Go.Am Go.Am.Num
set_option maxHeartbeats 4000000
theorem cellS (m : Mem) (b o : Nat) : cellAt (m.map sealed) b o = cellAt m b o := by
  unfold cellAt
  rw [look_sealed]
  cases look m b <;> rfl
theorem cellK {m : Mem} {q : Nat} {ro : Bool} {e : TypeId} {k : IntKind} {n j : Nat} {w : Nat -> Nat} (h : m[q]? = some (.row ro e (rowK k n w))) (hj : j < n) : cellAt m q j = some (.int k ((w j : Nat) : Int)) := by
  unfold cellAt
  rw [look_row h]
  exact rowK_get hj
section
variable {self : Self} {nf : Nat} {M : Mem} {F : Nat -> Value} {X Y S i p q : Nat}
end
set_option maxHeartbeats 4000000
section
variable {self : Self} {nf : Nat} {M : Mem} {F : Nat -> Value} {X Y i p q : Nat}
end
set_option maxHeartbeats 4000000
section
variable {e : TypeId} {k : IntKind}
theorem pv_eqIntG (hu : E.P.underlying e = some (.int k)) (d : Nat) (a b : Int) : pv E.P (Op.equalIn (d + 1) e (.int k a) (.int k b)) = some (a == b) := by
  unfold Op.equalIn
  rw [pv_bind (pv_und hu)]
  simp
  rfl
theorem pv_partG (ha : pv E.P (isAgg e) = some false) {n : Nat} (w : Nat -> Nat) {j : Nat} (h : j < n) : pv E.P (part e ⟨rowK k n w⟩ j) = some (.int k ((w j : Nat) : Int)) := by
  unfold part
  rw [pv_bind ha]
  have hg : (⟨rowK k n w⟩ : Array Value)[j]? = some (.int k ((w j : Nat) : Int)) := by
    rw [List.getElem?_toArray, rowK_get h]
  simp only [Bool.false_eq_true, if_false, hg]
  rfl
def eqBodyG (e : TypeId) (k : IntKind) (n : Nat) (u v : Nat -> Nat) (i : Nat) (_s : Option Bool × Unit) : Sem (ForInStep (Option Bool × Unit)) := do
  let a ← part e ⟨rowK k n u⟩ (i * 1)
  let b ← part e ⟨rowK k n v⟩ (i * 1)
  let c ← Op.equalIn 9999 e a b
  if (!c) = true then pure (ForInStep.done (some false, ())) else pure (ForInStep.yield (none, ()))
theorem pv_bodyG (hu : E.P.underlying e = some (.int k)) (ha : pv E.P (isAgg e) = some false) {n : Nat} (u v : Nat -> Nat) {i : Nat} (h : i < n) (x : Option Bool × Unit) : pv E.P (eqBodyG e k n u v i x) = some (if ((u i : Nat) : Int) == ((v i : Nat) : Int) then ForInStep.yield (none, ()) else ForInStep.done (some false, ())) := by
  unfold eqBodyG
  rw [Nat.mul_one, pv_bind (pv_partG ha u h), pv_bind (pv_partG ha v h), pv_bind (pv_eqIntG hu 9998 _ _)]
  cases hq : (((u i : Nat) : Int) == ((v i : Nat) : Int)) <;> rfl
theorem pv_loopG (hu : E.P.underlying e = some (.int k)) (ha : pv E.P (isAgg e) = some false) {n : Nat} (u v : Nat -> Nat) : ∀ l : List Nat, (∀ i, i ∈ l -> i < n) -> pv E.P (forIn l (none, ()) (eqBodyG e k n u v)) = some (if l.all (fun j => ((u j : Nat) : Int) == ((v j : Nat) : Int)) then (none, ()) else (some false, ()))
  | [], _ => rfl
  | a :: l, h => by
    rw [List.forIn_cons, pv_bind (pv_bodyG hu ha u v (h a (by simp)) _), List.all_cons]
    cases hq : (((u a : Nat) : Int) == ((v a : Nat) : Int)) with
    | true =>
      simp only [if_true, Bool.true_and]
      exact pv_loopG hu ha u v l fun i hi => h i (by simp [hi])
    | false => rfl
theorem pv_equalG {t : TypeId} {n : Nat} (ht : ArrT t n e k) (ha : pv E.P (isAgg e) = some false) (hs : pv E.P (sizeOf e) = some 1) (u v : Nat -> Nat) : pv E.P (Op.equal t (arrK k n u) (arrK k n v)) = some ((List.range n).all fun j => ((u j : Nat) : Int) == ((v j : Nat) : Int)) := by
  unfold Op.equal Op.maxDepth
  rw [show (10000 : Nat) = 9999 + 1 from rfl]
  unfold Op.equalIn arrK
  rw [pv_bind (pv_und ht.und)]
  simp only
  rw [pv_bind hs]
  simp only [Std.Legacy.Range.forIn_eq_forIn_range', Std.Legacy.Range.size, Nat.sub_zero, Nat.add_sub_cancel, Nat.div_one]
  have hl := pv_loopG ht.unde ha u v (List.range n) (fun i hi => List.mem_range.1 hi)
  rw [List.range_eq_range'] at hl ⊢
  show pv E.P (forIn (List.range' 0 n) (none, ()) (eqBodyG e k n u v) >>= _) = _
  rw [pv_bind hl]
  cases hq : (List.range' 0 n).all (fun j => ((u j : Nat) : Int) == ((v j : Nat) : Int)) <;> rfl
theorem eqlVal_arr {t : TypeId} {n : Nat} (ht : ArrT t n e k) (ha : pv E.P (isAgg e) = some false) (hs : pv E.P (sizeOf e) = some 1) (hq : E.P.eqGuardType E.P.depth t = false) {x y : Operand} (u v : Nat -> Nat) :
    eqlVal E.P t x y (arrK k n u) (arrK k n v) = some (.bool ((List.range n).all fun j => ((u j : Nat) : Int) == ((v j : Nat) : Int))) := by
  have hg : pv E.P (eqGuard .eql t x y (arrK k n u) (arrK k n v)) = some () := by
    unfold eqGuard arrK
    simp only [Bool.not_true, Bool.false_eq_true, if_false]
    rw [pv_bind (a := E.P) rfl, pv_bind (a := E.P) rfl]
    rw [hq]
    rfl
  have hb : pv E.P (binOp .eql t (arrK k n u) (arrK k n v)) = some (.bool ((List.range n).all fun j => ((u j : Nat) : Int) == ((v j : Nat) : Int))) := by
    show pv E.P (Op.equal t (arrK k n u) (arrK k n v) >>= fun c => pure (Value.bool c)) = _
    rw [pv_bind (pv_equalG ht ha hs u v)]
    rfl
  unfold eqlVal
  rw [arrK_lit, arrK_lit]
  simp only [Bool.and_self, if_true]
  rw [pv_bind (a := Value.bool ((List.range n).all fun j => ((u j : Nat) : Int) == ((v j : Nat) : Int))) (by rw [pv_bind hg, hb])]
  rfl
end
noncomputable def neqVal (P : Program) (s : TypeId) (x y : Operand) (u v : Value) : Option Value :=
  if lit2 u && (lit2 v && true) then
    match pv P ((eqGuard .neq s x y u v >>= fun _ => binOp .neq s u v) >>= fun r => pure (Next.value r)) with
    | some (.value r) => if lit2 r then some r else none
    | _ => none
  else none
theorem apure_neqV {P : Program} {T : List Value} {d : Option Tmp} {s t ty : TypeId} {x y : Operand} {pos : String} {af : Array Edge} {g : Option (Nat × Bool)} :
    apure P T { dst := d, op := .binOp .neq s x y t, type := ty, pos := pos, after := af, guard := g } = neqVal P s x y (ev T x) (ev T y) := by
  unfold apure neqVal
  simp only [Op.operands, List.all_cons, List.all_nil, execOp]
  rfl
theorem a46 : ArrT 54 32 5 .u8 := ⟨Tryd.underlying54, und5, info_of (by kernel_rfl), info_of (by kernel_rfl)⟩
set_option maxHeartbeats 4000000
-- ntmps 46
-- ntmps 44
-- ntmps 9
-- ntmps 6
-- ntmps 7
-- ntmps 6
-- ntmps 8
-- ntmps 8
def TabP (m : Mem) : Prop := m[0]? = some (.tab 24 (int64s primeW))
section
variable {self : Self} {nf : Nat} {m : Mem} {X Y : Nat}
end
set_option maxHeartbeats 4000000
def AnsT (self : Self) (f : FuncId) (args : List Value) (v : Value) : Prop := ∀ M : Mem, TabP M -> ainv E self f args M = some (v, M)
theorem Ans.t {self : Self} {f : FuncId} {args : List Value} {v : Value} (h : Ans self f args v) : AnsT self f args v := fun M _ => h M
theorem TabP.app {m x : Mem} (h : TabP m) : TabP (m ++ x) := by
  unfold TabP at *
  rw [List.getElem?_append_left (List.getElem?_eq_some_iff.1 h).1]
  exact h
theorem TabP.sealed {m : Mem} (h : TabP m) : TabP (m.map sealed) := by
  unfold TabP at *
  rw [List.getElem?_map, h]
  rfl
theorem TabP.set {m : Mem} (h : TabP m) {k : Nat} (hk : k ≠ 0) (b : Blk) : TabP (m.set k b) := by
  unfold TabP at *
  rw [List.getElem?_set_ne hk]
  exact h
theorem TabP.only {m : Mem} (h : TabP m) : TabP ((m.take E.G).map onlyTab) := by
  unfold TabP at *
  have hG : E.G = 7 := rfl
  rw [List.getElem?_map, List.getElem?_take_of_lt (by rw [hG]; decide), h]
  rfl
theorem sub64C (x y c : Nat) (m : Mem) : aext .sub64 [.int .u64 (x : Nat), .int .u64 (y : Nat), .int .u64 (c : Nat)] m = if c ≤ 1 then some (pair64 ((x + 18446744073709551616 - y - c) % 18446744073709551616) (if x < y + c then 1 else 0), m) else none := by
  simp only [aext, Int.toNat_natCast]
section
variable {self : Self} {nf : Nat} {m : Mem} {X Y : Nat}
end
end Go.Am.Seat
