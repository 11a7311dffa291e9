/-
  The abstract machine: a region whose order is drawn (own work; nothing of a dump).
-/
import Derived.Test.YtfgincdpgdlfnaaDoorGrLimbTexts4
import Derived.StillTail
set_option linter.unusedSimpArgs false
set_option linter.unusedVariables false
namespace Go.Am
noncomputable section
def addrT (P : Program) : Nat → TypeId → Bool
  | 0, _ => true
  | n + 1, t => match P.underlying t with
    | some .bool => false
    | some (.int _) => false
    | some .string => false
    | some (.tuple ts) => ts.toList.any (addrT P n)
    | some (.array _ e) => addrT P n e
    | some (.struct fs) => fs.toList.any fun f => addrT P n f.type
    | _ => true
def dynId : FuncId := 1000003
def cls (P : Program) (wr : FuncId → Bool) (o : Oper) : Nat :=
  match o.op with
  | .move _ => 0
  | .assign _ => 0
  | .pick .. => 0
  | .extract .. => 0
  | .binOp .. => 0
  | .unOp .. => 0
  | .index .. => 0
  | .indexAddr .. => 0
  | .fieldAddr .. => 0
  | .nilCheck _ => 0
  | .build .. => 0
  | .load .. => 1
  | .slice .. => 1
  | .convert src dst _ => match P.underlying src, P.underlying dst with
    | some .string, some (.slice _) => 2
    | some (.int _), some (.int _) => 0
    | _, _ => 1
  | .call c => match c.callee with
    | .builtin .len => 0
    | .builtin .min => 0
    | .builtin .max => 0
    | .builtin .cap => 0
    | .builtin .unsafeSliceData => 1
    | .builtin _ => 2
    | .value (.func g) => if wr g || addrT P 4 o.type then 2 else 1
    | .value _ => if wr dynId || addrT P 4 o.type then 2 else 1
    | _ => 2
  | .makeFunc .. => 0
  | _ => 2
def afloat (P : Program) (T : List Value) (o : Oper) : Option Value :=
  match o.op with
  | .move x => some (ev T x)
  | .assign x => some (ev T x)
  | .pick c a b => match ev T c with
    | .bool t => some (if t then ev T a else ev T b)
    | _ => none
  | .extract x i => aextract (ev T x) i
  | .indexAddr t x ix => aindexAddr P t (ev T x) (ev T ix)
  | .fieldAddr s x f => afieldAddr P s (ev T x) f
  | .binOp op t x y _ => match ev T x with
    | .int k a => match ev T y with
      | .int k' b => match abin op k a k' b with
        | some v => some v
        | none => apure P T o
      | _ => apure P T o
    | _ => match apure P T o with
      | some v => some v
      | none => match op with
        | .eql => match aeq P t (ev T x) (ev T y) with
          | some b => some (.bool b)
          | none => none
        | .neq => match aeq P t (ev T x) (ev T y) with
          | some b => some (.bool !b)
          | none => none
        | _ => none
  | .unOp .not _ x => match ev T x with
    | .bool b => some (.bool !b)
    | _ => apure P T o
  | .convert src dst x => match aconv P src dst (ev T x) with
    | some v => some v
    | none => apure P T o
  | .index t x ix => match aindex P t (ev T x) (ev T ix) with
    | some v => some v
    | none => apure P T o
  | .nilCheck x => match ev T x with
    | .pointer (some a) => some (.pointer (some a))
    | .func (.func g) a b => some (.func (.func g) a b)
    | _ => apure P T o
  | .call c => match c.callee, c.args.toList, c.argTypes.toList with
    | .builtin .len, [x], [t] => match alen P t (ev T x) with
      | some v => some v
      | none => apure P T o
    | _, _, _ => apure P T o
  | .makeFunc fn first captured => some (.func fn ⟨first.toList.map (ev T)⟩ ⟨captured.toList.map (ev T)⟩)
  | .build t parts => match apure P T o with
    | some v => some v
    | none => abuild P t (parts.toList.map fun p => (p.1, ev T p.2))
  | _ => apure P T o
theorem apure_run {P : Program} {ρ : Ren} {w : World} {T : List Value} {a : Act} {o : Oper} (hev : ∀ x, x ∈ o.op.operands.toList → VR ρ (ev T x) (a.eval x)) (hok : okOp P o.op = true) {v : Value}
    (h : apure P T o = some v) : ∃ v', (execOp a.eval o).run P w = .ok (.value v') w ∧ VR ρ v v' := by
  unfold apure at h
  split at h
  · rename_i hall
    split at h
    · rename_i v0 hv
      split at h
      · rename_i hlit
        cases h
        simp only [okOp, Bool.and_eq_true] at hok
        have hsel : ∀ cs b, o.op ≠ .select cs b := by
          intro cs b e
          rw [e] at hok
          simp [isSelect] at hok
        have heq : execOp a.eval o = execOp (ev T) o := execOp_congr o hsel fun x hx => by
          have hx' : x ∈ o.op.operands.toList := by simpa using hx
          exact (hev x hx').eq_of_lit2 ((List.all_eq_true.1 hall) x hx')
        exact ⟨v, by rw [heq]; exact pv_run hv w, .lit hlit⟩
      · cases h
    · cases h
  · cases h
theorem afloat_sound {P : Program} {ρ : Ren} {w : World} {T : List Value} {a : Act} {o : Oper} (hev : ∀ x, x ∈ o.op.operands.toList → VR ρ (ev T x) (a.eval x)) (hok : okOp P o.op = true) {v : Value}
    (h : afloat P T o = some v) : ∃ v', (execOp a.eval o).run P w = .ok (.value v') w ∧ VR ρ v v' := by
  unfold afloat at h
  split at h
  · rename_i x ho
    cases h
    exact ⟨_, by simp only [execOp, ho]; rfl, hev x (by simp [ho, Op.operands])⟩
  · rename_i x ho
    cases h
    exact ⟨_, by simp only [execOp, ho]; rfl, hev x (by simp [ho, Op.operands])⟩
  · rename_i c x y ho
    split at h
    · rename_i t hc
      cases h
      have h0 := hev c (by simp [ho, Op.operands])
      rw [hc] at h0
      have h0' : a.eval c = .bool t := h0.eq_of_lit2 rfl
      refine ⟨if t then a.eval x else a.eval y, by simp [execOp, ho, h0', asBool], ?_⟩
      cases t
      · exact hev y (by simp [ho, Op.operands])
      · exact hev x (by simp [ho, Op.operands])
    · cases h
  · rename_i x i ho
    obtain ⟨u', hr, hv⟩ := aextract_sound (P := P) (w := w) (hev x (by simp [ho, Op.operands])) h
    exact ⟨u', by simp [execOp, ho, hr], hv⟩
  · rename_i t x ix ho
    obtain ⟨u', hr, hv⟩ := aindexAddr_sound (w := w) (hev x (by simp [ho, Op.operands])) (hev ix (by simp [ho, Op.operands])) h
    exact ⟨u', by simp [execOp, ho, hr], hv⟩
  · rename_i s x f ho
    obtain ⟨u', hr, hv⟩ := afieldAddr_sound (w := w) (hev x (by simp [ho, Op.operands])) h
    exact ⟨u', by simp [execOp, ho, hr], hv⟩
  · rename_i op t x y t' ho
    split at h
    · rename_i k a0 hx
      split at h
      · rename_i k' b0 hy
        split at h
        · rename_i v0 hb
          cases h
          have h1 := hev x (by simp [ho, Op.operands])
          have h2 := hev y (by simp [ho, Op.operands])
          rw [hx] at h1
          rw [hy] at h2
          have e1 := vr_int_inv h1
          have e2 := vr_int_inv h2
          refine ⟨v, ?_, .lit (abin_lit hb)⟩
          have hgd : (eqGuard op t x y (.int k a0) (.int k' b0)).run P w = .ok () w := by
            unfold eqGuard
            cases op <;> simp
          simp [execOp, ho, e1, e2, hgd, abin_sound t hb]
        · exact apure_run hev hok h
      · exact apure_run hev hok h
    · split at h
      · rename_i v0 hv0
        cases h
        exact apure_run hev hok hv0
      · have h1 := hev x (by simp [ho, Op.operands])
        have h2 := hev y (by simp [ho, Op.operands])
        split at h
        · split at h
          · rename_i b hb
            cases h
            have he := aeq_sound (w := w) h1 h2 hb
            have hbin : (do eqGuard .eql t x y (a.eval x) (a.eval y); binOp .eql t (a.eval x) (a.eval y) : Sem Value).run P w = .ok (.bool b) w := by
              rcases aeq_shape h1 h2 hb with ⟨p, q, e1, e2⟩ | ⟨p, n, k, q, n', k', e1, e2⟩
              · rw [e1, e2] at he ⊢
                simp [eqGuard, binOp, he]
              · rw [e1, e2] at he ⊢
                simp [eqGuard, binOp, he]
            exact ⟨.bool b, by simp only [execOp, ho]; rw [Sem.run_bind, hbin]; rfl, .lit rfl⟩
          · cases h
        · split at h
          · rename_i b hb
            cases h
            have he := aeq_sound (w := w) h1 h2 hb
            have hbin : (do eqGuard .neq t x y (a.eval x) (a.eval y); binOp .neq t (a.eval x) (a.eval y) : Sem Value).run P w = .ok (.bool !b) w := by
              rcases aeq_shape h1 h2 hb with ⟨p, q, e1, e2⟩ | ⟨p, n, k, q, n', k', e1, e2⟩
              · rw [e1, e2] at he ⊢
                simp [eqGuard, binOp, he]
              · rw [e1, e2] at he ⊢
                simp [eqGuard, binOp, he]
            exact ⟨.bool !b, by simp only [execOp, ho]; rw [Sem.run_bind, hbin]; rfl, .lit rfl⟩
          · cases h
        · cases h
  · rename_i t x ho
    split at h
    · rename_i b hx
      cases h
      have h1 := hev x (by simp [ho, Op.operands])
      rw [hx] at h1
      have e1 : a.eval x = .bool b := h1.eq_of_lit2 rfl
      exact ⟨.bool !b, by simp [execOp, ho, e1, Op.unary], .lit rfl⟩
    · exact apure_run hev hok h
  · rename_i src dst x ho
    split at h
    · rename_i v0 hc
      cases h
      obtain ⟨hr, hl⟩ := aconv_sound (w := w) (hev x (by simp [ho, Op.operands])) hc
      exact ⟨v, by simp [execOp, ho, hr], .lit hl⟩
    · exact apure_run hev hok h
  · rename_i t x ix ho
    split at h
    · rename_i v0 hc
      cases h
      obtain ⟨u', hr, hv⟩ := aindex_sound (P := P) (w := w) (hev x (by simp [ho, Op.operands])) (hev ix (by simp [ho, Op.operands])) hc
      exact ⟨u', by simp [execOp, ho, hr], hv⟩
    · exact apure_run hev hok h
  · rename_i x ho
    split at h
    · rename_i ad hx
      cases h
      have h0 := hev x (by simp [ho, Op.operands])
      rw [hx] at h0
      obtain ⟨b, off, y, rfl, hb, e1⟩ := vr_ptr_some h0
      refine ⟨_, ?_, .ptr hb⟩
      simp only [execOp, ho, e1]
      rfl
    · rename_i g fa fb hx
      cases h
      have h0 := hev x (by simp [ho, Op.operands])
      rw [hx] at h0
      obtain ⟨a', b', e1, hn, hi, hk, hj⟩ := vr_func_inv (a := fa.toList) (b := fb.toList) h0
      refine ⟨_, ?_, .func hn hi hk hj⟩
      simp only [execOp, ho, e1]
      rfl
    · exact apure_run hev hok h
  · rename_i c ho
    split at h
    · rename_i x t hc ha hts
      split at h
      · rename_i v0 hlen
        cases h
        obtain ⟨hr, hl⟩ := alen_sound (P := P) (w := w) (ty := o.type) (hev x (by simp [ho, Op.operands, Call.operands, hc]; have : x ∈ c.args.toList := by rw [ha]; simp
                                                                                  simpa using this)) hlen
        have e1 : c.args = #[x] := by rw [← ha]
        have e2 : c.argTypes = #[t] := by rw [← hts]
        exact ⟨v, builtin_run ho hc (fun _ _ _ _ => rfl) (by rw [e1, e2]; simpa using hr), .lit hl⟩
      · exact apure_run hev hok h
    · exact apure_run hev hok h
  · rename_i fn first captured ho
    cases h
    obtain ⟨hr, hv⟩ := makeFunc_sound (P := P) (w := w) ho hev
    exact ⟨_, hr, hv⟩
  · rename_i t parts ho
    split at h
    · rename_i v0 h9
      cases h
      exact apure_run hev hok h9
    · exact build_sound ho hev h
  · exact apure_run hev hok h
def loadBlk (T : List Value) (o : Oper) : List Nat :=
  match o.op with
  | .load _ x => match ev T x with
    | .pointer (some a) => [a.block]
    | _ => []
  | _ => []
def sparesB (E : Env) (T : List Value) (lb : List Nat) (o : Oper) : Bool :=
  match o.op with
  | .store _ x _ => match ev T x with
    | .pointer (some a) => !lb.contains a.block
    | _ => false
  | .alloc _ => true
  | .box .. => true
  | .buildSlice .. => true
  | .makeSlice .. => true
  | .convert .. => true
  | .call c => match c.callee with
    | .value f => match ev T f with
      | .func (.func g) _ _ => !E.wr g
      | _ => false
    | _ => false
  | _ => false
def capsLit : Value → Bool
  | .func _ a b => a.toList.all lit2 && b.toList.all lit2
  | _ => true
def laterOk (E : Env) (T : List Value) (m : Mem) (o : Oper) (v : Value) : Bool :=
  match o.op with
  | .load .. => true
  | .call c => match c.callee with
    | .value f => capsLit (ev T f) && ((c.args.toList.map (ev T)).all lit2 && (lit2 v && decide (E.G ≤ m.length)))
    | _ => false
  | _ => false
def isW (P : Program) (wr : FuncId → Bool) (ops : Array Oper) (j : Nat) : Bool := match ops[j]? with
  | some o => cls P wr o == 2
  | none => false
def chainB0 (ops : Array Oper) : Nat → Nat → Nat → Bool
  | 0, i, j => Region.waitsFor .any ops i j
  | d + 1, i, j => Region.waitsFor .any ops i j || (List.range i).any fun k => decide (j < k) && (Region.waitsFor .any ops i k && chainB0 ops d k j)
def backs (ops : Array Oper) : Nat → List Nat → List Nat
  | 0, s => s
  | j + 1, s => backs ops j (if s.any (fun k => Region.waitsFor .any ops k j) then j :: s else s)
def chainB (ops : Array Oper) (d i j : Nat) : Bool := chainB0 ops d i j || (decide (j < i) && (backs ops i [i]).contains j)
def behindB (P : Program) (wr : FuncId → Bool) (ops : Array Oper) (i j : Nat) : Bool :=
  chainB ops 4 i j || (List.range i).any fun k => decide (j < k) && (isW P wr ops k && chainB ops 4 i k)
def aheadB (P : Program) (wr : FuncId → Bool) (ops : Array Oper) (i j : Nat) : Bool :=
  chainB ops 4 j i || (List.range j).any fun k => decide (i < k) && (isW P wr ops k && chainB ops 4 k i)
def looseB (P : Program) (wr : FuncId → Bool) (ops : Array Oper) (i : Nat) : Bool :=
  (List.range ops.size).any fun j => decide (i < j) && (isW P wr ops j && !aheadB P wr ops i j)
def earlyB (P : Program) (wr : FuncId → Bool) (ops : Array Oper) (i : Nat) : Bool :=
  (List.range i).any fun j => isW P wr ops j && !behindB P wr ops i j
def isLoad (o : Oper) : Bool := match o.op with
  | .load .. => true
  | _ => false
def makerS (wr : FuncId → Bool) (o : Oper) : Bool := match o.op with
  | .alloc _ => true
  | .box .. => true
  | .buildSlice .. => true
  | .makeSlice .. => true
  | .convert .. => true
  | .call c => match c.callee with
    | .value (.func g) => !wr g
    | _ => false
  | _ => false
def makersB (P : Program) (wr : FuncId → Bool) (ops : Array Oper) (i : Nat) : Bool :=
  (List.range i).all fun j => !isW P wr ops j || match ops[j]? with
    | some o => makerS wr o
    | none => false
def belowB (T : List Value) (B : Nat) (o : Oper) : Bool := match o.op with
  | .load _ x => match ev T x with
    | .pointer (some a) => decide (a.block < B)
    | _ => false
  | _ => false
def isCall (o : Oper) : Bool := match o.op with
  | .call _ => true
  | _ => false
def earlyOk (E : Env) (T : List Value) (B : Nat) (m : Mem) (o : Oper) (v : Value) : Bool := belowB T B o || (isCall o && (decide (E.G ≤ B) && laterOk E T m o v))
def liveB (P : Program) (wr : FuncId → Bool) (ops : Array Oper) (lb : List (Nat × Nat)) (j : Nat) : List Nat := (lb.filter fun p => !aheadB P wr ops p.1 j).map (·.2)
def loadAt (T : List Value) (o : Oper) (i : Nat) : List (Nat × Nat) := (loadBlk T o).map fun b => (i, b)
def adrawL (E : Env) (self : Self) (ops : Array Oper) (B : Nat) : List Oper → Nat → List Value → Mem → List (Nat × Nat) → Bool → Option (List Value × Mem)
  | [], _, T, m, _, _ => some (T, m)
  | o :: l, i, T, m, lb, ls => match agd ops T o with
    | some true => if okOp E.P o.op then match cls E.P E.wr o with
        | 0 => match afloat E.P T o with
          | some v => match E.strict with
            | true => forceV v fun v => adrawL E self ops B l (i + 1) (aput T o.dst v) m lb ls
            | false => adrawL E self ops B l (i + 1) (aput T o.dst v) m lb ls
          | none => none
        | 1 => match astep E self T (m.map sealed) o with
          | some (v, m1) => if earlyOk E T B m o v || !earlyB E.P E.wr ops i then if m1.length = m.length then match looseB E.P E.wr ops i with
              | true => if laterOk E T m o v then match E.strict with
                  | true => forceV v fun v => adrawL E self ops B l (i + 1) (aput T o.dst v) m (loadAt T o i ++ lb) true
                  | false => adrawL E self ops B l (i + 1) (aput T o.dst v) m (loadAt T o i ++ lb) true
                else none
              | false => match E.strict with
                | true => forceV v fun v => adrawL E self ops B l (i + 1) (aput T o.dst v) m lb ls
                | false => adrawL E self ops B l (i + 1) (aput T o.dst v) m lb ls
            else none
            else none
          | none => none
        | _ => if !ls || sparesB E T (liveB E.P E.wr ops lb i) o then match astep E self T m o with
            | some (v, m1) => match E.strict with
              | true => forceV v fun v => adrawL E self ops B l (i + 1) (aput T o.dst v) m1 lb ls
              | false => adrawL E self ops B l (i + 1) (aput T o.dst v) m1 lb ls
            | none => none
          else none
      else none
    | some false => adrawL E self ops B l (i + 1) (aput T o.dst undef) m lb ls
    | none => none
def adraw (E : Env) (self : Self) : Array Oper → List Value → Mem → Option (List Value × Mem) := fun ops T m => adrawL E self ops m.length ops.toList 0 T m [] false
def slotsB (ops : Array Oper) : Bool :=
  (List.range ops.size).all fun i => (List.range ops.size).all fun j => i == j ||
    match ops[i]?, ops[j]? with
    | some oi, some oj => match oj.dst with
      | some d => (oi.dst != some d) && (!(oi.looksAt ops).contains d || ((decide (j < i) && Region.waitsFor .any ops i j) || (decide (i < j) && Region.waitsFor .any ops j i)))
      | none => true
    | _, _ => false
def edgesB (ops : Array Oper) : Bool := (List.range ops.size).all fun i => match ops[i]? with
  | some oi => oi.after.all fun e => !Region.binds .any e || decide (e.on < i)
  | none => false
def memB (P : Program) (wr : FuncId → Bool) (ops : Array Oper) : Bool :=
  (List.range ops.size).all fun i => match ops[i]? with
    | some oi => match cls P wr oi with
      | 0 => true
      | 1 => !earlyB P wr ops i || ((isLoad oi || isCall oi) && makersB P wr ops i)
      | _ => !earlyB P wr ops i
    | none => false
def drawOkB (P : Program) (wr : FuncId → Bool) (ops : Array Oper) : Bool := Region.noSelect ops && (edgesB ops && (slotsB ops && memB P wr ops))
def Stp (E : Env) (self : Self) (ops : Array Oper) (B : Nat) (i : Nat) (o : Oper) (T : List Value) (m : Mem) (lb : List (Nat × Nat)) (ls : Bool) (T' : List Value) (m' : Mem) (lb' : List (Nat × Nat)) (ls' : Bool) : Prop :=
  ∃ v, T' = aput T o.dst v ∧ (
    (agd ops T o = some false ∧ v = undef ∧ m' = m ∧ lb' = lb ∧ ls' = ls) ∨
    (agd ops T o = some true ∧ okOp E.P o.op = true ∧ cls E.P E.wr o = 0 ∧ afloat E.P T o = some v ∧ m' = m ∧ lb' = lb ∧ ls' = ls) ∨
    (agd ops T o = some true ∧ okOp E.P o.op = true ∧ cls E.P E.wr o = 1 ∧ m' = m ∧
      ((looseB E.P E.wr ops i = true ∧ laterOk E T m o v = true ∧ lb' = loadAt T o i ++ lb ∧ ls' = true) ∨ (looseB E.P E.wr ops i = false ∧ lb' = lb ∧ ls' = ls)) ∧ (earlyB E.P E.wr ops i = true → earlyOk E T B m o v = true) ∧ ∃ m1, astep E self T (m.map sealed) o = some (v, m1) ∧ m1.length = m.length) ∨
    (agd ops T o = some true ∧ okOp E.P o.op = true ∧ cls E.P E.wr o = 2 ∧ (ls = false ∨ sparesB E T (liveB E.P E.wr ops lb i) o = true) ∧ astep E self T m o = some (v, m') ∧ lb' = lb ∧ ls' = ls))
theorem cls_le (P : Program) (wr : FuncId → Bool) (o : Oper) : cls P wr o ≤ 2 := by
  unfold cls
  repeat' split
  all_goals omega
structure Tr where
  T : List Value
  m : Mem
  lb : List (Nat × Nat)
  ls : Bool
theorem adrawL_trace {E : Env} {self : Self} {ops : Array Oper} {B : Nat} : ∀ (l : List Oper) (i : Nat) (T : List Value) (m : Mem) (lb : List (Nat × Nat)) (ls : Bool) (T1 : List Value) (m1 : Mem), adrawL E self ops B l i T m lb ls = some (T1, m1) →
    ∃ tr : Nat → Tr, tr 0 = ⟨T, m, lb, ls⟩ ∧ (tr l.length).T = T1 ∧ (tr l.length).m = m1 ∧ ∀ j o, l[j]? = some o → Stp E self ops B (i + j) o (tr j).T (tr j).m (tr j).lb (tr j).ls (tr (j + 1)).T (tr (j + 1)).m (tr (j + 1)).lb (tr (j + 1)).ls
  | [], i, T, m, lb, ls, T1, m1, h => by
    simp only [adrawL, Option.some.injEq, Prod.mk.injEq] at h
    obtain ⟨rfl, rfl⟩ := h
    exact ⟨fun _ => ⟨T, m, lb, ls⟩, rfl, rfl, rfl, fun i o h => by simp at h⟩
  | o :: l, i, T, m, lb, ls, T1, m1, h => by
    have key : ∀ T2 m2 lb2 ls2, Stp E self ops B i o T m lb ls T2 m2 lb2 ls2 → adrawL E self ops B l (i + 1) T2 m2 lb2 ls2 = some (T1, m1) → ∃ tr : Nat → Tr, tr 0 = ⟨T, m, lb, ls⟩ ∧ (tr (o :: l).length).T = T1 ∧ (tr (o :: l).length).m = m1 ∧
        ∀ j o', (o :: l)[j]? = some o' → Stp E self ops B (i + j) o' (tr j).T (tr j).m (tr j).lb (tr j).ls (tr (j + 1)).T (tr (j + 1)).m (tr (j + 1)).lb (tr (j + 1)).ls := by
      intro T2 m2 lb2 ls2 hs h2
      obtain ⟨tr, h0, h1, h1', hst⟩ := adrawL_trace l (i + 1) T2 m2 lb2 ls2 T1 m1 h2
      refine ⟨fun j => match j with | 0 => ⟨T, m, lb, ls⟩ | j + 1 => tr j, rfl, h1, h1', fun j o' ho => ?_⟩
      cases j with
      | zero => simp at ho; subst ho; show Stp _ _ _ _ _ _ T m lb ls (tr 0).T (tr 0).m (tr 0).lb (tr 0).ls; rw [h0]; exact hs
      | succ j => simp at ho; have := hst j o' ho; rw [show i + 1 + j = i + (j + 1) by omega] at this; exact this
    have unf : ∀ (v : Value) (F : Value → Option (List Value × Mem)), (match E.strict with | true => forceV v F | false => F v) = F v := by
      intro v F
      cases E.strict
      · rfl
      · exact forceV_eq v F
    unfold adrawL at h
    split at h
    · rename_i hg
      split at h
      · rename_i hok
        split at h
        · rename_i hc
          split at h
          · rename_i v hv
            refine key (aput T o.dst v) m lb ls ⟨v, rfl, .inr (.inl ⟨hg, hok, hc, hv, rfl, rfl, rfl⟩)⟩ ?_
            rw [← unf v fun v => adrawL E self ops B l (i + 1) (aput T o.dst v) m lb ls]
            exact h
          · cases h
        · rename_i hc
          split at h
          · rename_i v m2 hst
            split at h
            case isFalse => cases h
            rename_i hbe
            have hbe : earlyB E.P E.wr ops i = true → earlyOk E T B m o v = true := by
              intro he
              rw [he] at hbe
              simpa using hbe
            split at h
            · rename_i hl
              split at h
              · rename_i hlo
                split at h
                · rename_i hla
                  refine key (aput T o.dst v) m _ true ⟨v, rfl, .inr (.inr (.inl ⟨hg, hok, hc, rfl, .inl ⟨hlo, hla, rfl, rfl⟩, hbe, m2, hst, hl⟩))⟩ ?_
                  rw [← unf v fun v => adrawL E self ops B l (i + 1) (aput T o.dst v) m (loadAt T o i ++ lb) true]
                  exact h
                · cases h
              · rename_i hlo
                refine key (aput T o.dst v) m lb ls ⟨v, rfl, .inr (.inr (.inl ⟨hg, hok, hc, rfl, .inr ⟨hlo, rfl, rfl⟩, hbe, m2, hst, hl⟩))⟩ ?_
                rw [← unf v fun v => adrawL E self ops B l (i + 1) (aput T o.dst v) m lb ls]
                exact h
            · cases h
          · cases h
        · rename_i hc0 hc1
          have hc : cls E.P E.wr o = 2 := by
            have h2 := cls_le E.P E.wr o
            have h0 : cls E.P E.wr o ≠ 0 := hc0
            have h1 : cls E.P E.wr o ≠ 1 := hc1
            omega
          split at h
          · rename_i hsp
            have hsp' : ls = false ∨ sparesB E T (liveB E.P E.wr ops lb i) o = true := by simpa using hsp
            split at h
            · rename_i v m2 hst
              refine key (aput T o.dst v) m2 lb ls ⟨v, rfl, .inr (.inr (.inr ⟨hg, hok, hc, hsp', hst, rfl, rfl⟩))⟩ ?_
              rw [← unf v fun v => adrawL E self ops B l (i + 1) (aput T o.dst v) m2 lb ls]
              exact h
            · cases h
          · cases h
      · cases h
    · rename_i hg
      exact key (aput T o.dst undef) m lb ls ⟨undef, rfl, .inl ⟨hg, rfl, rfl, rfl, rfl⟩⟩ h
    · cases h
theorem aput_length (T : List Value) (d : Option Tmp) (v : Value) : (aput T d v).length = T.length := by cases d <;> simp [aput, setAt_eq]
theorem aput_other {T : List Value} {d : Option Tmp} {v : Value} {t : Nat} (h : d ≠ some t) : (aput T d v)[t]? = T[t]? := by
  cases d with
  | none => rfl
  | some d => simp only [aput, setAt_eq, List.getElem?_set]; rw [if_neg (fun e => h (by rw [e]))]
theorem aput_same {T : List Value} {v : Value} {t : Nat} (h : t < T.length) : (aput T (some t) v)[t]? = some v := by
  simp [aput, setAt_eq, h]
theorem countP_set {p q : Nat → Bool} : ∀ (n y : Nat), y < n → p y = true → q y = false → (∀ x, x ≠ y → q x = p x) → (List.range n).countP q + 1 = (List.range n).countP p
  | 0, y, h, _, _, _ => by omega
  | n + 1, y, h, hp, hq, he => by
    rw [List.range_succ, List.countP_append, List.countP_append]
    by_cases hy : y = n
    · subst hy
      have : (List.range y).countP q = (List.range y).countP p := by
        apply List.countP_congr
        intro x hx
        rw [he x (by simp at hx; omega)]
      simp [hp, hq, this]
    · have ih := countP_set (p := p) (q := q) n y (by omega) hp hq he
      have : q n = p n := he n (fun e => hy e.symm)
      simp only [List.countP_singleton, this]
      omega
def DstIs (ops : Array Oper) (j t : Nat) : Prop := ∃ oj, ops[j]? = some oj ∧ oj.dst = some t
theorem slotsB_spec {ops : Array Oper} (h : slotsB ops = true) {i j : Nat} (hi : i < ops.size) (hj : j < ops.size) (hne : i ≠ j) {oi oj : Oper} (ho : ops[i]? = some oi) (ho' : ops[j]? = some oj) {d : Nat} (hd : oj.dst = some d) :
    oi.dst ≠ some d ∧ (d ∈ oi.looksAt ops → (j < i ∧ Region.waitsFor .any ops i j = true) ∨ (i < j ∧ Region.waitsFor .any ops j i = true)) := by
  have h1 := (List.all_eq_true.1 ((List.all_eq_true.1 h) i (List.mem_range.2 hi))) j (List.mem_range.2 hj)
  simp only [ho, ho', hd, Bool.or_eq_true, beq_iff_eq, hne, false_or, Bool.and_eq_true, bne_iff_ne, ne_eq, Bool.not_eq_true', decide_eq_true_eq] at h1
  refine ⟨h1.1, fun hm => ?_⟩
  rcases h1.2 with h2 | h2
  · simp [hm] at h2
  · exact h2
theorem listed_of_waits {ops : Array Oper} {L : Array Bool} (hh : HeadInv .any ops ops.size L) {i j : Nat} (hw : Region.waitsFor .any ops i j = true) (hl : L.getD i false = true) : L.getD j false = true := by
  obtain ⟨oi, hoi, e, he, hb, hon⟩ := Region.waitsFor_spec hw
  rw [← hon]
  exact hh.closed i oi hoi hl e he hb
theorem ready_of_waits {ops : Array Oper} {L : Array Bool} {i j : Nat} (hr : i ∈ Region.ready .any ops L) (hw : Region.waitsFor .any ops i j = true) : L.getD j false = true := by
  obtain ⟨_, oi, hoi, hall⟩ := mem_ready.1 hr
  obtain ⟨oi', hoi', e, he, hb, hon⟩ := Region.waitsFor_spec hw
  rw [hoi] at hoi'; cases hoi'
  rw [← hon]
  exact hall e he hb
theorem listed_of_chain0 {ops : Array Oper} {L : Array Bool} (hh : HeadInv .any ops ops.size L) : ∀ (d : Nat) {i j : Nat}, chainB0 ops d i j = true → L.getD i false = true → L.getD j false = true
  | 0, i, j, hw, hl => listed_of_waits hh hw hl
  | d + 1, i, j, hw, hl => by
    simp only [chainB0, Bool.or_eq_true, List.any_eq_true, Bool.and_eq_true, decide_eq_true_eq] at hw
    rcases hw with hw | ⟨k, _, _, h1, h2⟩
    · exact listed_of_waits hh hw hl
    · exact listed_of_chain0 hh d h2 (listed_of_waits hh h1 hl)
theorem ready_of_chain0 {ops : Array Oper} {L : Array Bool} (hh : HeadInv .any ops ops.size L) {i : Nat} (hr : i ∈ Region.ready .any ops L) : ∀ (d : Nat) {j : Nat}, chainB0 ops d i j = true → L.getD j false = true
  | 0, j, hw => ready_of_waits hr hw
  | d + 1, j, hw => by
    simp only [chainB0, Bool.or_eq_true, List.any_eq_true, Bool.and_eq_true, decide_eq_true_eq] at hw
    rcases hw with hw | ⟨k, _, _, h1, h2⟩
    · exact ready_of_waits hr hw
    · exact listed_of_chain0 hh d h2 (ready_of_waits hr h1)
theorem backs_ind {ops : Array Oper} {p : Nat → Prop} (h : ∀ k j, p k → Region.waitsFor .any ops k j = true → p j) : ∀ (n : Nat) (s : List Nat), (∀ y, y ∈ s → p y) → ∀ x, x ∈ backs ops n s → p x
  | 0, s, hs, x, hx => hs x hx
  | j + 1, s, hs, x, hx => by
    refine backs_ind h j _ ?_ x hx
    intro y hy
    split at hy
    · rename_i ha
      rcases List.mem_cons.1 hy with rfl | hy
      · obtain ⟨k, hk, hw⟩ := List.any_eq_true.1 ha
        exact h k _ (hs k hk) hw
      · exact hs y hy
    · exact hs y hy
theorem listed_of_chain {ops : Array Oper} {L : Array Bool} (hh : HeadInv .any ops ops.size L) (d : Nat) {i j : Nat} (hw : chainB ops d i j = true) (hl : L.getD i false = true) : L.getD j false = true := by
  simp only [chainB, Bool.or_eq_true, Bool.and_eq_true, decide_eq_true_eq, List.contains_iff_mem] at hw
  rcases hw with hw | ⟨_, hw⟩
  · exact listed_of_chain0 hh d hw hl
  · exact backs_ind (p := fun k => L.getD k false = true) (fun k j hk h1 => listed_of_waits hh h1 hk) i [i] (fun y hy => by rw [List.mem_singleton.1 hy]; exact hl) j hw
theorem ready_of_chain {ops : Array Oper} {L : Array Bool} (hh : HeadInv .any ops ops.size L) {i : Nat} (hr : i ∈ Region.ready .any ops L) (d : Nat) {j : Nat} (hw : chainB ops d i j = true) : L.getD j false = true := by
  simp only [chainB, Bool.or_eq_true, Bool.and_eq_true, decide_eq_true_eq, List.contains_iff_mem] at hw
  rcases hw with hw | ⟨hlt, hw⟩
  · exact ready_of_chain0 hh hr d hw
  · have h9 := backs_ind (p := fun k => k = i ∨ L.getD k false = true) (fun k j hk h1 => by
      rcases hk with rfl | hk
      · exact .inr (ready_of_waits hr h1)
      · exact .inr (listed_of_waits hh h1 hk)) i [i] (fun y hy => .inl (List.mem_singleton.1 hy)) j hw
    rcases h9 with rfl | h9
    · omega
    · exact h9
theorem not_early {P : Program} {wr : FuncId → Bool} {ops : Array Oper} {i j : Nat} (h : earlyB P wr ops i = false) (hj : j < i) (hw : isW P wr ops j = true) : behindB P wr ops i j = true := by
  cases hb : behindB P wr ops i j with
  | true => rfl
  | false =>
    have : earlyB P wr ops i = true := by
      unfold earlyB
      rw [List.any_eq_true]
      exact ⟨j, List.mem_range.2 hj, by simp [hw, hb]⟩
    rw [h] at this; cases this
theorem memB_spec {P : Program} {wr : FuncId → Bool} {ops : Array Oper} (h : memB P wr ops = true) {i : Nat} {oi : Oper} (ho : ops[i]? = some oi) (hc : cls P wr oi ≠ 0) : earlyB P wr ops i = false ∨ (cls P wr oi = 1 ∧ makersB P wr ops i = true) := by
  have hi : i < ops.size := (Array.getElem?_eq_some_iff.1 ho).1
  have h1 := (List.all_eq_true.1 h) i (List.mem_range.2 hi)
  simp only [ho] at h1
  split at h1
  · rename_i h0; exact absurd h0 hc
  · rename_i h0
    simp only [Bool.or_eq_true, Bool.and_eq_true, Bool.not_eq_true'] at h1
    rcases h1 with h1 | ⟨_, h1⟩
    · exact .inl h1
    · exact .inr ⟨h0, h1⟩
  · exact .inl (by simpa using h1)
theorem memB_writer {P : Program} {wr : FuncId → Bool} {ops : Array Oper} (h : memB P wr ops = true) {i : Nat} {oi : Oper} (ho : ops[i]? = some oi) (hc : cls P wr oi = 2) : earlyB P wr ops i = false := by
  rcases memB_spec h ho (by omega) with h1 | ⟨h1, _⟩
  · exact h1
  · omega
theorem cls_of_isW {P : Program} {wr : FuncId → Bool} {ops : Array Oper} {j : Nat} (h : isW P wr ops j = true) : ∃ oj, ops[j]? = some oj ∧ cls P wr oj = 2 := by
  unfold isW at h
  split at h
  · rename_i o ho; exact ⟨o, ho, by simpa using h⟩
  · cases h
theorem writers_listed {P : Program} {wr : FuncId → Bool} {ops : Array Oper} {L : Array Bool} (hm : memB P wr ops = true) (hh : HeadInv .any ops ops.size L) :
    ∀ k, isW P wr ops k = true → L.getD k false = true → ∀ j, j < k → isW P wr ops j = true → L.getD j false = true := by
  intro k
  induction k using Nat.strongRecOn with
  | _ k ih =>
    intro hk hl j hj hjw
    obtain ⟨ok, hok, hck⟩ := cls_of_isW hk
    have hb := not_early (memB_writer hm hok hck) hj hjw
    simp only [behindB, Bool.or_eq_true, List.any_eq_true, Bool.and_eq_true, decide_eq_true_eq] at hb
    rcases hb with hb | ⟨q, hq, hjq, hqw, hwt⟩
    · exact listed_of_chain hh 4 hb hl
    · have hqk := List.mem_range.1 hq
      exact ih q hqk hqw (listed_of_chain hh 4 hwt hl) j hjq hjw
theorem writers_of_ready {P : Program} {wr : FuncId → Bool} {ops : Array Oper} {L : Array Bool} (hm : memB P wr ops = true) (hh : HeadInv .any ops ops.size L) {i : Nat} (hr : i ∈ Region.ready .any ops L) (he : earlyB P wr ops i = false) : ∀ j, j < i → isW P wr ops j = true → L.getD j false = true := by
  intro j hj hjw
  have hb := not_early he hj hjw
  simp only [behindB, Bool.or_eq_true, List.any_eq_true, Bool.and_eq_true, decide_eq_true_eq] at hb
  rcases hb with hb | ⟨q, hq, hjq, hqw, hwt⟩
  · exact ready_of_chain hh hr 4 hb
  · exact writers_listed hm hh q hqw (ready_of_chain hh hr 4 hwt) j hjq hjw
structure DInv (D : List Deferred) (E : Env) (ops : Array Oper) (tr : Nat → Tr) (ρ0 : Ren) (w0 : World) (L : Array Bool) (a : Act) (w : World) : Prop where
  head : HeadInv .any ops ops.size L
  defers : a.defers = D
  size : (tr 0).T.length = a.tmps.size
  ex : ∃ (ρ : Ren) (c : Nat), c ≤ ops.size ∧ (∀ i, isW E.P E.wr ops i = true → (i < c ↔ L.getD i false = true)) ∧ MR E.P ρ (tr c).m w ∧ Ext ρ0 (tr 0).m w0 ρ (tr c).m w ∧
    (∀ (t : Nat) (x y : Value), (∃ j, j < ops.size ∧ DstIs ops j t ∧ L.getD j false = true) → (tr ops.size).T[t]? = some x → a.tmps[t]? = some y → VR ρ x y) ∧
    (∀ (t : Nat) (x y : Value), (¬ ∃ j, j < ops.size ∧ DstIs ops j t ∧ L.getD j false = true) → (tr 0).T[t]? = some x → a.tmps[t]? = some y → VR ρ x y)
theorem below_of_sealed {ρ ρ1 : Ren} {m m1 : Mem} {w w1 : World} (hx : Ext ρ (m.map sealed) w ρ1 m1 w1) : Go.RowKit.Below w.heap.size w w1 :=
  ⟨hx.os, hx.tape, hx.output, hx.size, fun r hr => hx.kept r hr fun k e cs _ hk _ => absurd hk (sealed_ro k e cs)⟩
theorem getD_set_self {L : Array Bool} {i : Nat} (h : i < L.size) (d : Bool) : (L.setIfInBounds i true).getD i d = true := by simp [h]
theorem look_sealed (m : Mem) (b : Nat) : look (m.map sealed) b = (look m b).map fun q => (true, q.2) := by
  unfold look
  rw [List.getElem?_map]
  cases m[b]? with
  | none => rfl
  | some x => cases x <;> rfl
theorem aload_look {P : Program} {t : TypeId} {m m' : Mem} {b o : Nat} (h : look m b = look m' b) : aload P t (.pointer (some ⟨b, o, none⟩)) m = aload P t (.pointer (some ⟨b, o, none⟩)) m' := by
  unfold aload
  simp only
  rw [h]
def Spared (lb : List Nat) (m m' : Mem) : Prop := (∃ x, m' = m ++ x) ∨ ∃ b e cs e' cs', b ∉ lb ∧ m[b]? = some (.row false e cs) ∧ m' = m.set b (.row false e' cs')
theorem acoll_app {m m1 m2 : Mem} {n : Nat} {v v2 : Value} (h : acoll m n v m1 = some (v2, m2)) : ∃ x, m2 = m ++ x := by
  unfold acoll at h
  split at h
  · cases h; exact ⟨[], by simp⟩
  · simp only at h
    split at h
    · split at h
      · rename_i bs _
        split at h
        · cases h; exact ⟨bs, rfl⟩
        · cases h
      · cases h
    · cases h
theorem ainv_app {E : Env} {self : Self} {g : FuncId} {args : List Value} {m m1 : Mem} {v : Value} (hw : E.wr g = false) (h : ainv E self g args m = some (v, m1)) : ∃ x, m1 = m ++ x := by
  unfold ainv at h
  split at h
  · split at h
    · split at h
      · split at h
        · cases h; exact ⟨[], by simp⟩
        · cases h
      · cases h
    · split at h
      · exact acoll_app h
      · cases h
  · rw [hw] at h
    simp only [Bool.false_eq_true, if_false] at h
    split at h
    · exact acoll_app h
    · cases h
theorem aext_app {k : XK} {args : List Value} {m m1 : Mem} {v : Value} (h : aext k args m = some (v, m1)) : ∃ x, m1 = m ++ x := by
  unfold aext at h
  split at h
  · split at h
    · split at h
      · cases h; exact ⟨[], by simp⟩
      · cases h
    · cases h
  · split at h
    · split at h
      · cases h; exact ⟨[], by simp⟩
      · cases h
    · cases h
  · split at h
    · cases h; exact ⟨[], by simp⟩
    · cases h
  · split at h
    · split at h
      · cases h; exact ⟨_, rfl⟩
      · cases h
    · cases h
theorem map_app {P : Program} {T : List Value} {o : Oper} {m m1 : Mem} {v : Value} {x : Option Value} (h : x.map (·, m) = some (v, m1)) (_ : P = P) (_ : T = T) (_ : o = o) : ∃ y, m1 = m ++ y := by
  obtain ⟨_, rfl⟩ := map_pair h
  exact ⟨[], by simp⟩
theorem spares_step {E : Env} {self : Self} {T : List Value} {m m' : Mem} {lb : List Nat} {o : Oper} {v : Value} (hs : sparesB E T lb o = true) (h : astep E self T m o = some (v, m')) : Spared lb m m' := by
  unfold sparesB at hs
  split at hs
  · rename_i t x y ho
    split at hs
    · rename_i ad hx
      have hne : ad.block ∉ lb := by simpa using hs
      unfold astep at h
      simp only [ho] at h
      unfold aop at h
      simp only [ho] at h
      cases hst : astore E.P t (ev T x) (ev T y) m with
      | none => rw [hst] at h; cases h
      | some m2 =>
        rw [hst] at h
        simp at h
        obtain ⟨_, rfl⟩ := h
        unfold astore at hst
        split at hst
        · rename_i b2 o2 hp
          rw [hx] at hp
          cases hp
          split at hst
          · rename_i e cs hb
            split at hst
            · split at hst
              · split at hst
                · cases hst
                  exact .inr ⟨b2, e, cs, e, _, hne, hb, rfl⟩
                · cases hst
              · cases hst
            · cases hst
          · cases hst
        · cases hst
    · cases hs
  · rename_i e ho
    unfold astep at h
    simp only [ho] at h
    unfold aop at h
    simp only [ho] at h
    unfold aalloc at h
    split at h
    · split at h
      · split at h
        · split at h
          · cases h; exact .inl ⟨_, rfl⟩
          · cases h
        · cases h
      · cases h
    · cases h
  · rename_i e x ho
    unfold astep at h
    simp only [ho] at h
    unfold aop at h
    simp only [ho] at h
    unfold abox at h
    split at h
    · split at h
      · cases h; exact .inl ⟨_, rfl⟩
      · cases h
    · cases h
  · rename_i t len parts ho
    unfold astep at h
    simp only [ho] at h
    split at h
    · rename_i r h9
      cases h
      unfold abuildSlice at h9
      split at h9
      · split at h9
        · split at h9
          · split at h9
            · cases h9; exact .inl ⟨_, rfl⟩
            · cases h9
          · cases h9
        · cases h9
      · cases h9
    · unfold abuildSliceG at h
      split at h
      · split at h
        · split at h
          · split at h
            · cases h; exact .inl ⟨_, rfl⟩
            · cases h
          · cases h
        · cases h
      · cases h
  · rename_i t l c ho
    unfold astep at h
    simp only [ho] at h
    unfold amakeSlice at h
    split at h
    · split at h
      · split at h
        · cases h; exact .inl ⟨_, rfl⟩
        · cases h
      · cases h
    · cases h
  · rename_i src dst x ho
    unfold astep at h
    simp only [ho] at h
    split at h
    · rename_i r hr
      cases h
      unfold aop at hr
      simp only [ho] at hr
      split at hr
      · cases hr; exact .inl ⟨[], by simp⟩
      · exact .inl (map_app hr (rfl : E.P = E.P) (rfl : T = T) (rfl : o = o))
    · split at h
      · rename_i r hr
        cases h
        unfold aconvB at hr
        split at hr
        · split at hr
          · split at hr
            · split at hr
              · split at hr
                · cases hr; exact .inl ⟨[], by simp⟩
                · cases hr
              · cases hr
            · cases hr
          · cases hr
        · split at hr
          · split at hr
            · cases hr; exact .inl ⟨_, rfl⟩
            · cases hr
          · cases hr
        · cases hr
      · exact .inl (map_app h (rfl : E.P = E.P) (rfl : T = T) (rfl : o = o))
  · rename_i c ho
    split at hs
    · rename_i f hc
      split at hs
      · rename_i g fa fb hf
        have hw : E.wr g = false := by simpa using hs
        unfold astep at h
        simp only [ho, hc, hf] at h
        split at h
        · split at h
          · exact .inl (ainv_app hw h)
          · split at h
            · exact .inl (aext_app h)
            · cases h
        · split at h
          · exact .inl (ainv_app hw h)
          · cases h
      · cases hs
    · cases hs
  · cases hs
theorem spared_look {lb : List Nat} {m m' : Mem} (h : Spared lb m m') {b : Nat} (hb : b ∈ lb) (hl : (look m b).isSome = true) : look m' b = look m b := by
  rcases h with ⟨x, rfl⟩ | ⟨b2, e, cs, e', cs', hne, _, rfl⟩
  · have hlt : b < m.length := by
      apply Classical.byContradiction
      intro hno
      unfold look at hl
      rw [List.getElem?_eq_none (by omega)] at hl
      cases hl
    unfold look
    rw [List.getElem?_append_left hlt]
  · unfold look
    rw [List.getElem?_set, if_neg (fun e => hne (by rw [e]; exact hb))]
theorem maker_step {E : Env} {self : Self} {T : List Value} {m m' : Mem} {o : Oper} {v : Value} (hs : makerS E.wr o = true) (h : astep E self T m o = some (v, m')) : ∃ x, m' = m ++ x := by
  have hsp : sparesB E T (List.range m.length) o = true := by
    unfold makerS at hs
    unfold sparesB
    split at hs
    · rename_i ho; simp only [ho]
    · rename_i ho; simp only [ho]
    · rename_i ho; simp only [ho]
    · rename_i ho; simp only [ho]
    · rename_i ho; simp only [ho]
    · rename_i c ho
      simp only [ho]
      split at hs
      · rename_i g hc
        simp only [hc, ev]
        exact hs
      · cases hs
    · cases hs
  rcases spares_step hsp h with h1 | ⟨b, e, cs, e', cs', hb, hm, _⟩
  · exact h1
  · exact absurd (List.mem_range.2 (List.getElem?_eq_some_iff.1 hm).1) hb
theorem spared_len {lb : List Nat} {m m' : Mem} (h : Spared lb m m') : m.length ≤ m'.length := by
  rcases h with ⟨x, rfl⟩ | ⟨b2, e, cs, e', cs', hne, _, rfl⟩
  · simp
  · simp
theorem spared_tabs {lb : List Nat} {m m' : Mem} (h : Spared lb m m') {G : Nat} (hG : G ≤ m.length) : (m'.take G).map onlyTab = (m.take G).map onlyTab := by
  rcases h with ⟨x, rfl⟩ | ⟨b2, e, cs, e', cs', hne, hb, rfl⟩
  · rw [List.take_append_of_le_length hG]
  · apply List.ext_getElem?
    intro k
    rw [List.getElem?_map, List.getElem?_map, List.getElem?_take, List.getElem?_take]
    split
    · rw [List.getElem?_set]
      by_cases hk : b2 = k
      · subst hk
        have hlt : b2 < m.length := (List.getElem?_eq_some_iff.1 hb).1
        rw [if_pos rfl, if_pos hlt, hb]
        rfl
      · rw [if_neg hk]
    · rfl
theorem sealed_tabs (m : Mem) (G : Nat) : ((m.map sealed).take G).map onlyTab = (m.take G).map onlyTab := by
  rw [← List.map_take, List.map_map]
  congr 1
  funext b
  cases b <;> rfl
theorem ren1_lit {n N : Nat} {keep : List Nat} {v u : Value} (h : ren1 n N keep v = some u) (hl : lit0 u = true) : lit0 v = true := by
  unfold ren1 at h
  split at h
  · split at h
    · cases h; simp [lit0] at hl
    · cases h
  · split at h
    · cases h; simp [lit0] at hl
    · cases h
  · split at h
    · rename_i h0; exact h0
    · exact renC_func_lit h (lit2_of_lit1 (lit1_of_lit0 hl))
  · split at h
    · rename_i h0; exact h0
    · cases h
theorem renL_lit {n N : Nat} {keep : List Nat} : ∀ {l l2 : List Value}, renL n N keep l = some l2 → l2.all lit0 = true → l.all lit0 = true
  | [], l2, _, _ => rfl
  | v :: l, l2, h, hl => by
    unfold renL at h
    split at h
    · rename_i v1 h1
      split at h
      · rename_i l1 h2
        cases h
        simp only [List.all_cons, Bool.and_eq_true] at hl ⊢
        exact ⟨ren1_lit h1 hl.1, renL_lit h2 hl.2⟩
      · cases h
    · cases h
theorem ren1_shape {n N : Nat} {keep : List Nat} {v u : Value} (h : ren1 n N keep v = some u) (hl : lit2 u = true) : lit0 v = true := by
  unfold ren1 at h
  split at h
  · split at h
    · cases h; simp [lit2, lit1, lit0] at hl
    · cases h
  · split at h
    · cases h; simp [lit2, lit1, lit0] at hl
    · cases h
  · split at h
    · rename_i h0; exact h0
    · exact renC_func_lit h hl
  · split at h
    · rename_i h0; exact h0
    · cases h
theorem ren2_lit {n N : Nat} {keep : List Nat} {v u : Value} (h : ren2 n N keep v = some u) (hl : lit2 u = true) : lit1 v = true := by
  unfold ren2 at h
  split at h
  · rename_i cs
    split at h
    · rename_i l hl2
      cases h
      simp only [lit2, lit1] at hl ⊢
      exact renL_lit hl2 hl
    · cases h
  · exact lit1_of_lit0 (ren1_shape h hl)
theorem renT_lit {n N : Nat} {keep : List Nat} : ∀ {l l2 : List Value}, renT n N keep l = some l2 → l2.all lit1 = true → l.all lit1 = true
  | [], l2, _, _ => rfl
  | v :: l, l2, h, hl => by
    unfold renT at h
    split at h
    · rename_i v1 h1
      split at h
      · rename_i l1 h2
        cases h
        simp only [List.all_cons, Bool.and_eq_true] at hl ⊢
        exact ⟨ren2_lit h1 (lit2_of_lit1 hl.1), renT_lit h2 hl.2⟩
      · cases h
    · cases h
theorem ren3_lit {n N : Nat} {keep : List Nat} {v u : Value} (h : ren3 n N keep v = some u) (hl : lit2 u = true) : lit2 v = true := by
  unfold ren3 at h
  split at h
  · rename_i vs
    split at h
    · rename_i l hl2
      cases h
      simp only [lit2] at hl ⊢
      exact renT_lit hl2 hl
    · cases h
  · exact lit2_of_lit1 (ren2_lit h hl)
theorem ainv_later {E : Env} {self : Self} {m m2 m1 : Mem} {v : Value} {g : FuncId} {args : List Value} (hargs : args.all lit2 = true) (hv : lit2 v = true)
    (ht : (m2.take E.G).map onlyTab = (m.take E.G).map onlyTab) (h : ainv E self g args m = some (v, m1)) : ainv E self g args m2 = some (v, m2) := by
  unfold ainv at h ⊢
  rw [if_pos hargs] at h ⊢
  rw [ht]
  split at h
  · split at h
    · split at h
      · rename_i hlv
        cases h
        rw [if_pos hlv]
      · cases h
    · cases h
  · split at h
    · rename_i v0 m0 h0
      have hlv : lit2 v0 = true := by
        unfold acoll at h
        split at h
        · rename_i hh; exact hh
        · simp only at h
          split at h
          · split at h
            · split at h
              · rename_i hr3
                cases h
                exact ren3_lit hr3 hv
              · cases h
            · cases h
          · cases h
      unfold acoll at h ⊢
      rw [if_pos hlv] at h
      simp only
      rw [if_pos hlv]
      cases h
      rfl
    · cases h
theorem astep_later {E : Env} {self : Self} {T : List Value} {m m2 m1 : Mem} {o : Oper} {v : Value} {c : Call} (ho : o.op = .call c) {f : Operand} (hc : c.callee = .value f) (hcap : capsLit (ev T f) = true) (hargs : (c.args.toList.map (ev T)).all lit2 = true) (hv : lit2 v = true)
    (ht : (m2.take E.G).map onlyTab = (m.take E.G).map onlyTab) (h : astep E self T m o = some (v, m1)) (hl : m1.length = m.length) : astep E self T m2 o = some (v, m2) := by
  unfold astep at h ⊢
  simp only [ho, hc] at h ⊢
  split at h
  · rename_i g a b hf
    split at h
    · rename_i hab
      rw [if_pos hab]
      split at h
      · exact ainv_later hargs hv ht h
      · split at h
        · rename_i k hk
          unfold aext at h ⊢
          split at h
          · split at h
            · split at h
              · rename_i hh; cases h; rw [if_pos hh]
              · cases h
            · cases h
          · split at h
            · split at h
              · rename_i hh; cases h; rw [if_pos hh]
              · cases h
            · cases h
          · split at h
            · cases h; rfl
            · cases h
          · split at h
            · split at h
              · cases h; simp at hl
              · cases h
            · cases h
        · cases h
    · rename_i hab
      rw [if_neg hab]
      rw [hf] at hcap
      simp only [capsLit, Bool.and_eq_true] at hcap
      split at h
      · exact ainv_later (by rw [List.all_append, List.all_append, hcap.1, hargs, hcap.2]; rfl) hv ht h
      · cases h
  · cases h
structure Trace (E : Env) (sf : Self) (ops : Array Oper) (B : Nat) (tr : Nat → Tr) : Prop where
  base : B ≤ (tr 0).m.length
  step : ∀ (i : Nat) (o : Oper), ops[i]? = some o → Stp E sf ops B i o (tr i).T (tr i).m (tr i).lb (tr i).ls (tr (i + 1)).T (tr (i + 1)).m (tr (i + 1)).lb (tr (i + 1)).ls
namespace Trace
variable {E : Env} {self : Self} {ops : Array Oper} {B : Nat} {tr : Nat → Tr}
theorem length (h : Trace E self ops B tr) : ∀ k, k ≤ ops.size → (tr k).T.length = (tr 0).T.length := by
  intro k
  induction k with
  | zero => intro _; rfl
  | succ k ih =>
    intro hk
    obtain ⟨v, hv, _⟩ := h.step k ops[k] (by simp)
    rw [hv, aput_length, ih (by omega)]
theorem old (h : Trace E self ops B tr) : ∀ k, k ≤ ops.size → ∀ t, (¬ ∃ j, j < k ∧ DstIs ops j t) → (tr k).T[t]? = (tr 0).T[t]? := by
  intro k
  induction k with
  | zero => intro _ t _; rfl
  | succ k ih =>
    intro hk t hno
    have ho : ops[k]? = some ops[k] := by simp
    obtain ⟨v, hv, _⟩ := h.step k _ ho
    rw [hv, aput_other (fun hd => hno ⟨k, by omega, _, ho, hd⟩)]
    exact ih (by omega) t fun ⟨j, hj, hd⟩ => hno ⟨j, by omega, hd⟩
theorem new (h : Trace E self ops B tr) (hs : slotsB ops = true) : ∀ d k, k + d = ops.size → ∀ t, (∃ j, j < k ∧ DstIs ops j t) → (tr k).T[t]? = (tr ops.size).T[t]? := by
  intro d
  induction d with
  | zero => intro k hk t _; simp at hk; rw [hk]
  | succ d ih =>
    intro k hk t hex
    obtain ⟨j, hj, oj, hoj, hd⟩ := hex
    rw [← ih (k + 1) (by omega) t ⟨j, by omega, oj, hoj, hd⟩]
    have ho : ops[k]? = some (ops[k]'(by omega)) := by simp
    obtain ⟨v, hv, _⟩ := h.step k _ ho
    rw [hv, aput_other ((slotsB_spec hs (i := k) (j := j) (by omega) (by omega) (by omega) ho hoj hd).1)]
theorem mem (h : Trace E self ops B tr) : ∀ d k, k + d ≤ ops.size → (∀ j, k ≤ j → j < k + d → isW E.P E.wr ops j = false) → (tr (k + d)).m = (tr k).m := by
  intro d
  induction d with
  | zero => intro k _ _; rfl
  | succ d ih =>
    intro k hk hno
    have ho : ops[k + d]? = some (ops[k + d]'(by omega)) := by simp
    have hnw := hno (k + d) (by omega) (by omega)
    rw [← ih k (by omega) fun j h1 h2 => hno j h1 (by omega)]
    obtain ⟨v, _, hc⟩ := h.step (k + d) _ ho
    rcases hc with ⟨_, _, hm, _⟩ | ⟨_, _, _, _, hm, _⟩ | ⟨_, _, _, hm, _, _⟩ | ⟨_, _, hcl, _⟩
    · exact hm
    · exact hm
    · exact hm
    · unfold isW at hnw
      rw [ho] at hnw
      simp [hcl] at hnw
theorem mem_eq (h : Trace E self ops B tr) {c i : Nat} (hc : c ≤ ops.size) (hi : i ≤ ops.size) (hno : ∀ j, isW E.P E.wr ops j = true → (j < c ↔ j < i)) : (tr c).m = (tr i).m := by
  rcases Nat.le_total c i with hle | hle
  · obtain ⟨d, rfl⟩ := Nat.le.dest hle
    rw [h.mem d c hi fun j h1 h2 => ?_]
    cases hw : isW E.P E.wr ops j with
    | false => rfl
    | true => have := hno j hw; omega
  · obtain ⟨d, rfl⟩ := Nat.le.dest hle
    rw [h.mem d i hc fun j h1 h2 => ?_]
    cases hw : isW E.P E.wr ops j with
    | false => rfl
    | true => have := hno j hw; omega
theorem spared (h : Trace E self ops B tr) {i : Nat} : ∀ d, i + 1 + d ≤ ops.size → (tr (i + 1)).ls = true → (∀ j, i < j → j < i + 1 + d → isW E.P E.wr ops j = true → aheadB E.P E.wr ops i j = false) →
    (tr (i + 1 + d)).ls = true ∧ (tr (i + 1)).m.length ≤ (tr (i + 1 + d)).m.length ∧ (∀ p, p ∈ (tr (i + 1)).lb → p ∈ (tr (i + 1 + d)).lb) ∧
    (∀ b, (i, b) ∈ (tr (i + 1)).lb → (look (tr (i + 1)).m b).isSome = true → look (tr (i + 1 + d)).m b = look (tr (i + 1)).m b) ∧ (∀ G, G ≤ (tr (i + 1)).m.length → ((tr (i + 1 + d)).m.take G).map onlyTab = ((tr (i + 1)).m.take G).map onlyTab) := by
  intro d
  induction d with
  | zero => intro _ hb _; exact ⟨hb, Nat.le_refl _, fun _ h => h, fun _ _ _ => rfl, fun _ _ => rfl⟩
  | succ d ih =>
    intro hk hb hno
    obtain ⟨h1, h2, h3, h4, h5⟩ := ih (by omega) hb fun j hj hj2 => hno j hj (by omega)
    have hlt : i + 1 + d < ops.size := by omega
    have ho : ops[i + 1 + d]? = some (ops[i + 1 + d]'hlt) := by simp [hlt]
    obtain ⟨v, _, hc⟩ := h.step (i + 1 + d) _ ho
    rw [show i + 1 + (d + 1) = i + 1 + d + 1 by omega]
    rcases hc with ⟨_, _, hm, hl, hs⟩ | ⟨_, _, _, _, hm, hl, hs⟩ | ⟨_, _, _, hm, hl, _, _⟩ | ⟨_, _, hcl, hsp, hst, hl, hs⟩
    · rw [hl, hm, hs]; exact ⟨h1, h2, h3, h4, h5⟩
    · rw [hl, hm, hs]; exact ⟨h1, h2, h3, h4, h5⟩
    · rcases hl with ⟨_, _, hl, hs⟩ | ⟨_, hl, hs⟩
      · rw [hl, hm, hs]
        exact ⟨rfl, h2, fun b hb => List.mem_append_right _ (h3 b hb), h4, h5⟩
      · rw [hl, hm, hs]; exact ⟨h1, h2, h3, h4, h5⟩
    · rw [hl, hs]
      have hspr : Spared (liveB E.P E.wr ops (tr (i + 1 + d)).lb (i + 1 + d)) (tr (i + 1 + d)).m (tr (i + 1 + d + 1)).m := by
        rcases hsp with hsp | hsp
        · rw [h1] at hsp; cases hsp
        · exact spares_step hsp hst
      have hw : isW E.P E.wr ops (i + 1 + d) = true := by
        unfold isW
        rw [ho]
        simpa using hcl
      have hna := hno (i + 1 + d) (by omega) (by omega) hw
      refine ⟨h1, Nat.le_trans h2 (spared_len hspr), h3, fun b hb hl => ?_, fun G hG => ?_⟩
      · have hbm : b ∈ liveB E.P E.wr ops (tr (i + 1 + d)).lb (i + 1 + d) := by
          unfold liveB
          rw [List.mem_map]
          exact ⟨(i, b), List.mem_filter.2 ⟨h3 _ hb, by simp [hna]⟩, rfl⟩
        rw [spared_look hspr hbm (by rw [h4 b hb hl]; exact hl), h4 b hb hl]
      · rw [spared_tabs hspr (Nat.le_trans hG h2), h5 G hG]
theorem grown (h : Trace E self ops B tr) {i : Nat} (hi : i ≤ ops.size) (hm : makersB E.P E.wr ops i = true) : ∀ c, c ≤ i → ∃ x, (tr c).m = (tr 0).m ++ x := by
  intro c
  induction c with
  | zero => intro _; exact ⟨[], by simp⟩
  | succ c ih =>
    intro hc
    obtain ⟨x, hx⟩ := ih (by omega)
    have hcs : c < ops.size := by omega
    have ho : ops[c]? = some (ops[c]'hcs) := by simp [hcs]
    obtain ⟨v, _, hst⟩ := h.step c _ ho
    rcases hst with ⟨_, _, hm', _⟩ | ⟨_, _, _, _, hm', _⟩ | ⟨_, _, _, hm', _⟩ | ⟨_, _, hcl, _, hst, _⟩
    · exact ⟨x, by rw [hm', hx]⟩
    · exact ⟨x, by rw [hm', hx]⟩
    · exact ⟨x, by rw [hm', hx]⟩
    · have h1 := (List.all_eq_true.1 hm) c (List.mem_range.2 (by omega))
      have hw : isW E.P E.wr ops c = true := by
        unfold isW
        rw [ho]
        simpa using hcl
      rw [hw, ho] at h1
      obtain ⟨y, hy⟩ := maker_step (by simpa using h1) hst
      exact ⟨x ++ y, by rw [hy, hx, List.append_assoc]⟩
theorem early (h : Trace E self ops B tr) {i : Nat} (hi : i ≤ ops.size) (hm : makersB E.P E.wr ops i = true) {c : Nat} (hc : c ≤ i) {b : Nat} (hb : b < B) : look (tr c).m b = look (tr i).m b := by
  obtain ⟨x, hx⟩ := h.grown hi hm c hc
  obtain ⟨y, hy⟩ := h.grown hi hm i (Nat.le_refl _)
  have := h.base
  unfold look
  rw [hx, hy, List.getElem?_append_left (by omega), List.getElem?_append_left (by omega)]
end Trace
theorem draw_step {D : List Deferred} {E : Env} {self : Self} (hs : CallOK E.P (ainv E self)) (hnum : noNum E.P) (hx9 : XOK E) {ops : Array Oper} (hslots : slotsB ops = true) (hmem : memB E.P E.wr ops = true)
    {B : Nat} {tr : Nat → Tr} (ht : Trace E self ops B tr) {ρ0 : Ren} {w0 : World}
    (L : Array Bool) (a : Act) (w : World) (hi : DInv D E ops tr ρ0 w0 L a w) {i : Nat} (hr : i ∈ Region.ready .any ops L) {K : Act → World → Prop} {Q : Exit → Act → World → Prop}
    (hK : ∀ a1 w1, DInv D E ops tr ρ0 w0 (L.setIfInBounds i true) a1 w1 → K a1 w1) : wpOp E.P ops Q i K a w := by
  obtain ⟨hun, oi, hoi, hall⟩ := mem_ready.1 hr
  have hip : i < ops.size := (Array.getElem?_eq_some_iff.1 hoi).1
  have hunf := getD_both hun
  have hLsz : i < L.size := by rw [hi.head.size]; exact hip
  obtain ⟨ρ, c, hcle, hcW, hmr, hext, hnew, hold⟩ := hi.ex
  -- the slots that the operation looks at
  have slot : ∀ t, t ∈ oi.looksAt ops → ∀ x y, (tr i).T[t]? = some x → a.tmps[t]? = some y → VR ρ x y := by
    intro t htl x y hx hy
    by_cases hex : ∃ j, j < i ∧ DstIs ops j t
    · obtain ⟨j, hj, oj, hoj, hd⟩ := hex
      rcases (slotsB_spec hslots hip (j := j) (by omega) (by omega) hoi hoj hd).2 htl with hw | hw
      · refine hnew t x y ⟨j, by omega, ⟨oj, hoj, hd⟩, ready_of_waits hr hw.2⟩ ?_ hy
        rw [← ht.new hslots (ops.size - i) i (by omega) t ⟨j, hj, oj, hoj, hd⟩]; exact hx
      · omega
    · refine hold t x y ?_ ?_ hy
      · rintro ⟨j, hj, ⟨oj, hoj, hd⟩, hl⟩
        by_cases hji : i = j
        · subst hji
          rw [hunf] at hl; cases hl
        · rcases (slotsB_spec hslots hip hj hji hoi hoj hd).2 htl with hw | hw
          · exact hex ⟨j, hw.1, oj, hoj, hd⟩
          · have := listed_of_waits hi.head hw.2 hl
            rw [hunf] at this; cases this
      · rw [← ht.old i (by omega) t hex]; exact hx
  obtain ⟨v, hv, hcase⟩ := ht.step i oi hoi
  -- what holds behind it
  have fin : ∀ v' w1 ρ1 c1, VR ρ1 v v' → ρ.le ρ1 → c1 ≤ ops.size → (∀ j, isW E.P E.wr ops j = true → (j < c1 ↔ (L.setIfInBounds i true).getD j false = true)) → MR E.P ρ1 (tr c1).m w1 → Ext ρ0 (tr 0).m w0 ρ1 (tr c1).m w1 →
      DInv D E ops tr ρ0 w0 (L.setIfInBounds i true) (a.put oi.dst v') w1 := by
    intro v' w1 ρ1 c1 hvv hle hc1 hcW1 hm1 hx1
    have hsz1 : (a.put oi.dst v').tmps.size = a.tmps.size := by cases oi.dst <;> simp [Act.put]
    have hother : ∀ t, oi.dst ≠ some t → (a.put oi.dst v').tmps[t]? = a.tmps[t]? := by
      intro t ht9
      cases hd : oi.dst with
      | none => rfl
      | some d =>
        simp only [Act.put, Array.getElem?_setIfInBounds]
        rw [if_neg (fun e => ht9 (by rw [hd, e]))]
    refine ⟨hi.head.set hr hip, by rw [put_defers]; exact hi.defers, by rw [hsz1]; exact hi.size, ρ1, c1, hc1, hcW1, hm1, hx1, ?_, ?_⟩
    · rintro t x y ⟨j, hj, ⟨oj, hoj, hd⟩, hl⟩ hx hy
      by_cases hji : i = j
      · subst hji
        rw [hoi] at hoj; cases hoj
        rw [← ht.new hslots (ops.size - (i + 1)) (i + 1) (by omega) t ⟨i, by omega, oi, hoi, hd⟩, hv, hd] at hx
        rw [hd] at hy
        have htl : t < (tr i).T.length := by
          have := (List.getElem?_eq_some_iff.1 hx).1
          rw [aput_length] at this; exact this
        rw [aput_same htl] at hx
        have ht2 : t < a.tmps.size := by rw [← hi.size, ← ht.length i (by omega)]; exact htl
        simp only [Act.put, Array.getElem?_setIfInBounds, ht2, if_true] at hy
        cases hx; cases hy
        exact hvv
      · have hne : oi.dst ≠ some t := (slotsB_spec hslots hip hj hji hoi hoj hd).1
        rw [hother t hne] at hy
        rw [getD_set_ne false hji] at hl
        exact (hnew t x y ⟨j, hj, ⟨oj, hoj, hd⟩, hl⟩ hx hy).mono hle
    · intro t x y hno hx hy
      have hne : oi.dst ≠ some t := fun hd => hno ⟨i, hip, ⟨oi, hoi, hd⟩, getD_set_self hLsz false⟩
      rw [hother t hne] at hy
      refine (hold t x y ?_ hx hy).mono hle
      rintro ⟨j, hj, hd, hl⟩
      refine hno ⟨j, hj, hd, ?_⟩
      by_cases hji : i = j
      · subst hji; exact getD_set_self hLsz false
      · rw [getD_set_ne false hji]; exact hl
  have hsize : (tr i).T.length = a.tmps.size := by rw [ht.length i (by omega)]; exact hi.size
  have hguard : ∀ b, agd ops (tr i).T oi = some b → Region.wanted oi (yielded ops a.tmps) = b := by
    intro b hb
    refine agd_sound hsize (fun j want oj d hg hj hd x y hx hy => slot d ?_ x y hx hy) hb
    unfold Oper.looksAt
    rw [hg]
    apply List.mem_append_right
    simp [hj, hd]
  have hev : okOp E.P oi.op = true → ∀ x, x ∈ oi.op.operands.toList → VR ρ (ev (tr i).T x) (a.eval x) := by
    intro hok x hx
    have hok1 : oi.op.operands.toList.all (okOperand E.P) = true := by
      have h := hok
      simp only [okOp, Bool.and_eq_true] at h
      exact h.1
    cases x with
    | tmp t =>
      have htl : t ∈ oi.looksAt ops := by
        unfold Oper.looksAt
        apply List.mem_append_left
        exact List.mem_filterMap.2 ⟨.tmp t, hx, rfl⟩
      simp only [ev, nth_eq, Act.eval]
      by_cases hlt : t < (tr i).T.length
      · have h1 : (tr i).T[t]? = some (tr i).T[t] := by simp [hlt]
        have hlt' : t < a.tmps.size := by rw [← hsize]; exact hlt
        have h2 : a.tmps[t]? = some a.tmps[t] := by simp [hlt']
        have := slot t htl _ _ h1 h2
        simpa [List.getD, h1, Array.getD, hlt'] using this
      · have h' : ¬ t < a.tmps.size := by rw [← hsize]; exact hlt
        rw [show (tr i).T.getD t undef = undef by simp [List.getD, List.getElem?_eq_none (Nat.le_of_not_lt hlt)]]
        simp only [Array.getD, h', dite_false]
        exact vr_undef ρ
    | const k => exact ev_vr (T := []) (a := { tmps := #[], defers := [] }) hmr ⟨rfl, fun i x y hx => by simp at hx⟩ (.const k) ((List.all_eq_true.1 hok1) _ hx)
    | global g => exact ev_vr (T := []) (a := { tmps := #[], defers := [] }) hmr ⟨rfl, fun i x y hx => by simp at hx⟩ (.global g) ((List.all_eq_true.1 hok1) _ hx)
    | func f => exact .lit rfl
  -- who is no writer leaves the count as it is
  have keepc : isW E.P E.wr ops i = false → ∀ j, isW E.P E.wr ops j = true → (j < c ↔ (L.setIfInBounds i true).getD j false = true) := by
    intro hnw j hj
    have hji : i ≠ j := fun e => by rw [e, hj] at hnw; cases hnw
    rw [getD_set_ne false hji]
    exact hcW j hj
  have hW2 : ∀ k, isW E.P E.wr ops i = k → (cls E.P E.wr oi == 2) = k := by
    intro k hk
    unfold isW at hk
    rw [hoi] at hk
    exact hk
  have notW : cls E.P E.wr oi ≠ 2 → isW E.P E.wr ops i = false := by
    intro hne
    unfold isW
    rw [hoi]
    simpa using hne
  -- a writer: those ahead are listed, those behind aren't
  have atW : cls E.P E.wr oi = 2 → (∀ j, isW E.P E.wr ops j = true → (j < c ↔ j < i)) ∧ (∀ j, isW E.P E.wr ops j = true → (j < i + 1 ↔ (L.setIfInBounds i true).getD j false = true)) := by
    intro hcl
    have hiw : isW E.P E.wr ops i = true := by
      unfold isW
      rw [hoi]
      simpa using hcl
    have hah := writers_of_ready hmem hi.head hr (memB_writer hmem hoi hcl)
    have hbe : ∀ j, i < j → isW E.P E.wr ops j = true → L.getD j false ≠ true := by
      intro j hj hjw hl
      have := writers_listed hmem hi.head j hjw hl i hj hiw
      rw [hunf] at this; cases this
    refine ⟨fun j hj => ?_, fun j hj => ?_⟩
    · rw [hcW j hj]
      constructor
      · intro hl
        rcases Nat.lt_trichotomy j i with h1 | h1 | h1
        · exact h1
        · subst h1; rw [hunf] at hl; cases hl
        · exact absurd hl (hbe j h1 hj)
      · intro h1; exact hah j h1 hj
    · by_cases hji : i = j
      · subst hji; rw [getD_set_self hLsz false]; simp
      · rw [getD_set_ne false hji]
        constructor
        · intro h1; exact hah j (by omega) hj
        · intro hl
          rcases Nat.lt_trichotomy j i with h1 | h1 | h1
          · omega
          · exact absurd h1.symm hji
          · exact absurd hl (hbe j h1 hj)
  unfold wpOp
  simp only [hoi]
  rcases hcase with ⟨hg, rfl, hm', _⟩ | ⟨hg, hok, hcl, hfl, hm', _⟩ | ⟨hg, hok, hcl, hm', hlb, hbel, m1, hstep, hml⟩ | ⟨hg, hok, hcl, _, hstep, _⟩
  · rw [hguard false hg]
    simp only [Bool.false_eq_true, if_false]
    refine hK _ _ ?_
    by_cases hcl : cls E.P E.wr oi = 2
    · obtain ⟨h1, h2⟩ := atW hcl
      have hme : (tr c).m = (tr (i + 1)).m := by rw [hm']; exact ht.mem_eq hcle (by omega) h1
      refine fin undef w ρ (i + 1) (vr_undef ρ) (Ren.le_refl _) (by omega) h2 (by rw [← hme]; exact hmr) (by rw [← hme]; exact hext)
    · exact fin undef w ρ c (vr_undef ρ) (Ren.le_refl _) hcle (keepc (notW hcl)) hmr hext
  · rw [hguard true hg]
    simp only [if_true]
    left
    obtain ⟨v', hrun, hvv⟩ := afloat_sound (w := w) (hev hok) hok hfl
    unfold Oper.wp
    rw [hrun]
    exact hK _ _ (fin v' w ρ c hvv (Ren.le_refl _) hcle (keepc (notW (by omega))) hmr hext)
  · rw [hguard true hg]
    simp only [if_true]
    left
    have hms := mr_sealed hmr
    -- the same answer over the memory as it stands
    have hstep' : ∃ m2, astep E self (tr i).T ((tr c).m.map sealed) oi = some (v, m2) ∧ m2.length = (tr c).m.length := by
      have hahead : ∀ j, isW E.P E.wr ops j = true → L.getD j false = true → aheadB E.P E.wr ops i j = false := by
        intro j hj hl
        cases hab : aheadB E.P E.wr ops i j with
        | false => rfl
        | true =>
          exfalso
          simp only [aheadB, Bool.or_eq_true, List.any_eq_true, Bool.and_eq_true, decide_eq_true_eq] at hab
          rcases hab with hab | ⟨q, hq, hiq, hqw, hwt⟩
          · have := listed_of_chain hi.head 4 hab hl
            rw [hunf] at this; cases this
          · have hql := writers_listed hmem hi.head j hj hl q (List.mem_range.1 hq) hqw
            have := listed_of_chain hi.head 4 hwt hql
            rw [hunf] at this; cases this
      have hnoah : ∀ j, i < j → j < c → isW E.P E.wr ops j = true → aheadB E.P E.wr ops i j = false := fun j _ hjc hj => hahead j hj ((hcW j hj).1 hjc)
      -- who isn't loose: nobody that the text has later is listed
      have hlater : looseB E.P E.wr ops i ≠ true → ∀ j, isW E.P E.wr ops j = true → L.getD j false = true → j < i := by
        intro hlo j hj hl
        rcases Nat.lt_trichotomy j i with h1 | h1 | h1
        · exact h1
        · subst h1; rw [hunf] at hl; cases hl
        · exfalso
          obtain ⟨oj, hoj, _⟩ := cls_of_isW hj
          have hjs : j < ops.size := (Array.getElem?_eq_some_iff.1 hoj).1
          apply hlo
          unfold looseB
          rw [List.any_eq_true]
          exact ⟨j, List.mem_range.2 hjs, by simp [h1, hj, hahead j hj hl]⟩
      by_cases hearly : earlyB E.P E.wr ops i = true
      · have hbb := hbel hearly
        have hmk : makersB E.P E.wr ops i = true := by
          rcases memB_spec hmem hoi (by omega) with h1 | ⟨_, h1⟩
          · rw [hearly] at h1; cases h1
          · exact h1
        unfold earlyOk at hbb
        rw [Bool.or_eq_true] at hbb
        rcases hbb with hbb | hbb
        rotate_left
        · simp only [Bool.and_eq_true, decide_eq_true_eq] at hbb
          obtain ⟨hic, hGB, hla⟩ := hbb
          unfold isCall at hic
          split at hic
          · rename_i cc hop
            have hla9 := hla
            unfold laterOk at hla
            simp only [hop] at hla
            split at hla
            · rename_i f hcf
              simp only [Bool.and_eq_true, decide_eq_true_eq] at hla
              obtain ⟨hcap, hargs, hlv, hG⟩ := hla
              have htabs : ((tr c).m.take E.G).map onlyTab = ((tr i).m.take E.G).map onlyTab := by
                by_cases hci : c ≤ i
                · obtain ⟨x, hx⟩ := ht.grown (by omega) hmk c hci
                  obtain ⟨y, hy⟩ := ht.grown (by omega) hmk i (Nat.le_refl _)
                  have := ht.base
                  rw [hx, hy, List.take_append_of_le_length (by omega), List.take_append_of_le_length (by omega)]
                · by_cases hlo : looseB E.P E.wr ops i = true
                  · obtain ⟨_, hlb', hls⟩ : laterOk E (tr i).T (tr i).m oi v = true ∧ (tr (i + 1)).lb = loadAt (tr i).T oi i ++ (tr i).lb ∧ (tr (i + 1)).ls = true := by
                      rcases hlb with ⟨_, h1, h2, h3⟩ | ⟨h1, _⟩
                      · exact ⟨h1, h2, h3⟩
                      · rw [hlo] at h1; cases h1
                    obtain ⟨d, hd⟩ := Nat.le.dest (show i + 1 ≤ c by omega)
                    have := (ht.spared (i := i) d (by omega) hls (by rw [hd]; exact hnoah)).2.2.2.2 E.G (by rw [hm']; exact hG)
                    rw [hd] at this
                    rw [this, hm']
                  · rw [ht.mem_eq hcle (by omega : i ≤ ops.size) fun j hj => ⟨fun h1 => hlater hlo j hj ((hcW j hj).1 h1), fun h1 => by omega⟩]
              refine ⟨(tr c).m.map sealed, ?_, by simp⟩
              exact astep_later hop hcf hcap hargs hlv (by rw [sealed_tabs, sealed_tabs, htabs]) hstep (by rw [hml]; simp)
            · cases hla
          · cases hic
        unfold belowB at hbb
        split at hbb
        · rename_i t x hop
          split at hbb
          · rename_i ad hp
            have hb : ad.block < B := by simpa using hbb
            have hst9 : (aload E.P t (ev (tr i).T x) ((tr i).m.map sealed)).map (·, (tr i).m.map sealed) = some (v, m1) := by
              have := hstep
              unfold astep at this
              simp only [hop] at this
              unfold aop at this
              simp only [hop] at this
              exact this
            obtain ⟨hld9, rfl⟩ := map_pair hst9
            have hptr : ∃ b o, ev (tr i).T x = .pointer (some ⟨b, o, none⟩) := by
              unfold aload at hld9
              split at hld9
              · rename_i b o hp; exact ⟨b, o, hp⟩
              · cases hld9
            obtain ⟨b, o, hp'⟩ := hptr
            rw [hp] at hp'
            cases hp'
            have hsome : (look (tr i).m b).isSome = true := by
              rw [hp] at hld9
              unfold aload at hld9
              simp only [look_sealed] at hld9
              cases hq : look (tr i).m b with
              | none => rw [hq] at hld9; cases hld9
              | some q => rfl
            have hlk : look (tr c).m b = look (tr i).m b := by
              by_cases hci : c ≤ i
              · exact ht.early (by omega) hmk hci hb
              · by_cases hlo : looseB E.P E.wr ops i = true
                · obtain ⟨_, hlb', hls⟩ : laterOk E (tr i).T (tr i).m oi v = true ∧ (tr (i + 1)).lb = loadAt (tr i).T oi i ++ (tr i).lb ∧ (tr (i + 1)).ls = true := by
                    rcases hlb with ⟨_, h1, h2, h3⟩ | ⟨h1, _⟩
                    · exact ⟨h1, h2, h3⟩
                    · rw [hlo] at h1; cases h1
                  have hbl : (i, b) ∈ (tr (i + 1)).lb := by
                    rw [hlb']
                    apply List.mem_append_left
                    simp [loadAt, loadBlk, hop, hp]
                  obtain ⟨d, hd⟩ := Nat.le.dest (show i + 1 ≤ c by omega)
                  have := (ht.spared (i := i) d (by omega) hls (by rw [hd]; exact hnoah)).2.2.2.1 b hbl (by rw [hm']; exact hsome)
                  rw [hd] at this
                  rw [this, hm']
                · rw [ht.mem_eq hcle (by omega : i ≤ ops.size) fun j hj => ⟨fun h1 => hlater hlo j hj ((hcW j hj).1 h1), fun h1 => by omega⟩]
            refine ⟨(tr c).m.map sealed, ?_, by simp⟩
            unfold astep
            simp only [hop]
            unfold aop
            simp only [hop]
            rw [hp] at hld9 ⊢
            rw [aload_look (m' := (tr i).m.map sealed) (by rw [look_sealed, look_sealed, hlk]), hld9]
            rfl
          · cases hbb
        · cases hbb
      have hearly : earlyB E.P E.wr ops i = false := by simpa using hearly
      by_cases hlo : looseB E.P E.wr ops i = true
      · have hah := writers_of_ready hmem hi.head hr hearly
        obtain ⟨hla, hlb', hls⟩ : laterOk E (tr i).T (tr i).m oi v = true ∧ (tr (i + 1)).lb = loadAt (tr i).T oi i ++ (tr i).lb ∧ (tr (i + 1)).ls = true := by
          rcases hlb with ⟨_, h1, h2, h3⟩ | ⟨h1, _⟩
          · exact ⟨h1, h2, h3⟩
          · rw [hlo] at h1; cases h1
        have hcase9 : i + 1 ≤ c ∨ (tr c).m = (tr i).m := by
          by_cases hci : i + 1 ≤ c
          · exact .inl hci
          · right
            refine ht.mem_eq hcle (by omega : i ≤ ops.size) fun j hj => ?_
            constructor
            · intro h1; omega
            · intro h1; rw [hcW j hj]; exact hah j h1 hj
        cases hop : oi.op with
        | load t x =>
          have hst9 : (aload E.P t (ev (tr i).T x) ((tr i).m.map sealed)).map (·, (tr i).m.map sealed) = some (v, m1) := by
            have := hstep
            unfold astep at this
            simp only [hop] at this
            unfold aop at this
            simp only [hop] at this
            exact this
          obtain ⟨hld9, rfl⟩ := map_pair hst9
          have hptr : ∃ b o, ev (tr i).T x = .pointer (some ⟨b, o, none⟩) := by
            unfold aload at hld9
            split at hld9
            · rename_i b o hp; exact ⟨b, o, hp⟩
            · cases hld9
          obtain ⟨b, o, hp⟩ := hptr
          have hsome : (look (tr i).m b).isSome = true := by
            rw [hp] at hld9
            unfold aload at hld9
            simp only [look_sealed] at hld9
            cases hq : look (tr i).m b with
            | none => rw [hq] at hld9; cases hld9
            | some q => rfl
          have hbl : (i, b) ∈ (tr (i + 1)).lb := by
            rw [hlb']
            apply List.mem_append_left
            simp [loadAt, loadBlk, hop, hp]
          have hlk : look (tr c).m b = look (tr i).m b := by
            rcases hcase9 with hci | hme
            · obtain ⟨d, hd⟩ := Nat.le.dest hci
              have := (ht.spared (i := i) d (by omega) hls (by rw [hd]; exact hnoah)).2.2.2.1 b hbl (by rw [hm']; exact hsome)
              rw [hd] at this
              rw [this, hm']
            · rw [hme]
          refine ⟨(tr c).m.map sealed, ?_, by simp⟩
          unfold astep
          simp only [hop]
          unfold aop
          simp only [hop]
          rw [hp] at hld9 ⊢
          rw [aload_look (m' := (tr i).m.map sealed) (by rw [look_sealed, look_sealed, hlk]), hld9]
          rfl
        | call cc =>
          unfold laterOk at hla
          simp only [hop] at hla
          split at hla
          · rename_i f hcf
            simp only [Bool.and_eq_true, decide_eq_true_eq] at hla
            obtain ⟨hcap, hargs, hlv, hG⟩ := hla
            have htabs : ((tr c).m.take E.G).map onlyTab = ((tr i).m.take E.G).map onlyTab := by
              rcases hcase9 with hci | hme
              · obtain ⟨d, hd⟩ := Nat.le.dest hci
                have := (ht.spared (i := i) d (by omega) hls (by rw [hd]; exact hnoah)).2.2.2.2 E.G (by rw [hm']; exact hG)
                rw [hd] at this
                rw [this, hm']
              · rw [hme]
            refine ⟨(tr c).m.map sealed, ?_, by simp⟩
            exact astep_later hop hcf hcap hargs hlv (by rw [sealed_tabs, sealed_tabs, htabs]) hstep (by rw [hml]; simp)
          · cases hla
        | _ => unfold laterOk at hla; simp only [hop] at hla; cases hla
      · have hah := writers_of_ready hmem hi.head hr hearly
        have hno : ∀ j, isW E.P E.wr ops j = true → (j < c ↔ j < i) := fun j hj => ⟨fun h1 => hlater hlo j hj ((hcW j hj).1 h1), fun h1 => (hcW j hj).2 (hah j h1 hj)⟩
        have hme := ht.mem_eq hcle (by omega : i ≤ ops.size) hno
        rw [hme]
        exact ⟨m1, hstep, hml⟩
    obtain ⟨m2, hst2, hml2⟩ := hstep'
    refine astep_wp hs hnum hx9 hms (hev hok) hok hst2 fun v' w1 ρ1 hvv hm1 hx1 => hK _ _ ?_
    have hle : ρ1.le ρ := by
      intro k x hk
      by_cases hlt : k < ((tr c).m.map sealed).length
      · rw [hx1.same k hlt] at hk; exact hk
      · rw [hm1.dom k (by simp at hlt; omega)] at hk; cases hk
    obtain ⟨hb1, hb2⟩ := mr_below hmr (below_of_sealed hx1)
    exact fin v' w1 ρ c (hvv.mono hle) (Ren.le_refl _) hcle (keepc (notW (by omega))) hb1 (hext.trans hb2)
  · rw [hguard true hg]
    simp only [if_true]
    left
    obtain ⟨h1, h2⟩ := atW hcl
    have hme : (tr c).m = (tr i).m := ht.mem_eq hcle (by omega) h1
    rw [hme] at hmr hext
    refine astep_wp hs hnum hx9 hmr (hev hok) hok hstep fun v' w1 ρ1 hvv hm1 hx1 => hK _ _ ?_
    exact fin v' w1 ρ1 (i + 1) hvv hx1.le (by omega) h2 hm1 (hext.trans hx1)
theorem draw_any {D : List Deferred} {E : Env} {self : Self} (hs : CallOK E.P (ainv E self)) (hnum : noNum E.P) (hx9 : XOK E) {ops : Array Oper} (hedge : edgesB ops = true) (hslots : slotsB ops = true) (hmem : memB E.P E.wr ops = true)
    {B : Nat} {tr : Nat → Tr} (ht : Trace E self ops B tr) {ρ0 : Ren} {w0 : World} {Q : Exit → Act → World → Prop} (hQ : ∀ a w, DInv D E ops tr ρ0 w0 (Array.replicate ops.size true) a w → Q .normal a w) :
    ∀ (f : Nat) (L : Array Bool) (a : Act) (w : World), DInv D E ops tr ρ0 w0 L a w → (List.range ops.size).countP (fun i => !L.getD i true) = f → wpAny E.P .any ops Q f L a w
  | 0, L, a, w, hi, hc => by
    have hall : ∀ i, i < ops.size → L.getD i true = true := by
      intro i hip
      rw [List.countP_eq_zero] at hc
      have := hc i (List.mem_range.2 hip)
      simpa using this
    have hL : L = Array.replicate ops.size true := by
      have hsz := hi.head.size
      apply Array.ext
      · simp [hsz]
      · intro i h1 h2
        have h3 := hall i (by omega)
        simp [h1] at h3
        simp [h3]
    refine ⟨?_, hQ a w (hL ▸ hi)⟩
    apply List.eq_nil_iff_forall_not_mem.2
    intro i hr
    obtain ⟨hun, oi, hoi, _⟩ := mem_ready.1 hr
    rw [hall i (Array.getElem?_eq_some_iff.1 hoi).1] at hun
    cases hun
  | f + 1, L, a, w, hi, hc => by
    have hex : ∃ i, i < ops.size ∧ L.getD i true = false := by
      apply Classical.byContradiction
      intro hno
      have : (List.range ops.size).countP (fun i => !L.getD i true) = 0 := by
        rw [List.countP_eq_zero]
        intro i hi'
        have hip := List.mem_range.1 hi'
        have : L.getD i true ≠ false := fun e => hno ⟨i, hip, e⟩
        simpa using this
      omega
    have hleast : ∃ i, i < ops.size ∧ L.getD i true = false ∧ ∀ j, j < i → L.getD j true = true := by
      obtain ⟨i, hip, hif⟩ := hex
      induction i using Nat.strongRecOn with
      | _ i ih =>
        by_cases h1 : ∃ j, j < i ∧ L.getD j true = false
        · obtain ⟨j, hj, hjf⟩ := h1
          exact ih j hj (by omega) hjf
        · refine ⟨i, hip, hif, fun j hj => ?_⟩
          have : L.getD j true ≠ false := fun e => h1 ⟨j, hj, e⟩
          simpa using this
    obtain ⟨i0, hi0, hif0, hmin⟩ := hleast
    have hready : i0 ∈ Region.ready .any ops L := by
      have ho : ops[i0]? = some ops[i0] := by simp
      refine mem_ready.2 ⟨hif0, ops[i0], ho, fun e he hb => ?_⟩
      have h1 := (List.all_eq_true.1 hedge) i0 (List.mem_range.2 (by omega))
      rw [ho] at h1
      simp only at h1
      have h2 := (Array.all_eq_true'.1 h1) e he
      simp only [hb, Bool.not_true, Bool.false_or, decide_eq_true_eq] at h2
      have h3 := hmin e.on h2
      have hlt : e.on < L.size := by rw [hi.head.size]; omega
      simp [hlt] at h3 ⊢; exact h3
    refine ⟨fun hnil => (by rw [hnil] at hready; cases hready), fun i hr => ?_⟩
    refine draw_step hs hnum hx9 hslots hmem ht L a w hi hr fun a1 w1 hi1 => ?_
    refine draw_any hs hnum hx9 hedge hslots hmem ht hQ f _ a1 w1 hi1 ?_
    obtain ⟨hun, oi, hoi, _⟩ := mem_ready.1 hr
    have hip : i < ops.size := (Array.getElem?_eq_some_iff.1 hoi).1
    have hLsz : i < L.size := by rw [hi.head.size]; exact hip
    have := countP_set (p := fun j => !L.getD j true) (q := fun j => !(L.setIfInBounds i true).getD j true) ops.size i hip (by simp [hun]) (by simp [getD_set_self hLsz true]) (fun x hx => by rw [getD_set_ne true (fun e => hx e.symm)])
    omega
theorem adraw_sound {E : Env} {self : Self} (hs : CallOK E.P (ainv E self)) (hnum : noNum E.P) (hx9 : XOK E) (hmix : E.P.follows .mixedOrders = true) {ops : Array Oper} (hok : drawOkB E.P E.wr ops = true) {T T1 : List Value} {m m1 : Mem}
    (h : adraw E self ops T m = some (T1, m1)) (id : Nat) {D : List Deferred} (ρ : Ren) (w : World) (a : Act) (hd : a.defers = D) (hm : MR E.P ρ m w) (ht : TR ρ T a.tmps) :
    (Code.region id ops true).wp E.P (fun e a1 w1 => e = .normal ∧ Post D E.P ρ m w T1 m1 a1 w1) a w := by
  simp only [drawOkB, Bool.and_eq_true] at hok
  obtain ⟨_, hedge, hslots, hmem⟩ := hok
  unfold adraw at h
  obtain ⟨tr, h0, h1, h1', hst⟩ := adrawL_trace _ _ _ _ _ _ _ _ h
  have htr : Trace E self ops m.length tr := ⟨by rw [h0]; exact Nat.le_refl _, fun i o ho => by
    have := hst i o (by simpa using ho)
    rw [Nat.zero_add] at this
    exact this⟩
  have hlen : ops.toList.length = ops.size := by simp
  rw [hlen] at h1 h1'
  refine wp_region_any hmix ?_
  have hcnt : (List.range ops.size).countP (fun i => !(Array.replicate ops.size false).getD i true) = ops.size := by
    have : ∀ q, q ≤ ops.size → (List.range q).countP (fun i => !(Array.replicate ops.size false).getD i true) = q := by
      intro q
      induction q with
      | zero => intro _; rfl
      | succ q ih =>
        intro hq
        rw [List.range_succ, List.countP_append, ih (by omega)]
        have hlt : q < ops.size := by omega
        simp [hlt]
    exact this _ (Nat.le_refl _)
  have hT0 : (tr 0).T = T := by rw [h0]
  have hm0 : (tr 0).m = m := by rw [h0]
  refine draw_any hs hnum hx9 hedge hslots hmem htr (D := D) (ρ0 := ρ) (w0 := { w with drawn := w.drawn + 1 }) (fun a2 w2 hi2 => ⟨rfl, ?fin⟩) ops.size (Array.replicate ops.size false) a { w with drawn := w.drawn + 1 } ?start hcnt
  case fin =>
    obtain ⟨ρ1, c, hcle, hcW, hmr, hext, hnew, hold⟩ := hi2.ex
    have hme : (tr c).m = (tr ops.size).m := htr.mem_eq hcle (Nat.le_refl _) fun j hj => by
      obtain ⟨oj, hoj, _⟩ := cls_of_isW hj
      have hjs : j < ops.size := (Array.getElem?_eq_some_iff.1 hoj).1
      rw [hcW j hj]
      simp [hjs]
    rw [hme, h1'] at hmr hext
    rw [hm0] at hext
    refine ⟨hi2.defers, ρ1, ⟨by rw [← h1, htr.length _ (Nat.le_refl _)]; exact hi2.size, fun t x y hx hy => ?_⟩, hmr, ((Ext.refl' w hm.dom).drawn (w.drawn + 1)).trans hext⟩
    rw [← h1] at hx
    by_cases hex : ∃ j, j < ops.size ∧ DstIs ops j t
    · obtain ⟨j, hj, hdj⟩ := hex
      exact hnew t x y ⟨j, hj, hdj, by simp [hj]⟩ hx hy
    · refine hold t x y (fun ⟨j, hj, hdj, _⟩ => hex ⟨j, hj, hdj⟩) ?_ hy
      rw [← htr.old _ (Nat.le_refl _) t hex]; exact hx
  case start =>
    refine ⟨⟨by simp, fun j oj _ hl => (by rw [getD_replicate_false] at hl; cases hl), fun t h8 h9 => (by omega)⟩, hd, by rw [hT0]; exact ht.size, ρ, 0, Nat.zero_le _, fun i _ => (by rw [getD_replicate_false]; simp), by rw [hm0]; exact hm.drawn _,
      by rw [hm0]; exact Ext.refl' _ hm.dom, fun t x y ⟨j, _, _, hl⟩ => (by rw [getD_replicate_false] at hl; cases hl), fun t x y _ hx hy => (by rw [hT0] at hx; exact ht.at_ t x y hx hy)⟩
end
end Go.Am
