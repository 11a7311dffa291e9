/-
  Texts of my own, put together: N, 9.
-/
import Derived.Test.YtmllcnlfocbdjaaGrWireReads7
import Derived.Test.YtmllcnlfocbdjaaProg
import Derived.KernelRfl
/-
  Temporaries as a function, for simp: reads are short, and nothing is spelled out (own work; nothing of a dump).
-/
set_option linter.unusedSimpArgs false
set_option linter.unusedVariables false
namespace Go.Am
noncomputable section

/-- What a guard looks at. -/
def gdV (v : Option Value) (want : Bool) : Option Bool := match v with
  | some (Value.bool b) => some (b == want)
  | some (Value.chan (some _)) => none
  | _ => some false
def gdAt (T : List Value) (d : Nat) (want : Bool) : Option Bool := gdV T[d]? want
theorem gdV_bool (b want : Bool) : gdV (some (.bool b)) want = some (b == want) := rfl
theorem gdV_undef (want : Bool) : gdV (some undef) want = some false := rfl

theorem agd_at {ops : Array Oper} {j d : Nat} {want : Bool} (h : (ops[j]?).map (·.dst) = some (some d)) {T : List Value} {dd : Option Tmp} {op : Op} {ty : TypeId} {pos : String} {af : Array Edge} :
    agd ops T { dst := dd, op := op, type := ty, pos := pos, after := af, guard := some (j, want) } = gdAt T d want := by
  obtain ⟨o, h1, h2⟩ := Option.map_eq_some_iff.1 h
  simp only [agd, h1, h2, gdAt, gdV]
  rfl
theorem agd_none {ops : Array Oper} {T : List Value} {dd : Option Tmp} {op : Op} {ty : TypeId} {pos : String} {af : Array Edge} :
    agd ops T { dst := dd, op := op, type := ty, pos := pos, after := af, guard := none } = some true := rfl
theorem bft : (false == true) = false := rfl
theorem btf : (true == false) = false := rfl
def upd (F : Nat → Value) (d : Nat) (v : Value) : Nat → Value := fun t => if t = d then v else F t
def lst (F : Nat → Value) (N : Nat) : List Value := (List.range N).map F
def init (l : List Value) : Nat → Value := fun t => l.getD t undef

theorem upd_at (F : Nat → Value) (d : Nat) (v : Value) (t : Nat) : upd F d v t = if t = d then v else F t := rfl
theorem lst_length (F : Nat → Value) (N : Nat) : (lst F N).length = N := by simp [lst]
theorem get_lst (F : Nat → Value) (N t : Nat) : (lst F N)[t]? = if t < N then some (F t) else none := by
  unfold lst
  rw [List.getElem?_map]
  by_cases h : t < N
  · rw [if_pos h, List.getElem?_range h]; rfl
  · rw [if_neg h, List.getElem?_eq_none (by simpa using h)]; rfl
theorem nth_lst (F : Nat → Value) (N t : Nat) : nth (lst F N) t = if t < N then F t else undef := by
  rw [nth_eq, List.getD_eq_getElem?_getD, get_lst]
  split <;> rfl
theorem setAt_lst (F : Nat → Value) (N : Nat) (v : Value) (d : Nat) : setAt (lst F N) v d = lst (upd F d v) N := by
  rw [setAt_eq]
  apply List.ext_getElem?
  intro i
  rw [List.getElem?_set, get_lst, get_lst, lst_length, upd_at]
  by_cases h : d = i
  · subst h
    simp
  · rw [if_neg h]
    have h' : ¬ i = d := fun e => h e.symm
    simp only [h', if_false]
theorem init_nil (t : Nat) : init [] t = undef := rfl
theorem init_zero (v : Value) (l : List Value) : init (v :: l) 0 = v := rfl
theorem init_succ (v : Value) (l : List Value) (t : Nat) : init (v :: l) (t + 1) = init l t := rfl
theorem lst_init {l : List Value} {N : Nat} (h : l.length ≤ N) : l ++ List.replicate (N - l.length) undef = lst (init l) N := by
  apply List.ext_getElem?
  intro i
  rw [get_lst]
  unfold init
  rw [List.getD_eq_getElem?_getD]
  by_cases h1 : i < l.length
  · rw [List.getElem?_append_left h1, if_pos (by omega)]
    simp [h1]
  · rw [List.getElem?_append_right (by omega), List.getElem?_replicate]
    by_cases h2 : i < N
    · rw [if_pos (by omega), if_pos h2, List.getElem?_eq_none (by omega)]; rfl
    · rw [if_neg (by omega), if_neg h2]

/-- A function's call, from its arguments on. -/
theorem abody_eqF {E : Env} {self : Self} {n : Nat} {f : FuncId} {fn : Func} {c : Code} {args : List Value} {m : Mem} (hg : E.good f = true) (hf : E.P.funcs[f]? = some fn) (hc : fn.body = some c) (hst : codeSt E.P c = true) (hn : args.length ≤ fn.ntmps) :
    abody E self n f args m = finish E.P fn (acodeN E self n c (lst (init args) fn.ntmps) m) := by
  rw [abody_eqN hg hf hc hst, lst_init hn]

variable {P : Program} {T : List Value} {d : Option Tmp} {s t ty : TypeId} {x y : Operand} {pos : String} {af : Array Edge} {g : Option (Nat × Bool)}

theorem apure_add : apure P T { dst := d, op := .binOp .add s x y t, type := ty, pos := pos, after := af, guard := g } = match ev T x with
    | .string a => (match ev T y with
      | .string c => if a.size + c.size ≤ 9223372036854775807 then some (.string (a ++ c)) else none
      | _ => apureC P T { dst := d, op := .binOp .add s x y t, type := ty, pos := pos, after := af, guard := g })
    | _ => apureC P T { dst := d, op := .binOp .add s x y t, type := ty, pos := pos, after := af, guard := g } := by
  cases hx : ev T x with
  | string a =>
    cases hy : ev T y with
    | string c =>
      have hm : (IntKind.i64.max : Int) = 9223372036854775807 := by decide
      by_cases hs : a.size + c.size ≤ 9223372036854775807
      · have h1 : ¬ (((a.size + c.size : Nat) : Int) > 9223372036854775807) := by omega
        simp only [apure, Op.operands, List.all_cons, List.all_nil, hx, hy, lit2, lit1, lit0, Bool.and_self, if_true, execOp, eqGuard, binOp, Op.stringOp, hm, h1, if_false, hs]
        rfl
      · have h1 : ((a.size + c.size : Nat) : Int) > 9223372036854775807 := by omega
        simp only [apure, Op.operands, List.all_cons, List.all_nil, hx, hy, lit2, lit1, lit0, Bool.and_self, if_true, execOp, eqGuard, binOp, Op.stringOp, hm, h1, if_false, hs]
        rfl
    | _ => rfl
  | _ => rfl

theorem apure_eql : apure P T { dst := d, op := .binOp .eql s x y t, type := ty, pos := pos, after := af, guard := g } = match ev T x with
    | .string a => (match ev T y with
      | .string c => some (.bool (a.toList == c.toList))
      | _ => apureC P T { dst := d, op := .binOp .eql s x y t, type := ty, pos := pos, after := af, guard := g })
    | .pointer (some _) => none
    | .slice (some _) _ _ => none
    | _ => apureC P T { dst := d, op := .binOp .eql s x y t, type := ty, pos := pos, after := af, guard := g } := by
  cases hx : ev T x with
  | string a =>
    cases hy : ev T y with
    | string c =>
      simp only [apure, Op.operands, List.all_cons, List.all_nil, hx, hy, lit2, lit1, lit0, Bool.and_self, if_true, execOp, eqGuard, binOp, Op.stringOp]
      rfl
    | _ => rfl
  | pointer a =>
    cases a with
    | none => rfl
    | some a =>
      unfold apure
      rw [if_neg]
      simp [Op.operands, hx, lit2, lit1, lit0]
  | slice a n c =>
    cases a with
    | none => rfl
    | some a =>
      unfold apure
      rw [if_neg]
      simp [Op.operands, hx, lit2, lit1, lit0]
  | _ => rfl

theorem apure_neq : apure P T { dst := d, op := .binOp .neq s x y t, type := ty, pos := pos, after := af, guard := g } = match ev T x with
    | .string a => (match ev T y with
      | .string c => some (.bool !(a.toList == c.toList))
      | _ => apureC P T { dst := d, op := .binOp .neq s x y t, type := ty, pos := pos, after := af, guard := g })
    | .pointer (some _) => none
    | .slice (some _) _ _ => none
    | _ => apureC P T { dst := d, op := .binOp .neq s x y t, type := ty, pos := pos, after := af, guard := g } := by
  cases hx : ev T x with
  | string a =>
    cases hy : ev T y with
    | string c =>
      simp only [apure, Op.operands, List.all_cons, List.all_nil, hx, hy, lit2, lit1, lit0, Bool.and_self, if_true, execOp, eqGuard, binOp, Op.stringOp]
      rfl
    | _ => rfl
  | pointer a =>
    cases a with
    | none => rfl
    | some a =>
      unfold apure
      rw [if_neg]
      simp [Op.operands, hx, lit2, lit1, lit0]
  | slice a n c =>
    cases a with
    | none => rfl
    | some a =>
      unfold apure
      rw [if_neg]
      simp [Op.operands, hx, lit2, lit1, lit0]
  | _ => rfl

/-- An operation on two values, by itself. -/
def apB (P : Program) (b : BinOp) (s t : TypeId) (u v : Value) : Option Value := apure P [u, v] { dst := none, op := .binOp b s (.tmp 0) (.tmp 1) t, type := 0, pos := "", after := #[], guard := none }

theorem eql_bool {p q : Bool} (hx : ev T x = .bool p) (hy : ev T y = .bool q) : apureC P T { dst := d, op := .binOp .eql s x y t, type := ty, pos := pos, after := af, guard := g } = apB P .eql s t (.bool p) (.bool q) := by
  unfold apureC apB
  have e0 : ev [.bool p, .bool q] (.tmp 0) = .bool p := rfl
  have e1 : ev [.bool p, .bool q] (.tmp 1) = .bool q := rfl
  simp only [apure, Op.operands, List.all_cons, List.all_nil, hx, hy, execOp, e0, e1]
  rfl

/-- A builtin's call, by itself. -/
def apC1 (P : Program) (b : Builtin) (ts : Array TypeId) (ty : TypeId) (u : Value) : Option Value := apure P [u] { dst := none, op := .call { callee := .builtin b, args := #[.tmp 0], argTypes := ts }, type := ty, pos := "", after := #[], guard := none }
theorem apure_call1 {b : Builtin} {ts : Array TypeId} {i : Nat} : apure P T { dst := d, op := .call { callee := .builtin b, args := #[.tmp i], argTypes := ts }, type := ty, pos := pos, after := af, guard := g } = apC1 P b ts ty (nth T i) := by
  unfold apC1 apure
  simp only [Op.operands, Call.operands, execOp, resolve, ev, nth_zero, nth_succ, Array.toList_append, List.nil_append, List.all_cons, List.all_nil, List.map_toArray, List.map_cons, List.map_nil]
def apC2 (P : Program) (b : Builtin) (ts : Array TypeId) (ty : TypeId) (u v : Value) : Option Value := apure P [u, v] { dst := none, op := .call { callee := .builtin b, args := #[.tmp 0, .tmp 1], argTypes := ts }, type := ty, pos := "", after := #[], guard := none }
theorem apure_call2 {b : Builtin} {ts : Array TypeId} {i j : Nat} : apure P T { dst := d, op := .call { callee := .builtin b, args := #[.tmp i, .tmp j], argTypes := ts }, type := ty, pos := pos, after := af, guard := g } = apC2 P b ts ty (nth T i) (nth T j) := by
  unfold apC2 apure
  simp only [Op.operands, Call.operands, execOp, resolve, ev, nth_zero, nth_succ, Array.toList_append, List.nil_append, List.all_cons, List.all_nil, List.map_toArray, List.map_cons, List.map_nil]
def apC3 (P : Program) (b : Builtin) (ts : Array TypeId) (ty : TypeId) (u v w : Value) : Option Value := apure P [u, v, w] { dst := none, op := .call { callee := .builtin b, args := #[.tmp 0, .tmp 1, .tmp 2], argTypes := ts }, type := ty, pos := "", after := #[], guard := none }
theorem apure_call3 {b : Builtin} {ts : Array TypeId} {i j k : Nat} : apure P T { dst := d, op := .call { callee := .builtin b, args := #[.tmp i, .tmp j, .tmp k], argTypes := ts }, type := ty, pos := pos, after := af, guard := g } = apC3 P b ts ty (nth T i) (nth T j) (nth T k) := by
  unfold apC3 apure
  simp only [Op.operands, Call.operands, execOp, resolve, ev, nth_zero, nth_succ, Array.toList_append, List.nil_append, List.all_cons, List.all_nil, List.map_toArray, List.map_cons, List.map_nil]

theorem pv_bind {α β : Type} {P : Program} {sm : Sem α} {f : α → Sem β} {a : α} (h : pv P sm = some a) : pv P (sm >>= f) = pv P (f a) := by
  show pv P (Sem.bind sm f) = _
  induction sm with
  | pure b => simp only [pv, Option.some.injEq] at h; subst h; rfl
  | program k ih => simp only [pv] at h; simp only [Sem.bind, pv]; exact ih P h
  | _ => simp [pv] at h

theorem pv_bound {v : Value} {n k : Nat} (code : BoundsCode) (h : abound v n = some k) : pv P (Instr.sliceBound v n code) = some k := by
  unfold abound at h
  split at h
  · rename_i kd i
    split at h
    · rename_i hb
      cases h
      unfold Instr.sliceBound
      rw [pv_bind (a := (kd, i)) rfl]
      simp only [hb, and_self, if_true]
      rfl
    · cases h
  · cases h

/-- A piece of a text. -/
theorem apure_slice {lo hi : Option Operand} {st : ByteArray} (ht : P.underlying t = some .string) (hx : ev T x = .string st) (hl : ∀ v, lo = some v → lit2 (ev T v) = true) (hh : ∀ v, hi = some v → lit2 (ev T v) = true) {l h : Nat}
    (hb : abounds st.size st.size (lo.map (ev T)) (hi.map (ev T)) = some (l, h)) :
    apure P T { dst := d, op := .slice t x lo hi none, type := ty, pos := pos, after := af, guard := g } = some (.string (st.extract l h)) := by
  have hu : pv P (underlying t) = some .string := by
    unfold underlying
    rw [pv_bind (a := P) rfl, ht]
    rfl
  have hbd : pv P (Instr.sliceBounds false st.size st.size (lo.map (ev T)) (hi.map (ev T)) none) = some (l, h, st.size) := by
    unfold abounds at hb
    unfold Instr.sliceBounds
    rw [pv_bind (a := st.size) rfl]
    cases hi with
    | none =>
      simp only [Option.map_none] at hb ⊢
      rw [pv_bind (a := st.size) rfl]
      cases lo with
      | none =>
        simp only [Option.map_none, Option.some.injEq, Prod.mk.injEq] at hb ⊢
        obtain ⟨rfl, rfl⟩ := hb
        rfl
      | some v =>
        simp only [Option.map_some] at hb ⊢
        split at hb
        · rename_i l0 hl0
          cases hb
          rw [pv_bind (pv_bound _ hl0)]
          rfl
        · cases hb
    | some u =>
      simp only [Option.map_some] at hb ⊢
      split at hb
      · rename_i h0 hh0
        rw [pv_bind (pv_bound _ hh0)]
        cases lo with
        | none =>
          simp only [Option.map_none, Option.some.injEq, Prod.mk.injEq] at hb ⊢
          obtain ⟨rfl, rfl⟩ := hb
          rfl
        | some v =>
          simp only [Option.map_some] at hb ⊢
          split at hb
          · rename_i l0 hl0
            cases hb
            rw [pv_bind (pv_bound _ hl0)]
            rfl
          · cases hb
      · cases hb
  have hops : ({ dst := d, op := .slice t x lo hi none, type := ty, pos := pos, after := af, guard := g } : Oper).op.operands.toList.all (fun x => lit2 (ev T x)) = true := by
    have h0 : lit2 (ev T x) = true := by rw [hx]; rfl
    cases lo with
    | none => cases hi with
      | none => simp [Op.operands, h0]
      | some u => simp [Op.operands, h0, show lit2 (ev T u) = true from hh u rfl]
    | some v => cases hi with
      | none => simp [Op.operands, h0, show lit2 (ev T v) = true from hl v rfl]
      | some u => simp [Op.operands, h0, show lit2 (ev T u) = true from hh u rfl, show lit2 (ev T v) = true from hl v rfl]
  have hex : pv P (execOp (ev T) { dst := d, op := .slice t x lo hi none, type := ty, pos := pos, after := af, guard := g }) = some (.value (.string (st.extract l h))) := by
    simp only [execOp, hx, Option.map_none]
    rw [pv_bind (a := Value.string (st.extract l h)) ?_]
    · rfl
    unfold Instr.sliceAt
    rw [pv_bind hu]
    show pv P (Instr.slice t (.string st) _ _ none) = _
    unfold Instr.slice
    rw [pv_bind hu]
    simp only [Option.isSome_none, Bool.false_eq_true, if_false]
    rw [pv_bind hbd]
    rfl
  unfold apure
  rw [if_pos hops, hex]
  rfl
/-- low : high of a text. -/
def sliceS (st : ByteArray) (a b : Int) : Option Value := if 0 ≤ b ∧ b ≤ (st.size : Int) then if 0 ≤ a ∧ a ≤ b then some (.string (st.extract a.toNat b.toNat)) else none else none

/-- One or the other. -/
def orElse (a : Option Value) (b : Option Value) : Option Value := match a with
  | some v => some v
  | none => b
theorem orElse_some (v : Value) (b : Option Value) : orElse (some v) b = some v := rfl

theorem abounds_sliceS {st : ByteArray} {k k' : IntKind} {a b : Int} {v : Value} (h : sliceS st a b = some v) : ∃ l hh, abounds st.size st.size (some (.int k a)) (some (.int k' b)) = some (l, hh) ∧ v = .string (st.extract l hh) := by
  unfold sliceS at h
  split at h
  · rename_i h1
    split at h
    · rename_i h2
      cases h
      refine ⟨a.toNat, b.toNat, ?_, rfl⟩
      unfold abounds abound
      simp only
      rw [if_pos h1]
      simp only
      rw [if_pos (by omega)]
    · cases h
  · cases h

theorem apure_slice2 {lo hi : Operand} (ht : P.underlying t = some .string) : apure P T { dst := d, op := .slice t x (some lo) (some hi) none, type := ty, pos := pos, after := af, guard := g } = match ev T x with
    | .string st => (match ev T lo with
      | .int _ a => (match ev T hi with
        | .int _ b => orElse (sliceS st a b) (apureC P T { dst := d, op := .slice t x (some lo) (some hi) none, type := ty, pos := pos, after := af, guard := g })
        | _ => apureC P T { dst := d, op := .slice t x (some lo) (some hi) none, type := ty, pos := pos, after := af, guard := g })
      | _ => apureC P T { dst := d, op := .slice t x (some lo) (some hi) none, type := ty, pos := pos, after := af, guard := g })
    | _ => apureC P T { dst := d, op := .slice t x (some lo) (some hi) none, type := ty, pos := pos, after := af, guard := g } := by
  cases hx : ev T x with
  | string st =>
    cases hl : ev T lo with
    | int k a =>
      cases hh : ev T hi with
      | int k' b =>
        simp only
        cases hs : sliceS st a b with
        | none => rfl
        | some v =>
          obtain ⟨l, h, hb, rfl⟩ := abounds_sliceS (k := k) (k' := k') hs
          rw [orElse_some]
          exact apure_slice ht hx (fun v hv => by cases hv; rw [hl]; rfl) (fun v hv => by cases hv; rw [hh]; rfl) (by simpa [hl, hh] using hb)
      | _ => rfl
    | _ => rfl
  | _ => rfl

theorem wrap_i64 {n : Int} (h : 0 ≤ n) (h' : n < 9223372036854775808) : wrapF .i64 n = n := by
  simp only [wrapF]
  rw [if_neg (by omega)]
  omega
/-- Which operations of a drawn region may come early, which late. -/
def drawTab (P : Program) (wr : FuncId → Bool) (ops : Array Oper) : List (Bool × Bool) := (List.range ops.size).map fun i => match ops[i]? with
  | some o => (match cls P wr o with
    | 1 => (earlyB P wr ops i, looseB P wr ops i)
    | _ => (false, false))
  | none => (false, false)

/-- A drawn region, by its table. -/
def adrawT (E : Env) (self : Self) (ops : Array Oper) (B : Nat) : List Oper → List (Bool × Bool) → Nat → List Value → Mem → List (Nat × Nat) → Bool → Option (List Value × Mem)
  | [], _, _, T, m, _, _ => some (T, m)
  | _ :: _, [], _, _, _, _, _ => none
  | o :: l, (e, q) :: tb, i, T, m, lb, ls => match agd ops T o with
    | some true => match cls E.P E.wr o with
        | 0 => match afloat E.P T o with
          | some v => adrawT E self ops B l tb (i + 1) (aput T o.dst v) m lb ls
          | none => none
        | 1 => match astep E self T (m.map sealed) o with
          | some (v, m1) => if earlyOk E T B m o v || !e then if m1.length = m.length then match q with
              | true => if laterOk E T m o v then adrawT E self ops B l tb (i + 1) (aput T o.dst v) m (loadAt T o i ++ lb) true else none
              | false => adrawT E self ops B l tb (i + 1) (aput T o.dst v) m lb ls
            else none
            else none
          | none => none
        | _ => if !ls || sparesB E T (liveB E.P E.wr ops lb i) o then match astep E self T m o with
            | some (v, m1) => adrawT E self ops B l tb (i + 1) (aput T o.dst v) m1 lb ls
            | none => none
          else none
    | some false => adrawT E self ops B l tb (i + 1) (aput T o.dst undef) m lb ls
    | none => none

theorem adrawT_eq {E : Env} {self : Self} {ops : Array Oper} {B : Nat} : ∀ (l : List Oper) (i : Nat) (T : List Value) (m : Mem) (lb : List (Nat × Nat)) (ls : Bool), ops.toList.drop i = l →
    adrawN E self ops B l i T m lb ls = adrawT E self ops B l ((drawTab E.P E.wr ops).drop i) i T m lb ls
  | [], _, _, _, _, _, _ => by rw [adrawN, adrawT]
  | o :: l, i, T, m, lb, ls, h => by
    have hi : i < ops.size := by
      have := congrArg List.length h
      simp at this
      omega
    have ho : ops[i]? = some o := by
      have := congrArg (fun l : List Oper => l[0]?) h
      simpa using this
    have ht : (drawTab E.P E.wr ops).drop i = (match cls E.P E.wr o with
        | 1 => (earlyB E.P E.wr ops i, looseB E.P E.wr ops i)
        | _ => (false, false)) :: (drawTab E.P E.wr ops).drop (i + 1) := by
      have hl : i < (drawTab E.P E.wr ops).length := by simp [drawTab, hi]
      rw [List.drop_eq_getElem_cons hl]
      congr 1
      simp [drawTab, ho]
    have hn : ops.toList.drop (i + 1) = l := by
      rw [← List.drop_drop, h]; rfl
    have ih : ∀ T m lb ls, adrawN E self ops B l (i + 1) T m lb ls = adrawT E self ops B l ((drawTab E.P E.wr ops).drop (i + 1)) (i + 1) T m lb ls := fun T m lb ls => adrawT_eq l (i + 1) T m lb ls hn
    rw [ht, adrawN, adrawT]
    simp only [ih]
    cases hg : agd ops T o with
    | none => rfl
    | some b =>
      cases b with
      | false => rfl
      | true =>
        simp only
        have hle := cls_le E.P E.wr o
        match hc : cls E.P E.wr o, hle with
        | 0, _ => rfl
        | 1, _ => rfl
        | 2, _ => rfl

theorem adraw_tab {E : Env} {self : Self} {ops : Array Oper} {B : Nat} {T : List Value} {m : Mem} {lb : List (Nat × Nat)} {ls : Bool} {tb : List (Bool × Bool)} (h : drawTab E.P E.wr ops = tb) :
    adrawN E self ops B ops.toList 0 T m lb ls = adrawT E self ops B ops.toList tb 0 T m lb ls := by
  rw [adrawT_eq ops.toList 0 _ _ _ _ (by simp), List.drop_zero, h]
/-- A loop that goes through its rounds, and perhaps leaves early. -/
theorem aloop_inv {body : List Value → Mem → CRes} {I : Nat → List Value → Mem → Prop} {Q : AExit → List Value → Mem → Prop} {N : Nat}
    (step : ∀ i T m, i ≤ N → I i T m → (∃ T' m', body T m = some (.normal, T', m') ∧ i < N ∧ I (i + 1) T' m') ∨ (∃ e T' m', body T m = some (e, T', m') ∧ e ≠ .normal ∧ Q e T' m')) :
    ∀ (k i f : Nat) (T : List Value) (m : Mem), i + k = N → k < f → I i T m → ∃ e T' m', aloop body f T m = some (e, T', m') ∧ Q e T' m' := by
  intro k
  induction k with
  | zero =>
    intro i f T m hk hf hi
    obtain ⟨f, rfl⟩ : ∃ g, f = g + 1 := ⟨f - 1, by omega⟩
    rcases step i T m (by omega) hi with ⟨T', m', _, hlt, _⟩ | ⟨e, T', m', hb, he, hq⟩
    · omega
    · refine ⟨e, T', m', ?_, hq⟩
      rw [aloop, hb]
      cases e with
      | normal => exact absurd rfl he
      | exit id => rfl
      | ret => rfl
  | succ k ih =>
    intro i f T m hk hf hi
    obtain ⟨f, rfl⟩ : ∃ g, f = g + 1 := ⟨f - 1, by omega⟩
    rcases step i T m (by omega) hi with ⟨T', m', hb, hlt, hn⟩ | ⟨e, T', m', hb, he, hq⟩
    · obtain ⟨e, T2, m2, h2, hq⟩ := ih (i + 1) f T' m' (by omega) (by omega) hn
      exact ⟨e, T2, m2, by rw [aloop, hb]; exact h2, hq⟩
    · refine ⟨e, T', m', ?_, hq⟩
      rw [aloop, hb]
      cases e with
      | normal => exact absurd rfl he
      | exit id => rfl
      | ret => rfl
end
end Go.Am

/-
  The abstract machine of this seat's program: what is told of it (own work).
-/
set_option linter.unusedSimpArgs false
set_option linter.unusedVariables false
namespace Go.Am.Seat
open Go.Proofs Go.Am

def wrs : List Nat := [34, 36, 35, 52, 53]
def wrF (g : FuncId) : Bool := wrs.contains g
def extF (g : FuncId) : Option XK := if g = 54 then some .same else if g = 55 then some (.noZero 5) else none

def hasCall (ops : Array Oper) : Bool := ops.toList.any fun o => match o.op with
  | .call _ => true
  | _ => false
/-- Drawn regions that make variables, which are taken by themselves. -/
def srF (id : Nat) (ops : Array Oper) : Bool := (hasCall ops && ([(1, 19), (1, 13), (1, 9), (1, 11)] : List (Nat × Nat)).any fun p => id == p.1 && ops.size == p.2)
/-- Drawn regions that make rows. -/
def mkF (id : Nat) (ops : Array Oper) : Bool := (hasCall ops && ([(1, 19), (1, 13), (1, 9), (1, 11)] : List (Nat × Nat)).any fun p => id == p.1 && ops.size == p.2)

noncomputable def E : Env := { P := Try.prog, G := 1, wr := wrF, ext := extF, fast := fun g => none, strict := true, sr := srF, mkr := mkF, good := fun g => !(([] : List Nat).contains g) }

def int64s (l : List Int) : List Value := l.map (.int .u64)
def keys : List Int := [4794697086780616226, 8158064640168781261, 13096744586834688815, 16840607885511220156, 4131703408338449720, 6480981068601479193, 10538285296894168987, 12329834152419229976, 15566598209576043074, 1334009975649890238, 2608012711638119052, 6128411473006802146, 8268148722764581231, 9286055187155687089, 11230858885718282805, 13951009754708518548, 16472876342353939154, 17275323862435702243, 1135362057144423861, 2597628984639134821, 3308224258029322869, 5365058923640841347, 6679025012923562964, 8573033837759648693, 10970295158949994411, 12119686244451234320, 12683024718118986047, 13788192230050041572, 14330467153632333762, 15395433587784984357, 489312712824947311, 1452737877330783856, 2861767655752347644, 3322285676063803686, 5560940570517711597, 5996557281743188959, 7280758554555802590, 8532644243296465576, 9350256976987008742, 10552545826968843579, 11727347734174303076, 12113106623233404929, 14000437183269869457, 14369950271660146224, 15101387698204529176, 15463397548674623760, 17586052441742319658, 1182934255886127544, 1847814050463011016, 2177327727835720531, 2830643537854262169, 3796741975233480872, 4115178125766777443, 5681478168544905931, 6601373596472566643, 7507060721942968483, 8399075790359081724, 8693463985226723168, 9568029438360202098, 10144078919501101548, 10430055236837252648, 11840083180663258601, 13761210420658862357, 14299343276471374635, 14566680578165727644, 15097957966210449927, 16922976911328602910, 17689382322260857208, 500013540394364858, 748580250866718886, 1242879168328830382, 1977374033974150939, 2944078676154940804, 3659926193048069267, 4368137639120453308, 4836135668995329356, 5532061633213252278, 6448918945643986474, 6902733635092675308, 7801388544844847127]
def start : List Int := [7640891576956012808, 13503953896175478587, 4354685564936845355, 11912009170470909681, 5840696475078001361, 11170449401992604703, 2270897969802886507, 6620516959819538809]
def pows : List Int := [1, 10, 100, 1000, 10000, 100000, 1000000, 10000000, 100000000, 1000000000, 10000000000, 100000000000, 1000000000000, 10000000000000, 100000000000000, 1000000000000000, 10000000000000000, 100000000000000000, 1000000000000000000, 10000000000000000000]

/-- The memory at the start of a law for which nothing is laid. -/
def mem0 : Mem := [.dead]

/-- The memory at a law's start, of the first and of the second chapter: what is laid for it. -/
def mem1 : Mem := [.dead]
def mem2 : Mem := [.dead]
def primeW : List Int := [18446744073709551597, 18446744073709551615, 18446744073709551615, 9223372036854775807, 0, 0, 0, 0]
def rootW : List Int := [14190309331451158704, 3405592160176694392, 3120150775007532967, 3135389899092516619]
def mem5 : Mem := [.dead]
def mem5r : Mem := [.dead]

def isTrue : Option (Value × Mem) → Bool
  | some (.bool true, _) => true
  | _ => false

end Go.Am.Seat
