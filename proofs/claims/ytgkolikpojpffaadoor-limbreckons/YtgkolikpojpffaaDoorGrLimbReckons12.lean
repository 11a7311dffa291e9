/-
  Equality of numbers of eight words (own work).
-/
import Derived.Test.YtgkolikpojpffaaDoorGrLimbReckons11
set_option linter.unusedSimpArgs false
set_option linter.unusedVariables false
set_option maxRecDepth 100000
namespace Go.Am.Seat
open Go.Proofs Go.Am
theorem pv_und {t : TypeId} {d : TypeDesc} (h : E.P.underlying t = some d) : pv E.P (underlying t) = some d := by
  unfold underlying
  rw [pv_bind (a := E.P) rfl, h]
  rfl
noncomputable def eqlVal (P : Program) (s : TypeId) (x y : Operand) (u v : Value) : Option Value :=
  if lit2 u && (lit2 v && true) then
    match pv P ((eqGuard .eql s x y u v >>= fun _ => binOp .eql s u v) >>= fun r => pure (Next.value r)) with
    | some (.value r) => if lit2 r then some r else none
    | _ => none
  else none
theorem apure_eqlV {P : Program} {T : List Value} {d : Option Tmp} {s t ty : TypeId} {x y : Operand} {pos : String} {af : Array Edge} {g : Option (Nat × Bool)} :
    apure P T { dst := d, op := .binOp .eql s x y t, type := ty, pos := pos, after := af, guard := g } = eqlVal P s x y (ev T x) (ev T y) := by
  unfold apure eqlVal
  simp only [Op.operands, List.all_cons, List.all_nil, execOp]
  rfl
theorem eqlVal_int {P : Program} {s : TypeId} {x y : Operand} {k : IntKind} {a b : Int} : eqlVal P s x y (.int k a) (.int k b) = some (.bool (a == b)) := by
  unfold eqlVal
  simp only [lit2, lit1, lit0, Bool.and_self, if_true, eqGuard, binOp, ne_eq, not_true, if_false, Op.intCmp]
  rfl
theorem aop_eqlV {P : Program} {T : List Value} {m : Mem} {d : Option Tmp} {s t ty : TypeId} {x y : Operand} {pos : String} {af : Array Edge} {g : Option (Nat × Bool)} :
    aop P T m { dst := d, op := .binOp .eql s x y t, type := ty, pos := pos, after := af, guard := g } = (eqlVal P s x y (ev T x) (ev T y)).map (·, m) := by
  have hp := apure_eqlV (P := P) (T := T) (d := d) (s := s) (t := t) (ty := ty) (x := x) (y := y) (pos := pos) (af := af) (g := g)
  unfold aop
  simp only
  cases hx : ev T x with
  | int k a =>
    cases hy : ev T y with
    | int k' b =>
      simp only
      by_cases hk : k = k'
      . subst hk
        rw [eqlVal_int]
        have : abin .eql k a k b = some (.bool (a == b)) := by unfold abin; simp only [if_true]
        rw [this]
        rfl
      . have : abin .eql k a k' b = none := by unfold abin; simp only [hk, if_false]
        rw [this]
        simp only
        rw [hp, hx, hy]
    | _ => simp only; rw [hp, hx, hy]
  | _ => simp only; rw [hp, hx]
end Go.Am.Seat
