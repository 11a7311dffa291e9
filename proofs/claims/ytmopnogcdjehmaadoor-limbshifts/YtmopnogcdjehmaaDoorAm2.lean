/-
  The abstract machine: operands, and the operations one by one, each with its soundness over the model (own work; nothing of a dump).
-/
import Derived.Test.YtmopnogcdjehmaaDoorAm1
set_option linter.unusedSimpArgs false
set_option linter.unusedVariables false
namespace Go.Am
noncomputable section

/-- The value at a place; another one put there: by the recursors themselves, for the kernel's sake. -/
noncomputable def nth (T : List Value) : Nat → Value :=
  @List.rec Value (fun _ => Nat → Value) (fun _ => undef) (fun v _ ih t => @Nat.rec (fun _ => Value) v (fun k _ => ih k) t) T

theorem nth_eq : ∀ (T : List Value) (t : Nat), nth T t = T.getD t undef
  | [], _ => rfl
  | _ :: _, 0 => rfl
  | _ :: T, t + 1 => nth_eq T t

noncomputable def setAt (T : List Value) (v : Value) : Nat → List Value :=
  @List.rec Value (fun _ => Nat → List Value) (fun _ => []) (fun a l ih t => @Nat.rec (fun _ => List Value) (v :: l) (fun k _ => a :: ih k) t) T

theorem setAt_eq : ∀ (T : List Value) (v : Value) (t : Nat), setAt T v t = T.set t v
  | [], _, _ => rfl
  | _ :: _, _, 0 => rfl
  | a :: T, v, t + 1 => congrArg (a :: ·) (setAt_eq T v t)

def ev (T : List Value) : Operand → Value
  | .tmp t => nth T t
  | .const v => v
  | .global g => .pointer (some ⟨g, 0, none⟩)
  | .func f => .func (.func f) #[] #[]

/-- The temporaries and the act's. -/
structure TR (ρ : Ren) (T : List Value) (t : Array Value) : Prop where
  size : T.length = t.size
  at_ : ∀ (i : Nat) (x y : Value), T[i]? = some x → t[i]? = some y → VR ρ x y

theorem TR.mono {ρ ρ' : Ren} (hl : ρ.le ρ') {T : List Value} {t : Array Value} (h : TR ρ T t) : TR ρ' T t :=
  ⟨h.size, fun i x y hx hy => (h.at_ i x y hx hy).mono hl⟩

theorem vr_undef (ρ : Ren) : VR ρ undef undef := .lit rfl

theorem TR.set {ρ : Ren} {T : List Value} {t : Array Value} (h : TR ρ T t) (d : Nat) {v v' : Value} (hv : VR ρ v v') : TR ρ (T.set d v) (t.setIfInBounds d v') := by
  refine ⟨by simp [h.size], fun i x y hx hy => ?_⟩
  rw [List.getElem?_set] at hx
  rw [Array.getElem?_setIfInBounds] at hy
  by_cases hd : d = i
  · subst hd
    simp only [if_true] at hx hy
    split at hx
    · split at hy
      · cases hx; cases hy; exact hv
      · cases hy
    · cases hx
  · simp only [hd, if_false] at hx hy
    exact h.at_ i x y hx hy

/-- An operand of which the machine knows what it is. -/
def okOperand (P : Program) : Operand → Bool
  | .const v => lit2 v
  | .global g => decide (g < P.globals.size)
  | _ => true

theorem ev_vr {P : Program} {ρ : Ren} {m : Mem} {w : World} {T : List Value} {a : Act} (hm : MR P ρ m w) (ht : TR ρ T a.tmps) (x : Operand) (hx : okOperand P x = true) :
    VR ρ (ev T x) (a.eval x) := by
  cases x with
  | tmp t =>
    simp only [ev, nth_eq, Act.eval]
    by_cases h : t < T.length
    · have h' : t < a.tmps.size := by rw [← ht.size]; exact h
      have h1 : T[t]? = some T[t] := by simp [h]
      have h2 : a.tmps[t]? = some a.tmps[t] := by simp [h']
      have := ht.at_ t _ _ h1 h2
      simpa [List.getD, h1, Array.getD, h'] using this
    · have h' : ¬ t < a.tmps.size := by rw [← ht.size]; exact h
      rw [show T.getD t undef = undef by simp [List.getD, List.getElem?_eq_none (Nat.le_of_not_lt h)]]
      simp only [Array.getD, h', dite_false]
      exact vr_undef ρ
  | const v => exact .lit hx
  | global g =>
    obtain ⟨x, h1, h2⟩ := hm.glob g (by simpa [okOperand] using hx)
    simp only [ev, nth_eq, Act.eval]
    rw [show (⟨g, 0, none⟩ : Addr) = ⟨x.r, 0, none⟩ by rw [h2]]
    have := VR.ptr (ρ := ρ) (o := 0) h1
    rw [h2] at this ⊢
    exact this
  | func f => exact .lit rfl

/-- Of a computation that only computes: what it comes to. -/
def pv {α : Type} (P : Program) : Sem α → Option α
  | .pure a => some a
  | .program k => pv P (k P)
  | _ => none

theorem pv_run {α : Type} {P : Program} {s : Sem α} {x : α} (h : pv P s = some x) (w : World) : s.run P w = .ok x w := by
  induction s with
  | pure a => simp only [pv, Option.some.injEq] at h; subst h; rfl
  | program k ih => simp only [pv] at h; simp only [Sem.run]; exact ih P h
  | _ => simp [pv] at h

/-- The value's cells, each one cell indeed. -/
def cellOk : Value → Bool
  | .agg _ => false
  | .tuple _ => false
  | .chan (some _) => false
  | _ => true

def vcells : Value → Option (List Value)
  | .agg cs => if cs.toList.all cellOk then some cs.toList else none
  | .tuple _ => none
  | .chan (some _) => none
  | v => some [v]

theorem oneCell_of_vr {ρ : Ren} {x y : Value} (h : VR ρ x y) (hc : cellOk x = true) : y.oneCell' = true := by
  cases h with
  | lit _ => cases x <;> simp_all [cellOk, Value.oneCell']
  | junk => simp [junk, cellOk] at hc
  | ptr _ => rfl
  | slice _ _ => rfl
  | agg _ _ => simp [cellOk] at hc
  | tuple _ _ => simp [cellOk] at hc

theorem vcells_vr {ρ : Ren} {v v' : Value} (h : VR ρ v v') {l : List Value} (hl : vcells v = some l) :
    l.length = v'.cells.size ∧ (∀ (i : Nat) (x y : Value), l[i]? = some x → v'.cells[i]? = some y → VR ρ x y) ∧ (∀ y ∈ v'.cells.toList, y.oneCell' = true) := by
  cases h with
  | lit hlit =>
    cases v <;> simp only [vcells] at hl
    case agg cs =>
      split at hl
      · rename_i hall
        cases hl
        refine ⟨by simp [Value.cells], fun i x y hx hy => ?_, fun y hy => ?_⟩
        · simp only [Value.cells] at hy
          have : x = y := by
            have : cs.toList[i]? = cs[i]? := by simp
            rw [this, hy] at hx
            exact (Option.some.inj hx).symm
          subst this
          simp only [lit2, lit1] at hlit
          exact .lit (lit2_of_lit1 (lit1_of_lit0 ((List.all_eq_true.1 hlit) x (List.mem_of_getElem? hx))))
        · simp only [Value.cells] at hy
          have := (List.all_eq_true.1 hall) y hy
          cases y <;> simp_all [cellOk, Value.oneCell']
      · cases hl
    case tuple => cases hl
    case chan r =>
      cases r <;> simp at hl
      subst hl
      exact ⟨rfl, fun i x y hx hy => by cases i <;> simp [Value.cells] at hx hy; subst hx; subst hy; exact .lit hlit, fun y hy => by simp [Value.cells] at hy; subst hy; rfl⟩
    all_goals (simp only [Option.some.injEq] at hl; subst hl; exact ⟨rfl, fun i x y hx hy => by cases i <;> simp [Value.cells] at hx hy; subst hx; subst hy; exact .lit hlit, fun y hy => by simp [Value.cells] at hy; subst hy; rfl⟩)
  | junk => simp [junk, vcells] at hl
  | ptr h => simp only [vcells, Option.some.injEq] at hl; subst hl; exact ⟨rfl, fun i x y hx hy => by cases i <;> simp [Value.cells] at hx hy; subst hx; subst hy; exact .ptr h, fun y hy => by simp [Value.cells] at hy; subst hy; rfl⟩
  | slice h hc => simp only [vcells, Option.some.injEq] at hl; subst hl; exact ⟨rfl, fun i x y hx hy => by cases i <;> simp [Value.cells] at hx hy; subst hx; subst hy; exact .slice h hc, fun y hy => by simp [Value.cells] at hy; subst hy; rfl⟩
  | agg hn hx =>
    rename_i l0 l1
    simp only [vcells] at hl
    split at hl
    · rename_i hall
      cases hl
      refine ⟨by simpa [Value.cells] using hn, fun i x y h1 h2 => hx i x y h1 (by simpa [Value.cells] using h2), fun y hy => ?_⟩
      simp only [Value.cells] at hy
      obtain ⟨i, hi⟩ := List.mem_iff_getElem?.1 hy
      have hlt : i < l.length := by rw [hn]; exact (List.getElem?_eq_some_iff.1 hi).1
      have h1 : l[i]? = some l[i] := by simp [hlt]
      exact oneCell_of_vr (hx i _ _ h1 hi) ((List.all_eq_true.1 hall) _ (List.mem_of_getElem? h1))
    · cases hl
  | tuple _ _ => simp [vcells] at hl

end
end Go.Am
