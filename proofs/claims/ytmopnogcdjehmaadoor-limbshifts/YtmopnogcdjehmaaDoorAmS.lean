/-
  The abstract machine with known facts: a run is cut into pieces, each of them proved alone (own work; nothing of a dump).
-/
import Derived.Test.YtmopnogcdjehmaaDoorAm8
set_option linter.unusedSimpArgs false
set_option linter.unusedVariables false
namespace Go.Am
noncomputable section

def eqV0 : Value → Value → Bool
  | .int k n, .int k' n' => decide (k = k') && decide (n = n')
  | .bool b, .bool b' => b == b'
  | .string s, .string s' => decide (s.data.toList = s'.data.toList)
  | _, _ => false

theorem eqV0_sound {x y : Value} (h : eqV0 x y = true) : x = y := by
  unfold eqV0 at h
  split at h
  · simp only [Bool.and_eq_true, decide_eq_true_eq] at h
    obtain ⟨rfl, rfl⟩ := h
    rfl
  · simp only [beq_iff_eq] at h
    rw [h]
  · rename_i s s'
    have h1 : s.data.toList = s'.data.toList := of_decide_eq_true h
    obtain ⟨⟨l⟩⟩ := s
    obtain ⟨⟨l'⟩⟩ := s'
    simp only at h1
    rw [h1]
  · cases h

def eqL (eq : Value → Value → Bool) : List Value → List Value → Bool
  | [], [] => true
  | x :: l, y :: l' => eq x y && eqL eq l l'
  | _, _ => false

theorem eqL_sound {eq : Value → Value → Bool} (he : ∀ x y, eq x y = true → x = y) : ∀ {l l' : List Value}, eqL eq l l' = true → l = l'
  | [], [], _ => rfl
  | x :: l, y :: l', h => by
    simp only [eqL, Bool.and_eq_true] at h
    rw [he x y h.1, eqL_sound he h.2]
  | [], _ :: _, h => by simp [eqL] at h
  | _ :: _, [], h => by simp [eqL] at h

def eqV : Value → Value → Bool
  | .agg c, .agg c' => eqL eqV0 c.toList c'.toList
  | x, y => eqV0 x y

theorem eqV_sound {x y : Value} (h : eqV x y = true) : x = y := by
  unfold eqV at h
  split at h
  · rename_i c c'
    have h1 := eqL_sound (fun _ _ => eqV0_sound) h
    obtain ⟨l⟩ := c
    obtain ⟨l'⟩ := c'
    simp only at h1
    rw [h1]
  · exact eqV0_sound h

def eqB : Blk → Blk → Bool
  | .dead, .dead => true
  | .tab e cs, .tab e' cs' => decide (e = e') && eqL eqV0 cs cs'
  | _, _ => false

def eqM : Mem → Mem → Bool
  | [], [] => true
  | x :: l, y :: l' => eqB x y && eqM l l'
  | _, _ => false

theorem eqB_sound {x y : Blk} (h : eqB x y = true) : x = y := by
  unfold eqB at h
  split at h
  · rfl
  · simp only [Bool.and_eq_true, decide_eq_true_eq] at h
    rw [h.1, eqL_sound (fun _ _ => eqV0_sound) h.2]
  · cases h

theorem eqM_sound : ∀ {l l' : Mem}, eqM l l' = true → l = l'
  | [], [], _ => rfl
  | x :: l, y :: l', h => by
    simp only [eqM, Bool.and_eq_true] at h
    rw [eqB_sound h.1, eqM_sound h.2]
  | [], _ :: _, h => by simp [eqM] at h
  | _ :: _, [], h => by simp [eqM] at h

/-- What is known: a function's answer at some arguments, over one memory. -/
structure Fact where
  g : FuncId
  args : List Value
  v : Value

/-- It is so. -/
def Fact.holds (P : Program) (M : Mem) (F : Fact) : Prop := ∀ ρ w (args' : Array Value), MR P ρ M w → TR ρ F.args args' → Calls P F.g args' w (Ends P ρ M w F.v M)

def lookF : List Fact → FuncId → List Value → Option Value
  | [], _, _ => none
  | F :: l, g, args => if F.g = g then if eqL eqV F.args args then some F.v else lookF l g args else lookF l g args

def hasF : List Fact → FuncId → Bool
  | [], _ => false
  | F :: l, g => if F.g = g then true else hasF l g

theorem lookF_sound {g : FuncId} {args : List Value} {v : Value} : ∀ {l : List Fact}, lookF l g args = some v → ∃ F, F ∈ l ∧ F.g = g ∧ F.args = args ∧ F.v = v
  | [], h => by simp [lookF] at h
  | F :: l, h => by
    unfold lookF at h
    split at h
    · rename_i hg
      split at h
      · rename_i ha
        cases h
        exact ⟨F, by simp, hg, eqL_sound (fun _ _ => eqV_sound) ha, rfl⟩
      · obtain ⟨F', h1, h2⟩ := lookF_sound h
        exact ⟨F', by simp [h1], h2⟩
    · obtain ⟨F', h1, h2⟩ := lookF_sound h
      exact ⟨F', by simp [h1], h2⟩

/-- A program's functions, with so much fuel, where that is known. -/
def runK (E : Env) (M : Mem) (K : List Fact) : Nat → Self
  | 0 => fun _ _ _ => none
  | n + 1 => fun f args m => match hasF K f with
    | true => match eqM m M with
      | true => match lookF K f args with
        | some v => some (v, m)
        | none => abody E (runK E M K n) (n + 1) f args m
      | false => abody E (runK E M K n) (n + 1) f args m
    | false => abody E (runK E M K n) (n + 1) f args m

theorem runK_sound {E : Env} (hE : EnvOK E) {M : Mem} {K : List Fact} (hK : ∀ F, F ∈ K → F.holds E.P M) : ∀ n, CallOK E.P (runK E M K n)
  | 0 => fun f args m v m1 h => by simp [runK] at h
  | n + 1 => by
    have hb := abody_sound (ainv_sound hE.globals hE.fast (runK_sound hE hK n)) hE (n + 1)
    intro f args m v m1 h
    unfold runK at h
    split at h
    · split at h
      · rename_i hm
        split at h
        · rename_i v0 hl
          cases h
          obtain ⟨F, hF, rfl, rfl, rfl⟩ := lookF_sound hl
          rw [eqM_sound hm]
          exact hK F hF
        · exact hb f args m v m1 h
      · exact hb f args m v m1 h
    · exact hb f args m v m1 h

/-- The answer, if it leads nowhere. -/
def ansIs (v : Value) : Option (Value × Mem) → Bool
  | some (u, _) => lit2 u && eqV u v
  | none => false

/-- What has been run is known. -/
theorem fact_of_run {E : Env} (hE : EnvOK E) {M : Mem} {K : List Fact} (hK : ∀ F, F ∈ K → F.holds E.P M) (n : Nat) (F : Fact) (hlen : M.length = E.G) (htab : eqM (M.map onlyTab) M = true) (hargs : F.args.all lit2 = true) (hfast : (E.fast F.g).isNone = true)
    (h : ansIs F.v (runK E M K n F.g F.args M) = true) : F.holds E.P M := by
  have hs := ainv_sound hE.globals hE.fast (runK_sound hE hK n)
  have ht : (M.take E.G).map onlyTab = M := by rw [List.take_of_length_le (by omega)]; exact eqM_sound htab
  refine hs F.g F.args M F.v M ?_
  unfold ainv
  rw [if_pos hargs, ht]
  have hf : E.fast F.g = none := by simpa using hfast
  rw [hf]
  unfold ansIs at h
  split at h
  · rename_i u m1 hr
    simp only [Bool.and_eq_true] at h
    rw [hr]
    simp only
    unfold acoll
    rw [if_pos h.1, eqV_sound h.2]
  · cases h

end
end Go.Am
