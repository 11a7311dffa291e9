/-
  The abstract machine: addresses, new variables, and one operation that isn't a call (own work; nothing of a dump).
-/
import Derived.Test.YtmopnogcdjehmaaDoorAm3
set_option linter.unusedSimpArgs false
set_option linter.unusedVariables false
namespace Go.Am
noncomputable section

/-- An element's address. -/
def aindexAddr (P : Program) (t : TypeId) (v ix : Value) : Option Value :=
  match ix with
  | .int _ i =>
    match P.underlying t, v with
    | some (.array len elem), .pointer (some ⟨b, o, none⟩) =>
      match P.info? elem with
      | some e => if 0 ≤ i ∧ i < (len : Int) then some (.pointer (some ⟨b, o + i.toNat * e.size, none⟩)) else none
      | none => none
    | some (.slice elem), .slice (some ⟨b, o, none⟩) len _ =>
      match P.info? elem with
      | some e => if 0 ≤ i ∧ i < (len : Int) then some (.pointer (some ⟨b, o + i.toNat * e.size, none⟩)) else none
      | none => none
    | _, _ => none
  | _ => none

theorem vr_int_inv {ρ : Ren} {k : IntKind} {n : Int} {v' : Value} (h : VR ρ (.int k n) v') : v' = .int k n := h.eq_of_lit2 rfl

theorem vr_slice_inv {ρ : Ren} {b o n c : Nat} {v' : Value} (h : VR ρ (.slice (some ⟨b, o, none⟩) n c) v') :
    ∃ x c', ρ b = some x ∧ v' = .slice (some ⟨x.r, o, none⟩) n c' ∧ (c' = c ∨ (c ≤ c' ∧ o + c' * x.s ≤ x.n)) := by
  cases h with
  | lit h => simp [lit2, lit1, lit0] at h
  | slice h hc => exact ⟨_, _, h, rfl, hc⟩

theorem aindexAddr_sound {P : Program} {ρ : Ren} {w : World} {t : TypeId} {v v' ix ix' u : Value} (hv : VR ρ v v') (hi : VR ρ ix ix') (h : aindexAddr P t v ix = some u) :
    ∃ u', (Instr.indexAt t v' ix').run P w = .ok u' w ∧ VR ρ u u' := by
  unfold aindexAddr at h
  split at h
  · rename_i k i
    have := vr_int_inv hi; subst this
    split at h
    · rename_i len elem b o hu
      split at h
      · rename_i e he
        split at h
        · rename_i hb
          cases h
          obtain ⟨x, hx, rfl⟩ := vr_ptr_inv hv
          refine ⟨_, ?_, .ptr hx⟩
          simp only [Instr.indexAt, asIntOf, Sem.run_bind, Sem.run_pure, Result.andThen_ok, run_underlying hu, Instr.sureAddr, hb, and_self, if_true, run_sizeOf' he, add_plain]
        · cases h
      · cases h
    · rename_i elem b o len c hu
      split at h
      · rename_i e he
        split at h
        · rename_i hb
          cases h
          obtain ⟨x, c', hx, rfl, _⟩ := vr_slice_inv hv
          refine ⟨_, ?_, .ptr hx⟩
          simp only [Instr.indexAt, asIntOf, Sem.run_bind, Sem.run_pure, Result.andThen_ok, run_underlying hu, hb, and_self, if_true, run_sizeOf' he, add_plain]
        · cases h
      · cases h
    · cases h
  · cases h

/-- A field's address. -/
def afieldAddr (P : Program) (s : TypeId) (v : Value) (f : Nat) : Option Value :=
  match P.underlying s, v with
  | some (.struct fields), .pointer (some ⟨b, o, none⟩) =>
    match fields[f]? with
    | some fd =>
      match P.info? fd.type with
      | some i => if i.size = 0 then none else some (.pointer (some ⟨b, o + fd.offset, none⟩))
      | none => none
    | none => none
  | _, _ => none

theorem afieldAddr_sound {P : Program} {ρ : Ren} {w : World} {s : TypeId} {v v' u : Value} {f : Nat} (hv : VR ρ v v') (h : afieldAddr P s v f = some u) :
    ∃ u', (Instr.fieldAt s v' f).run P w = .ok u' w ∧ VR ρ u u' := by
  unfold afieldAddr at h
  split at h
  · rename_i fields b o hu
    split at h
    · rename_i fd hf
      split at h
      · rename_i i hi
        split at h
        · cases h
        · rename_i hz
          cases h
          obtain ⟨x, hx, rfl⟩ := vr_ptr_inv hv
          refine ⟨_, ?_, .ptr hx⟩
          simp only [Instr.fieldAt, Sem.run_bind, run_underlying hu, Result.andThen_ok, hf, Instr.sureAddr, Sem.run_pure, fieldPlace, run_sizeOf' hi, hz, if_false, add_plain]
      · cases h
    · cases h
  · cases h

/-- A bound of a slice. -/
def abound (v : Value) (y : Nat) : Option Nat :=
  match v with
  | .int _ i => if 0 ≤ i ∧ i ≤ (y : Int) then some i.toNat else none
  | _ => none

theorem abound_sound {P : Program} {ρ : Ren} {w : World} {v v' : Value} {y y' n : Nat} (hv : VR ρ v v') (hy : y ≤ y') (code : BoundsCode) (h : abound v y = some n) :
    (Instr.sliceBound v' y' code).run P w = .ok n w ∧ n ≤ y := by
  unfold abound at h
  split at h
  · rename_i k i
    split at h
    · rename_i hb
      cases h
      have := vr_int_inv hv; subst this
      refine ⟨?_, by omega⟩
      simp only [Instr.sliceBound, asIntOf, Sem.run_bind, Sem.run_pure, Result.andThen_ok]
      rw [if_pos (by omega)]
      rfl
    · cases h
  · cases h

/-- low : high of a row of len, cap (no third bound). -/
def abounds (len cap : Nat) (lo hi : Option Value) : Option (Nat × Nat) :=
  match (match hi with | some v => abound v cap | none => some len) with
  | some h => match (match lo with | some v => abound v h | none => some 0) with
    | some l => some (l, h)
    | none => none
  | none => none

theorem abounds_sound {P : Program} {ρ : Ren} {w : World} {len cap cap' l h : Nat} {lo hi : Option Value} {lo' hi' : Option Value} (isS : Bool)
    (hlo : ∀ v, lo = some v → ∃ v', lo' = some v' ∧ VR ρ v v') (hlo0 : lo = none → lo' = none) (hhi : ∀ v, hi = some v → ∃ v', hi' = some v' ∧ VR ρ v v') (hhi0 : hi = none → hi' = none)
    (hc : cap ≤ cap') (hlc : len ≤ cap) (hr : abounds len cap lo hi = some (l, h)) :
    (Instr.sliceBounds isS len cap' lo' hi' none).run P w = .ok (l, h, cap') w ∧ l ≤ h ∧ h ≤ cap := by
  unfold abounds at hr
  split at hr
  · rename_i h0 hh
    split at hr
    · rename_i l0 hl
      cases hr
      have h1 : ∀ v', hi' = some v' → (Instr.sliceBound v' cap' (if isS then .sliceAcap else .sliceAlen)).run P w = .ok h w := by
        intro v' hv'
        cases hi with
        | none => rw [hhi0 rfl] at hv'; cases hv'
        | some v =>
          obtain ⟨v1, e1, r1⟩ := hhi v rfl
          rw [e1] at hv'; cases hv'
          exact (abound_sound r1 hc _ hh).1
      have hle : h ≤ cap := by
        cases hi with
        | none => simp at hh; omega
        | some v => unfold abound at hh; simp only at hh; split at hh <;> (try split at hh) <;> simp at hh; omega
      have h2 : ∀ v', lo' = some v' → (Instr.sliceBound v' h .sliceB).run P w = .ok l w := by
        intro v' hv'
        cases lo with
        | none => rw [hlo0 rfl] at hv'; cases hv'
        | some v =>
          obtain ⟨v1, e1, r1⟩ := hlo v rfl
          rw [e1] at hv'; cases hv'
          exact (abound_sound r1 (Nat.le_refl _) _ hl).1
      have hll : l ≤ h := by
        cases lo with
        | none => simp at hl; omega
        | some v => unfold abound at hl; simp only at hl; split at hl <;> (try split at hl) <;> simp at hl; omega
      refine ⟨?_, hll, hle⟩
      simp only [Instr.sliceBounds, Sem.run_bind, Sem.run_pure, Result.andThen_ok]
      cases hi' with
      | none =>
        have : hi = none := by cases hi with | none => rfl | some v => obtain ⟨_, e, _⟩ := hhi v rfl; cases e
        subst this
        simp at hh; subst hh
        cases lo' with
        | none =>
          have : lo = none := by cases lo with | none => rfl | some v => obtain ⟨_, e, _⟩ := hlo v rfl; cases e
          subst this
          simp at hl; subst hl
          simp
        | some v' => simp [h2 v' rfl]
      | some v1 =>
        cases lo' with
        | none =>
          have : lo = none := by cases lo with | none => rfl | some v => obtain ⟨_, e, _⟩ := hlo v rfl; cases e
          subst this
          simp at hl; subst hl
          simp [h1 v1 rfl]
        | some v' => simp [h1 v1 rfl, h2 v' rfl]
    · cases hr
  · cases hr

end
end Go.Am
