/-
  The abstract machine: pointers compared, and seen as others; a text over bytes (own work; nothing of a dump).
-/
import Derived.Test.YtmopnogcdjehmaaDoorAmG
set_option linter.unusedSimpArgs false
set_option linter.unusedVariables false
namespace Go.Am
noncomputable section

/-- Are two pointers, or a slice and nil, the same? -/
def aeq (P : Program) (t : TypeId) (x y : Value) : Option Bool :=
  match x, y with
  | .pointer (some _), .pointer none => match P.underlying t with
    | some (.pointer _) => some false
    | _ => none
  | .pointer none, .pointer (some _) => match P.underlying t with
    | some (.pointer _) => some false
    | _ => none
  | .pointer (some a), .pointer (some b) => match P.underlying t with
    | some (.pointer e) => match P.info? e with
      | some i => if i.size ≠ 0 ∧ a = b then some true else none
      | none => none
    | _ => none
  | .slice (some _) _ _, .slice none _ _ => match P.underlying t with
    | some (.slice _) => some false
    | _ => none
  | .slice none _ _, .slice (some _) _ _ => match P.underlying t with
    | some (.slice _) => some false
    | _ => none
  | _, _ => none

theorem aeq_sound {P : Program} {ρ : Ren} {w : World} {t : TypeId} {x x' y y' : Value} {b : Bool} (hx : VR ρ x x') (hy : VR ρ y y') (h : aeq P t x y = some b) : (Op.equal t x' y').run P w = .ok b w := by
  suffices key : ∀ d, (Op.equalIn (d + 1) t x' y').run P w = .ok b w from key 9999
  intro dd
  unfold aeq at h
  split at h
  · split at h
    · rename_i e hu
      cases h
      obtain ⟨b1, o1, x1, _, _, rfl⟩ := vr_ptr_some hx
      have := hy.eq_of_lit2 rfl; subst this
      simp [Op.equalIn, run_underlying hu]
    · cases h
  · split at h
    · rename_i e hu
      cases h
      obtain ⟨b1, o1, x1, _, _, rfl⟩ := vr_ptr_some hy
      have := hx.eq_of_lit2 rfl; subst this
      simp [Op.equalIn, run_underlying hu]
    · cases h
  · split at h
    · rename_i e hu
      split at h
      · rename_i i hi
        split at h
        · rename_i hc
          cases h
          obtain ⟨hz, rfl⟩ := hc
          obtain ⟨b1, o1, x1, e1, r1, rfl⟩ := vr_ptr_some hx
          obtain ⟨b2, o2, x2, e2, r2, rfl⟩ := vr_ptr_some hy
          rw [e1] at e2
          cases e2
          rw [r1] at r2; cases r2
          simp [Op.equalIn, run_underlying hu, run_sizeOf' hi, sameAddr]
        · cases h
      · cases h
    · cases h
  · split at h
    · rename_i e hu
      cases h
      have := hy.eq_of_lit2 rfl; subst this
      cases hx with
      | lit hl => simp [lit2, lit1, lit0] at hl
      | slice _ _ => simp [Op.equalIn, run_underlying hu]
    · cases h
  · split at h
    · rename_i e hu
      cases h
      have := hx.eq_of_lit2 rfl; subst this
      cases hy with
      | lit hl => simp [lit2, lit1, lit0] at hl
      | slice _ _ => simp [Op.equalIn, run_underlying hu]
    · cases h
  · cases h

theorem rowAt_mono {p : Program} {fits : TypeId → Bool} : ∀ {d : Nat} {e : TypeId} {count count' off n : Nat}, count ≤ count' → rowAt p fits d e count off n = true → rowAt p fits d e count' off n = true
  | 0, _, _, _, _, _, _, h => by simp [rowAt] at h
  | d + 1, e, count, count', off, n, hc, h => by
    unfold rowAt at h ⊢
    simp only at h ⊢
    split
    · rename_i hs; rw [if_pos hs] at h; exact h
    · rename_i hs
      rw [if_neg hs] at h
      simp only [Bool.or_eq_true, Bool.and_eq_true, decide_eq_true_eq] at h ⊢
      rcases h with ⟨⟨h1, h2⟩, h3⟩ | ⟨h1, h2⟩
      · left; exact ⟨⟨h1, by omega⟩, h3⟩
      · right; exact ⟨by omega, h2⟩

theorem liesAt_mono {p : Program} : ∀ {d : Nat} {e : TypeId} {count count' off n : Nat} {u : TypeId}, count ≤ count' → liesAt p d e count off u n = true → liesAt p d e count' off u n = true
  | 0, _, _, _, _, _, _, _, h => by simp [liesAt] at h
  | d + 1, e, count, count', off, n, u, hc, h => by
    unfold liesAt at h ⊢
    simp only [Bool.or_eq_true] at h ⊢
    rcases h with h | h
    · left; exact rowAt_mono hc h
    · right
      split at h
      · exact liesAt_mono hc h
      · cases h

/-- A pointer seen as a bare one, and back. -/
def aptr (P : Program) (src dst : TypeId) (v : Value) (m : Mem) : Option Value :=
  match v with
  | .pointer (some ⟨b, o, none⟩) => match look m b with
    | some (_, e, cs) => match P.underlying src, P.underlying dst with
      | some (.pointer t), some .unsafePointer => match P.info? t with
        | some i => if i.size ≠ 0 ∧ o < cs.length then some (.pointer (some ⟨b, o, none⟩)) else none
        | none => none
      | some .unsafePointer, some (.pointer u) => match P.info? u with
        | some i => if i.size ≠ 0 ∧ liesAt P P.depth e (cs.length / P.cellsOf e) o u 1 = true then some (.pointer (some ⟨b, o, none⟩)) else none
        | none => none
      | _, _ => none
    | none => none
  | _ => none

theorem aptr_sound {P : Program} {ρ : Ren} {m : Mem} {w : World} (hm : MR P ρ m w) {src dst : TypeId} {v v' u : Value} (hv : VR ρ v v') (h : aptr P src dst v m = some u) :
    ∃ u', (convert src dst v').run P w = .ok u' w ∧ VR ρ u u' := by
  unfold aptr at h
  split at h
  · rename_i b o
    split at h
    · rename_i ro e cs hl
      obtain ⟨x, hx, rfl⟩ := vr_ptr_inv hv
      obtain ⟨x', c, fr, hx', hw, hn, hlen, _, _, _⟩ := hm.row b ro e cs hl
      rw [hx] at hx'; cases hx'
      have hsh : w.shape? x.r = some (e, c.size) := by simp [World.shape?, hw]
      have hvw : (viewAt x.r).run P w = .ok none w := by simp [viewAt, hsh]
      split at h
      · rename_i t hs hd
        split at h
        · rename_i i hi
          split at h
          · rename_i hc
            cases h
            refine ⟨_, ?_, .ptr hx⟩
            have hcells : (cellsIn x.r).run P w = .ok (some c.size) w := by simp [cellsIn, hsh]
            have hlt : ¬ (o ≥ c.size) := by omega
            simp only [convert, Sem.run_bind, run_underlying hs, run_underlying hd, Result.andThen_ok, Conv.unsafePointer, Conv.seenAt, hvw, Sem.run_pure, hcells, run_sizeOf' hi]
            simp [hc.1, hlt]
          · cases h
        · cases h
      · rename_i ut hs hd
        split at h
        · rename_i i hi
          split at h
          · rename_i hc
            cases h
            refine ⟨_, ?_, .ptr hx⟩
            have hlie : liesAt P P.depth e (c.size / P.cellsOf e) o ut 1 = true := liesAt_mono (Nat.div_le_div_right hlen) hc.2
            have hva : (variablesAt ⟨x.r, o, none⟩ ut 1).run P w = .ok true w := by simp [variablesAt, hsh, hlie]
            simp only [convert, Sem.run_bind, run_underlying hs, run_underlying hd, Result.andThen_ok, Conv.unsafePointer, Conv.seenAt, hvw, Sem.run_pure, run_sizeOf' hi, hva]
            simp
          · cases h
        · cases h
      · cases h
    · cases h
  · cases h

end
end Go.Am
