/-
  The abstract machine: copy, len, what is made, texts and bytes, pointers compared and seen as others (own work; nothing of a dump).
-/
import Derived.Test.YtmopnogcdjehmaaDoorAmC
import Derived.Laws.BytesString
set_option linter.unusedSimpArgs false
set_option linter.unusedVariables false
namespace Go.Am
noncomputable section

/-- copy(d, s) -/
def acopy (P : Program) (dT : TypeId) (d s : Value) (m : Mem) : Option (Value × Mem) :=
  match P.underlying dT with
  | some (.slice elem) =>
    match P.info? elem with
    | some ei =>
      match asrc m ei.size s with
      | some (n, l) =>
        match d with
        | .slice (some ⟨b, o, none⟩) dLen _ =>
          match m[b]? with
          | some (.row false be cs) =>
            if (l.take (Nat.min n dLen * ei.size)).all cellOk && decide (o + (l.take (Nat.min n dLen * ei.size)).length ≤ cs.length) then
              some (.int .i64 (Nat.min n dLen : Nat), m.set b (.row false be (lay cs o (l.take (Nat.min n dLen * ei.size)))))
            else none
          | _ => none
        | .slice none 0 _ => some (.int .i64 0, m)
        | _ => none
      | none => none
    | none => none
  | _ => none

theorem acopy_sound {P : Program} {ρ : Ren} {m m1 : Mem} {w : World} (hm : MR P ρ m w) {dT sT ty : TypeId} {d d' s s' u : Value} (hd : VR ρ d d') (hs : VR ρ s s') (h : acopy P dT d s m = some (u, m1)) :
    ∃ w1, (Builtin.copy_ #[dT, sT] ty #[d', s']).run P w = .ok u w1 ∧ lit2 u = true ∧ MR P ρ m1 w1 ∧ Ext ρ m w ρ m1 w1 := by
  unfold acopy at h
  split at h
  · rename_i elem hu
    split at h
    · rename_i ei hei
      split at h
      · rename_i n l hsrc
        split at h
        · rename_i b o dLen dCap
          split at h
          · rename_i be cs hb
            split at h
            · rename_i hcond
              simp only [Bool.and_eq_true, decide_eq_true_eq] at hcond
              obtain ⟨hok, hfit⟩ := hcond
              cases h
              have hk : Nat.min n dLen ≤ n := Nat.min_le_left _ _
              obtain ⟨hlen, hnl, l', hfirst, hl', hv⟩ := asrc_sound hm hs hsrc hk
              obtain ⟨x, c', hx, rfl, _⟩ := vr_slice_inv hd
              obtain ⟨x', c, fr, hx', hw, hn, hlc, hci, hf, _⟩ := hm.row b false be cs (look_row hb)
              rw [hx] at hx'; cases hx'
              have htk : (l.take (Nat.min n dLen * ei.size)).length = l'.length := by
                rw [List.length_take, hnl, hl']
                exact Nat.min_eq_left (Nat.mul_le_mul_right _ hk)
              have hv' : ∀ (i : Nat) (y y' : Value), (l.take (Nat.min n dLen * ei.size))[i]? = some y → l'[i]? = some y' → VR ρ y y' := by
                intro i y y' hy hy'
                rw [List.getElem?_take] at hy
                split at hy
                · exact hv i y y' hy hy'
                · cases hy
              have h1 : ∀ y ∈ l', y.oneCell' = true := by
                intro y hy
                obtain ⟨i, hi⟩ := List.mem_iff_getElem?.1 hy
                have hlt : i < (l.take (Nat.min n dLen * ei.size)).length := by rw [htk]; exact (List.getElem?_eq_some_iff.1 hi).1
                exact oneCell_of_vr (hv' i _ y (List.getElem?_eq_getElem hlt) hi) ((List.all_eq_true.1 hok) _ (List.getElem_mem hlt))
              obtain ⟨w', c2, hr, hup, hsz, hj⟩ := run_storeCells_loose (P := P) (o := o) l' 0 c w hw (hf rfl) (by omega) h1
              have hup2 := hm.update hb hx hw hup hsz (cs' := lay cs o (l.take (Nat.min n dLen * ei.size))) (by rw [lay_length hfit, hsz]; exact hlc) (fun j y hy => by
                rw [lay_get hfit] at hy
                rw [hj j]
                simp only [Nat.add_zero]
                split at hy
                · rename_i hj1
                  rw [if_pos (by omega)]
                  have hlt : j - o < l'.length := by omega
                  exact ⟨l'[j - o], by simp [hlt], hv' _ _ _ hy (by simp [hlt])⟩
                · rename_i hj1
                  rw [if_neg (by omega)]
                  exact hci j y hy)
              refine ⟨w', ?_, rfl, hup2.1, hup2.2⟩
              have hf0 := hfirst w.drawn
              simp only [Builtin.copy_, List.getElem?_toArray, List.getElem?_cons_zero, List.getElem?_cons_succ, Sem.run_bind, run_underlying hu, Result.andThen_ok, hlen, run_sizeOf' hei]
              rw [show (Builtin.firstCells ei.size (n.min dLen) s').run P w = .ok l'.toArray w from hf0]
              simp only [Result.andThen_ok, hr]
              rfl
            · cases h
          · cases h
        · cases h
          have := hd.eq_of_lit2 rfl; subst this
          obtain ⟨hlen, hnl, l', hfirst, hl', hv⟩ := asrc_sound (k := 0) hm hs hsrc (Nat.zero_le _)
          refine ⟨w, ?_, rfl, hm, Ext.refl' _ hm.dom⟩
          have hf0 := hfirst w.drawn
          simp only [Builtin.copy_, List.getElem?_toArray, List.getElem?_cons_zero, List.getElem?_cons_succ, Sem.run_bind, run_underlying hu, Result.andThen_ok, hlen, run_sizeOf' hei, Nat.min_def, Nat.le_zero]
          rw [show (if n = 0 then n else 0) = 0 by split <;> omega]
          rw [show (Builtin.firstCells ei.size 0 s').run P w = .ok l'.toArray w from hf0]
          rfl
        · cases h
      · cases h
    · cases h
  · cases h

/-- len, of what has an address. -/
def alen (P : Program) (t : TypeId) (v : Value) : Option Value :=
  match v with
  | .slice (some _) n _ => match P.underlying t with
    | some (.slice _) => some (.int .i64 (n : Nat))
    | _ => none
  | .string s => match P.underlying t with
    | some .string => some (.int .i64 (s.data.toList.length : Nat))
    | _ => none
  | .agg _ => match P.underlying t with
    | some (.array n _) => some (.int .i64 (n : Nat))
    | _ => none
  | .pointer (some _) => match P.underlying t with
    | some (.pointer arr) => match P.underlying arr with
      | some (.array n _) => some (.int .i64 (n : Nat))
      | _ => none
    | some (.array n _) => some (.int .i64 (n : Nat))
    | _ => none
  | _ => none

theorem alen_sound {P : Program} {ρ : Ren} {w : World} {t ty : TypeId} {v v' u : Value} (hv : VR ρ v v') (h : alen P t v = some u) :
    (Builtin.len_ #[t] ty #[v']).run P w = .ok u w ∧ lit2 u = true := by
  unfold alen at h
  split at h
  · rename_i ad n c
    split at h
    · rename_i e hu
      cases h
      refine ⟨?_, rfl⟩
      cases hv with
      | lit hl => simp [lit2, lit1, lit0] at hl
      | slice hx hc => simp [Builtin.len_, run_underlying hu, goInt]
    · cases h
  · rename_i s
    split at h
    · rename_i hu
      cases h
      have := hv.eq_of_lit2 rfl; subst this
      exact ⟨by simp [Builtin.len_, run_underlying hu, goInt], rfl⟩
    · cases h
  · rename_i cs
    split at h
    · rename_i n e hu
      cases h
      refine ⟨?_, rfl⟩
      cases v' <;> simp [Builtin.len_, run_underlying hu, goInt]
    · cases h
  · rename_i ad
    split at h
    · rename_i arr hu
      split at h
      · rename_i n e ha
        cases h
        refine ⟨?_, rfl⟩
        cases v' <;> simp [Builtin.len_, run_underlying hu, run_underlying ha, goInt]
      · cases h
    · rename_i n e hu
      cases h
      refine ⟨?_, rfl⟩
      cases v' <;> simp [Builtin.len_, run_underlying hu, goInt]
    · cases h
  · cases h

end
end Go.Am
