/-
  The abstract machine: append, copy, len, what is made, texts and bytes: each with its soundness (own work; nothing of a dump).
-/
import Derived.Test.YtfgincdpgdlfnaaDoorGrLimbTexts1
set_option linter.unusedSimpArgs false
set_option linter.unusedVariables false
namespace Go.Am
noncomputable section
def isIntD : TypeDesc → Bool
  | .int _ => true
  | _ => false
def aappend (P : Program) (sT xT : TypeId) (s x : Value) (m : Mem) : Option (Value × Mem) :=
  match P.underlying sT, P.underlying xT with
  | some (.slice elem), some xd =>
    match P.info? elem with
    | some ei =>
      match ei.zero, asrc m ei.size x with
      | some z, some (n, new) =>
        if isIntD xd || !new.all cellOk || decide (z.cells.size ≠ ei.size) || decide (ei.bytes = 0) || decide (ei.size = 0) then none else
        match s with
        | .slice none 0 0 =>
          if n = 0 then some (.slice none 0 0, m)
          else if (2 * n + 768) * ei.bytes ≤ 281474976710656 then some (.slice (some ⟨m.length, 0, none⟩) n n, m ++ [.row false elem new]) else none
        | .slice (some ⟨b, o, none⟩) sLen sCap =>
          match m[b]? with
          | some (.row false be cs) =>
            if sLen + n ≤ sCap then
              if o + sLen * ei.size + new.length ≤ cs.length then some (.slice (some ⟨b, o, none⟩) (sLen + n) sCap, m.set b (.row false be (lay cs (o + sLen * ei.size) new))) else none
            else if o = 0 ∧ be = elem ∧ sLen * ei.size ≤ cs.length ∧ (2 * (sLen + n) + 768) * ei.bytes ≤ 281474976710656 then
              some (.slice (some ⟨m.length, 0, none⟩) (sLen + n) (sLen + n), m.set b .dead ++ [.row false elem (cs.take (sLen * ei.size) ++ new)])
            else none
          | _ => none
        | _ => none
      | _, _ => none
    | none => none
  | _, _ => none
theorem growBy_le (newLen : Nat) : ∀ (r c : Nat), c < newLen → Builtin.growBy newLen r c ≤ newLen + (newLen + 768) / 4
  | 0, c, h => by simp [Builtin.growBy]; omega
  | r + 1, c, h => by
    unfold Builtin.growBy
    rw [if_neg (by omega)]
    by_cases h2 : c + (c + 768) / 4 < newLen
    · exact growBy_le newLen r _ h2
    · have : Builtin.growBy newLen r (c + (c + 768) / 4) = c + (c + 768) / 4 := by
        cases r with
        | zero => rfl
        | succ r => unfold Builtin.growBy; rw [if_pos (by omega)]
      rw [this]; omega
theorem nextslicecap_le {need oldCap : Nat} (h : oldCap < need) : Builtin.nextslicecap need oldCap ≤ 2 * need + 768 := by
  unfold Builtin.nextslicecap
  split
  · omega
  · split
    · omega
    · have := growBy_le need 4 oldCap h; omega
theorem run_append_grow {P : Program} {w : World} {sT xT ty elem : TypeId} {xd : TypeDesc} {ei : TypeInfo} {z : Value} {base : Option Addr} {sLen c' n : Nat} {x' : Value} {old new : List Value}
    (hs : P.underlying sT = some (.slice elem)) (hx : P.underlying xT = some xd) (hxi : isIntD xd = false) (he : P.info? elem = some ei) (hz : ei.zero = some z) (hb : ei.bytes ≠ 0)
    (hlen : (Builtin.lenOf x').run P w = .ok n w) (hno : ¬ sLen + n ≤ c') (hroom : (2 * (sLen + n) + 768) * ei.bytes ≤ 281474976710656)
    (hold : ∀ d, (Builtin.firstCells ei.size sLen (.slice base sLen c')).run P { w with drawn := d } = .ok old.toArray { w with drawn := d })
    (hnew : ∀ d, (Builtin.firstCells ei.size n x').run P { w with drawn := d } = .ok new.toArray { w with drawn := d }) :
    ∃ newCap d, sLen + n ≤ newCap ∧ (Builtin.append_ #[sT, xT] ty #[.slice base sLen c', x']).run P w =
      .ok (.slice (some ⟨w.heap.size, 0, none⟩) (sLen + n) newCap) (({ w with drawn := d } : World).alloc (.cells (old.toArray ++ new.toArray ++ Builtin.zeroCells z.cells (newCap - (sLen + n))) elem)) := by
  have hcap := nextslicecap_le (need := sLen + n) (oldCap := c') (by omega)
  have h1 : ¬ (Builtin.nextslicecap (sLen + n) c' * ei.bytes > 2 ^ 48) := by
    have : Builtin.nextslicecap (sLen + n) c' * ei.bytes ≤ (2 * (sLen + n) + 768) * ei.bytes := Nat.mul_le_mul_right _ hcap
    omega
  refine ⟨(Question.appendCap (sLen + n) c' elem).cut (w.tape w.drawn (.appendCap (sLen + n) c' elem)), w.drawn + 1, by simp [Question.cut], ?_⟩
  have hz' : ∀ d, (zeroValue elem).run P { w with drawn := d } = .ok z { w with drawn := d } := fun d => by simp [zeroValue, run_typeInfo' he, hz]
  cases xd
  case int => simp [isIntD] at hxi
  all_goals
    simp only [Builtin.append_, List.getElem?_toArray, List.getElem?_cons_zero, List.getElem?_cons_succ, Sem.run_bind, run_underlying hs, run_underlying hx, Result.andThen_ok, run_sizeOf' he, Sem.run_pure, Bool.false_eq_true, if_false, hlen, hno,
      run_typeInfo' he, false_or, hb, and_false, h1, run_choose, Question.forced, run_askRoom, hold, Bool.not_false, if_true, hnew, hz', newRow, run_newObj]
    rfl
theorem slice_cells {P : Program} {ρ : Ren} {m : Mem} {w : World} (hm : MR P ρ m w) {b : Nat} {ro : Bool} {e : TypeId} {cs : List Value} {x : At} (hl : look m b = some (ro, e, cs)) (hx : ρ b = some x) (n c size : Nat) (hle : n * size ≤ cs.length) :
    ∃ l' : List Value, (∀ d, (Builtin.firstCells size n (.slice (some ⟨x.r, 0, none⟩) n c)).run P { w with drawn := d } = .ok l'.toArray { w with drawn := d }) ∧ l'.length = n * size ∧
      (∀ (i : Nat) (u v : Value), (cs.take (n * size))[i]? = some u → l'[i]? = some v → VR ρ u v) := by
  obtain ⟨x', cc, fr, hx', hw, hn, hlen, hi, _, _⟩ := hm.row b ro e cs hl
  rw [hx] at hx'; cases hx'
  refine ⟨cc.toList.take (n * size), fun d => ?_, by simp; omega, ?_⟩
  · have hlen' : (cc.toList.take (n * size)).length = n * size := by simp; omega
    have := run_loadCells_list (P := P) { w with drawn := d } ⟨x.r, 0, none⟩ (cc.toList.take (n * size)) (fun j y hy => by
      rw [add_plain, cell_of_row { w with drawn := d } x.r (0 + j) cc e fr hw]
      rw [List.getElem?_take] at hy
      split at hy
      · simpa using hy
      · cases hy)
    rw [hlen'] at this
    exact this
  · intro j u v hu hv
    rw [List.getElem?_take] at hu hv
    split at hu
    · rename_i hj
      simp only [hj, if_true] at hv
      obtain ⟨y, hy, hr⟩ := hi _ _ hu
      have : cc.toList[j]? = cc[j]? := by simp
      rw [this, hy] at hv
      cases hv
      exact hr
    · cases hu
theorem aappend_sound {P : Program} {ρ : Ren} {m m1 : Mem} {w : World} (hm : MR P ρ m w) {sT xT ty : TypeId} {s s' x x' u : Value} (hs : VR ρ s s') (hx : VR ρ x x') (h : aappend P sT xT s x m = some (u, m1)) :
    ∃ u' w1 ρ1, (Builtin.append_ #[sT, xT] ty #[s', x']).run P w = .ok u' w1 ∧ VR ρ1 u u' ∧ MR P ρ1 m1 w1 ∧ Ext ρ m w ρ1 m1 w1 := by
  unfold aappend at h
  split at h
  · rename_i elem xd hsT hxT
    split at h
    · rename_i ei hei
      split at h
      · rename_i z n new hz hsrc
        split at h
        · cases h
        · rename_i hcond
          simp only [Bool.or_eq_true, Bool.not_eq_true', decide_eq_true_eq, not_or, Bool.not_eq_true, Bool.not_eq_false] at hcond
          obtain ⟨⟨⟨⟨hxi, hok⟩, hzc⟩, hby⟩, hsz0⟩ := hcond
          have hzc : z.cells.size = ei.size := by omega
          obtain ⟨hlen, hnl, new', hfirst, hnl', hnv⟩ := asrc_sound hm hx hsrc (Nat.le_refl n)
          split at h
          · -- the nil slice
            have := hs.eq_of_lit2 rfl; subst this
            split at h
            · rename_i hn0
              cases h
              have hl0 : new' = [] := by
                apply List.eq_nil_of_length_eq_zero
                rw [hnl', hn0]; simp
              refine ⟨.slice none 0 0, w, ρ, ?_, .lit rfl, hm, Ext.refl' _ hm.dom⟩
              have hf := hfirst w.drawn
              rw [hl0] at hf
              rw [hn0] at hlen hf
              cases xd
              case int => simp [isIntD] at hxi
              all_goals
                simp only [Builtin.append_, List.getElem?_toArray, List.getElem?_cons_zero, List.getElem?_cons_succ, Sem.run_bind, run_underlying hsT, run_underlying hxT, Result.andThen_ok, run_sizeOf' hei, Sem.run_pure, Bool.false_eq_true, if_false, hlen,
                  Nat.add_zero, Nat.le_refl, Bool.not_false, if_true]
                rw [show (Builtin.firstCells ei.size 0 x').run P w = .ok [].toArray w from hf]
                rfl
            · rename_i hn0
              split at h
              · rename_i hroom
                cases h
                obtain ⟨newCap, d, hcap, hrun⟩ := run_append_grow (P := P) (w := w) (ty := ty) (base := none) (sLen := 0) (c' := 0) (old := []) hsT hxT hxi hei hz hby hlen (by omega) (by simpa using hroom) (fun d => rfl) hfirst
                simp only [Nat.zero_add] at hrun hcap
                have hrest : ([].toArray ++ new'.toArray ++ Builtin.zeroCells z.cells (newCap - n)).size = newCap * ei.size := by
                  simp only [Array.size_append, List.size_toArray, List.length_nil, Nat.zero_add, Builtin.zeroCells, Array.size_map, Array.size_range, hzc, hnl']
                  rw [← Nat.add_mul]; congr 1; omega
                have hal := (hm.drawn d).alloc (e := elem) (cs := new) (c := [].toArray ++ new'.toArray ++ Builtin.zeroCells z.cells (newCap - n)) (s := ei.size) (ro := false) (0, 0) (fun _ => loose_zero _) (by rw [hei]; rfl)
                  (by rw [hrest, hnl]; exact Nat.mul_le_mul_right _ hcap) (fun j y hy => by
                    have hj : j < new'.length := by rw [hnl', ← hnl]; exact (List.getElem?_eq_some_iff.1 hy).1
                    refine ⟨new'[j], ?_, hnv j y _ hy (by simp [hj])⟩
                    rw [Array.getElem?_append_left (by simp; exact hj)]
                    simp [hj])
                refine ⟨_, _, _, hrun, ?_, hal.1, ?_⟩
                · refine VR.slice (x := ⟨w.heap.size, _, ei.size⟩) (by simp [Ren.put]; rfl) (.inr ⟨hcap, ?_⟩)
                  have h8 := hrest
                  simp only [Array.size_append, List.size_toArray, List.length_nil, Nat.zero_add] at h8
                  right
                  show 0 + newCap * ei.size ≤ new'.length + (Builtin.zeroCells z.cells (newCap - n)).size
                  omega
                · exact ⟨hal.2.le, hal.2.same, hal.2.len, hal.2.fresh, hal.2.os, hal.2.tape, hal.2.output, hal.2.size, hal.2.kept, hal.2.own⟩
              · cases h
          · rename_i b o sLen sCap
            split at h
            · rename_i be cs hb
              obtain ⟨xa, c', hxa, rfl, hcap⟩ := vr_slice_inv hs
              obtain ⟨xa', c, fr, hxa', hw, hn, hlc, hci, hf, hsi⟩ := hm.row b false be cs (look_row hb)
              rw [hxa] at hxa'; cases hxa'
              have hcc : sCap ≤ c' := by rcases hcap with rfl | ⟨h, _⟩ <;> omega
              -- the branch in which there is room in the world
              have inplace : sLen + n ≤ c' → o + sLen * ei.size + new.length ≤ c.size → ∃ (w' : World) (c2 : Array Value),
                  (Builtin.append_ #[sT, xT] ty #[.slice (some ⟨xa.r, o, none⟩) sLen c', x']).run P w = .ok (.slice (some ⟨xa.r, o, none⟩) (sLen + n) c') w' ∧ Upd w w' xa.r (.cells c2 be fr) ∧ c2.size = c.size ∧
                  ∀ j : Nat, c2[j]? = if o + sLen * ei.size ≤ j ∧ j < o + sLen * ei.size + new.length then new'[j - (o + sLen * ei.size)]? else c[j]? := by
                intro hroom hfit
                have h1 : ∀ y ∈ new', y.oneCell' = true := by
                  intro y hy
                  obtain ⟨i, hi⟩ := List.mem_iff_getElem?.1 hy
                  have hlt : i < new.length := by rw [hnl, ← hnl']; exact (List.getElem?_eq_some_iff.1 hi).1
                  exact oneCell_of_vr (hnv i new[i] y (by simp [hlt]) hi) ((List.all_eq_true.1 hok) _ (by simp))
                obtain ⟨w', c2, hr, hup, hsz, hj⟩ := run_storeCells_loose (P := P) (o := o + sLen * ei.size) new' 0 c w hw (hf rfl) (by omega) h1
                refine ⟨w', c2, ?_, hup, hsz, fun j => by rw [hj j]; simp only [Nat.add_zero]; rw [hnl', ← hnl]⟩
                have hf0 := hfirst w.drawn
                cases xd
                case int => simp [isIntD] at hxi
                all_goals
                  simp only [Builtin.append_, List.getElem?_toArray, List.getElem?_cons_zero, List.getElem?_cons_succ, Sem.run_bind, run_underlying hsT, run_underlying hxT, Result.andThen_ok, run_sizeOf' hei, Sem.run_pure, Bool.false_eq_true, if_false, hlen,
                    hroom, Bool.not_false, if_true]
                  rw [show (Builtin.firstCells ei.size n x').run P w = .ok new'.toArray w from hf0]
                  simp only [Result.andThen_ok, add_plain, hr]
              split at h
              · rename_i hroom
                split at h
                · rename_i hfit
                  cases h
                  obtain ⟨w', c2, hr, hup, hsz, hj⟩ := inplace (by omega) (by omega)
                  have hu := hm.update hb hxa hw hup hsz (cs' := lay cs (o + sLen * ei.size) new) (by rw [lay_length hfit, hsz]; exact hlc) (fun j y hy => by
                    rw [lay_get hfit] at hy
                    rw [hj j]
                    split at hy
                    · rename_i hj1
                      rw [if_pos hj1]
                      have hlt : j - (o + sLen * ei.size) < new'.length := by rw [hnl', ← hnl]; omega
                      exact ⟨new'[j - (o + sLen * ei.size)], by simp [hlt], hnv _ _ _ hy (by simp [hlt])⟩
                    · rename_i hj1
                      rw [if_neg hj1]
                      exact hci j y hy)
                  exact ⟨_, w', ρ, hr, .slice hxa hcap, hu.1, hu.2⟩
                · cases h
              · rename_i hnoroom
                split at h
                · rename_i hg
                  obtain ⟨ho, hbe, hsl, hroom⟩ := hg
                  cases h
                  subst ho
                  subst hbe
                  rw [hei] at hsi
                  simp only [Option.map_some, Option.some.injEq] at hsi
                  have hcs : (cs.take (sLen * ei.size)).length = sLen * ei.size := by simp; omega
                  by_cases hin : sLen + n ≤ c'
                  · have hcx : 0 + c' * xa.s ≤ xa.n := by
                      rcases hcap with h9 | ⟨_, h9⟩
                      · omega
                      · rcases h9 with h9 | h9
                        · omega
                        · exact h9
                    have hfit : 0 + sLen * ei.size + new.length ≤ c.size := by
                      rw [hnl, hn, hsi] at *
                      have : (sLen + n) * xa.s ≤ c' * xa.s := Nat.mul_le_mul_right _ hin
                      rw [Nat.add_mul] at this
                      omega
                    obtain ⟨w', c2, hr, hup, hsz, hj⟩ := inplace hin hfit
                    have hu := hm.move hb hxa hw hup hsz (cs' := cs.take (sLen * ei.size) ++ new) (by rw [List.length_append, hcs, hsz]; omega) (fun j y hy => by
                      rw [hj j]
                      by_cases hj1 : j < sLen * ei.size
                      · rw [if_neg (by omega)]
                        rw [List.getElem?_append_left (by omega), List.getElem?_take, if_pos hj1] at hy
                        exact hci j y hy
                      · rw [List.getElem?_append_right (by omega), hcs] at hy
                        have hlt0 : j - sLen * ei.size < new.length := (List.getElem?_eq_some_iff.1 hy).1
                        rw [if_pos (by omega)]
                        have e1 : j - (0 + sLen * ei.size) = j - sLen * ei.size := by omega
                        rw [e1]
                        have hlt : j - sLen * ei.size < new'.length := by rw [hnl', ← hnl]; exact hlt0
                        exact ⟨new'[j - sLen * ei.size], by simp [hlt], hnv _ _ _ hy (by simp [hlt])⟩)
                    refine ⟨_, w', _, hr, ?_, hu.1, hu.2⟩
                    exact VR.slice (x := xa) (by simp [Ren.put]) (.inr ⟨hin, .inr hcx⟩)
                  · obtain ⟨old', hold, hol, hov⟩ := slice_cells hm (look_row hb) hxa sLen c' ei.size hsl
                    obtain ⟨newCap, d, hcp, hrun⟩ := run_append_grow (P := P) (w := w) (ty := ty) (base := some ⟨xa.r, 0, none⟩) (sLen := sLen) (c' := c') (old := old') hsT hxT hxi hei hz hby hlen hin hroom hold hfirst
                    have hrest : (old'.toArray ++ new'.toArray ++ Builtin.zeroCells z.cells (newCap - (sLen + n))).size = newCap * ei.size := by
                      simp only [Array.size_append, List.size_toArray, Builtin.zeroCells, Array.size_map, Array.size_range, hzc, hnl', hol]
                      rw [← Nat.add_mul, ← Nat.add_mul]; congr 1; omega
                    obtain ⟨hk1, hk2⟩ := (hm.drawn d).kill b
                    have hal := hk1.alloc (e := be) (cs := cs.take (sLen * ei.size) ++ new) (c := old'.toArray ++ new'.toArray ++ Builtin.zeroCells z.cells (newCap - (sLen + n))) (s := ei.size) (ro := false) (0, 0) (fun _ => loose_zero _) (by rw [hei]; rfl)
                      (by rw [hrest, List.length_append, hcs, hnl, ← Nat.add_mul]; exact Nat.mul_le_mul_right _ hcp) (fun j y hy => by
                        by_cases hj1 : j < sLen * ei.size
                        · rw [List.getElem?_append_left (by omega)] at hy
                          have hjo : j < old'.length := by omega
                          refine ⟨old'[j], ?_, hov j y _ hy (by simp [hjo])⟩
                          rw [Array.getElem?_append_left (by simp; omega), Array.getElem?_append_left (by simpa using hjo)]
                          simp [hjo]
                        · rw [List.getElem?_append_right (by omega), hcs] at hy
                          have hlt0 : j - sLen * ei.size < new.length := (List.getElem?_eq_some_iff.1 hy).1
                          have hlt : j - sLen * ei.size < new'.length := by rw [hnl', ← hnl]; exact hlt0
                          refine ⟨new'[j - sLen * ei.size], ?_, hnv _ _ _ hy (by simp [hlt])⟩
                          rw [Array.getElem?_append_left (by simp; omega), Array.getElem?_append_right (by simp; omega)]
                          simp [hol, hlt])
                    simp only [List.length_set] at hal
                    have hext := hk2.trans hal.2
                    refine ⟨_, _, _, hrun, ?_, hal.1, ?_⟩
                    · refine VR.slice (x := ⟨w.heap.size, _, ei.size⟩) (by simp [Ren.put]; rfl) (.inr ⟨hcp, ?_⟩)
                      have h8 := hrest
                      simp only [Array.size_append, List.size_toArray] at h8
                      right
                      show 0 + newCap * ei.size ≤ old'.length + new'.length + (Builtin.zeroCells z.cells (newCap - (sLen + n))).size
                      omega
                    · exact ⟨hext.le, hext.same, hext.len, hext.fresh, hext.os, hext.tape, hext.output, hext.size, hext.kept, hext.own⟩
                · cases h
            · cases h
          · cases h
      · cases h
    · cases h
  · cases h
end
end Go.Am
