/-
  The abstract machine: slices that are made; texts and bytes (own work; nothing of a dump).
-/
import Derived.Test.YtmopnogcdjehmaaDoorAmD
set_option linter.unusedSimpArgs false
set_option linter.unusedVariables false
namespace Go.Am
noncomputable section

/-- The zero of a type of one cell. -/
def zero1 (P : Program) (elem : TypeId) : Option Value :=
  match P.info? elem with
  | some i => if i.size = 1 then match i.zero with
      | some z => if lit0 z then some z else none
      | none => none
    else none
  | none => none

theorem zero1_info {P : Program} {elem : TypeId} {z : Value} (h : zero1 P elem = some z) : ∃ i, P.info? elem = some i ∧ i.size = 1 ∧ i.zero = some z ∧ lit0 z = true := by
  unfold zero1 at h
  split at h
  · rename_i i hi
    split at h
    · rename_i hs
      split at h
      · rename_i z0 hz
        split at h
        · rename_i hl
          cases h
          exact ⟨i, hi, hs, hz, hl⟩
        · cases h
      · cases h
    · cases h
  · cases h

theorem cells_lit0 {z : Value} (h : lit0 z = true) : z.cells = #[z] := by
  cases z <;> first | rfl | simp [lit0] at h

theorem zeros_eq (z : Value) (n : Nat) : (Array.range n).map (fun i => #[z][i % #[z].size]!) = Array.replicate n z := by
  apply Array.ext
  · simp
  · intro i h1 h2
    simp [Nat.mod_one]

/-- A row with some cells set. -/
def afill : List Value → List (Nat × Value) → Option (List Value)
  | cs, [] => some cs
  | cs, (i, v) :: l => if cellOk v && decide (i < cs.length) then afill (cs.set i v) l else none

theorem oneCell_cells {y : Value} (h : y.oneCell' = true) : y.cells = #[y] := by
  cases y <;> first | rfl | simp [Value.oneCell'] at h

theorem afill_sound {ρ : Ren} : ∀ (parts : List (Nat × Value)) (parts' : List (Nat × Value)) (cs : List Value) (c : Array Value) (l : List Value), parts.length = parts'.length →
    (∀ (i : Nat) (p p' : Nat × Value), parts[i]? = some p → parts'[i]? = some p' → p'.1 = p.1 ∧ VR ρ p.2 p'.2) → cs.length = c.size →
    (∀ (i : Nat) (x y : Value), cs[i]? = some x → c[i]? = some y → VR ρ x y) → afill cs parts = some l →
    ∃ c', Instr.fill (fun i => some (i * 1, 1)) c parts' = some c' ∧ l.length = c'.size ∧ (∀ (i : Nat) (x y : Value), l[i]? = some x → c'[i]? = some y → VR ρ x y)
  | [], [], cs, c, l, _, _, hn, hv, h => by
    simp [afill] at h; subst h
    exact ⟨c, rfl, hn, hv⟩
  | [], _ :: _, _, _, _, hl, _, _, _, _ => by simp at hl
  | _ :: _, [], _, _, _, hl, _, _, _, _ => by simp at hl
  | (i, v) :: parts, (i', v') :: parts', cs, c, l, hl, hp, hn, hv, h => by
    unfold afill at h
    split at h
    · rename_i hc
      simp only [Bool.and_eq_true, decide_eq_true_eq] at hc
      obtain ⟨hc1, hc2⟩ := hc
      obtain ⟨e1, hvv⟩ := hp 0 (i, v) (i', v') rfl rfl
      simp only at e1 hvv
      subst e1
      have h1 := oneCell_of_vr hvv hc1
      have hcell := oneCell_cells h1
      obtain ⟨c', hf, hr⟩ := afill_sound parts parts' (cs.set i' v) (c.setIfInBounds i' v') l (by simpa using hl) (fun j p p' h2 h3 => hp (j + 1) p p' (by simpa using h2) (by simpa using h3)) (by simp [hn])
        (fun j x y hx hy => by
          rw [List.getElem?_set] at hx
          rw [Array.getElem?_setIfInBounds] at hy
          by_cases hj : i' = j
          · subst hj
            rw [if_pos rfl, if_pos (by omega)] at hx hy
            cases hx; cases hy
            exact hvv
          · rw [if_neg hj] at hx hy
            exact hv j x y hx hy) h
      refine ⟨c', ?_, hr⟩
      unfold Instr.fill
      simp only [hcell, Nat.mul_one]
      rw [if_neg (by simp; omega)]
      simpa using hf
    · cases h

/-- A slice of parts, elements of one cell. -/
def abuildSlice (P : Program) (t : TypeId) (len : Nat) (parts : List (Nat × Value)) (m : Mem) : Option (Value × Mem) :=
  match P.underlying t with
  | some (.slice elem) =>
    match zero1 P elem with
    | some z =>
      if len ≤ 16777216 then
        match afill (List.replicate len z) parts with
        | some l => some (.slice (some ⟨m.length, 0, none⟩) len len, m ++ [.row false elem l])
        | none => none
      else none
    | none => none
  | _ => none

theorem abuildSlice_sound {P : Program} {ρ : Ren} {m m1 : Mem} {w : World} (hm : MR P ρ m w) {t : TypeId} {len : Nat} {parts parts' : List (Nat × Value)} {u : Value} (hl : parts.length = parts'.length)
    (hp : ∀ (i : Nat) (p p' : Nat × Value), parts[i]? = some p → parts'[i]? = some p' → p'.1 = p.1 ∧ VR ρ p.2 p'.2) (h : abuildSlice P t len parts m = some (u, m1)) :
    ∃ u' w1 ρ1, (Instr.buildSlice t len parts'.toArray).run P w = .ok u' w1 ∧ VR ρ1 u u' ∧ MR P ρ1 m1 w1 ∧ Ext ρ m w ρ1 m1 w1 := by
  unfold abuildSlice at h
  split at h
  · rename_i elem hu
    split at h
    · rename_i z hz
      split at h
      · rename_i hle
        split at h
        · rename_i l hf
          cases h
          obtain ⟨i, hi, hs, hz0, hlit⟩ := zero1_info hz
          obtain ⟨c', hfill, hn, hv⟩ := afill_sound (ρ := ρ) parts parts' (List.replicate len z) (Array.replicate len z) l hl hp (by simp) (fun j x y hx hy => by
            rw [List.getElem?_replicate] at hx
            rw [Array.getElem?_replicate] at hy
            split at hx
            · rename_i hj
              rw [if_pos hj] at hy
              cases hx; cases hy; exact .lit (lit2_of_lit1 (lit1_of_lit0 hlit))
            · cases hx) hf
          have hal := hm.alloc (e := elem) (cs := l) (c := c') (s := 1) (ro := false) (0, 0) (fun _ => loose_zero _) (by rw [hi]; simp [hs]) (by omega) (fun j y hy => by
            have hj : j < c'.size := by rw [← hn]; exact (List.getElem?_eq_some_iff.1 hy).1
            exact ⟨c'[j], by simp [hj], hv j y _ hy (by simp [hj])⟩)
          refine ⟨.slice (some ⟨w.heap.size, 0, none⟩) len len, _, _, ?_, ?_, hal.1, hal.2⟩
          · have hzr : ((Array.range len).map fun x => #[z][x % #[z].size]!) = Array.replicate len z := zeros_eq z len
            have hc0 := cells_lit0 hlit
            simp only [Nat.mul_one] at hfill
            simp only [Instr.buildSlice, Sem.run_bind, run_underlying hu, Result.andThen_ok, run_sizeOf' hi, hs, Nat.mul_one]
            rw [if_neg (by omega)]
            by_cases h0 : len = 0
            · subst h0
              simp only [if_true, Sem.run_bind, Sem.run_pure, Result.andThen_ok]
              have e0 : ((Array.range 0).map fun x => (#[] : Array Value)[x % (#[] : Array Value).size]!) = Array.replicate 0 z := by simp
              rw [e0, hfill]
              simp only [newRow, Sem.run_bind, run_newObj, Result.andThen_ok, Sem.run_pure]
              rfl
            · rw [if_neg h0]
              simp only [Sem.run_bind, zeroValue, run_typeInfo' hi, Result.andThen_ok, hz0, Sem.run_pure, hc0]
              rw [hzr, hfill]
              simp only [newRow, Sem.run_bind, run_newObj, Result.andThen_ok, Sem.run_pure]
              rfl
          · exact VR.slice (x := ⟨w.heap.size, c'.size, 1⟩) (by simp [Ren.put]) (.inl rfl)
        · cases h
      · cases h
    · cases h
  · cases h

/-- make([]T, len, cap), elements of one cell. -/
def amakeSlice (P : Program) (t : TypeId) (len cap : Value) (m : Mem) : Option (Value × Mem) :=
  match P.underlying t, len, cap with
  | some (.slice elem), .int _ l, .int _ c =>
    match zero1 P elem, P.info? elem with
    | some z, some i =>
      if 0 ≤ wrapF .i64 l ∧ wrapF .i64 l ≤ wrapF .i64 c ∧ (i.bytes : Int) * wrapF .i64 c ≤ 281474976710656 then
        some (.slice (some ⟨m.length, 0, none⟩) (wrapF .i64 l).toNat (wrapF .i64 c).toNat, m ++ [.row false elem (List.replicate (wrapF .i64 c).toNat z)])
      else none
    | _, _ => none
  | _, _, _ => none

theorem amakeSlice_sound {P : Program} {ρ : Ren} {m m1 : Mem} {w : World} (hm : MR P ρ m w) {t : TypeId} {l l' c c' u : Value} (hl : VR ρ l l') (hc : VR ρ c c') (h : amakeSlice P t l c m = some (u, m1)) :
    ∃ u' w1 ρ1, (Instr.makeSlice t l' c').run P w = .ok u' w1 ∧ VR ρ1 u u' ∧ MR P ρ1 m1 w1 ∧ Ext ρ m w ρ1 m1 w1 := by
  unfold amakeSlice at h
  split at h
  · rename_i elem k l0 k' c0 hu
    split at h
    · rename_i z i hz hi
      split at h
      · rename_i hb
        cases h
        obtain ⟨i0, hi0, hs, hz0, hlit⟩ := zero1_info hz
        rw [hi] at hi0; cases hi0
        have e1 := vr_int_inv hl; subst e1
        have e2 := vr_int_inv hc; subst e2
        obtain ⟨h1, h2, h3⟩ := hb
        have hal := hm.alloc (e := elem) (cs := List.replicate (wrapF .i64 c0).toNat z) (c := Array.replicate (wrapF .i64 c0).toNat z) (s := 1) (ro := false) (0, 0) (fun _ => loose_zero _) (by rw [hi]; simp [hs]) (by simp) (fun j y hy => by
          rw [List.getElem?_replicate] at hy
          split at hy
          · rename_i hj
            cases hy
            exact ⟨z, by rw [Array.getElem?_replicate, if_pos hj], .lit (lit2_of_lit1 (lit1_of_lit0 hlit))⟩
          · cases hy)
        refine ⟨.slice (some ⟨w.heap.size, 0, none⟩) (wrapF .i64 l0).toNat (wrapF .i64 c0).toNat, _, _, ?_, ?_, hal.1, hal.2⟩
        · have hzr : ((Array.range (wrapF .i64 c0).toNat).map fun x => #[z][x % #[z].size]!) = Array.replicate (wrapF .i64 c0).toNat z := zeros_eq z _
          have hc1 := cells_lit0 hlit
          rw [wrapF_eq, wrapF_eq] at *
          have hno : (decide (IntKind.i64.wrap c0 < 0) || decide ((i.bytes : Int) * IntKind.i64.wrap c0 > 2 ^ 48) || decide (IntKind.i64.wrap l0 < 0) || decide (IntKind.i64.wrap l0 > IntKind.i64.wrap c0)) = false := by
            simp only [Bool.or_eq_false_iff, decide_eq_false_iff_not]
            refine ⟨⟨⟨by omega, ?_⟩, by omega⟩, by omega⟩
            have : (2 : Int) ^ 48 = 281474976710656 := by decide
            rw [this]; omega
          simp only [Instr.makeSlice, Sem.run_bind, run_underlying hu, Result.andThen_ok, asInt, asIntOf, Sem.run_pure, run_typeInfo' hi]
          rw [hno]
          simp only [Bool.false_eq_true, if_false, Sem.run_bind, run_askRoom, Result.andThen_ok, run_sizeOf' hi, hs, Nat.mul_one]
          by_cases h0 : (IntKind.i64.wrap c0).toNat = 0
          · rw [if_pos h0]
            simp only [Sem.run_bind, Sem.run_pure, Result.andThen_ok]
            have e0 : ((Array.range (IntKind.i64.wrap c0).toNat).map fun x => (#[] : Array Value)[x % (#[] : Array Value).size]!) = Array.replicate (IntKind.i64.wrap c0).toNat z := by rw [h0]; simp
            rw [e0]
            simp only [newRow, Sem.run_bind, run_newObj, Result.andThen_ok, Sem.run_pure]
            rfl
          · rw [if_neg h0]
            simp only [Sem.run_bind, zeroValue, run_typeInfo' hi, Result.andThen_ok, hz0, Sem.run_pure, hc1]
            rw [hzr]
            simp only [newRow, Sem.run_bind, run_newObj, Result.andThen_ok, Sem.run_pure]
            rfl
        · exact VR.slice (x := ⟨w.heap.size, (Array.replicate (wrapF .i64 c0).toNat z).size, 1⟩) (by simp [Ren.put]) (.inl rfl)
      · cases h
    · cases h
  · cases h

end
end Go.Am
