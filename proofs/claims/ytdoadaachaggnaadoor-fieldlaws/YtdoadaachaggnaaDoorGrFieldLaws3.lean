/-
  Texts of my own, put together: D, E, G, H, I, J, 7.
-/
import Derived.Test.YtdoadaachaggnaaDoorGrFieldLaws2
import Derived.Laws.BytesString
/-
  The abstract machine: copy, len, what is made, texts and bytes, pointers compared and seen as others (own work; nothing of a dump).
-/
set_option linter.unusedSimpArgs false
set_option linter.unusedVariables false
namespace Go.Am
noncomputable section

/-- copy(d, s) -/
def acopy (P : Program) (dT : TypeId) (d s : Value) (m : Mem) : Option (Value × Mem) :=
  match P.underlying dT with
  | some (.slice elem) =>
    match P.info? elem with
    | some ei =>
      match asrc m ei.size s with
      | some (n, l) =>
        match d with
        | .slice (some ⟨b, o, none⟩) dLen _ =>
          match m[b]? with
          | some (.row false be cs) =>
            if (l.take (Nat.min n dLen * ei.size)).all cellOk && decide (o + (l.take (Nat.min n dLen * ei.size)).length ≤ cs.length) then
              some (.int .i64 (Nat.min n dLen : Nat), m.set b (.row false be (lay cs o (l.take (Nat.min n dLen * ei.size)))))
            else none
          | _ => none
        | .slice none 0 _ => some (.int .i64 0, m)
        | _ => none
      | none => none
    | none => none
  | _ => none

theorem acopy_sound {P : Program} {ρ : Ren} {m m1 : Mem} {w : World} (hm : MR P ρ m w) {dT sT ty : TypeId} {d d' s s' u : Value} (hd : VR ρ d d') (hs : VR ρ s s') (h : acopy P dT d s m = some (u, m1)) :
    ∃ w1, (Builtin.copy_ #[dT, sT] ty #[d', s']).run P w = .ok u w1 ∧ lit2 u = true ∧ MR P ρ m1 w1 ∧ Ext ρ m w ρ m1 w1 := by
  unfold acopy at h
  split at h
  · rename_i elem hu
    split at h
    · rename_i ei hei
      split at h
      · rename_i n l hsrc
        split at h
        · rename_i b o dLen dCap
          split at h
          · rename_i be cs hb
            split at h
            · rename_i hcond
              simp only [Bool.and_eq_true, decide_eq_true_eq] at hcond
              obtain ⟨hok, hfit⟩ := hcond
              cases h
              have hk : Nat.min n dLen ≤ n := Nat.min_le_left _ _
              obtain ⟨hlen, hnl, l', hfirst, hl', hv⟩ := asrc_sound hm hs hsrc hk
              obtain ⟨x, c', hx, rfl, _⟩ := vr_slice_inv hd
              obtain ⟨x', c, fr, hx', hw, hn, hlc, hci, hf, _⟩ := hm.row b false be cs (look_row hb)
              rw [hx] at hx'; cases hx'
              have htk : (l.take (Nat.min n dLen * ei.size)).length = l'.length := by
                rw [List.length_take, hnl, hl']
                exact Nat.min_eq_left (Nat.mul_le_mul_right _ hk)
              have hv' : ∀ (i : Nat) (y y' : Value), (l.take (Nat.min n dLen * ei.size))[i]? = some y → l'[i]? = some y' → VR ρ y y' := by
                intro i y y' hy hy'
                rw [List.getElem?_take] at hy
                split at hy
                · exact hv i y y' hy hy'
                · cases hy
              have h1 : ∀ y ∈ l', y.oneCell' = true := by
                intro y hy
                obtain ⟨i, hi⟩ := List.mem_iff_getElem?.1 hy
                have hlt : i < (l.take (Nat.min n dLen * ei.size)).length := by rw [htk]; exact (List.getElem?_eq_some_iff.1 hi).1
                exact oneCell_of_vr (hv' i _ y (List.getElem?_eq_getElem hlt) hi) ((List.all_eq_true.1 hok) _ (List.getElem_mem hlt))
              obtain ⟨w', c2, hr, hup, hsz, hj⟩ := run_storeCells_loose (P := P) (o := o) l' 0 c w hw (hf rfl) (by omega) h1
              have hup2 := hm.update hb hx hw hup hsz (cs' := lay cs o (l.take (Nat.min n dLen * ei.size))) (by rw [lay_length hfit, hsz]; exact hlc) (fun j y hy => by
                rw [lay_get hfit] at hy
                rw [hj j]
                simp only [Nat.add_zero]
                split at hy
                · rename_i hj1
                  rw [if_pos (by omega)]
                  have hlt : j - o < l'.length := by omega
                  exact ⟨l'[j - o], by simp [hlt], hv' _ _ _ hy (by simp [hlt])⟩
                · rename_i hj1
                  rw [if_neg (by omega)]
                  exact hci j y hy)
              refine ⟨w', ?_, rfl, hup2.1, hup2.2⟩
              have hf0 := hfirst w.drawn
              simp only [Builtin.copy_, List.getElem?_toArray, List.getElem?_cons_zero, List.getElem?_cons_succ, Sem.run_bind, run_underlying hu, Result.andThen_ok, hlen, run_sizeOf' hei]
              rw [show (Builtin.firstCells ei.size (n.min dLen) s').run P w = .ok l'.toArray w from hf0]
              simp only [Result.andThen_ok, hr]
              rfl
            · cases h
          · cases h
        · cases h
          have := hd.eq_of_lit2 rfl; subst this
          obtain ⟨hlen, hnl, l', hfirst, hl', hv⟩ := asrc_sound (k := 0) hm hs hsrc (Nat.zero_le _)
          refine ⟨w, ?_, rfl, hm, Ext.refl' _ hm.dom⟩
          have hf0 := hfirst w.drawn
          simp only [Builtin.copy_, List.getElem?_toArray, List.getElem?_cons_zero, List.getElem?_cons_succ, Sem.run_bind, run_underlying hu, Result.andThen_ok, hlen, run_sizeOf' hei, Nat.min_def, Nat.le_zero]
          rw [show (if n = 0 then n else 0) = 0 by split <;> omega]
          rw [show (Builtin.firstCells ei.size 0 s').run P w = .ok l'.toArray w from hf0]
          rfl
        · cases h
      · cases h
    · cases h
  · cases h

/-- len, of what has an address. -/
def alen (P : Program) (t : TypeId) (v : Value) : Option Value :=
  match v with
  | .slice (some _) n _ => match P.underlying t with
    | some (.slice _) => some (.int .i64 (n : Nat))
    | _ => none
  | .string s => match P.underlying t with
    | some .string => some (.int .i64 (s.data.toList.length : Nat))
    | _ => none
  | .agg _ => match P.underlying t with
    | some (.array n _) => some (.int .i64 (n : Nat))
    | _ => none
  | .pointer (some _) => match P.underlying t with
    | some (.pointer arr) => match P.underlying arr with
      | some (.array n _) => some (.int .i64 (n : Nat))
      | _ => none
    | some (.array n _) => some (.int .i64 (n : Nat))
    | _ => none
  | _ => none

theorem alen_sound {P : Program} {ρ : Ren} {w : World} {t ty : TypeId} {v v' u : Value} (hv : VR ρ v v') (h : alen P t v = some u) :
    (Builtin.len_ #[t] ty #[v']).run P w = .ok u w ∧ lit2 u = true := by
  unfold alen at h
  split at h
  · rename_i ad n c
    split at h
    · rename_i e hu
      cases h
      refine ⟨?_, rfl⟩
      cases hv with
      | lit hl => simp [lit2, lit1, lit0] at hl
      | slice hx hc => simp [Builtin.len_, run_underlying hu, goInt]
    · cases h
  · rename_i s
    split at h
    · rename_i hu
      cases h
      have := hv.eq_of_lit2 rfl; subst this
      exact ⟨by simp [Builtin.len_, run_underlying hu, goInt], rfl⟩
    · cases h
  · rename_i cs
    split at h
    · rename_i n e hu
      cases h
      refine ⟨?_, rfl⟩
      cases v' <;> simp [Builtin.len_, run_underlying hu, goInt]
    · cases h
  · rename_i ad
    split at h
    · rename_i arr hu
      split at h
      · rename_i n e ha
        cases h
        refine ⟨?_, rfl⟩
        cases v' <;> simp [Builtin.len_, run_underlying hu, run_underlying ha, goInt]
      · cases h
    · rename_i n e hu
      cases h
      refine ⟨?_, rfl⟩
      cases v' <;> simp [Builtin.len_, run_underlying hu, goInt]
    · cases h
  · cases h

end
end Go.Am

/-
  The abstract machine: slices that are made; texts and bytes (own work; nothing of a dump).
-/
set_option linter.unusedSimpArgs false
set_option linter.unusedVariables false
namespace Go.Am
noncomputable section

/-- The zero of a type of one cell. -/
def zero1 (P : Program) (elem : TypeId) : Option Value :=
  match P.info? elem with
  | some i => if i.size = 1 then match i.zero with
      | some z => if lit0 z then some z else none
      | none => none
    else none
  | none => none

theorem zero1_info {P : Program} {elem : TypeId} {z : Value} (h : zero1 P elem = some z) : ∃ i, P.info? elem = some i ∧ i.size = 1 ∧ i.zero = some z ∧ lit0 z = true := by
  unfold zero1 at h
  split at h
  · rename_i i hi
    split at h
    · rename_i hs
      split at h
      · rename_i z0 hz
        split at h
        · rename_i hl
          cases h
          exact ⟨i, hi, hs, hz, hl⟩
        · cases h
      · cases h
    · cases h
  · cases h

theorem cells_lit0 {z : Value} (h : lit0 z = true) : z.cells = #[z] := by
  cases z <;> first | rfl | simp [lit0] at h

theorem zeros_eq (z : Value) (n : Nat) : (Array.range n).map (fun i => #[z][i % #[z].size]!) = Array.replicate n z := by
  apply Array.ext
  · simp
  · intro i h1 h2
    simp [Nat.mod_one]

/-- A row with some cells set. -/
def afill : List Value → List (Nat × Value) → Option (List Value)
  | cs, [] => some cs
  | cs, (i, v) :: l => if cellOk v && decide (i < cs.length) then afill (cs.set i v) l else none

theorem oneCell_cells {y : Value} (h : y.oneCell' = true) : y.cells = #[y] := by
  cases y <;> first | rfl | simp [Value.oneCell'] at h

theorem afill_sound {ρ : Ren} : ∀ (parts : List (Nat × Value)) (parts' : List (Nat × Value)) (cs : List Value) (c : Array Value) (l : List Value), parts.length = parts'.length →
    (∀ (i : Nat) (p p' : Nat × Value), parts[i]? = some p → parts'[i]? = some p' → p'.1 = p.1 ∧ VR ρ p.2 p'.2) → cs.length = c.size →
    (∀ (i : Nat) (x y : Value), cs[i]? = some x → c[i]? = some y → VR ρ x y) → afill cs parts = some l →
    ∃ c', Instr.fill (fun i => some (i * 1, 1)) c parts' = some c' ∧ l.length = c'.size ∧ (∀ (i : Nat) (x y : Value), l[i]? = some x → c'[i]? = some y → VR ρ x y)
  | [], [], cs, c, l, _, _, hn, hv, h => by
    simp [afill] at h; subst h
    exact ⟨c, rfl, hn, hv⟩
  | [], _ :: _, _, _, _, hl, _, _, _, _ => by simp at hl
  | _ :: _, [], _, _, _, hl, _, _, _, _ => by simp at hl
  | (i, v) :: parts, (i', v') :: parts', cs, c, l, hl, hp, hn, hv, h => by
    unfold afill at h
    split at h
    · rename_i hc
      simp only [Bool.and_eq_true, decide_eq_true_eq] at hc
      obtain ⟨hc1, hc2⟩ := hc
      obtain ⟨e1, hvv⟩ := hp 0 (i, v) (i', v') rfl rfl
      simp only at e1 hvv
      subst e1
      have h1 := oneCell_of_vr hvv hc1
      have hcell := oneCell_cells h1
      obtain ⟨c', hf, hr⟩ := afill_sound parts parts' (cs.set i' v) (c.setIfInBounds i' v') l (by simpa using hl) (fun j p p' h2 h3 => hp (j + 1) p p' (by simpa using h2) (by simpa using h3)) (by simp [hn])
        (fun j x y hx hy => by
          rw [List.getElem?_set] at hx
          rw [Array.getElem?_setIfInBounds] at hy
          by_cases hj : i' = j
          · subst hj
            rw [if_pos rfl, if_pos (by omega)] at hx hy
            cases hx; cases hy
            exact hvv
          · rw [if_neg hj] at hx hy
            exact hv j x y hx hy) h
      refine ⟨c', ?_, hr⟩
      unfold Instr.fill
      simp only [hcell, Nat.mul_one]
      rw [if_neg (by simp; omega)]
      simpa using hf
    · cases h

/-- A slice of parts, elements of one cell. -/
def abuildSlice (P : Program) (t : TypeId) (len : Nat) (parts : List (Nat × Value)) (m : Mem) : Option (Value × Mem) :=
  match P.underlying t with
  | some (.slice elem) =>
    match zero1 P elem with
    | some z =>
      if len ≤ 16777216 then
        match afill (List.replicate len z) parts with
        | some l => some (.slice (some ⟨m.length, 0, none⟩) len len, m ++ [.row false elem l])
        | none => none
      else none
    | none => none
  | _ => none

theorem abuildSlice_sound {P : Program} {ρ : Ren} {m m1 : Mem} {w : World} (hm : MR P ρ m w) {t : TypeId} {len : Nat} {parts parts' : List (Nat × Value)} {u : Value} (hl : parts.length = parts'.length)
    (hp : ∀ (i : Nat) (p p' : Nat × Value), parts[i]? = some p → parts'[i]? = some p' → p'.1 = p.1 ∧ VR ρ p.2 p'.2) (h : abuildSlice P t len parts m = some (u, m1)) :
    ∃ u' w1 ρ1, (Instr.buildSlice t len parts'.toArray).run P w = .ok u' w1 ∧ VR ρ1 u u' ∧ MR P ρ1 m1 w1 ∧ Ext ρ m w ρ1 m1 w1 := by
  unfold abuildSlice at h
  split at h
  · rename_i elem hu
    split at h
    · rename_i z hz
      split at h
      · rename_i hle
        split at h
        · rename_i l hf
          cases h
          obtain ⟨i, hi, hs, hz0, hlit⟩ := zero1_info hz
          obtain ⟨c', hfill, hn, hv⟩ := afill_sound (ρ := ρ) parts parts' (List.replicate len z) (Array.replicate len z) l hl hp (by simp) (fun j x y hx hy => by
            rw [List.getElem?_replicate] at hx
            rw [Array.getElem?_replicate] at hy
            split at hx
            · rename_i hj
              rw [if_pos hj] at hy
              cases hx; cases hy; exact .lit (lit2_of_lit1 (lit1_of_lit0 hlit))
            · cases hx) hf
          have hal := hm.alloc (e := elem) (cs := l) (c := c') (s := 1) (ro := false) (0, 0) (fun _ => loose_zero _) (by rw [hi]; simp [hs]) (by omega) (fun j y hy => by
            have hj : j < c'.size := by rw [← hn]; exact (List.getElem?_eq_some_iff.1 hy).1
            exact ⟨c'[j], by simp [hj], hv j y _ hy (by simp [hj])⟩)
          refine ⟨.slice (some ⟨w.heap.size, 0, none⟩) len len, _, _, ?_, ?_, hal.1, hal.2⟩
          · have hzr : ((Array.range len).map fun x => #[z][x % #[z].size]!) = Array.replicate len z := zeros_eq z len
            have hc0 := cells_lit0 hlit
            simp only [Nat.mul_one] at hfill
            simp only [Instr.buildSlice, Sem.run_bind, run_underlying hu, Result.andThen_ok, run_sizeOf' hi, hs, Nat.mul_one]
            rw [if_neg (by omega)]
            by_cases h0 : len = 0
            · subst h0
              simp only [if_true, Sem.run_bind, Sem.run_pure, Result.andThen_ok]
              have e0 : ((Array.range 0).map fun x => (#[] : Array Value)[x % (#[] : Array Value).size]!) = Array.replicate 0 z := by simp
              rw [e0, hfill]
              simp only [newRow, Sem.run_bind, run_newObj, Result.andThen_ok, Sem.run_pure]
              rfl
            · rw [if_neg h0]
              simp only [Sem.run_bind, zeroValue, run_typeInfo' hi, Result.andThen_ok, hz0, Sem.run_pure, hc0]
              rw [hzr, hfill]
              simp only [newRow, Sem.run_bind, run_newObj, Result.andThen_ok, Sem.run_pure]
              rfl
          · exact VR.slice (x := ⟨w.heap.size, c'.size, 1⟩) (by simp [Ren.put]) (.inl rfl)
        · cases h
      · cases h
    · cases h
  · cases h

/-- make([]T, len, cap), elements of one cell. -/
def amakeSlice (P : Program) (t : TypeId) (len cap : Value) (m : Mem) : Option (Value × Mem) :=
  match P.underlying t, len, cap with
  | some (.slice elem), .int _ l, .int _ c =>
    match zero1 P elem, P.info? elem with
    | some z, some i =>
      if 0 ≤ wrapF .i64 l ∧ wrapF .i64 l ≤ wrapF .i64 c ∧ (i.bytes : Int) * wrapF .i64 c ≤ 281474976710656 then
        some (.slice (some ⟨m.length, 0, none⟩) (wrapF .i64 l).toNat (wrapF .i64 c).toNat, m ++ [.row false elem (List.replicate (wrapF .i64 c).toNat z)])
      else none
    | _, _ => none
  | _, _, _ => none

theorem amakeSlice_sound {P : Program} {ρ : Ren} {m m1 : Mem} {w : World} (hm : MR P ρ m w) {t : TypeId} {l l' c c' u : Value} (hl : VR ρ l l') (hc : VR ρ c c') (h : amakeSlice P t l c m = some (u, m1)) :
    ∃ u' w1 ρ1, (Instr.makeSlice t l' c').run P w = .ok u' w1 ∧ VR ρ1 u u' ∧ MR P ρ1 m1 w1 ∧ Ext ρ m w ρ1 m1 w1 := by
  unfold amakeSlice at h
  split at h
  · rename_i elem k l0 k' c0 hu
    split at h
    · rename_i z i hz hi
      split at h
      · rename_i hb
        cases h
        obtain ⟨i0, hi0, hs, hz0, hlit⟩ := zero1_info hz
        rw [hi] at hi0; cases hi0
        have e1 := vr_int_inv hl; subst e1
        have e2 := vr_int_inv hc; subst e2
        obtain ⟨h1, h2, h3⟩ := hb
        have hal := hm.alloc (e := elem) (cs := List.replicate (wrapF .i64 c0).toNat z) (c := Array.replicate (wrapF .i64 c0).toNat z) (s := 1) (ro := false) (0, 0) (fun _ => loose_zero _) (by rw [hi]; simp [hs]) (by simp) (fun j y hy => by
          rw [List.getElem?_replicate] at hy
          split at hy
          · rename_i hj
            cases hy
            exact ⟨z, by rw [Array.getElem?_replicate, if_pos hj], .lit (lit2_of_lit1 (lit1_of_lit0 hlit))⟩
          · cases hy)
        refine ⟨.slice (some ⟨w.heap.size, 0, none⟩) (wrapF .i64 l0).toNat (wrapF .i64 c0).toNat, _, _, ?_, ?_, hal.1, hal.2⟩
        · have hzr : ((Array.range (wrapF .i64 c0).toNat).map fun x => #[z][x % #[z].size]!) = Array.replicate (wrapF .i64 c0).toNat z := zeros_eq z _
          have hc1 := cells_lit0 hlit
          rw [wrapF_eq, wrapF_eq] at *
          have hno : (decide (IntKind.i64.wrap c0 < 0) || decide ((i.bytes : Int) * IntKind.i64.wrap c0 > 2 ^ 48) || decide (IntKind.i64.wrap l0 < 0) || decide (IntKind.i64.wrap l0 > IntKind.i64.wrap c0)) = false := by
            simp only [Bool.or_eq_false_iff, decide_eq_false_iff_not]
            refine ⟨⟨⟨by omega, ?_⟩, by omega⟩, by omega⟩
            have : (2 : Int) ^ 48 = 281474976710656 := by decide
            rw [this]; omega
          simp only [Instr.makeSlice, Sem.run_bind, run_underlying hu, Result.andThen_ok, asInt, asIntOf, Sem.run_pure, run_typeInfo' hi]
          rw [hno]
          simp only [Bool.false_eq_true, if_false, Sem.run_bind, run_askRoom, Result.andThen_ok, run_sizeOf' hi, hs, Nat.mul_one]
          by_cases h0 : (IntKind.i64.wrap c0).toNat = 0
          · rw [if_pos h0]
            simp only [Sem.run_bind, Sem.run_pure, Result.andThen_ok]
            have e0 : ((Array.range (IntKind.i64.wrap c0).toNat).map fun x => (#[] : Array Value)[x % (#[] : Array Value).size]!) = Array.replicate (IntKind.i64.wrap c0).toNat z := by rw [h0]; simp
            rw [e0]
            simp only [newRow, Sem.run_bind, run_newObj, Result.andThen_ok, Sem.run_pure]
            rfl
          · rw [if_neg h0]
            simp only [Sem.run_bind, zeroValue, run_typeInfo' hi, Result.andThen_ok, hz0, Sem.run_pure, hc1]
            rw [hzr]
            simp only [newRow, Sem.run_bind, run_newObj, Result.andThen_ok, Sem.run_pure]
            rfl
        · exact VR.slice (x := ⟨w.heap.size, (Array.replicate (wrapF .i64 c0).toNat z).size, 1⟩) (by simp [Ren.put]) (.inl rfl)
      · cases h
    · cases h
  · cases h

end
end Go.Am

/-
  The abstract machine: texts and bytes; pointers compared (own work; nothing of a dump).
-/
set_option linter.unusedSimpArgs false
set_option linter.unusedVariables false
namespace Go.Am
noncomputable section

def bytesOf : List Value → Option (List UInt8)
  | [] => some []
  | .int .u8 n :: l => match bytesOf l with
    | some bs => some (UInt8.ofNat n.toNat :: bs)
    | none => none
  | _ => none

theorem bytesOf_ints : ∀ {l : List Value} {bs : List UInt8}, bytesOf l = some bs → ∃ ns : List Int, l = ns.map (Value.int .u8) ∧ bs = ns.map fun n => UInt8.ofNat n.toNat
  | [], bs, h => by simp [bytesOf] at h; subst h; exact ⟨[], rfl, rfl⟩
  | v :: l, bs, h => by
    unfold bytesOf at h
    split at h
    · rename_i h0; cases h0
    · rename_i n l0 h0
      cases h0
      split at h
      · rename_i bs0 hb
        cases h
        obtain ⟨ns, rfl, rfl⟩ := bytesOf_ints hb
        exact ⟨n :: ns, rfl, rfl⟩
      · cases h
    · cases h

theorem foldl_push (ns : List Int) : ∀ b : ByteArray, ns.foldl (fun r n => r.push (UInt8.ofNat n.toNat)) b = ⟨(b.data.toList ++ ns.map fun n => UInt8.ofNat n.toNat).toArray⟩ := by
  induction ns with
  | nil => intro b; simp
  | cons n ns ih =>
    intro b
    rw [List.foldl_cons, ih]
    simp [ByteArray.push]

/-- Related cells that are bytes are the same. -/
theorem bytes_same {ρ : Ren} {l l' : List Value} (hn : l.length = l'.length) (hv : ∀ (i : Nat) (x y : Value), l[i]? = some x → l'[i]? = some y → VR ρ x y) {ns : List Int} (h : l = ns.map (Value.int .u8)) : l' = l := by
  refine list_eq_of_vr hn hv (p := lit0) (fun x y hx hr => hr.eq_of_lit0 hx) ?_
  rw [h, List.all_eq_true]
  intro x hx
  simp at hx
  obtain ⟨n, _, rfl⟩ := hx
  rfl

/-- A text of bytes; bytes of a text. -/
def aconvB (P : Program) (src dst : TypeId) (v : Value) (m : Mem) : Option (Value × Mem) :=
  match v with
  | .slice (some a) n c => match P.underlying src, P.underlying dst with
    | some (.slice e), some .string => match P.underlying e with
      | some (.int .u8) => match asrc m 1 (.slice (some a) n c) with
        | some (_, l) => match bytesOf l with
          | some bs => some (.string ⟨bs.toArray⟩, m)
          | none => none
        | none => none
      | _ => none
    | _, _ => none
  | .string s => match P.underlying src, P.underlying dst with
    | some _, some (.slice e) => match P.underlying e, zero1 P e with
      | some (.int .u8), some _ => some (.slice (some ⟨m.length, 0, none⟩) s.data.toList.length s.data.toList.length, m ++ [.row false e (s.data.toList.map fun b => .int .u8 (b.toNat : Int))])
      | _, _ => none
    | _, _ => none
  | _ => none

theorem aconvB_sound {P : Program} {ρ : Ren} {m m1 : Mem} {w : World} (hm : MR P ρ m w) {src dst : TypeId} {v v' u : Value} (hv : VR ρ v v') (h : aconvB P src dst v m = some (u, m1)) :
    ∃ u' w1 ρ1, (convert src dst v').run P w = .ok u' w1 ∧ VR ρ1 u u' ∧ MR P ρ1 m1 w1 ∧ Ext ρ m w ρ1 m1 w1 := by
  unfold aconvB at h
  split at h
  · rename_i a n c
    split at h
    · rename_i e hs hd
      split at h
      · rename_i he
        split at h
        · rename_i n0 l hsrc
          split at h
          · rename_i bs hb
            cases h
            have hn0 : n0 = n := by
              unfold asrc at hsrc
              split at hsrc
              · rename_i h0; cases h0; split at hsrc
                · split at hsrc
                  · cases hsrc; rfl
                  · cases hsrc
                · cases hsrc
              · rename_i h0; cases h0
              · rename_i h0; cases h0
              · cases hsrc
            subst hn0
            obtain ⟨hlen, hnl, l', hfirst, hl', hvv⟩ := asrc_sound hm hv hsrc (Nat.le_refl _)
            obtain ⟨ns, hns, hbs⟩ := bytesOf_ints hb
            have hll : l' = l := bytes_same (by rw [hnl, hl']) hvv hns
            cases hv with
            | lit hl => simp [lit2, lit1, lit0] at hl
            | slice hx hc =>
              refine ⟨_, w, ρ, ?_, .lit rfl, hm, Ext.refl' _ hm.dom⟩
              rw [run_convert_bytes_string w src dst e _ _ _ hs he hd]
              have hf0 := hfirst w.drawn
              simp only [Builtin.firstCells, Nat.mul_one] at hf0
              rw [hll, hns] at hf0
              rw [run_bytesToString w _ n0 _ ns hf0, foldl_push]
              simp [hbs]
          · cases h
        · cases h
      · cases h
    · cases h
  · rename_i s
    split at h
    · rename_i d e hs hd
      split at h
      · rename_i z he hz
        cases h
        have := hv.eq_of_lit2 rfl; subst this
        obtain ⟨i, hi, hsz, _, _⟩ := zero1_info hz
        let q : Question := .appendCap s.size 0 e
        let cap := q.cut (w.tape w.drawn q)
        have hcap : s.size ≤ cap := by simp [cap, q, Question.cut]
        let cells : Array Value := (s.data.map fun b => Value.int .u8 (b.toNat : Int)) ++ Array.replicate (cap - s.size) (Value.int .u8 0)
        have hcs : cells.size = cap := by simp only [cells, Array.size_append, Array.size_map, Array.size_replicate]; have : s.data.size = s.size := rfl; omega
        have hal := (hm.drawn (w.drawn + 1)).alloc (e := e) (cs := s.data.toList.map fun b => .int .u8 (b.toNat : Int)) (c := cells) (s := 1) (ro := false) (cells.size, cells.size + 1)
          (fun _ j hj hh => by simp at hh; omega) (by rw [hi]; simp [hsz]) (by rw [hcs]; simp; exact hcap) (fun j y hy => by
            rw [List.getElem?_map] at hy
            cases hq : s.data.toList[j]? with
            | none => rw [hq] at hy; cases hy
            | some b =>
              rw [hq] at hy
              simp at hy
              subst hy
              have hj : j < s.data.size := by simpa using (List.getElem?_eq_some_iff.1 hq).1
              refine ⟨.int .u8 (b.toNat : Int), ?_, .lit rfl⟩
              simp only [cells]
              rw [Array.getElem?_append_left (by simpa using hj), Array.getElem?_map]
              have : s.data[j]? = some b := by simpa using hq
              rw [this]; rfl)
        refine ⟨.slice (some ⟨w.heap.size, 0, none⟩) s.size cap, _, _, ?_, ?_, hal.1, ?_⟩
        · have hrun : (Conv.stringToBytes e s).run P w = .ok (.slice (some ⟨w.heap.size, 0, none⟩) s.size cap) (World.freeze (({ w with drawn := w.drawn + 1 } : World).alloc (.cells cells e)) ⟨w.heap.size, cells.size, none⟩ 1) := by
            simp only [Conv.stringToBytes, Sem.run_bind, run_choose, Question.forced, Bool.false_eq_true, if_false, Result.andThen_ok, newRow, run_newObj, Sem.run_pure, markStringish, run_shape]
            have hsh : World.shape? ({ w with drawn := w.drawn + 1, heap := w.heap.push (.cells cells e) } : World) w.heap.size = some (e, cells.size) := by simp [World.shape?]
            rw [show ({ w with drawn := w.drawn + 1, heap := w.heap.push (.cells ((s.data.map fun b => Value.int .u8 (b.toNat : Int)) ++ Array.replicate (q.cut (w.tape w.drawn q) - s.size) (Value.int .u8 0)) e) } : World).shape? w.heap.size = some (e, cells.size) from hsh]
            simp only [run_freeze, Result.andThen_ok]
            rfl
          have hfz : World.freeze (({ w with drawn := w.drawn + 1 } : World).alloc (.cells cells e)) ⟨w.heap.size, cells.size, none⟩ 1 = ({ w with drawn := w.drawn + 1 } : World).alloc (.cells cells e (cells.size, cells.size + 1)) := by
            simp only [World.freeze, World.alloc]
            rw [if_neg (by omega)]
            congr 1
            apply Array.ext
            · simp
            · intro j h1 h2
              simp only [Array.getElem_modify, Array.getElem_push]
              split
              · rename_i hj
                subst hj
                simp
              · rename_i hj
                simp at h1
                rw [dif_pos (by omega), dif_pos (by omega)]
          have hsd : P.underlying src = some d := hs
          simp only [convert, Sem.run_bind, run_underlying hsd, run_underlying hd, Result.andThen_ok]
          rw [← hfz]
          cases d <;> simp [run_underlying he, hrun]
        · refine VR.slice (x := ⟨w.heap.size, cells.size, 1⟩) (by simp [Ren.put]) (.inr ⟨by simpa using hcap, by simp [hcs]⟩)
        · exact ⟨hal.2.le, hal.2.same, hal.2.len, hal.2.fresh, hal.2.os, hal.2.tape, hal.2.output, hal.2.size, hal.2.kept, hal.2.own⟩
      · cases h
    · cases h
  · cases h

end
end Go.Am

/-
  The abstract machine: pointers compared, and seen as others; a text over bytes (own work; nothing of a dump).
-/
set_option linter.unusedSimpArgs false
set_option linter.unusedVariables false
namespace Go.Am
noncomputable section

/-- Are two pointers, or a slice and nil, the same? -/
def aeq (P : Program) (t : TypeId) (x y : Value) : Option Bool :=
  match x, y with
  | .pointer (some _), .pointer none => match P.underlying t with
    | some (.pointer _) => some false
    | _ => none
  | .pointer none, .pointer (some _) => match P.underlying t with
    | some (.pointer _) => some false
    | _ => none
  | .pointer (some a), .pointer (some b) => match P.underlying t with
    | some (.pointer e) => match P.info? e with
      | some i => if i.size ≠ 0 ∧ a = b then some true else none
      | none => none
    | _ => none
  | .slice (some _) _ _, .slice none _ _ => match P.underlying t with
    | some (.slice _) => some false
    | _ => none
  | .slice none _ _, .slice (some _) _ _ => match P.underlying t with
    | some (.slice _) => some false
    | _ => none
  | _, _ => none

theorem aeq_sound {P : Program} {ρ : Ren} {w : World} {t : TypeId} {x x' y y' : Value} {b : Bool} (hx : VR ρ x x') (hy : VR ρ y y') (h : aeq P t x y = some b) : (Op.equal t x' y').run P w = .ok b w := by
  suffices key : ∀ d, (Op.equalIn (d + 1) t x' y').run P w = .ok b w from key 9999
  intro dd
  unfold aeq at h
  split at h
  · split at h
    · rename_i e hu
      cases h
      obtain ⟨b1, o1, x1, _, _, rfl⟩ := vr_ptr_some hx
      have := hy.eq_of_lit2 rfl; subst this
      simp [Op.equalIn, run_underlying hu]
    · cases h
  · split at h
    · rename_i e hu
      cases h
      obtain ⟨b1, o1, x1, _, _, rfl⟩ := vr_ptr_some hy
      have := hx.eq_of_lit2 rfl; subst this
      simp [Op.equalIn, run_underlying hu]
    · cases h
  · split at h
    · rename_i e hu
      split at h
      · rename_i i hi
        split at h
        · rename_i hc
          cases h
          obtain ⟨hz, rfl⟩ := hc
          obtain ⟨b1, o1, x1, e1, r1, rfl⟩ := vr_ptr_some hx
          obtain ⟨b2, o2, x2, e2, r2, rfl⟩ := vr_ptr_some hy
          rw [e1] at e2
          cases e2
          rw [r1] at r2; cases r2
          simp [Op.equalIn, run_underlying hu, run_sizeOf' hi, sameAddr]
        · cases h
      · cases h
    · cases h
  · split at h
    · rename_i e hu
      cases h
      have := hy.eq_of_lit2 rfl; subst this
      cases hx with
      | lit hl => simp [lit2, lit1, lit0] at hl
      | slice _ _ => simp [Op.equalIn, run_underlying hu]
    · cases h
  · split at h
    · rename_i e hu
      cases h
      have := hx.eq_of_lit2 rfl; subst this
      cases hy with
      | lit hl => simp [lit2, lit1, lit0] at hl
      | slice _ _ => simp [Op.equalIn, run_underlying hu]
    · cases h
  · cases h

theorem rowAt_mono {p : Program} {fits : TypeId → Bool} : ∀ {d : Nat} {e : TypeId} {count count' off n : Nat}, count ≤ count' → rowAt p fits d e count off n = true → rowAt p fits d e count' off n = true
  | 0, _, _, _, _, _, _, h => by simp [rowAt] at h
  | d + 1, e, count, count', off, n, hc, h => by
    unfold rowAt at h ⊢
    simp only at h ⊢
    split
    · rename_i hs; rw [if_pos hs] at h; exact h
    · rename_i hs
      rw [if_neg hs] at h
      simp only [Bool.or_eq_true, Bool.and_eq_true, decide_eq_true_eq] at h ⊢
      rcases h with ⟨⟨h1, h2⟩, h3⟩ | ⟨h1, h2⟩
      · left; exact ⟨⟨h1, by omega⟩, h3⟩
      · right; exact ⟨by omega, h2⟩

theorem liesAt_mono {p : Program} : ∀ {d : Nat} {e : TypeId} {count count' off n : Nat} {u : TypeId}, count ≤ count' → liesAt p d e count off u n = true → liesAt p d e count' off u n = true
  | 0, _, _, _, _, _, _, _, h => by simp [liesAt] at h
  | d + 1, e, count, count', off, n, u, hc, h => by
    unfold liesAt at h ⊢
    simp only [Bool.or_eq_true] at h ⊢
    rcases h with h | h
    · left; exact rowAt_mono hc h
    · right
      split at h
      · exact liesAt_mono hc h
      · cases h

/-- A pointer seen as a bare one, and back. -/
def aptr (P : Program) (src dst : TypeId) (v : Value) (m : Mem) : Option Value :=
  match v with
  | .pointer (some ⟨b, o, none⟩) => match look m b with
    | some (_, e, cs) => match P.underlying src, P.underlying dst with
      | some (.pointer t), some .unsafePointer => match P.info? t with
        | some i => if i.size ≠ 0 ∧ o < cs.length then some (.pointer (some ⟨b, o, none⟩)) else none
        | none => none
      | some .unsafePointer, some (.pointer u) => match P.info? u with
        | some i => if i.size ≠ 0 ∧ liesAt P P.depth e (cs.length / P.cellsOf e) o u 1 = true then some (.pointer (some ⟨b, o, none⟩)) else none
        | none => none
      | _, _ => none
    | none => none
  | _ => none

theorem aptr_sound {P : Program} {ρ : Ren} {m : Mem} {w : World} (hm : MR P ρ m w) {src dst : TypeId} {v v' u : Value} (hv : VR ρ v v') (h : aptr P src dst v m = some u) :
    ∃ u', (convert src dst v').run P w = .ok u' w ∧ VR ρ u u' := by
  unfold aptr at h
  split at h
  · rename_i b o
    split at h
    · rename_i ro e cs hl
      obtain ⟨x, hx, rfl⟩ := vr_ptr_inv hv
      obtain ⟨x', c, fr, hx', hw, hn, hlen, _, _, _⟩ := hm.row b ro e cs hl
      rw [hx] at hx'; cases hx'
      have hsh : w.shape? x.r = some (e, c.size) := by simp [World.shape?, hw]
      have hvw : (viewAt x.r).run P w = .ok none w := by simp [viewAt, hsh]
      split at h
      · rename_i t hs hd
        split at h
        · rename_i i hi
          split at h
          · rename_i hc
            cases h
            refine ⟨_, ?_, .ptr hx⟩
            have hcells : (cellsIn x.r).run P w = .ok (some c.size) w := by simp [cellsIn, hsh]
            have hlt : ¬ (o ≥ c.size) := by omega
            simp only [convert, Sem.run_bind, run_underlying hs, run_underlying hd, Result.andThen_ok, Conv.unsafePointer, Conv.seenAt, hvw, Sem.run_pure, hcells, run_sizeOf' hi]
            simp [hc.1, hlt]
          · cases h
        · cases h
      · rename_i ut hs hd
        split at h
        · rename_i i hi
          split at h
          · rename_i hc
            cases h
            refine ⟨_, ?_, .ptr hx⟩
            have hlie : liesAt P P.depth e (c.size / P.cellsOf e) o ut 1 = true := liesAt_mono (Nat.div_le_div_right hlen) hc.2
            have hva : (variablesAt ⟨x.r, o, none⟩ ut 1).run P w = .ok true w := by simp [variablesAt, hsh, hlie]
            simp only [convert, Sem.run_bind, run_underlying hs, run_underlying hd, Result.andThen_ok, Conv.unsafePointer, Conv.seenAt, hvw, Sem.run_pure, run_sizeOf' hi, hva]
            simp
          · cases h
        · cases h
      · cases h
    · cases h
  · cases h

end
end Go.Am

/-
  The abstract machine: a text over bytes that are held from then on; functions that the model answers by itself (own work; nothing of a dump).
-/
set_option linter.unusedSimpArgs false
set_option linter.unusedVariables false
namespace Go.Am
noncomputable section

/-- A row is held from now on. -/
theorem MR.hold {P : Program} {ρ : Ren} {m : Mem} {w w' : World} (h : MR P ρ m w) {k : Nat} {e : TypeId} {cs : List Value} {x : At} {c : Array Value} {fr fr' : Nat × Nat}
    (hk : m[k]? = some (.row false e cs)) (hx : ρ k = some x) (hw : w.heap[x.r]? = some (.cells c e fr)) (hu : Upd w w' x.r (.cells c e fr')) :
    MR P ρ (m.set k (.row true e cs)) w' ∧ Ext ρ m w ρ (m.set k (.row true e cs)) w' := by
  have hcase : ∀ j b, (m.set k (.row true e cs))[j]? = some b → (j ≠ k ∧ m[j]? = some b) ∨ (j = k ∧ b = .row true e cs) := by
    intro j b hb
    rw [List.getElem?_set] at hb
    by_cases hj : k = j
    · subst hj
      simp only [if_true] at hb
      split at hb
      · right; exact ⟨rfl, (Option.some.inj hb).symm⟩
      · cases hb
    · simp only [hj, if_false] at hb
      left; exact ⟨fun e => hj e.symm, hb⟩
  have hlook : ∀ j q, look (m.set k (.row true e cs)) j = some q → (j ≠ k ∧ look m j = some q) ∨ (j = k ∧ q = (true, e, cs)) := by
    intro j q hq
    unfold look at hq
    split at hq
    · rename_i b hb
      rcases hcase j b hb with ⟨hj, hb⟩ | ⟨hj, rfl⟩
      · left; exact ⟨hj, by simp [look, hb, hq]⟩
      · right; simp [Blk.cells?] at hq; exact ⟨hj, hq.symm⟩
    · cases hq
  obtain ⟨x0, c0, fr0, hx0, hw0, hn0, hl0, hi0, hf0, hs0⟩ := h.row k false e cs (look_row hk)
  rw [hx] at hx0; cases hx0
  rw [hw] at hw0; cases hw0
  have old : ∀ (j : Nat) (ro : Bool) (e1 : TypeId) (cs1 : List Value), look (m.set k (Blk.row true e cs)) j = some (ro, e1, cs1) → ∃ ro2, look m j = some (ro2, e1, cs1) := by
    intro j ro e1 cs1 hb
    rcases hlook j _ hb with ⟨_, hb1⟩ | ⟨rfl, hb1⟩
    · exact ⟨ro, hb1⟩
    · cases hb1; exact ⟨false, look_row hk⟩
  have hrow : ∀ (j : Nat) (e1 : TypeId) (cs1 : List Value), (m.set k (Blk.row true e cs))[j]? = some (Blk.row false e1 cs1) → j ≠ k ∧ m[j]? = some (Blk.row false e1 cs1) := by
    intro j e1 cs1 hj
    rcases hcase j _ hj with hb | ⟨_, hb⟩
    · exact hb
    · cases hb
  refine ⟨⟨fun j hj => h.dom j (by simpa using hj), fun j y hy => by rw [hu.size]; exact h.bnd j y hy, h.glob, ?_, ?_, ?_⟩, ⟨Ren.le_refl _, fun _ _ => rfl, by simp, fun j y hj hy => by (rw [h.dom j hj] at hy; cases hy), hu.os, hu.tape, hu.output, by rw [hu.size]; exact Nat.le_refl _, ?_, ?_⟩⟩
  · intro j ro' e' cs1 hb
    rcases hlook j _ hb with ⟨hj, hb'⟩ | ⟨rfl, hb'⟩
    · obtain ⟨y, c1, fr1, hy, hw1, hn1, hl1, hi1, hf1, hs1⟩ := h.row j ro' e' cs1 hb'
      have hne : y.r ≠ x.r := fun e1 => hj (h.inj k e cs j ro' e' cs1 x y hk hb' hx hy e1.symm).symm
      exact ⟨y, c1, fr1, hy, by rw [hu.other _ hne]; exact hw1, hn1, hl1, hi1, hf1, hs1⟩
    · cases hb'
      exact ⟨x, c, fr', hx, hu.same, hn0, hl0, hi0, fun hh => (by cases hh), hs0⟩
  · intro j e1 cs1 j' ro' e' cs2 y y' hb hb' hy hy' hr
    obtain ⟨_, h2⟩ := hrow _ _ _ hb
    obtain ⟨ro3, h3⟩ := old _ _ _ _ hb'
    exact h.inj j e1 cs1 j' ro3 e' cs2 y y' h2 h3 hy hy' hr
  · intro j e1 cs1 hb
    rcases hcase j _ hb with ⟨_, hb1⟩ | ⟨_, hb1⟩
    · exact h.tab j e1 cs1 hb1
    · cases hb1
  · intro r hr hno
    exact hu.other r fun e1 => hno k e cs x hk hx e1.symm
  · intro j e1 cs1 y hb hy
    right; exact ⟨j, e1, cs1, y, (hrow _ _ _ hb).2, hy, rfl⟩

theorem upd_freeze {w : World} {g i n : Nat} {c : Array Value} {e : TypeId} {fr : Nat × Nat} (h : w.heap[g]? = some (.cells c e fr)) (hn : n ≠ 0) :
    ∃ fr', Upd w (w.freeze ⟨g, i, none⟩ n) g (.cells c e fr') := by
  obtain ⟨lo, hi⟩ := fr
  refine ⟨if lo == hi then (i, i + n) else (min lo i, max hi (i + n)), ?_⟩
  unfold World.freeze
  rw [if_neg hn]
  refine ⟨rfl, rfl, rfl, by simp, ?_, fun r hr => ?_⟩
  · simp [Array.getElem?_modify, h]
  · simp only [Array.getElem?_modify]
    rw [if_neg (fun e => hr e.symm)]

/-- A text over n bytes at p, which are held from then on. -/
def ausString (P : Program) (pt : TypeId) (p n : Value) (m : Mem) : Option (Value × Mem) :=
  match n with
  | .int _ k =>
    if k = 0 then match p with
      | .pointer none => some (.string ⟨#[]⟩, m)
      | .pointer (some ⟨_, _, none⟩) => some (.string ⟨#[]⟩, m)
      | _ => none
    else if 0 < k ∧ k ≤ 9223372036854775807 then
      match p with
      | .pointer (some ⟨b, o, none⟩) => match m[b]? with
        | some (.row false e cs) => match P.underlying pt with
          | some (.pointer u) =>
            if liesAt P P.depth e (cs.length / P.cellsOf e) o u k.toNat = true ∧ o + k.toNat ≤ cs.length then
              match bytesOf ((cs.drop o).take k.toNat) with
              | some bs => some (.string ⟨bs.toArray⟩, m.set b (.row true e cs))
              | none => none
            else none
          | _ => none
        | _ => none
      | _ => none
    else none
  | _ => none

theorem run_loadBytes {P : Program} {w : World} {g : Nat} : ∀ (ns : List Int) (o : Nat) (acc : ByteArray), (∀ (j : Nat) (n : Int), ns[j]? = some n → w.cell? ⟨g, o + j, none⟩ = some (.int .u8 n)) →
    (loadBytes ⟨g, o, none⟩ acc ns.length).run P w = .ok (ns.foldl (fun r n => r.push (UInt8.ofNat n.toNat)) acc) w
  | [], o, acc, _ => by simp [loadBytes]
  | n :: ns, o, acc, h => by
    have h0 := h 0 n rfl
    simp only [Nat.add_zero] at h0
    simp only [List.length_cons, loadBytes, Sem.run_bind, run_load, h0, Result.andThen_ok, add_plain, List.foldl_cons]
    exact run_loadBytes ns (o + 1) _ (fun j k hk => by
      have := h (j + 1) k (by simpa using hk)
      rw [show o + 1 + j = o + (j + 1) by omega]; exact this)

theorem usString_def (pt xt ty : TypeId) (p : Option Addr) (len : Value) : ∃ s1 s2 s3 s4, Builtin.unsafeString_ #[pt, xt] ty #[.pointer p, len] = (do
    let n ← asInt len
    if n < 0 then runtimePanic (.error s1)
    if n > IntKind.i64.max then unsupported s2
    match p with
    | none =>
      if n = 0 then pure (.string .empty)
      else runtimePanic (.error s3)
    | some a =>
      if n = 0 then pure (.string .empty)
      else if ← variablesAt a (← elemOf pt) n.toNat then do
        let s ← loadBytes a .empty n.toNat
        freeze a n.toNat
        pure (.string s)
      else unsupported s4 : Sem Value) := ⟨_, _, _, _, rfl⟩

theorem ausString_sound {P : Program} {ρ : Ren} {m m1 : Mem} {w : World} (hm : MR P ρ m w) {pt xt ty : TypeId} {p p' n n' u : Value} (hp : VR ρ p p') (hn : VR ρ n n') (h : ausString P pt p n m = some (u, m1)) :
    ∃ w1, (Builtin.unsafeString_ #[pt, xt] ty #[p', n']).run P w = .ok u w1 ∧ lit2 u = true ∧ MR P ρ m1 w1 ∧ Ext ρ m w ρ m1 w1 := by
  unfold ausString at h
  split at h
  · rename_i kk k
    have e1 := vr_int_inv hn; subst e1
    split at h
    · rename_i hk0
      subst hk0
      split at h
      · cases h
        have := hp.eq_of_lit2 rfl; subst this
        exact ⟨w, by obtain ⟨s1, s2, s3, s4, hdef⟩ := usString_def pt xt ty none (.int kk 0); rw [hdef]; simp [asInt, asIntOf, IntKind.max, IntKind.signed, IntKind.bits]; rfl, rfl, hm, Ext.refl' _ hm.dom⟩
      · cases h
        obtain ⟨x, hx, rfl⟩ := vr_ptr_inv hp
        exact ⟨w, by obtain ⟨s1, s2, s3, s4, hdef⟩ := usString_def pt xt ty (some ⟨x.r, _, none⟩) (.int kk 0); rw [hdef]; simp [asInt, asIntOf, IntKind.max, IntKind.signed, IntKind.bits]; rfl, rfl, hm, Ext.refl' _ hm.dom⟩
      · cases h
    · rename_i hk0
      split at h
      · rename_i hk
        split at h
        · rename_i b o
          split at h
          · rename_i e cs hb
            split at h
            · rename_i ut hut
              split at h
              · rename_i hc
                split at h
                · rename_i bs hbs
                  cases h
                  obtain ⟨x, hx, rfl⟩ := vr_ptr_inv hp
                  obtain ⟨x', c, fr, hx', hw, hsz, hlen, hi, hf, _⟩ := hm.row b false e cs (look_row hb)
                  rw [hx] at hx'; cases hx'
                  obtain ⟨fr', hup⟩ := upd_freeze (i := o) (n := k.toNat) hw (by omega)
                  have hh := hm.hold hb hx hw hup
                  refine ⟨w.freeze ⟨x.r, o, none⟩ k.toNat, ?_, rfl, hh.1, hh.2⟩
                  have hsh : w.shape? x.r = some (e, c.size) := by simp [World.shape?, hw]
                  have hlie : liesAt P P.depth e (c.size / P.cellsOf e) o ut k.toNat = true := liesAt_mono (Nat.div_le_div_right hlen) hc.1
                  have hva : (variablesAt ⟨x.r, o, none⟩ ut k.toNat).run P w = .ok true w := by simp [variablesAt, hsh, hlie]
                  obtain ⟨ns, hns, hbs2⟩ := bytesOf_ints hbs
                  have hnl : ns.length = k.toNat := by
                    have := congrArg List.length hns
                    simp at this; omega
                  have hcell : ∀ (j : Nat) (q : Int), ns[j]? = some q → w.cell? ⟨x.r, o + j, none⟩ = some (.int .u8 q) := by
                    intro j q hq
                    rw [cell_of_row w x.r (o + j) c e fr hw]
                    have hj : ((cs.drop o).take k.toNat)[j]? = some (.int .u8 q) := by rw [hns, List.getElem?_map, hq]; rfl
                    rw [List.getElem?_take] at hj
                    split at hj
                    · rw [List.getElem?_drop] at hj
                      obtain ⟨y, hy, hr⟩ := hi _ _ hj
                      rw [hy, hr.eq_of_lit0 rfl]
                    · cases hj
                  have hlb := run_loadBytes (P := P) ns o ByteArray.empty hcell
                  rw [hnl] at hlb
                  have hmax : ¬ (k > IntKind.i64.max) := by
                    have : IntKind.i64.max = 9223372036854775807 := by decide
                    rw [this]; omega
                  obtain ⟨s1, s2, s3, s4, hdef⟩ := usString_def pt xt ty (some ⟨x.r, o, none⟩) (.int kk k)
                  rw [hdef]
                  simp only [asInt, asIntOf, Sem.run_bind, Sem.run_pure, Result.andThen_ok]
                  rw [if_neg (by omega), if_neg hmax, if_neg hk0]
                  simp only [Sem.run_bind, elemOf, run_underlying hut, Result.andThen_ok, Sem.run_pure, hva, if_true, hlb, run_freeze]
                  rw [foldl_push]
                  simp [hbs2]
                · cases h
              · cases h
            · cases h
          · cases h
        · cases h
      · cases h
  · cases h

end
end Go.Am

/-
  The abstract machine: functions without a body, which the model answers by itself (own work; nothing of a dump).
-/
set_option linter.unusedSimpArgs false
set_option linter.unusedVariables false
namespace Go.Am
noncomputable section

/-- Which one it is: the sum and the difference of words with a carry; what is handed back as it came; new bytes that hold anything. -/
inductive XK where
  | add64
  | sub64
  | same
  | noZero (elem : TypeId)

def pair64 (a b : Nat) : Value := .tuple ⟨[.int .u64 (a : Int), .int .u64 (b : Int)]⟩

/-- What is asked of the program for such a function. -/
def XIs (P : Program) (g : FuncId) : XK → Prop
  | .add64 => ∀ (kx ky kc : IntKind) (x y c : Int) (w : World), c.toNat ≤ 1 → (callFunc g #[.int kx x, .int ky y, .int kc c]).run P w =
      .ok (.value (pair64 ((x.toNat + y.toNat + c.toNat) % 18446744073709551616) ((x.toNat + y.toNat + c.toNat) / 18446744073709551616))) w
  | .sub64 => ∀ (kx ky kc : IntKind) (x y c : Int) (w : World), c.toNat ≤ 1 → (callFunc g #[.int kx x, .int ky y, .int kc c]).run P w =
      .ok (.value (pair64 ((x.toNat + 18446744073709551616 - y.toNat - c.toNat) % 18446744073709551616) (if x.toNat < y.toNat + c.toNat then 1 else 0))) w
  | .same => ∀ (x : Value) (w : World), (callFunc g #[x]).run P w = .ok (.value x) w
  | .noZero e => (P.info? e).map (·.size) = some 1 ∧ ∀ (n : Int) (w : World), 0 ≤ n → n ≤ 281474976710656 → ∃ (cap d : Nat) (c : Array Value), n.toNat ≤ cap ∧ c.size = cap ∧
      (callFunc g #[.int .i64 n]).run P w = .ok (.value (.slice (some ⟨w.heap.size, 0, none⟩) n.toNat cap)) (({ w with drawn := d } : World).alloc (.cells c e))

def aext (k : XK) (args : List Value) (m : Mem) : Option (Value × Mem) :=
  match k with
  | .add64 => match args with
    | [.int _ x, .int _ y, .int _ c] => if c.toNat ≤ 1 then some (pair64 ((x.toNat + y.toNat + c.toNat) % 18446744073709551616) ((x.toNat + y.toNat + c.toNat) / 18446744073709551616), m) else none
    | _ => none
  | .sub64 => match args with
    | [.int _ x, .int _ y, .int _ c] => if c.toNat ≤ 1 then some (pair64 ((x.toNat + 18446744073709551616 - y.toNat - c.toNat) % 18446744073709551616) (if x.toNat < y.toNat + c.toNat then 1 else 0), m) else none
    | _ => none
  | .same => match args with
    | [x] => some (x, m)
    | _ => none
  | .noZero e => match args with
    | [.int .i64 n] => if 0 ≤ n ∧ n ≤ 281474976710656 then some (.slice (some ⟨m.length, 0, none⟩) n.toNat n.toNat, m ++ [.row false e (List.replicate n.toNat junk)]) else none
    | _ => none

theorem tr_one {ρ : Ren} {x : Value} {args' : Array Value} (h : TR ρ [x] args') : ∃ x', args' = #[x'] ∧ VR ρ x x' := by
  have hs := h.size
  obtain ⟨l⟩ := args'
  match l, hs with
  | [x'], _ => exact ⟨x', rfl, h.at_ 0 x x' rfl rfl⟩

theorem tr_three {ρ : Ren} {x y z : Value} {args' : Array Value} (h : TR ρ [x, y, z] args') : ∃ x' y' z', args' = #[x', y', z'] ∧ VR ρ x x' ∧ VR ρ y y' ∧ VR ρ z z' := by
  have hs := h.size
  obtain ⟨l⟩ := args'
  match l, hs with
  | [x', y', z'], _ => exact ⟨x', y', z', rfl, h.at_ 0 x x' rfl rfl, h.at_ 1 y y' rfl rfl, h.at_ 2 z z' rfl rfl⟩

theorem aext_sound {P : Program} {ρ : Ren} {m m1 : Mem} {w : World} (hm : MR P ρ m w) {g : FuncId} {k : XK} (hk : XIs P g k) {args : List Value} {args' : Array Value} (ht : TR ρ args args') {v : Value} (h : aext k args m = some (v, m1)) :
    Sound P ρ m w ((callFunc g args').run P w) v m1 := by
  cases k with
  | add64 =>
    simp only [aext] at h
    split at h
    · rename_i k1 x k2 y k3 c
      split at h
      · rename_i hc
        cases h
        obtain ⟨x', y', z', rfl, h1, h2, h3⟩ := tr_three ht
        rw [vr_int_inv h1, vr_int_inv h2, vr_int_inv h3]
        exact ⟨_, w, ρ, .inl (hk k1 k2 k3 x y c w hc), .lit rfl, hm, Ext.refl' _ hm.dom⟩
      · cases h
    · cases h
  | sub64 =>
    simp only [aext] at h
    split at h
    · rename_i k1 x k2 y k3 c
      split at h
      · rename_i hc
        cases h
        obtain ⟨x', y', z', rfl, h1, h2, h3⟩ := tr_three ht
        rw [vr_int_inv h1, vr_int_inv h2, vr_int_inv h3]
        exact ⟨_, w, ρ, .inl (hk k1 k2 k3 x y c w hc), .lit rfl, hm, Ext.refl' _ hm.dom⟩
      · cases h
    · cases h
  | same =>
    simp only [aext] at h
    split at h
    · cases h
      obtain ⟨x', rfl, h1⟩ := tr_one ht
      exact ⟨x', w, ρ, .inl (hk x' w), h1, hm, Ext.refl' _ hm.dom⟩
    · cases h
  | noZero e =>
    simp only [aext] at h
    split at h
    · rename_i n
      split at h
      · rename_i hn
        cases h
        obtain ⟨x', rfl, h1⟩ := tr_one ht
        rw [vr_int_inv h1]
        obtain ⟨hs, hrun⟩ := hk
        obtain ⟨cap, d, c, hcap, hc, hr⟩ := hrun n w hn.1 hn.2
        have hal := (hm.drawn d).alloc (e := e) (cs := List.replicate n.toNat junk) (c := c) (s := 1) (ro := false) (0, 0) (fun _ => loose_zero _) hs (by simp; omega) (fun j y hy => by
          rw [List.getElem?_replicate] at hy
          split at hy
          · rename_i hj
            cases hy
            have : j < c.size := by omega
            exact ⟨c[j], by simp [this], .junk⟩
          · cases hy)
        refine ⟨_, _, _, .inl hr, ?_, hal.1, ?_⟩
        · exact VR.slice (x := ⟨w.heap.size, c.size, 1⟩) (by simp [Ren.put]) (.inr ⟨hcap, by simp; omega⟩)
        · exact ⟨hal.2.le, hal.2.same, hal.2.len, hal.2.fresh, hal.2.os, hal.2.tape, hal.2.output, hal.2.size, hal.2.kept, hal.2.own⟩
      · cases h
    · cases h

end
end Go.Am

/-
  The abstract machine: calls and regions in the text's order (own work; nothing of a dump).
-/
set_option linter.unusedSimpArgs false
set_option linter.unusedVariables false
namespace Go.Am
noncomputable section

abbrev Self := FuncId → List Value → Mem → Option (Value × Mem)

/-- The program; how many blocks ahead are package variables'; which functions write what their arguments lead to. -/
structure Env where
  P : Program
  G : Nat
  wr : FuncId → Bool
  ext : FuncId → Option XK
  fast : FuncId → Option (List Value → Option Value)
  strict : Bool
  good : FuncId → Bool
  sr : Nat → Array Oper → Bool := fun _ _ => false

def sealed : Blk → Blk
  | .row _ e cs => .row true e cs
  | b => b

def onlyTab : Blk → Blk
  | .tab e cs => .tab e cs
  | _ => .dead

/-- A call, behind which what it leaves is collected. -/
def ainv (E : Env) (self : Self) (g : FuncId) (args : List Value) (m : Mem) : Option (Value × Mem) :=
  if args.all lit2 then
    match E.fast g with
    | some F => match F args with
      | some v => if lit2 v then some (v, m) else none
      | none => none
    | none => match self g args ((m.take E.G).map onlyTab) with
      | some (v, m1) => acoll m ((m.take E.G).map onlyTab).length v m1
      | none => none
  else if E.wr g then self g args m
  else
    match self g args (m.map sealed) with
    | some (v, m1) => acoll m (m.map sealed).length v m1
    | none => none

/-- How a call ends. -/
def Ends (P : Program) (ρ : Ren) (m : Mem) (w : World) (v : Value) (m1 : Mem) (e : Ending) (w1 : World) : Prop :=
  ∃ v' ρ1, e = .returned v' ∧ VR ρ1 v v' ∧ MR P ρ1 m1 w1 ∧ Ext ρ m w ρ1 m1 w1

/-- What answers calls is sound. -/
def CallOK (P : Program) (self : Self) : Prop :=
  ∀ f args m v m1, self f args m = some (v, m1) → ∀ ρ w (args' : Array Value), MR P ρ m w → TR ρ args args' → Calls P f args' w (Ends P ρ m w v m1)

theorem mr_onlyTab {P : Program} {ρ : Ren} {m : Mem} {w : World} (h : MR P ρ m w) {G : Nat} (hG : P.globals.size ≤ G) :
    MR P (fun k => if k < G then ρ k else none) ((m.take G).map onlyTab) w := by
  have hget : ∀ k b, ((m.take G).map onlyTab)[k]? = some b → k < G ∧ ∃ b0, m[k]? = some b0 ∧ b = onlyTab b0 := by
    intro k b hb
    rw [List.getElem?_map, List.getElem?_take] at hb
    split at hb
    · rename_i hk
      cases hm : m[k]? with
      | none => rw [hm] at hb; cases hb
      | some b0 => rw [hm] at hb; simp at hb; exact ⟨hk, b0, rfl, hb.symm⟩
    · cases hb
  have hlook : ∀ k ro e cs, look ((m.take G).map onlyTab) k = some (ro, e, cs) → k < G ∧ ro = true ∧ m[k]? = some (.tab e cs) := by
    intro k ro e cs hk
    unfold look at hk
    split at hk
    · rename_i b hb
      obtain ⟨h1, b0, h2, rfl⟩ := hget k b hb
      cases b0 <;> simp [onlyTab, Blk.cells?] at hk
      obtain ⟨rfl, rfl, rfl⟩ := hk
      exact ⟨h1, rfl, h2⟩
    · cases hk
  refine ⟨?_, ?_, ?_, ?_, ?_, ?_⟩
  · intro k hk
    simp at hk
    split
    · exact h.dom k (by omega)
    · rfl
  · intro k x hx
    split at hx
    · exact h.bnd k x hx
    · cases hx
  · intro g hg
    obtain ⟨x, h1, h2⟩ := h.glob g hg
    exact ⟨x, by rw [if_pos (by omega)]; exact h1, h2⟩
  · intro k ro e cs hk
    obtain ⟨h1, rfl, h2⟩ := hlook k ro e cs hk
    have hl : look m k = some (true, e, cs) := by simp [look, h2, Blk.cells?]
    obtain ⟨x, c, fr, hx, hw, hn, hlen, hi, hf, hs⟩ := h.row k true e cs hl
    refine ⟨x, c, fr, by rw [if_pos h1]; exact hx, hw, hn, hlen, fun i u hu => ?_, fun hh => (by cases hh), hs⟩
    obtain ⟨y, hy, hr⟩ := hi i u hu
    have h0 := h.tab k e cs h2 u (List.mem_of_getElem? hu)
    rw [hr.eq_of_lit0 h0] at hy
    exact ⟨u, hy, .lit (lit2_of_lit1 (lit1_of_lit0 h0))⟩
  · intro k e cs k' ro' e' cs' x x' hk
    obtain ⟨_, b0, _, h2⟩ := hget k _ hk
    cases b0 <;> simp [onlyTab] at h2
  · intro k e cs hk
    obtain ⟨_, b0, h1, h2⟩ := hget k _ hk
    cases b0 <;> simp [onlyTab] at h2
    obtain ⟨rfl, rfl⟩ := h2
    exact h.tab k _ _ h1

theorem onlyTab_ro {m : Mem} {G : Nat} (k : Nat) (e : TypeId) (cs : List Value) : ((m.take G).map onlyTab)[k]? ≠ some (Blk.row false e cs) := by
  intro h
  rw [List.getElem?_map] at h
  cases hm : (m.take G)[k]? with
  | none => rw [hm] at h; cases h
  | some b => rw [hm] at h; cases b <;> simp [onlyTab] at h

theorem sealed_ro {m : Mem} (k : Nat) (e : TypeId) (cs : List Value) : (m.map sealed)[k]? ≠ some (Blk.row false e cs) := by
  intro h
  rw [List.getElem?_map] at h
  cases hm : m[k]? with
  | none => rw [hm] at h; cases h
  | some b => rw [hm] at h; cases b <;> simp [sealed] at h

theorem mr_sealed {P : Program} {ρ : Ren} {m : Mem} {w : World} (h : MR P ρ m w) : MR P ρ (m.map sealed) w := by
  have hlook : ∀ k ro e cs, look (m.map sealed) k = some (ro, e, cs) → ∃ ro0, ro = true ∧ look m k = some (ro0, e, cs) := by
    intro k ro e cs hk
    unfold look at hk
    split at hk
    · rename_i b hb
      rw [List.getElem?_map] at hb
      cases hm : m[k]? with
      | none => rw [hm] at hb; cases hb
      | some b0 =>
        rw [hm] at hb
        simp at hb
        subst hb
        cases b0 <;> simp [sealed, Blk.cells?] at hk
        · obtain ⟨rfl, rfl, rfl⟩ := hk; exact ⟨_, rfl, by simp [look, hm, Blk.cells?]; rfl⟩
        · obtain ⟨rfl, rfl, rfl⟩ := hk; exact ⟨true, rfl, by simp [look, hm, Blk.cells?]⟩
    · cases hk
  refine ⟨fun k hk => h.dom k (by simpa using hk), h.bnd, h.glob, ?_, ?_, ?_⟩
  · intro k ro e cs hk
    obtain ⟨ro0, rfl, hl⟩ := hlook k ro e cs hk
    obtain ⟨x, c, fr, h1, h2, h3, h4, h5, _, h7⟩ := h.row k ro0 e cs hl
    exact ⟨x, c, fr, h1, h2, h3, h4, h5, fun hh => (by cases hh), h7⟩
  · intro k e cs k' ro' e' cs' x x' hk
    exact absurd hk (sealed_ro k e cs)
  · intro k e cs hk
    rw [List.getElem?_map] at hk
    cases hm : m[k]? with
    | none => rw [hm] at hk; cases hk
    | some b0 =>
      rw [hm] at hk
      cases b0 <;> simp [sealed] at hk
      obtain ⟨rfl, rfl⟩ := hk
      exact h.tab k _ _ hm

theorem tr_lit {ρ ρ' : Ren} {args : List Value} {args' : Array Value} (h : TR ρ args args') (hl : args.all lit2 = true) : TR ρ' args args' :=
  ⟨h.size, fun i x y hx hy => by
    have h0 := (List.all_eq_true.1 hl) x (List.mem_of_getElem? hx)
    rw [(h.at_ i x y hx hy).eq_of_lit2 h0]
    exact .lit h0⟩

/-- What is told of functions beside their bodies holds. -/
def FastOK (E : Env) : Prop := ∀ g F args v, E.fast g = some F → F args = some v → ∀ w : World, Calls E.P g args.toArray w fun e w1 => e = .returned v ∧ Go.RowKit.Below w.heap.size w w1

theorem mr_below {P : Program} {ρ : Ren} {m : Mem} {w w1 : World} (hm : MR P ρ m w) (hb : Go.RowKit.Below w.heap.size w w1) : MR P ρ m w1 ∧ Ext ρ m w ρ m w1 := by
  refine ⟨⟨hm.dom, fun k x hk => Nat.lt_of_lt_of_le (hm.bnd k x hk) hb.size, hm.glob, fun k ro e cs hk => ?_, hm.inj, hm.tab⟩, ?_⟩
  · obtain ⟨x, c, fr, h1, h2, h3⟩ := hm.row k ro e cs hk
    exact ⟨x, c, fr, h1, by rw [hb.block _ (hm.bnd k x h1)]; exact h2, h3⟩
  · exact ⟨Ren.le_refl _, fun _ _ => rfl, Nat.le_refl _, fun k x hk hx' => by (rw [hm.dom k hk] at hx'; cases hx'), hb.os, hb.tape, hb.output, hb.size, fun r hr _ => hb.block r hr, fun k e cs x hk hx' => .inr ⟨k, e, cs, x, hk, hx', rfl⟩⟩

theorem args_lit {ρ : Ren} {args : List Value} {args' : Array Value} (h : TR ρ args args') (hl : args.all lit2 = true) : args' = args.toArray := by
  obtain ⟨l⟩ := args'
  have := list_eq_of_vr (l' := l) (by simpa using h.size) (fun i x y hx hy => h.at_ i x y hx (by simpa using hy)) (p := lit2) (fun x y hx hv => hv.eq_of_lit2 hx) hl
  rw [this]

theorem ainv_sound {E : Env} {self : Self} (hG : E.P.globals.size ≤ E.G) (hf : FastOK E) (hs : CallOK E.P self) : CallOK E.P (ainv E self) := by
  intro f args m v m1 h ρ w args' hm ht
  unfold ainv at h
  split at h
  · rename_i hl
    split at h
    · rename_i F hF
      split at h
      · rename_i v0 hv0
        split at h
        · rename_i hlv
          cases h
          rw [args_lit ht hl]
          refine (hf _ _ _ _ hF hv0 w).mono ?_
          rintro e w1 ⟨rfl, hb⟩
          obtain ⟨h1, h2⟩ := mr_below hm hb
          exact ⟨v, ρ, rfl, .lit hlv, h1, h2⟩
        · cases h
      · cases h
    · split at h
      · rename_i v0 m0 h0
        refine (hs _ _ _ _ _ h0 _ w args' (mr_onlyTab hm hG) (tr_lit ht hl)).mono ?_
        rintro e w1 ⟨v', ρ1, rfl, hv, hm1, hx⟩
        obtain ⟨ρ2, h1, h2, h3⟩ := acoll_sound hm rfl (fun k x hk => by (split at hk; exact hk; cases hk)) (fun k e cs => onlyTab_ro k e cs) hm1 hx hv h
        exact ⟨v', ρ2, rfl, h1, h2, h3⟩
      · cases h
  · split at h
    · exact hs _ _ _ _ _ h ρ w args' hm ht
    · split at h
      · rename_i v0 m0 h0
        refine (hs _ _ _ _ _ h0 ρ w args' (mr_sealed hm) ht).mono ?_
        rintro e w1 ⟨v', ρ1, rfl, hv, hm1, hx⟩
        obtain ⟨ρ2, h1, h2, h3⟩ := acoll_sound hm rfl (fun k x hk => hk) (fun k e cs => sealed_ro k e cs) hm1 hx hv h
        exact ⟨v', ρ2, rfl, h1, h2, h3⟩
      · cases h

def callableB (P : Program) (g : FuncId) : Bool := match P.funcs[g]? with
  | some fn => fn.body.isSome
  | none => false

/-- A builtin's call. -/
def abuiltin (P : Program) (T : List Value) (m : Mem) (o : Oper) (b : Builtin) (args : List Operand) (ts : List TypeId) : Option (Value × Mem) :=
  match b, args, ts with
  | .append, [s, x], [sT, xT] => aappend P sT xT (ev T s) (ev T x) m
  | .copy, [d, s], [dT, _] => acopy P dT (ev T d) (ev T s) m
  | .len, [x], [t] => match alen P t (ev T x) with
    | some v => some (v, m)
    | none => (apure P T o).map (·, m)
  | .unsafeString, [p, n], [pt, _] => ausString P pt (ev T p) (ev T n) m
  | .unsafeSliceData, [x], _ => match ev T x with
    | .slice (some ⟨b, off, none⟩) _ c => if c = 0 then none else some (.pointer (some ⟨b, off, none⟩), m)
    | _ => (apure P T o).map (·, m)
  | _, _, _ => (apure P T o).map (·, m)

/-- One operation. -/
def astep (E : Env) (self : Self) (T : List Value) (m : Mem) (o : Oper) : Option (Value × Mem) :=
  match o.op with
  | .call c => match c.callee with
    | .value f => match ev T f with
      | .func (.func g) a b => if a.toList.isEmpty && b.toList.isEmpty then
          match callableB E.P g with
          | true => ainv E self g (c.args.toList.map (ev T)) m
          | false => match E.ext g with
            | some k => aext k (c.args.toList.map (ev T)) m
            | none => none
        else none
      | _ => none
    | .builtin b => abuiltin E.P T m o b c.args.toList c.argTypes.toList
    | _ => none
  | .convert src dst x => match aop E.P T m o with
    | some r => some r
    | none => match aconvB E.P src dst (ev T x) m with
      | some r => some r
      | none => (aptr E.P src dst (ev T x) m).map (·, m)
  | .binOp op t x y _ => match aop E.P T m o with
    | some r => some r
    | none => match op with
      | .eql => match aeq E.P t (ev T x) (ev T y) with
        | some b => some (.bool b, m)
        | none => none
      | .neq => match aeq E.P t (ev T x) (ev T y) with
        | some b => some (.bool !b, m)
        | none => none
      | _ => none
  | .buildSlice t len parts => abuildSlice E.P t len (parts.toList.map fun p => (p.1, ev T p.2)) m
  | .makeSlice t l c => amakeSlice E.P t (ev T l) (ev T c) m
  | _ => aop E.P T m o

/-- No function of the program is the one that the model answers by itself. -/
def noNum (P : Program) : Prop := ∀ (g : Nat) (fn : Func), P.funcs[g]? = some fn → (fn.name == "runtime.NumGoroutine") = false

theorem sound_wp {P : Program} {ρ : Ren} {m m1 : Mem} {w : World} {a : Act} {o : Oper} {v : Value} {K : Act → World → Prop} {Q : Exit → Act → World → Prop}
    (h : Sound P ρ m w ((execOp a.eval o).run P w) v m1) (hK : ∀ v' w1 ρ1, VR ρ1 v v' → MR P ρ1 m1 w1 → Ext ρ m w ρ1 m1 w1 → K (a.put o.dst v') w1) : o.wp P a w K Q := by
  obtain ⟨v', w1, ρ1, hg, hv, hm1, hx⟩ := h
  unfold Oper.wp
  rcases hg with hg | ⟨hg, rfl⟩
  · rw [hg]; exact hK v' w1 ρ1 hv hm1 hx
  · rw [hg]; exact hK _ w1 ρ1 hv hm1 hx

theorem builtin_run {P : Program} {w : World} {a : Act} {o : Oper} {c : Call} {b : Builtin} {F : Array TypeId → TypeId → Array Value → Sem Value} (ho : o.op = .call c) (hc : c.callee = .builtin b)
    (hb : ∀ ts ty cs args, builtin b ts ty cs args = (do pure (.value (← F ts ty args)))) {v : Value} {w1 : World} (h : (F c.argTypes o.type (c.args.map a.eval)).run P w = .ok v w1) :
    (execOp a.eval o).run P w = .ok (.value v) w1 := by
  simp [execOp, ho, resolve, hc, invoke, hb, h]

theorem abuiltin_sound {P : Program} {ρ : Ren} {m m1 : Mem} {w : World} {T : List Value} {a : Act} {o : Oper} (hm : MR P ρ m w) (hev : ∀ x, x ∈ o.op.operands.toList → VR ρ (ev T x) (a.eval x)) (hok : okOp P o.op = true) {v : Value}
    {c : Call} {b : Builtin} (ho : o.op = .call c) (hc : c.callee = .builtin b) (h : abuiltin P T m o b c.args.toList c.argTypes.toList = some (v, m1)) : Sound P ρ m w ((execOp a.eval o).run P w) v m1 := by
  have harg : ∀ x ∈ c.args.toList, VR ρ (ev T x) (a.eval x) := fun x hx => hev x (by simp [ho, Op.operands, Call.operands, hc]; simpa using hx)
  unfold abuiltin at h
  split at h
  · rename_i s x sT xT ha hts
    obtain ⟨u', w1, ρ1, hr, hrest⟩ := aappend_sound (ty := o.type) hm (harg s (by simp [ha])) (harg x (by simp [ha])) h
    have e1 : c.args = #[s, x] := by rw [← ha]
    have e2 : c.argTypes = #[sT, xT] := by rw [← hts]
    exact ⟨u', w1, ρ1, .inl (builtin_run ho hc (fun _ _ _ _ => rfl) (by rw [e1, e2]; simpa using hr)), hrest⟩
  · rename_i d s dT sT ha hts
    obtain ⟨w1, hr, hl, hrest⟩ := acopy_sound (sT := sT) (ty := o.type) hm (harg d (by simp [ha])) (harg s (by simp [ha])) h
    have e1 : c.args = #[d, s] := by rw [← ha]
    have e2 : c.argTypes = #[dT, sT] := by rw [← hts]
    exact ⟨v, w1, ρ, .inl (builtin_run ho hc (fun _ _ _ _ => rfl) (by rw [e1, e2]; simpa using hr)), .lit hl, hrest⟩
  · rename_i x t ha hts
    split at h
    · rename_i v0 hlen
      cases h
      obtain ⟨hr, hl⟩ := alen_sound (P := P) (w := w) (ty := o.type) (harg x (by simp [ha])) hlen
      have e1 : c.args = #[x] := by rw [← ha]
      have e2 : c.argTypes = #[t] := by rw [← hts]
      exact ⟨v, w, ρ, .inl (builtin_run ho hc (fun _ _ _ _ => rfl) (by rw [e1, e2]; simpa using hr)), .lit hl, hm, Ext.refl' _ hm.dom⟩
    · obtain ⟨h9, rfl⟩ := sound_map h
      exact apure_sound hm hev hok h9
  · rename_i p n pt xt ha hts
    obtain ⟨w1, hr, hl, hrest⟩ := ausString_sound (xt := xt) (ty := o.type) hm (harg p (by simp [ha])) (harg n (by simp [ha])) h
    have e1 : c.args = #[p, n] := by rw [← ha]
    have e2 : c.argTypes = #[pt, xt] := by rw [← hts]
    exact ⟨v, w1, ρ, .inl (builtin_run ho hc (fun _ _ _ _ => rfl) (by rw [e1, e2]; simpa using hr)), .lit hl, hrest⟩
  · rename_i ts x ha
    split at h
    · rename_i bb off n cap hx
      split at h
      · cases h
      · rename_i hc0
        cases h
        have h1 := harg x (by simp [ha])
        rw [hx] at h1
        obtain ⟨y, c', hy, e0, hcap⟩ := vr_slice_inv h1
        have e1 : c.args = #[x] := by rw [← ha]
        refine ⟨.pointer (some ⟨y.r, off, none⟩), w, ρ, .inl (builtin_run ho hc (fun _ _ _ _ => rfl) ?_), .ptr hy, hm, Ext.refl' _ hm.dom⟩
        rw [e1]
        have hne : c' ≠ 0 := by rcases hcap with rfl | ⟨h9, _⟩ <;> omega
        have e3 : (#[x].map a.eval) = #[.slice (some ⟨y.r, off, none⟩) n c'] := by simp [e0]
        rw [e3]
        show (if c' ≠ 0 then pure (.pointer (some ⟨y.r, off, none⟩)) else _ : Sem Value).run P w = _
        rw [if_pos hne]
        rfl
    · obtain ⟨h9, rfl⟩ := sound_map h
      exact apure_sound hm hev hok h9
  · obtain ⟨h9, rfl⟩ := sound_map h
    exact apure_sound hm hev hok h9

/-- What is compared so are pointers, or slices. -/
theorem aeq_shape {P : Program} {ρ : Ren} {t : TypeId} {x x' y y' : Value} {b : Bool} (hx : VR ρ x x') (hy : VR ρ y y') (h : aeq P t x y = some b) :
    (∃ p q, x' = .pointer p ∧ y' = .pointer q) ∨ (∃ p n k q n' k', x' = .slice p n k ∧ y' = .slice q n' k') := by
  unfold aeq at h
  split at h
  · obtain ⟨_, _, _, _, _, rfl⟩ := vr_ptr_some hx
    have := hy.eq_of_lit2 rfl; subst this
    exact .inl ⟨_, _, rfl, rfl⟩
  · obtain ⟨_, _, _, _, _, rfl⟩ := vr_ptr_some hy
    have := hx.eq_of_lit2 rfl; subst this
    exact .inl ⟨_, _, rfl, rfl⟩
  · obtain ⟨_, _, _, _, _, rfl⟩ := vr_ptr_some hx
    obtain ⟨_, _, _, _, _, rfl⟩ := vr_ptr_some hy
    exact .inl ⟨_, _, rfl, rfl⟩
  · have := hy.eq_of_lit2 rfl; subst this
    cases hx with
    | lit hl => simp [lit2, lit1, lit0] at hl
    | slice _ _ => exact .inr ⟨_, _, _, _, _, _, rfl, rfl⟩
  · have := hx.eq_of_lit2 rfl; subst this
    cases hy with
    | lit hl => simp [lit2, lit1, lit0] at hl
    | slice _ _ => exact .inr ⟨_, _, _, _, _, _, rfl, rfl⟩
  · cases h

/-- The functions that the model answers are those that the machine takes them for. -/
def XOK (E : Env) : Prop := ∀ g k, E.ext g = some k → XIs E.P g k

theorem astep_wp {E : Env} {self : Self} (hs : CallOK E.P (ainv E self)) (hnum : noNum E.P) (hx9 : XOK E) {ρ : Ren} {m m1 : Mem} {w : World} {T : List Value} {a : Act} {o : Oper} {v : Value}
    (hm : MR E.P ρ m w) (hev : ∀ x, x ∈ o.op.operands.toList → VR ρ (ev T x) (a.eval x)) (hok : okOp E.P o.op = true) (h : astep E self T m o = some (v, m1)) {K : Act → World → Prop} {Q : Exit → Act → World → Prop}
    (hK : ∀ v' w1 ρ1, VR ρ1 v v' → MR E.P ρ1 m1 w1 → Ext ρ m w ρ1 m1 w1 → K (a.put o.dst v') w1) : o.wp E.P a w K Q := by
  unfold astep at h
  split at h
  · rename_i c ho
    split at h
    · rename_i f hc
      split at h
      · rename_i g fa fb hf
        split at h
        · rename_i hcond
          simp only [Bool.and_eq_true, List.isEmpty_iff] at hcond
          obtain ⟨ha, hb⟩ := hcond
          have ha' : fa = #[] := by cases fa; simp at ha; subst ha; rfl
          have hb' : fb = #[] := by cases fb; simp at hb; subst hb; rfl
          subst ha' hb'
          have hfv := hev f (by simp [ho, Op.operands, Call.operands, hc])
          rw [hf] at hfv
          have hfe : a.eval f = .func (.func g) #[] #[] := hfv.eq_of_lit2 rfl
          have htr : TR ρ (c.args.toList.map (ev T)) (c.args.map a.eval) := by
            refine ⟨by simp, fun i x y hx hy => ?_⟩
            rw [List.getElem?_map] at hx
            rw [Array.getElem?_map] at hy
            cases hi : c.args[i]? with
            | none => rw [hi] at hy; cases hy
            | some q =>
              have hi' : c.args.toList[i]? = some q := by simpa using hi
              rw [hi'] at hx
              rw [hi] at hy
              simp at hx hy
              subst hx hy
              exact hev q (by simp [ho, Op.operands, Call.operands]; right; exact Array.mem_of_getElem? hi)
          have hcf : (execOp a.eval o).run E.P w = (callFunc g (c.args.map a.eval)).run E.P w := by
            simp [execOp, ho, resolve, hc, hfe, Deferred.ofValue, invoke]
          split at h
          · rename_i hcall
            unfold callableB at hcall
            split at hcall
            · rename_i fn hfn
              obtain ⟨code, hcode⟩ := Option.isSome_iff_exists.1 hcall
              have hrun : (execOp a.eval o).run E.P w = .ok (.enter g (c.args.map a.eval)) w := by
                have hn := hnum g fn hfn
                simp only [beq_eq_false_iff_ne, ne_eq] at hn
                rw [hcf]
                simp [callFunc, hfn, hn, hcode]
              unfold Oper.wp
              rw [hrun, Oper.upon_enter]
              refine (hs _ _ _ _ _ h ρ w _ hm htr).mono ?_
              rintro e w1 ⟨v', ρ1, rfl, hv, hm1, hx⟩
              exact hK v' w1 ρ1 hv hm1 hx
            · cases hcall
          · split at h
            · rename_i k hk
              exact sound_wp (by rw [hcf]; exact aext_sound hm (hx9 g k hk) htr h) hK
            · cases h
        · cases h
      · cases h
    · rename_i b hc
      exact sound_wp (abuiltin_sound hm hev hok ho hc h) hK
    · cases h
  · rename_i src dst x ho
    split at h
    · rename_i r hr
      cases h
      exact sound_wp (aop_sound hm hev hok hr) hK
    · split at h
      · rename_i r hr
        cases h
        obtain ⟨u', w1, ρ1, hrun, hrest⟩ := aconvB_sound hm (hev x (by simp [ho, Op.operands])) hr
        exact sound_wp ⟨u', w1, ρ1, .inl (by simp [execOp, ho, hrun]), hrest⟩ hK
      · obtain ⟨h9, rfl⟩ := map_pair h
        obtain ⟨u', hrun, hv⟩ := aptr_sound hm (hev x (by simp [ho, Op.operands])) h9
        exact sound_wp ⟨u', w, ρ, .inl (by simp [execOp, ho, hrun]), hv, hm, Ext.refl' _ hm.dom⟩ hK
  · rename_i op t x y t' ho
    split at h
    · rename_i r hr
      cases h
      exact sound_wp (aop_sound hm hev hok hr) hK
    · have h1 := hev x (by simp [ho, Op.operands])
      have h2 := hev y (by simp [ho, Op.operands])
      split at h
      · split at h
        · rename_i b hb
          cases h
          have he := aeq_sound (w := w) h1 h2 hb
          have hbin : (do eqGuard .eql t x y (a.eval x) (a.eval y); binOp .eql t (a.eval x) (a.eval y) : Sem Value).run E.P w = .ok (.bool b) w := by
            rcases aeq_shape h1 h2 hb with ⟨p, q, e1, e2⟩ | ⟨p, n, k, q, n', k', e1, e2⟩
            · rw [e1, e2] at he ⊢
              simp [eqGuard, binOp, he]
            · rw [e1, e2] at he ⊢
              simp [eqGuard, binOp, he]
          exact sound_wp ⟨.bool b, w, ρ, .inl (by simp only [execOp, ho]; rw [Sem.run_bind, hbin]; rfl), .lit rfl, hm, Ext.refl' _ hm.dom⟩ hK
        · cases h
      · split at h
        · rename_i b hb
          cases h
          have he := aeq_sound (w := w) h1 h2 hb
          have hbin : (do eqGuard .neq t x y (a.eval x) (a.eval y); binOp .neq t (a.eval x) (a.eval y) : Sem Value).run E.P w = .ok (.bool !b) w := by
            rcases aeq_shape h1 h2 hb with ⟨p, q, e1, e2⟩ | ⟨p, n, k, q, n', k', e1, e2⟩
            · rw [e1, e2] at he ⊢
              simp [eqGuard, binOp, he]
            · rw [e1, e2] at he ⊢
              simp [eqGuard, binOp, he]
          exact sound_wp ⟨.bool !b, w, ρ, .inl (by simp only [execOp, ho]; rw [Sem.run_bind, hbin]; rfl), .lit rfl, hm, Ext.refl' _ hm.dom⟩ hK
        · cases h
      · cases h
  · rename_i t len parts ho
    obtain ⟨u', w1, ρ1, hrun, hrest⟩ := abuildSlice_sound (parts' := parts.toList.map fun p => (p.1, a.eval p.2)) hm (by simp) (fun i p p' hp hp' => by
      rw [List.getElem?_map] at hp hp'
      cases hi : parts.toList[i]? with
      | none => rw [hi] at hp; cases hp
      | some q =>
        rw [hi] at hp hp'
        simp at hp hp'
        subst hp hp'
        refine ⟨rfl, hev q.2 ?_⟩
        simp only [ho, Op.operands]
        exact List.mem_map.2 ⟨q, List.mem_of_getElem? hi, rfl⟩) h
    have e3 : (parts.toList.map fun p => (p.1, a.eval p.2)).toArray = parts.map fun p => (p.1, a.eval p.2) := by
      apply Array.ext'; simp
    rw [e3] at hrun
    exact sound_wp ⟨u', w1, ρ1, .inl (by simp [execOp, ho, hrun]), hrest⟩ hK
  · rename_i t l c ho
    obtain ⟨u', w1, ρ1, hrun, hrest⟩ := amakeSlice_sound hm (hev l (by simp [ho, Op.operands])) (hev c (by simp [ho, Op.operands])) h
    exact sound_wp ⟨u', w1, ρ1, .inl (by simp [execOp, ho, hrun]), hrest⟩ hK
  · exact sound_wp (aop_sound hm hev hok h) hK

def aput (T : List Value) (dst : Option Tmp) (v : Value) : List Value := match dst with
  | some d => setAt T v d
  | none => T

theorem tr_put {ρ : Ren} {T : List Value} {a : Act} (h : TR ρ T a.tmps) (dst : Option Tmp) {v v' : Value} (hv : VR ρ v v') : TR ρ (aput T dst v) (a.put dst v').tmps := by
  cases dst with
  | none => exact h
  | some d => rw [show aput T (some d) v = T.set d v from setAt_eq T v d]; exact h.set d hv

theorem put_defers (a : Act) (dst : Option Tmp) (v : Value) : (a.put dst v).defers = a.defers := by cases dst <;> rfl

/-- Does an operation run? -/
def agd (ops : Array Oper) (T : List Value) (o : Oper) : Option Bool :=
  match o.guard with
  | none => some true
  | some (j, want) => match ops[j]? with
    | none => some false
    | some oj => match oj.dst with
      | none => some false
      | some d => match T[d]? with
        | some (.bool b) => some (b == want)
        | some (.chan (some _)) => none
        | _ => some false

theorem agd_sound {ops : Array Oper} {ρ : Ren} {T : List Value} {t : Array Value} {o : Oper} {b : Bool} (hsz : T.length = t.size) (ht : ∀ j want oj d, o.guard = some (j, want) → ops[j]? = some oj → oj.dst = some d → ∀ x y, T[d]? = some x → t[d]? = some y → VR ρ x y)
    (h : agd ops T o = some b) : Region.wanted o (yielded ops t) = b := by
  unfold agd at h
  unfold Region.wanted
  split at h
  · rename_i hg; simp only [hg]; cases h; rfl
  · rename_i j want hg
    simp only [hg]
    unfold yielded
    split at h
    · rename_i hj; cases h; simp [hj]
    · rename_i oj hj
      split at h
      · rename_i hd; cases h; simp [hj, hd]
      · rename_i d hd
        simp only [hj, Option.bind_some, hd]
        by_cases hlt : d < T.length
        · have hlt' : d < t.size := by rw [← hsz]; exact hlt
          have h1 : T[d]? = some T[d] := by simp [hlt]
          have h2 : t[d]? = some t[d] := by simp [hlt']
          have hv := ht j want oj d hg hj hd _ _ h1 h2
          rw [h1] at h
          rw [h2]
          generalize T[d] = x at *
          generalize t[d] = y at *
          split at h
          · rename_i b0 hx
            cases hx
            have : y = .bool b0 := hv.eq_of_lit2 rfl
            subst this
            cases h
            cases b0 <;> cases want <;> rfl
          · cases h
          · rename_i hx1 hx2
            cases h
            have hy : ∀ b, y ≠ .bool b := by
              intro b e
              subst e
              cases hv with
              | lit _ => exact hx1 b rfl
              | junk => exact hx2 0 rfl
            cases y <;> first | rfl | exact absurd rfl (hy _)
        · have hlt' : ¬ d < t.size := by rw [← hsz]; exact hlt
          rw [List.getElem?_eq_none (Nat.le_of_not_lt hlt)] at h
          rw [Array.getElem?_eq_none (Nat.le_of_not_lt hlt')]
          cases h
          rfl

theorem ev_all {P : Program} {ρ : Ren} {m : Mem} {w : World} {T : List Value} {a : Act} {o : Oper} (hm : MR P ρ m w) (ht : TR ρ T a.tmps) (hok : okOp P o.op = true) :
    ∀ x, x ∈ o.op.operands.toList → VR ρ (ev T x) (a.eval x) := by
  simp only [okOp, Bool.and_eq_true] at hok
  exact fun x hx => ev_vr hm ht x ((List.all_eq_true.1 hok.1) x hx)

def forceN {α : Type} (n : Nat) (k : Nat → α) : α := match n with
  | 0 => k 0
  | n + 1 => k (n + 1)
theorem forceN_eq {α : Type} (n : Nat) (k : Nat → α) : forceN n k = k n := by cases n <;> rfl

def forceI {α : Type} (n : Int) (k : Int → α) : α := match n with
  | .ofNat n => forceN n fun n => k (.ofNat n)
  | .negSucc n => forceN n fun n => k (.negSucc n)
theorem forceI_eq {α : Type} (n : Int) (k : Int → α) : forceI n k = k n := by cases n <;> simp [forceI, forceN_eq]

/-- A value reckoned out, as far as numbers go. -/
def forceV1 {α : Type} (v : Value) (k : Value → α) : α := match v with
  | .int kd n => forceI n fun n => k (.int kd n)
  | .bool b => match b with
    | true => k (.bool true)
    | false => k (.bool false)
  | .slice (some ⟨b, o, sp⟩) n c => forceN b fun b => forceN o fun o => forceN n fun n => forceN c fun c => k (.slice (some ⟨b, o, sp⟩) n c)
  | .pointer (some ⟨b, o, sp⟩) => forceN b fun b => forceN o fun o => k (.pointer (some ⟨b, o, sp⟩))
  | v => k v
theorem forceV1_eq {α : Type} (v : Value) (k : Value → α) : forceV1 v k = k v := by
  unfold forceV1
  split
  · rw [forceI_eq]
  · split <;> rfl
  · simp only [forceN_eq]
  · simp only [forceN_eq]
  · rfl

def forceL {α : Type} : List Value → (List Value → α) → α
  | [], k => k []
  | v :: l, k => forceV1 v fun v => forceL l fun l => k (v :: l)
theorem forceL_eq {α : Type} : ∀ (l : List Value) (k : List Value → α), forceL l k = k l
  | [], k => rfl
  | v :: l, k => by rw [forceL, forceV1_eq, forceL_eq l]

def forceV {α : Type} (v : Value) (k : Value → α) : α := match v with
  | .tuple vs => forceL vs.toList fun l => k (.tuple ⟨l⟩)
  | v => forceV1 v k
theorem forceV_eq {α : Type} (v : Value) (k : Value → α) : forceV v k = k v := by
  unfold forceV
  split
  · rw [forceL_eq]
  · exact forceV1_eq _ _

/-- Operations, one behind the other. -/
def aops (E : Env) (self : Self) (ops : Array Oper) : List Oper → List Value → Mem → Option (List Value × Mem)
  | [], T, m => some (T, m)
  | o :: l, T, m => match agd ops T o with
    | some true => if okOp E.P o.op then match astep E self T m o with
        | some (v, m1) => match E.strict with
          | true => forceV v fun v => aops E self ops l (aput T o.dst v) m1
          | false => aops E self ops l (aput T o.dst v) m1
        | none => none
      else none
    | some false => aops E self ops l (aput T o.dst undef) m
    | none => none

/-- What holds behind a piece of code. -/
def Post (P : Program) (ρ : Ren) (m : Mem) (w : World) (T1 : List Value) (m1 : Mem) (a1 : Act) (w1 : World) : Prop :=
  a1.defers = [] ∧ ∃ ρ1, TR ρ1 T1 a1.tmps ∧ MR P ρ1 m1 w1 ∧ Ext ρ m w ρ1 m1 w1

theorem aops_sound {E : Env} {self : Self} (hs : CallOK E.P (ainv E self)) (hnum : noNum E.P) (hx9 : XOK E) {ops : Array Oper} {Q : Exit → Act → World → Prop} :
    ∀ (l : List Oper) (T : List Value) (m : Mem) (T1 : List Value) (m1 : Mem), aops E self ops l T m = some (T1, m1) → ∀ (ρ : Ren) (w : World) (a : Act), a.defers = [] → MR E.P ρ m w → TR ρ T a.tmps →
      (∀ a1 w1, Post E.P ρ m w T1 m1 a1 w1 → Q .normal a1 w1) → wpList E.P ops Q l a w
  | [], T, m, T1, m1, h, ρ, w, a, hd, hm, ht, hQ => by
    simp only [aops, Option.some.injEq, Prod.mk.injEq] at h
    obtain ⟨rfl, rfl⟩ := h
    exact hQ a w ⟨hd, ρ, ht, hm, Ext.refl' _ hm.dom⟩
  | o :: l, T, m, T1, m1, h, ρ, w, a, hd, hm, ht, hQ => by
    unfold aops at h
    split at h
    · rename_i hg
      split at h
      · rename_i hok
        split at h
        · rename_i v m2 hst
          have h : aops E self ops l (aput T o.dst v) m2 = some (T1, m1) := by
            split at h
            · rw [forceV_eq] at h; exact h
            · exact h
          simp only [wpList, agd_sound ht.size (fun _ _ _ d _ _ _ x y => ht.at_ d x y) hg, if_true]
          left
          refine astep_wp hs hnum hx9 hm (ev_all hm ht hok) hok hst fun v' w1 ρ1 hv hm1 hx => ?_
          refine aops_sound hs hnum hx9 l _ _ _ _ h ρ1 w1 _ (by rw [put_defers]; exact hd) hm1 (tr_put (ht.mono hx.le) o.dst hv) fun a2 w2 hp => hQ a2 w2 ?_
          obtain ⟨hd2, ρ2, h1, h2, h3⟩ := hp
          exact ⟨hd2, ρ2, h1, h2, hx.trans h3⟩
        · cases h
      · cases h
    · rename_i hg
      simp only [wpList, agd_sound ht.size (fun _ _ _ d _ _ _ x y => ht.at_ d x y) hg, Bool.false_eq_true, if_false]
      exact aops_sound hs hnum hx9 l _ _ _ _ h ρ w _ (by rw [put_defers]; exact hd) hm (tr_put ht o.dst (vr_undef ρ)) hQ
    · cases h

end
end Go.Am
