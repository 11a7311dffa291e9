/-
  Texts of my own, put together: D, E, G, H, I, J, J2.
-/
import Derived.Test.YtfgincdpgdlfnaaDoorGrLimbTexts2
import Derived.Laws.BytesString
set_option linter.unusedSimpArgs false
set_option linter.unusedVariables false
namespace Go.Am
noncomputable section
def acopy (P : Program) (dT : TypeId) (d s : Value) (m : Mem) : Option (Value × Mem) :=
  match P.underlying dT with
  | some (.slice elem) =>
    match P.info? elem with
    | some ei =>
      match asrc m ei.size s with
      | some (n, l) =>
        match d with
        | .slice (some ⟨b, o, none⟩) dLen _ =>
          match m[b]? with
          | some (.row false be cs) =>
            if (l.take (Nat.min n dLen * ei.size)).all cellOk && decide (o + (l.take (Nat.min n dLen * ei.size)).length ≤ cs.length) then
              some (.int .i64 (Nat.min n dLen : Nat), m.set b (.row false be (lay cs o (l.take (Nat.min n dLen * ei.size)))))
            else none
          | _ => none
        | .slice none 0 _ => some (.int .i64 0, m)
        | _ => none
      | none => none
    | none => none
  | _ => none
theorem acopy_sound {P : Program} {ρ : Ren} {m m1 : Mem} {w : World} (hm : MR P ρ m w) {dT sT ty : TypeId} {d d' s s' u : Value} (hd : VR ρ d d') (hs : VR ρ s s') (h : acopy P dT d s m = some (u, m1)) :
    ∃ w1, (Builtin.copy_ #[dT, sT] ty #[d', s']).run P w = .ok u w1 ∧ lit2 u = true ∧ MR P ρ m1 w1 ∧ Ext ρ m w ρ m1 w1 := by
  unfold acopy at h
  split at h
  · rename_i elem hu
    split at h
    · rename_i ei hei
      split at h
      · rename_i n l hsrc
        split at h
        · rename_i b o dLen dCap
          split at h
          · rename_i be cs hb
            split at h
            · rename_i hcond
              simp only [Bool.and_eq_true, decide_eq_true_eq] at hcond
              obtain ⟨hok, hfit⟩ := hcond
              cases h
              have hk : Nat.min n dLen ≤ n := Nat.min_le_left _ _
              obtain ⟨hlen, hnl, l', hfirst, hl', hv⟩ := asrc_sound hm hs hsrc hk
              obtain ⟨x, c', hx, rfl, _⟩ := vr_slice_inv hd
              obtain ⟨x', c, fr, hx', hw, hn, hlc, hci, hf, _⟩ := hm.row b false be cs (look_row hb)
              rw [hx] at hx'; cases hx'
              have htk : (l.take (Nat.min n dLen * ei.size)).length = l'.length := by
                rw [List.length_take, hnl, hl']
                exact Nat.min_eq_left (Nat.mul_le_mul_right _ hk)
              have hv' : ∀ (i : Nat) (y y' : Value), (l.take (Nat.min n dLen * ei.size))[i]? = some y → l'[i]? = some y' → VR ρ y y' := by
                intro i y y' hy hy'
                rw [List.getElem?_take] at hy
                split at hy
                · exact hv i y y' hy hy'
                · cases hy
              have h1 : ∀ y ∈ l', y.oneCell' = true := by
                intro y hy
                obtain ⟨i, hi⟩ := List.mem_iff_getElem?.1 hy
                have hlt : i < (l.take (Nat.min n dLen * ei.size)).length := by rw [htk]; exact (List.getElem?_eq_some_iff.1 hi).1
                exact oneCell_of_vr (hv' i _ y (List.getElem?_eq_getElem hlt) hi) ((List.all_eq_true.1 hok) _ (List.getElem_mem hlt))
              obtain ⟨w', c2, hr, hup, hsz, hj⟩ := run_storeCells_loose (P := P) (o := o) l' 0 c w hw (hf rfl) (by omega) h1
              have hup2 := hm.update hb hx hw hup hsz (cs' := lay cs o (l.take (Nat.min n dLen * ei.size))) (by rw [lay_length hfit, hsz]; exact hlc) (fun j y hy => by
                rw [lay_get hfit] at hy
                rw [hj j]
                simp only [Nat.add_zero]
                split at hy
                · rename_i hj1
                  rw [if_pos (by omega)]
                  have hlt : j - o < l'.length := by omega
                  exact ⟨l'[j - o], by simp [hlt], hv' _ _ _ hy (by simp [hlt])⟩
                · rename_i hj1
                  rw [if_neg (by omega)]
                  exact hci j y hy)
              refine ⟨w', ?_, rfl, hup2.1, hup2.2⟩
              have hf0 := hfirst w.drawn
              simp only [Builtin.copy_, List.getElem?_toArray, List.getElem?_cons_zero, List.getElem?_cons_succ, Sem.run_bind, run_underlying hu, Result.andThen_ok, hlen, run_sizeOf' hei]
              rw [show (Builtin.firstCells ei.size (n.min dLen) s').run P w = .ok l'.toArray w from hf0]
              simp only [Result.andThen_ok, hr]
              rfl
            · cases h
          · cases h
        · cases h
          have := hd.eq_of_lit2 rfl; subst this
          obtain ⟨hlen, hnl, l', hfirst, hl', hv⟩ := asrc_sound (k := 0) hm hs hsrc (Nat.zero_le _)
          refine ⟨w, ?_, rfl, hm, Ext.refl' _ hm.dom⟩
          have hf0 := hfirst w.drawn
          simp only [Builtin.copy_, List.getElem?_toArray, List.getElem?_cons_zero, List.getElem?_cons_succ, Sem.run_bind, run_underlying hu, Result.andThen_ok, hlen, run_sizeOf' hei, Nat.min_def, Nat.le_zero]
          rw [show (if n = 0 then n else 0) = 0 by split <;> omega]
          rw [show (Builtin.firstCells ei.size 0 s').run P w = .ok l'.toArray w from hf0]
          rfl
        · cases h
      · cases h
    · cases h
  · cases h
def alen (P : Program) (t : TypeId) (v : Value) : Option Value :=
  match v with
  | .slice (some _) n _ => match P.underlying t with
    | some (.slice _) => some (.int .i64 (n : Nat))
    | _ => none
  | .string s => match P.underlying t with
    | some .string => some (.int .i64 (s.data.toList.length : Nat))
    | _ => none
  | .agg _ => match P.underlying t with
    | some (.array n _) => some (.int .i64 (n : Nat))
    | _ => none
  | .pointer (some _) => match P.underlying t with
    | some (.pointer arr) => match P.underlying arr with
      | some (.array n _) => some (.int .i64 (n : Nat))
      | _ => none
    | some (.array n _) => some (.int .i64 (n : Nat))
    | _ => none
  | _ => none
theorem alen_sound {P : Program} {ρ : Ren} {w : World} {t ty : TypeId} {v v' u : Value} (hv : VR ρ v v') (h : alen P t v = some u) :
    (Builtin.len_ #[t] ty #[v']).run P w = .ok u w ∧ lit2 u = true := by
  unfold alen at h
  split at h
  · rename_i ad n c
    split at h
    · rename_i e hu
      cases h
      refine ⟨?_, rfl⟩
      cases hv with
      | lit hl => simp [lit2, lit1, lit0] at hl
      | slice hx hc => simp [Builtin.len_, run_underlying hu, goInt]
    · cases h
  · rename_i s
    split at h
    · rename_i hu
      cases h
      have := hv.eq_of_lit2 rfl; subst this
      exact ⟨by simp [Builtin.len_, run_underlying hu, goInt], rfl⟩
    · cases h
  · rename_i cs
    split at h
    · rename_i n e hu
      cases h
      refine ⟨?_, rfl⟩
      cases v' <;> simp [Builtin.len_, run_underlying hu, goInt]
    · cases h
  · rename_i ad
    split at h
    · rename_i arr hu
      split at h
      · rename_i n e ha
        cases h
        refine ⟨?_, rfl⟩
        cases v' <;> simp [Builtin.len_, run_underlying hu, run_underlying ha, goInt]
      · cases h
    · rename_i n e hu
      cases h
      refine ⟨?_, rfl⟩
      cases v' <;> simp [Builtin.len_, run_underlying hu, goInt]
    · cases h
  · cases h
end
end Go.Am
namespace Go.Am
noncomputable section
def zero1 (P : Program) (elem : TypeId) : Option Value :=
  match P.info? elem with
  | some i => if i.size = 1 then match i.zero with
      | some z => if lit0 z then some z else none
      | none => none
    else none
  | none => none
theorem zero1_info {P : Program} {elem : TypeId} {z : Value} (h : zero1 P elem = some z) : ∃ i, P.info? elem = some i ∧ i.size = 1 ∧ i.zero = some z ∧ lit0 z = true := by
  unfold zero1 at h
  split at h
  · rename_i i hi
    split at h
    · rename_i hs
      split at h
      · rename_i z0 hz
        split at h
        · rename_i hl
          cases h
          exact ⟨i, hi, hs, hz, hl⟩
        · cases h
      · cases h
    · cases h
  · cases h
theorem cells_lit0 {z : Value} (h : lit0 z = true) : z.cells = #[z] := by
  cases z <;> first | rfl | simp [lit0] at h
theorem zeros_eq (z : Value) (n : Nat) : (Array.range n).map (fun i => #[z][i % #[z].size]!) = Array.replicate n z := by
  apply Array.ext
  · simp
  · intro i h1 h2
    simp [Nat.mod_one]
def afill : List Value → List (Nat × Value) → Option (List Value)
  | cs, [] => some cs
  | cs, (i, v) :: l => if cellOk v && decide (i < cs.length) then afill (cs.set i v) l else none
theorem oneCell_cells {y : Value} (h : y.oneCell' = true) : y.cells = #[y] := by
  cases y <;> first | rfl | simp [Value.oneCell'] at h
theorem afill_sound {ρ : Ren} : ∀ (parts : List (Nat × Value)) (parts' : List (Nat × Value)) (cs : List Value) (c : Array Value) (l : List Value), parts.length = parts'.length →
    (∀ (i : Nat) (p p' : Nat × Value), parts[i]? = some p → parts'[i]? = some p' → p'.1 = p.1 ∧ VR ρ p.2 p'.2) → cs.length = c.size →
    (∀ (i : Nat) (x y : Value), cs[i]? = some x → c[i]? = some y → VR ρ x y) → afill cs parts = some l →
    ∃ c', Instr.fill (fun i => some (i * 1, 1)) c parts' = some c' ∧ l.length = c'.size ∧ (∀ (i : Nat) (x y : Value), l[i]? = some x → c'[i]? = some y → VR ρ x y)
  | [], [], cs, c, l, _, _, hn, hv, h => by
    simp [afill] at h; subst h
    exact ⟨c, rfl, hn, hv⟩
  | [], _ :: _, _, _, _, hl, _, _, _, _ => by simp at hl
  | _ :: _, [], _, _, _, hl, _, _, _, _ => by simp at hl
  | (i, v) :: parts, (i', v') :: parts', cs, c, l, hl, hp, hn, hv, h => by
    unfold afill at h
    split at h
    · rename_i hc
      simp only [Bool.and_eq_true, decide_eq_true_eq] at hc
      obtain ⟨hc1, hc2⟩ := hc
      obtain ⟨e1, hvv⟩ := hp 0 (i, v) (i', v') rfl rfl
      simp only at e1 hvv
      subst e1
      have h1 := oneCell_of_vr hvv hc1
      have hcell := oneCell_cells h1
      obtain ⟨c', hf, hr⟩ := afill_sound parts parts' (cs.set i' v) (c.setIfInBounds i' v') l (by simpa using hl) (fun j p p' h2 h3 => hp (j + 1) p p' (by simpa using h2) (by simpa using h3)) (by simp [hn])
        (fun j x y hx hy => by
          rw [List.getElem?_set] at hx
          rw [Array.getElem?_setIfInBounds] at hy
          by_cases hj : i' = j
          · subst hj
            rw [if_pos rfl, if_pos (by omega)] at hx hy
            cases hx; cases hy
            exact hvv
          · rw [if_neg hj] at hx hy
            exact hv j x y hx hy) h
      refine ⟨c', ?_, hr⟩
      unfold Instr.fill
      simp only [hcell, Nat.mul_one]
      rw [if_neg (by simp; omega)]
      simpa using hf
    · cases h
def abuildSlice (P : Program) (t : TypeId) (len : Nat) (parts : List (Nat × Value)) (m : Mem) : Option (Value × Mem) :=
  match P.underlying t with
  | some (.slice elem) =>
    match zero1 P elem with
    | some z =>
      if len ≤ 16777216 then
        match afill (List.replicate len z) parts with
        | some l => some (.slice (some ⟨m.length, 0, none⟩) len len, m ++ [.row false elem l])
        | none => none
      else none
    | none => none
  | _ => none
theorem abuildSlice_sound {P : Program} {ρ : Ren} {m m1 : Mem} {w : World} (hm : MR P ρ m w) {t : TypeId} {len : Nat} {parts parts' : List (Nat × Value)} {u : Value} (hl : parts.length = parts'.length)
    (hp : ∀ (i : Nat) (p p' : Nat × Value), parts[i]? = some p → parts'[i]? = some p' → p'.1 = p.1 ∧ VR ρ p.2 p'.2) (h : abuildSlice P t len parts m = some (u, m1)) :
    ∃ u' w1 ρ1, (Instr.buildSlice t len parts'.toArray).run P w = .ok u' w1 ∧ VR ρ1 u u' ∧ MR P ρ1 m1 w1 ∧ Ext ρ m w ρ1 m1 w1 := by
  unfold abuildSlice at h
  split at h
  · rename_i elem hu
    split at h
    · rename_i z hz
      split at h
      · rename_i hle
        split at h
        · rename_i l hf
          cases h
          obtain ⟨i, hi, hs, hz0, hlit⟩ := zero1_info hz
          obtain ⟨c', hfill, hn, hv⟩ := afill_sound (ρ := ρ) parts parts' (List.replicate len z) (Array.replicate len z) l hl hp (by simp) (fun j x y hx hy => by
            rw [List.getElem?_replicate] at hx
            rw [Array.getElem?_replicate] at hy
            split at hx
            · rename_i hj
              rw [if_pos hj] at hy
              cases hx; cases hy; exact .lit (lit2_of_lit1 (lit1_of_lit0 hlit))
            · cases hx) hf
          have hal := hm.alloc (e := elem) (cs := l) (c := c') (s := 1) (ro := false) (0, 0) (fun _ => loose_zero _) (by rw [hi]; simp [hs]) (by omega) (fun j y hy => by
            have hj : j < c'.size := by rw [← hn]; exact (List.getElem?_eq_some_iff.1 hy).1
            exact ⟨c'[j], by simp [hj], hv j y _ hy (by simp [hj])⟩)
          refine ⟨.slice (some ⟨w.heap.size, 0, none⟩) len len, _, _, ?_, ?_, hal.1, hal.2⟩
          · have hzr : ((Array.range len).map fun x => #[z][x % #[z].size]!) = Array.replicate len z := zeros_eq z len
            have hc0 := cells_lit0 hlit
            simp only [Nat.mul_one] at hfill
            simp only [Instr.buildSlice, Sem.run_bind, run_underlying hu, Result.andThen_ok, run_sizeOf' hi, hs, Nat.mul_one]
            rw [if_neg (by omega)]
            by_cases h0 : len = 0
            · subst h0
              simp only [if_true, Sem.run_bind, Sem.run_pure, Result.andThen_ok]
              have e0 : ((Array.range 0).map fun x => (#[] : Array Value)[x % (#[] : Array Value).size]!) = Array.replicate 0 z := by simp
              rw [e0, hfill]
              simp only [newRow, Sem.run_bind, run_newObj, Result.andThen_ok, Sem.run_pure]
              rfl
            · rw [if_neg h0]
              simp only [Sem.run_bind, zeroValue, run_typeInfo' hi, Result.andThen_ok, hz0, Sem.run_pure, hc0]
              rw [hzr, hfill]
              simp only [newRow, Sem.run_bind, run_newObj, Result.andThen_ok, Sem.run_pure]
              rfl
          · exact VR.slice (x := ⟨w.heap.size, c'.size, 1⟩) (by simp [Ren.put]) (.inl rfl)
        · cases h
      · cases h
    · cases h
  · cases h
def amakeSlice (P : Program) (t : TypeId) (len cap : Value) (m : Mem) : Option (Value × Mem) :=
  match P.underlying t, len, cap with
  | some (.slice elem), .int _ l, .int _ c =>
    match zero1 P elem, P.info? elem with
    | some z, some i =>
      if 0 ≤ wrapF .i64 l ∧ wrapF .i64 l ≤ wrapF .i64 c ∧ (i.bytes : Int) * wrapF .i64 c ≤ 281474976710656 then
        some (.slice (some ⟨m.length, 0, none⟩) (wrapF .i64 l).toNat (wrapF .i64 c).toNat, m ++ [.row false elem (List.replicate (wrapF .i64 c).toNat z)])
      else none
    | _, _ => none
  | _, _, _ => none
theorem amakeSlice_sound {P : Program} {ρ : Ren} {m m1 : Mem} {w : World} (hm : MR P ρ m w) {t : TypeId} {l l' c c' u : Value} (hl : VR ρ l l') (hc : VR ρ c c') (h : amakeSlice P t l c m = some (u, m1)) :
    ∃ u' w1 ρ1, (Instr.makeSlice t l' c').run P w = .ok u' w1 ∧ VR ρ1 u u' ∧ MR P ρ1 m1 w1 ∧ Ext ρ m w ρ1 m1 w1 := by
  unfold amakeSlice at h
  split at h
  · rename_i elem k l0 k' c0 hu
    split at h
    · rename_i z i hz hi
      split at h
      · rename_i hb
        cases h
        obtain ⟨i0, hi0, hs, hz0, hlit⟩ := zero1_info hz
        rw [hi] at hi0; cases hi0
        have e1 := vr_int_inv hl; subst e1
        have e2 := vr_int_inv hc; subst e2
        obtain ⟨h1, h2, h3⟩ := hb
        have hal := hm.alloc (e := elem) (cs := List.replicate (wrapF .i64 c0).toNat z) (c := Array.replicate (wrapF .i64 c0).toNat z) (s := 1) (ro := false) (0, 0) (fun _ => loose_zero _) (by rw [hi]; simp [hs]) (by simp) (fun j y hy => by
          rw [List.getElem?_replicate] at hy
          split at hy
          · rename_i hj
            cases hy
            exact ⟨z, by rw [Array.getElem?_replicate, if_pos hj], .lit (lit2_of_lit1 (lit1_of_lit0 hlit))⟩
          · cases hy)
        refine ⟨.slice (some ⟨w.heap.size, 0, none⟩) (wrapF .i64 l0).toNat (wrapF .i64 c0).toNat, _, _, ?_, ?_, hal.1, hal.2⟩
        · have hzr : ((Array.range (wrapF .i64 c0).toNat).map fun x => #[z][x % #[z].size]!) = Array.replicate (wrapF .i64 c0).toNat z := zeros_eq z _
          have hc1 := cells_lit0 hlit
          rw [wrapF_eq, wrapF_eq] at *
          have hno : (decide (IntKind.i64.wrap c0 < 0) || decide ((i.bytes : Int) * IntKind.i64.wrap c0 > 2 ^ 48) || decide (IntKind.i64.wrap l0 < 0) || decide (IntKind.i64.wrap l0 > IntKind.i64.wrap c0)) = false := by
            simp only [Bool.or_eq_false_iff, decide_eq_false_iff_not]
            refine ⟨⟨⟨by omega, ?_⟩, by omega⟩, by omega⟩
            have : (2 : Int) ^ 48 = 281474976710656 := by decide
            rw [this]; omega
          simp only [Instr.makeSlice, Sem.run_bind, run_underlying hu, Result.andThen_ok, asInt, asIntOf, Sem.run_pure, run_typeInfo' hi]
          rw [hno]
          simp only [Bool.false_eq_true, if_false, Sem.run_bind, run_askRoom, Result.andThen_ok, run_sizeOf' hi, hs, Nat.mul_one]
          by_cases h0 : (IntKind.i64.wrap c0).toNat = 0
          · rw [if_pos h0]
            simp only [Sem.run_bind, Sem.run_pure, Result.andThen_ok]
            have e0 : ((Array.range (IntKind.i64.wrap c0).toNat).map fun x => (#[] : Array Value)[x % (#[] : Array Value).size]!) = Array.replicate (IntKind.i64.wrap c0).toNat z := by rw [h0]; simp
            rw [e0]
            simp only [newRow, Sem.run_bind, run_newObj, Result.andThen_ok, Sem.run_pure]
            rfl
          · rw [if_neg h0]
            simp only [Sem.run_bind, zeroValue, run_typeInfo' hi, Result.andThen_ok, hz0, Sem.run_pure, hc1]
            rw [hzr]
            simp only [newRow, Sem.run_bind, run_newObj, Result.andThen_ok, Sem.run_pure]
            rfl
        · exact VR.slice (x := ⟨w.heap.size, (Array.replicate (wrapF .i64 c0).toNat z).size, 1⟩) (by simp [Ren.put]) (.inl rfl)
      · cases h
    · cases h
  · cases h
end
end Go.Am
namespace Go.Am
noncomputable section
def bytesOf : List Value → Option (List UInt8)
  | [] => some []
  | .int .u8 n :: l => match bytesOf l with
    | some bs => some (UInt8.ofNat n.toNat :: bs)
    | none => none
  | _ => none
theorem bytesOf_ints : ∀ {l : List Value} {bs : List UInt8}, bytesOf l = some bs → ∃ ns : List Int, l = ns.map (Value.int .u8) ∧ bs = ns.map fun n => UInt8.ofNat n.toNat
  | [], bs, h => by simp [bytesOf] at h; subst h; exact ⟨[], rfl, rfl⟩
  | v :: l, bs, h => by
    unfold bytesOf at h
    split at h
    · rename_i h0; cases h0
    · rename_i n l0 h0
      cases h0
      split at h
      · rename_i bs0 hb
        cases h
        obtain ⟨ns, rfl, rfl⟩ := bytesOf_ints hb
        exact ⟨n :: ns, rfl, rfl⟩
      · cases h
    · cases h
theorem foldl_push (ns : List Int) : ∀ b : ByteArray, ns.foldl (fun r n => r.push (UInt8.ofNat n.toNat)) b = ⟨(b.data.toList ++ ns.map fun n => UInt8.ofNat n.toNat).toArray⟩ := by
  induction ns with
  | nil => intro b; simp
  | cons n ns ih =>
    intro b
    rw [List.foldl_cons, ih]
    simp [ByteArray.push]
theorem bytes_same {ρ : Ren} {l l' : List Value} (hn : l.length = l'.length) (hv : ∀ (i : Nat) (x y : Value), l[i]? = some x → l'[i]? = some y → VR ρ x y) {ns : List Int} (h : l = ns.map (Value.int .u8)) : l' = l := by
  refine list_eq_of_vr hn hv (p := lit0) (fun x y hx hr => hr.eq_of_lit0 hx) ?_
  rw [h, List.all_eq_true]
  intro x hx
  simp at hx
  obtain ⟨n, _, rfl⟩ := hx
  rfl
def aconvB (P : Program) (src dst : TypeId) (v : Value) (m : Mem) : Option (Value × Mem) :=
  match v with
  | .slice (some a) n c => match P.underlying src, P.underlying dst with
    | some (.slice e), some .string => match P.underlying e with
      | some (.int .u8) => match asrc m 1 (.slice (some a) n c) with
        | some (_, l) => match bytesOf l with
          | some bs => some (.string ⟨bs.toArray⟩, m)
          | none => none
        | none => none
      | _ => none
    | _, _ => none
  | .string s => match P.underlying src, P.underlying dst with
    | some _, some (.slice e) => match P.underlying e, zero1 P e with
      | some (.int .u8), some _ => some (.slice (some ⟨m.length, 0, none⟩) s.data.toList.length s.data.toList.length, m ++ [.row false e (s.data.toList.map fun b => .int .u8 (b.toNat : Int))])
      | _, _ => none
    | _, _ => none
  | _ => none
theorem aconvB_sound {P : Program} {ρ : Ren} {m m1 : Mem} {w : World} (hm : MR P ρ m w) {src dst : TypeId} {v v' u : Value} (hv : VR ρ v v') (h : aconvB P src dst v m = some (u, m1)) :
    ∃ u' w1 ρ1, (convert src dst v').run P w = .ok u' w1 ∧ VR ρ1 u u' ∧ MR P ρ1 m1 w1 ∧ Ext ρ m w ρ1 m1 w1 := by
  unfold aconvB at h
  split at h
  · rename_i a n c
    split at h
    · rename_i e hs hd
      split at h
      · rename_i he
        split at h
        · rename_i n0 l hsrc
          split at h
          · rename_i bs hb
            cases h
            have hn0 : n0 = n := by
              unfold asrc at hsrc
              split at hsrc
              · rename_i h0; cases h0; split at hsrc
                · split at hsrc
                  · cases hsrc; rfl
                  · cases hsrc
                · cases hsrc
              · rename_i h0; cases h0
              · rename_i h0; cases h0
              · cases hsrc
            subst hn0
            obtain ⟨hlen, hnl, l', hfirst, hl', hvv⟩ := asrc_sound hm hv hsrc (Nat.le_refl _)
            obtain ⟨ns, hns, hbs⟩ := bytesOf_ints hb
            have hll : l' = l := bytes_same (by rw [hnl, hl']) hvv hns
            cases hv with
            | lit hl => simp [lit2, lit1, lit0] at hl
            | slice hx hc =>
              refine ⟨_, w, ρ, ?_, .lit rfl, hm, Ext.refl' _ hm.dom⟩
              rw [run_convert_bytes_string w src dst e _ _ _ hs he hd]
              have hf0 := hfirst w.drawn
              simp only [Builtin.firstCells, Nat.mul_one] at hf0
              rw [hll, hns] at hf0
              rw [run_bytesToString w _ n0 _ ns hf0, foldl_push]
              simp [hbs]
          · cases h
        · cases h
      · cases h
    · cases h
  · rename_i s
    split at h
    · rename_i d e hs hd
      split at h
      · rename_i z he hz
        cases h
        have := hv.eq_of_lit2 rfl; subst this
        obtain ⟨i, hi, hsz, _, _⟩ := zero1_info hz
        let q : Question := .appendCap s.size 0 e
        let cap := q.cut (w.tape w.drawn q)
        have hcap : s.size ≤ cap := by simp [cap, q, Question.cut]
        let cells : Array Value := (s.data.map fun b => Value.int .u8 (b.toNat : Int)) ++ Array.replicate (cap - s.size) (Value.int .u8 0)
        have hcs : cells.size = cap := by simp only [cells, Array.size_append, Array.size_map, Array.size_replicate]; have : s.data.size = s.size := rfl; omega
        have hal := (hm.drawn (w.drawn + 1)).alloc (e := e) (cs := s.data.toList.map fun b => .int .u8 (b.toNat : Int)) (c := cells) (s := 1) (ro := false) (cells.size, cells.size + 1)
          (fun _ j hj hh => by simp at hh; omega) (by rw [hi]; simp [hsz]) (by rw [hcs]; simp; exact hcap) (fun j y hy => by
            rw [List.getElem?_map] at hy
            cases hq : s.data.toList[j]? with
            | none => rw [hq] at hy; cases hy
            | some b =>
              rw [hq] at hy
              simp at hy
              subst hy
              have hj : j < s.data.size := by simpa using (List.getElem?_eq_some_iff.1 hq).1
              refine ⟨.int .u8 (b.toNat : Int), ?_, .lit rfl⟩
              simp only [cells]
              rw [Array.getElem?_append_left (by simpa using hj), Array.getElem?_map]
              have : s.data[j]? = some b := by simpa using hq
              rw [this]; rfl)
        refine ⟨.slice (some ⟨w.heap.size, 0, none⟩) s.size cap, _, _, ?_, ?_, hal.1, ?_⟩
        · have hrun : (Conv.stringToBytes e s).run P w = .ok (.slice (some ⟨w.heap.size, 0, none⟩) s.size cap) (World.freeze (({ w with drawn := w.drawn + 1 } : World).alloc (.cells cells e)) ⟨w.heap.size, cells.size, none⟩ 1) := by
            simp only [Conv.stringToBytes, Sem.run_bind, run_choose, Question.forced, Bool.false_eq_true, if_false, Result.andThen_ok, newRow, run_newObj, Sem.run_pure, markStringish, run_shape]
            have hsh : World.shape? ({ w with drawn := w.drawn + 1, heap := w.heap.push (.cells cells e) } : World) w.heap.size = some (e, cells.size) := by simp [World.shape?]
            rw [show ({ w with drawn := w.drawn + 1, heap := w.heap.push (.cells ((s.data.map fun b => Value.int .u8 (b.toNat : Int)) ++ Array.replicate (q.cut (w.tape w.drawn q) - s.size) (Value.int .u8 0)) e) } : World).shape? w.heap.size = some (e, cells.size) from hsh]
            simp only [run_freeze, Result.andThen_ok]
            rfl
          have hfz : World.freeze (({ w with drawn := w.drawn + 1 } : World).alloc (.cells cells e)) ⟨w.heap.size, cells.size, none⟩ 1 = ({ w with drawn := w.drawn + 1 } : World).alloc (.cells cells e (cells.size, cells.size + 1)) := by
            simp only [World.freeze, World.alloc]
            rw [if_neg (by omega)]
            congr 1
            apply Array.ext
            · simp
            · intro j h1 h2
              simp only [Array.getElem_modify, Array.getElem_push]
              split
              · rename_i hj
                subst hj
                simp
              · rename_i hj
                simp at h1
                rw [dif_pos (by omega), dif_pos (by omega)]
          have hsd : P.underlying src = some d := hs
          simp only [convert, Sem.run_bind, run_underlying hsd, run_underlying hd, Result.andThen_ok]
          rw [← hfz]
          cases d <;> simp [run_underlying he, hrun]
        · refine VR.slice (x := ⟨w.heap.size, cells.size, 1⟩) (by simp [Ren.put]) (.inr ⟨by simpa using hcap, by simp [hcs]⟩)
        · exact ⟨hal.2.le, hal.2.same, hal.2.len, hal.2.fresh, hal.2.os, hal.2.tape, hal.2.output, hal.2.size, hal.2.kept, hal.2.own⟩
      · cases h
    · cases h
  · cases h
end
end Go.Am
namespace Go.Am
noncomputable section
def aeq (P : Program) (t : TypeId) (x y : Value) : Option Bool :=
  match x, y with
  | .pointer (some _), .pointer none => match P.underlying t with
    | some (.pointer _) => some false
    | _ => none
  | .pointer none, .pointer (some _) => match P.underlying t with
    | some (.pointer _) => some false
    | _ => none
  | .pointer (some a), .pointer (some b) => match P.underlying t with
    | some (.pointer e) => match P.info? e with
      | some i => if i.size ≠ 0 ∧ a = b then some true else none
      | none => none
    | _ => none
  | .slice (some _) _ _, .slice none _ _ => match P.underlying t with
    | some (.slice _) => some false
    | _ => none
  | .slice none _ _, .slice (some _) _ _ => match P.underlying t with
    | some (.slice _) => some false
    | _ => none
  | _, _ => none
theorem aeq_sound {P : Program} {ρ : Ren} {w : World} {t : TypeId} {x x' y y' : Value} {b : Bool} (hx : VR ρ x x') (hy : VR ρ y y') (h : aeq P t x y = some b) : (Op.equal t x' y').run P w = .ok b w := by
  suffices key : ∀ d, (Op.equalIn (d + 1) t x' y').run P w = .ok b w from key 9999
  intro dd
  unfold aeq at h
  split at h
  · split at h
    · rename_i e hu
      cases h
      obtain ⟨b1, o1, x1, _, _, rfl⟩ := vr_ptr_some hx
      have := hy.eq_of_lit2 rfl; subst this
      simp [Op.equalIn, run_underlying hu]
    · cases h
  · split at h
    · rename_i e hu
      cases h
      obtain ⟨b1, o1, x1, _, _, rfl⟩ := vr_ptr_some hy
      have := hx.eq_of_lit2 rfl; subst this
      simp [Op.equalIn, run_underlying hu]
    · cases h
  · split at h
    · rename_i e hu
      split at h
      · rename_i i hi
        split at h
        · rename_i hc
          cases h
          obtain ⟨hz, rfl⟩ := hc
          obtain ⟨b1, o1, x1, e1, r1, rfl⟩ := vr_ptr_some hx
          obtain ⟨b2, o2, x2, e2, r2, rfl⟩ := vr_ptr_some hy
          rw [e1] at e2
          cases e2
          rw [r1] at r2; cases r2
          simp [Op.equalIn, run_underlying hu, run_sizeOf' hi, sameAddr]
        · cases h
      · cases h
    · cases h
  · split at h
    · rename_i e hu
      cases h
      have := hy.eq_of_lit2 rfl; subst this
      cases hx with
      | lit hl => simp [lit2, lit1, lit0] at hl
      | slice _ _ => simp [Op.equalIn, run_underlying hu]
    · cases h
  · split at h
    · rename_i e hu
      cases h
      have := hx.eq_of_lit2 rfl; subst this
      cases hy with
      | lit hl => simp [lit2, lit1, lit0] at hl
      | slice _ _ => simp [Op.equalIn, run_underlying hu]
    · cases h
  · cases h
theorem rowAt_mono {p : Program} {fits : TypeId → Bool} : ∀ {d : Nat} {e : TypeId} {count count' off n : Nat}, count ≤ count' → rowAt p fits d e count off n = true → rowAt p fits d e count' off n = true
  | 0, _, _, _, _, _, _, h => by simp [rowAt] at h
  | d + 1, e, count, count', off, n, hc, h => by
    unfold rowAt at h ⊢
    simp only at h ⊢
    split
    · rename_i hs; rw [if_pos hs] at h; exact h
    · rename_i hs
      rw [if_neg hs] at h
      simp only [Bool.or_eq_true, Bool.and_eq_true, decide_eq_true_eq] at h ⊢
      rcases h with ⟨⟨h1, h2⟩, h3⟩ | ⟨h1, h2⟩
      · left; exact ⟨⟨h1, by omega⟩, h3⟩
      · right; exact ⟨by omega, h2⟩
theorem liesAt_mono {p : Program} : ∀ {d : Nat} {e : TypeId} {count count' off n : Nat} {u : TypeId}, count ≤ count' → liesAt p d e count off u n = true → liesAt p d e count' off u n = true
  | 0, _, _, _, _, _, _, _, h => by simp [liesAt] at h
  | d + 1, e, count, count', off, n, u, hc, h => by
    unfold liesAt at h ⊢
    simp only [Bool.or_eq_true] at h ⊢
    rcases h with h | h
    · left; exact rowAt_mono hc h
    · right
      split at h
      · exact liesAt_mono hc h
      · cases h
def aptr (P : Program) (src dst : TypeId) (v : Value) (m : Mem) : Option Value :=
  match v with
  | .pointer (some ⟨b, o, none⟩) => match look m b with
    | some (_, e, cs) => match P.underlying src, P.underlying dst with
      | some (.pointer t), some .unsafePointer => match P.info? t with
        | some i => if i.size ≠ 0 ∧ o < cs.length then some (.pointer (some ⟨b, o, none⟩)) else none
        | none => none
      | some .unsafePointer, some (.pointer u) => match P.info? u with
        | some i => if i.size ≠ 0 ∧ liesAt P P.depth e (cs.length / P.cellsOf e) o u 1 = true then some (.pointer (some ⟨b, o, none⟩)) else none
        | none => none
      | _, _ => none
    | none => none
  | _ => none
theorem aptr_sound {P : Program} {ρ : Ren} {m : Mem} {w : World} (hm : MR P ρ m w) {src dst : TypeId} {v v' u : Value} (hv : VR ρ v v') (h : aptr P src dst v m = some u) :
    ∃ u', (convert src dst v').run P w = .ok u' w ∧ VR ρ u u' := by
  unfold aptr at h
  split at h
  · rename_i b o
    split at h
    · rename_i ro e cs hl
      obtain ⟨x, hx, rfl⟩ := vr_ptr_inv hv
      obtain ⟨x', c, fr, hx', hw, hn, hlen, _, _, _⟩ := hm.row b ro e cs hl
      rw [hx] at hx'; cases hx'
      have hsh : w.shape? x.r = some (e, c.size) := by simp [World.shape?, hw]
      have hvw : (viewAt x.r).run P w = .ok none w := by simp [viewAt, hsh]
      split at h
      · rename_i t hs hd
        split at h
        · rename_i i hi
          split at h
          · rename_i hc
            cases h
            refine ⟨_, ?_, .ptr hx⟩
            have hcells : (cellsIn x.r).run P w = .ok (some c.size) w := by simp [cellsIn, hsh]
            have hlt : ¬ (o ≥ c.size) := by omega
            simp only [convert, Sem.run_bind, run_underlying hs, run_underlying hd, Result.andThen_ok, Conv.unsafePointer, Conv.seenAt, hvw, Sem.run_pure, hcells, run_sizeOf' hi]
            simp [hc.1, hlt]
          · cases h
        · cases h
      · rename_i ut hs hd
        split at h
        · rename_i i hi
          split at h
          · rename_i hc
            cases h
            refine ⟨_, ?_, .ptr hx⟩
            have hlie : liesAt P P.depth e (c.size / P.cellsOf e) o ut 1 = true := liesAt_mono (Nat.div_le_div_right hlen) hc.2
            have hva : (variablesAt ⟨x.r, o, none⟩ ut 1).run P w = .ok true w := by simp [variablesAt, hsh, hlie]
            simp only [convert, Sem.run_bind, run_underlying hs, run_underlying hd, Result.andThen_ok, Conv.unsafePointer, Conv.seenAt, hvw, Sem.run_pure, run_sizeOf' hi, hva]
            simp
          · cases h
        · cases h
      · cases h
    · cases h
  · cases h
end
end Go.Am
namespace Go.Am
noncomputable section
theorem MR.hold {P : Program} {ρ : Ren} {m : Mem} {w w' : World} (h : MR P ρ m w) {k : Nat} {e : TypeId} {cs : List Value} {x : At} {c : Array Value} {fr fr' : Nat × Nat}
    (hk : m[k]? = some (.row false e cs)) (hx : ρ k = some x) (hw : w.heap[x.r]? = some (.cells c e fr)) (hu : Upd w w' x.r (.cells c e fr')) :
    MR P ρ (m.set k (.row true e cs)) w' ∧ Ext ρ m w ρ (m.set k (.row true e cs)) w' := by
  have hcase : ∀ j b, (m.set k (.row true e cs))[j]? = some b → (j ≠ k ∧ m[j]? = some b) ∨ (j = k ∧ b = .row true e cs) := by
    intro j b hb
    rw [List.getElem?_set] at hb
    by_cases hj : k = j
    · subst hj
      simp only [if_true] at hb
      split at hb
      · right; exact ⟨rfl, (Option.some.inj hb).symm⟩
      · cases hb
    · simp only [hj, if_false] at hb
      left; exact ⟨fun e => hj e.symm, hb⟩
  have hlook : ∀ j q, look (m.set k (.row true e cs)) j = some q → (j ≠ k ∧ look m j = some q) ∨ (j = k ∧ q = (true, e, cs)) := by
    intro j q hq
    unfold look at hq
    split at hq
    · rename_i b hb
      rcases hcase j b hb with ⟨hj, hb⟩ | ⟨hj, rfl⟩
      · left; exact ⟨hj, by simp [look, hb, hq]⟩
      · right; simp [Blk.cells?] at hq; exact ⟨hj, hq.symm⟩
    · cases hq
  obtain ⟨x0, c0, fr0, hx0, hw0, hn0, hl0, hi0, hf0, hs0⟩ := h.row k false e cs (look_row hk)
  rw [hx] at hx0; cases hx0
  rw [hw] at hw0; cases hw0
  have old : ∀ (j : Nat) (ro : Bool) (e1 : TypeId) (cs1 : List Value), look (m.set k (Blk.row true e cs)) j = some (ro, e1, cs1) → ∃ ro2, look m j = some (ro2, e1, cs1) := by
    intro j ro e1 cs1 hb
    rcases hlook j _ hb with ⟨_, hb1⟩ | ⟨rfl, hb1⟩
    · exact ⟨ro, hb1⟩
    · cases hb1; exact ⟨false, look_row hk⟩
  have hrow : ∀ (j : Nat) (e1 : TypeId) (cs1 : List Value), (m.set k (Blk.row true e cs))[j]? = some (Blk.row false e1 cs1) → j ≠ k ∧ m[j]? = some (Blk.row false e1 cs1) := by
    intro j e1 cs1 hj
    rcases hcase j _ hj with hb | ⟨_, hb⟩
    · exact hb
    · cases hb
  refine ⟨⟨fun j hj => h.dom j (by simpa using hj), fun j y hy => by rw [hu.size]; exact h.bnd j y hy, h.glob, ?_, ?_, ?_⟩, ⟨Ren.le_refl _, fun _ _ => rfl, by simp, fun j y hj hy => by (rw [h.dom j hj] at hy; cases hy), hu.os, hu.tape, hu.output, by rw [hu.size]; exact Nat.le_refl _, ?_, ?_⟩⟩
  · intro j ro' e' cs1 hb
    rcases hlook j _ hb with ⟨hj, hb'⟩ | ⟨rfl, hb'⟩
    · obtain ⟨y, c1, fr1, hy, hw1, hn1, hl1, hi1, hf1, hs1⟩ := h.row j ro' e' cs1 hb'
      have hne : y.r ≠ x.r := fun e1 => hj (h.inj k e cs j ro' e' cs1 x y hk hb' hx hy e1.symm).symm
      exact ⟨y, c1, fr1, hy, by rw [hu.other _ hne]; exact hw1, hn1, hl1, hi1, hf1, hs1⟩
    · cases hb'
      exact ⟨x, c, fr', hx, hu.same, hn0, hl0, hi0, fun hh => (by cases hh), hs0⟩
  · intro j e1 cs1 j' ro' e' cs2 y y' hb hb' hy hy' hr
    obtain ⟨_, h2⟩ := hrow _ _ _ hb
    obtain ⟨ro3, h3⟩ := old _ _ _ _ hb'
    exact h.inj j e1 cs1 j' ro3 e' cs2 y y' h2 h3 hy hy' hr
  · intro j e1 cs1 hb
    rcases hcase j _ hb with ⟨_, hb1⟩ | ⟨_, hb1⟩
    · exact h.tab j e1 cs1 hb1
    · cases hb1
  · intro r hr hno
    exact hu.other r fun e1 => hno k e cs x hk hx e1.symm
  · intro j e1 cs1 y hb hy
    right; exact ⟨j, e1, cs1, y, (hrow _ _ _ hb).2, hy, rfl⟩
theorem upd_freeze {w : World} {g i n : Nat} {c : Array Value} {e : TypeId} {fr : Nat × Nat} (h : w.heap[g]? = some (.cells c e fr)) (hn : n ≠ 0) :
    ∃ fr', Upd w (w.freeze ⟨g, i, none⟩ n) g (.cells c e fr') := by
  obtain ⟨lo, hi⟩ := fr
  refine ⟨if lo == hi then (i, i + n) else (min lo i, max hi (i + n)), ?_⟩
  unfold World.freeze
  rw [if_neg hn]
  refine ⟨rfl, rfl, rfl, by simp, ?_, fun r hr => ?_⟩
  · simp [Array.getElem?_modify, h]
  · simp only [Array.getElem?_modify]
    rw [if_neg (fun e => hr e.symm)]
def ausString (P : Program) (pt : TypeId) (p n : Value) (m : Mem) : Option (Value × Mem) :=
  match n with
  | .int _ k =>
    if k = 0 then match p with
      | .pointer none => some (.string ⟨#[]⟩, m)
      | .pointer (some ⟨_, _, none⟩) => some (.string ⟨#[]⟩, m)
      | _ => none
    else if 0 < k ∧ k ≤ 9223372036854775807 then
      match p with
      | .pointer (some ⟨b, o, none⟩) => match m[b]? with
        | some (.row false e cs) => match P.underlying pt with
          | some (.pointer u) =>
            if liesAt P P.depth e (cs.length / P.cellsOf e) o u k.toNat = true ∧ o + k.toNat ≤ cs.length then
              match bytesOf ((cs.drop o).take k.toNat) with
              | some bs => some (.string ⟨bs.toArray⟩, m.set b (.row true e cs))
              | none => none
            else none
          | _ => none
        | _ => none
      | _ => none
    else none
  | _ => none
theorem run_loadBytes {P : Program} {w : World} {g : Nat} : ∀ (ns : List Int) (o : Nat) (acc : ByteArray), (∀ (j : Nat) (n : Int), ns[j]? = some n → w.cell? ⟨g, o + j, none⟩ = some (.int .u8 n)) →
    (loadBytes ⟨g, o, none⟩ acc ns.length).run P w = .ok (ns.foldl (fun r n => r.push (UInt8.ofNat n.toNat)) acc) w
  | [], o, acc, _ => by simp [loadBytes]
  | n :: ns, o, acc, h => by
    have h0 := h 0 n rfl
    simp only [Nat.add_zero] at h0
    simp only [List.length_cons, loadBytes, Sem.run_bind, run_load, h0, Result.andThen_ok, add_plain, List.foldl_cons]
    exact run_loadBytes ns (o + 1) _ (fun j k hk => by
      have := h (j + 1) k (by simpa using hk)
      rw [show o + 1 + j = o + (j + 1) by omega]; exact this)
theorem usString_def (pt xt ty : TypeId) (p : Option Addr) (len : Value) : ∃ s1 s2 s3 s4, Builtin.unsafeString_ #[pt, xt] ty #[.pointer p, len] = (do
    let n ← asInt len
    if n < 0 then runtimePanic (.error s1)
    if n > IntKind.i64.max then unsupported s2
    match p with
    | none =>
      if n = 0 then pure (.string .empty)
      else runtimePanic (.error s3)
    | some a =>
      if n = 0 then pure (.string .empty)
      else if ← variablesAt a (← elemOf pt) n.toNat then do
        let s ← loadBytes a .empty n.toNat
        freeze a n.toNat
        pure (.string s)
      else unsupported s4 : Sem Value) := ⟨_, _, _, _, rfl⟩
theorem ausString_sound {P : Program} {ρ : Ren} {m m1 : Mem} {w : World} (hm : MR P ρ m w) {pt xt ty : TypeId} {p p' n n' u : Value} (hp : VR ρ p p') (hn : VR ρ n n') (h : ausString P pt p n m = some (u, m1)) :
    ∃ w1, (Builtin.unsafeString_ #[pt, xt] ty #[p', n']).run P w = .ok u w1 ∧ lit2 u = true ∧ MR P ρ m1 w1 ∧ Ext ρ m w ρ m1 w1 := by
  unfold ausString at h
  split at h
  · rename_i kk k
    have e1 := vr_int_inv hn; subst e1
    split at h
    · rename_i hk0
      subst hk0
      split at h
      · cases h
        have := hp.eq_of_lit2 rfl; subst this
        exact ⟨w, by obtain ⟨s1, s2, s3, s4, hdef⟩ := usString_def pt xt ty none (.int kk 0); rw [hdef]; simp [asInt, asIntOf, IntKind.max, IntKind.signed, IntKind.bits]; rfl, rfl, hm, Ext.refl' _ hm.dom⟩
      · cases h
        obtain ⟨x, hx, rfl⟩ := vr_ptr_inv hp
        exact ⟨w, by obtain ⟨s1, s2, s3, s4, hdef⟩ := usString_def pt xt ty (some ⟨x.r, _, none⟩) (.int kk 0); rw [hdef]; simp [asInt, asIntOf, IntKind.max, IntKind.signed, IntKind.bits]; rfl, rfl, hm, Ext.refl' _ hm.dom⟩
      · cases h
    · rename_i hk0
      split at h
      · rename_i hk
        split at h
        · rename_i b o
          split at h
          · rename_i e cs hb
            split at h
            · rename_i ut hut
              split at h
              · rename_i hc
                split at h
                · rename_i bs hbs
                  cases h
                  obtain ⟨x, hx, rfl⟩ := vr_ptr_inv hp
                  obtain ⟨x', c, fr, hx', hw, hsz, hlen, hi, hf, _⟩ := hm.row b false e cs (look_row hb)
                  rw [hx] at hx'; cases hx'
                  obtain ⟨fr', hup⟩ := upd_freeze (i := o) (n := k.toNat) hw (by omega)
                  have hh := hm.hold hb hx hw hup
                  refine ⟨w.freeze ⟨x.r, o, none⟩ k.toNat, ?_, rfl, hh.1, hh.2⟩
                  have hsh : w.shape? x.r = some (e, c.size) := by simp [World.shape?, hw]
                  have hlie : liesAt P P.depth e (c.size / P.cellsOf e) o ut k.toNat = true := liesAt_mono (Nat.div_le_div_right hlen) hc.1
                  have hva : (variablesAt ⟨x.r, o, none⟩ ut k.toNat).run P w = .ok true w := by simp [variablesAt, hsh, hlie]
                  obtain ⟨ns, hns, hbs2⟩ := bytesOf_ints hbs
                  have hnl : ns.length = k.toNat := by
                    have := congrArg List.length hns
                    simp at this; omega
                  have hcell : ∀ (j : Nat) (q : Int), ns[j]? = some q → w.cell? ⟨x.r, o + j, none⟩ = some (.int .u8 q) := by
                    intro j q hq
                    rw [cell_of_row w x.r (o + j) c e fr hw]
                    have hj : ((cs.drop o).take k.toNat)[j]? = some (.int .u8 q) := by rw [hns, List.getElem?_map, hq]; rfl
                    rw [List.getElem?_take] at hj
                    split at hj
                    · rw [List.getElem?_drop] at hj
                      obtain ⟨y, hy, hr⟩ := hi _ _ hj
                      rw [hy, hr.eq_of_lit0 rfl]
                    · cases hj
                  have hlb := run_loadBytes (P := P) ns o ByteArray.empty hcell
                  rw [hnl] at hlb
                  have hmax : ¬ (k > IntKind.i64.max) := by
                    have : IntKind.i64.max = 9223372036854775807 := by decide
                    rw [this]; omega
                  obtain ⟨s1, s2, s3, s4, hdef⟩ := usString_def pt xt ty (some ⟨x.r, o, none⟩) (.int kk k)
                  rw [hdef]
                  simp only [asInt, asIntOf, Sem.run_bind, Sem.run_pure, Result.andThen_ok]
                  rw [if_neg (by omega), if_neg hmax, if_neg hk0]
                  simp only [Sem.run_bind, elemOf, run_underlying hut, Result.andThen_ok, Sem.run_pure, hva, if_true, hlb, run_freeze]
                  rw [foldl_push]
                  simp [hbs2]
                · cases h
              · cases h
            · cases h
          · cases h
        · cases h
      · cases h
  · cases h
end
end Go.Am
namespace Go.Am
noncomputable section
inductive XK where
  | add64
  | sub64
  | same
  | noZero (elem : TypeId)
def pair64 (a b : Nat) : Value := .tuple ⟨[.int .u64 (a : Int), .int .u64 (b : Int)]⟩
def XIs (P : Program) (g : FuncId) : XK → Prop
  | .add64 => ∀ (kx ky kc : IntKind) (x y c : Int) (w : World), c.toNat ≤ 1 → (callFunc g #[.int kx x, .int ky y, .int kc c]).run P w =
      .ok (.value (pair64 ((x.toNat + y.toNat + c.toNat) % 18446744073709551616) ((x.toNat + y.toNat + c.toNat) / 18446744073709551616))) w
  | .sub64 => ∀ (kx ky kc : IntKind) (x y c : Int) (w : World), c.toNat ≤ 1 → (callFunc g #[.int kx x, .int ky y, .int kc c]).run P w =
      .ok (.value (pair64 ((x.toNat + 18446744073709551616 - y.toNat - c.toNat) % 18446744073709551616) (if x.toNat < y.toNat + c.toNat then 1 else 0))) w
  | .same => ∀ (x : Value) (w : World), (callFunc g #[x]).run P w = .ok (.value x) w
  | .noZero e => (P.info? e).map (·.size) = some 1 ∧ ∀ (n : Int) (w : World), 0 ≤ n → n ≤ 281474976710656 → ∃ (cap d : Nat) (c : Array Value), n.toNat ≤ cap ∧ c.size = cap ∧
      (callFunc g #[.int .i64 n]).run P w = .ok (.value (.slice (some ⟨w.heap.size, 0, none⟩) n.toNat cap)) (({ w with drawn := d } : World).alloc (.cells c e))
def aext (k : XK) (args : List Value) (m : Mem) : Option (Value × Mem) :=
  match k with
  | .add64 => match args with
    | [.int _ x, .int _ y, .int _ c] => if c.toNat ≤ 1 then some (pair64 ((x.toNat + y.toNat + c.toNat) % 18446744073709551616) ((x.toNat + y.toNat + c.toNat) / 18446744073709551616), m) else none
    | _ => none
  | .sub64 => match args with
    | [.int _ x, .int _ y, .int _ c] => if c.toNat ≤ 1 then some (pair64 ((x.toNat + 18446744073709551616 - y.toNat - c.toNat) % 18446744073709551616) (if x.toNat < y.toNat + c.toNat then 1 else 0), m) else none
    | _ => none
  | .same => match args with
    | [x] => some (x, m)
    | _ => none
  | .noZero e => match args with
    | [.int .i64 n] => if 0 ≤ n ∧ n ≤ 281474976710656 then some (.slice (some ⟨m.length, 0, none⟩) n.toNat n.toNat, m ++ [.row false e (List.replicate n.toNat junk)]) else none
    | _ => none
theorem tr_one {ρ : Ren} {x : Value} {args' : Array Value} (h : TR ρ [x] args') : ∃ x', args' = #[x'] ∧ VR ρ x x' := by
  have hs := h.size
  obtain ⟨l⟩ := args'
  match l, hs with
  | [x'], _ => exact ⟨x', rfl, h.at_ 0 x x' rfl rfl⟩
theorem tr_three {ρ : Ren} {x y z : Value} {args' : Array Value} (h : TR ρ [x, y, z] args') : ∃ x' y' z', args' = #[x', y', z'] ∧ VR ρ x x' ∧ VR ρ y y' ∧ VR ρ z z' := by
  have hs := h.size
  obtain ⟨l⟩ := args'
  match l, hs with
  | [x', y', z'], _ => exact ⟨x', y', z', rfl, h.at_ 0 x x' rfl rfl, h.at_ 1 y y' rfl rfl, h.at_ 2 z z' rfl rfl⟩
theorem aext_sound {P : Program} {ρ : Ren} {m m1 : Mem} {w : World} (hm : MR P ρ m w) {g : FuncId} {k : XK} (hk : XIs P g k) {args : List Value} {args' : Array Value} (ht : TR ρ args args') {v : Value} (h : aext k args m = some (v, m1)) :
    Sound P ρ m w ((callFunc g args').run P w) v m1 := by
  cases k with
  | add64 =>
    simp only [aext] at h
    split at h
    · rename_i k1 x k2 y k3 c
      split at h
      · rename_i hc
        cases h
        obtain ⟨x', y', z', rfl, h1, h2, h3⟩ := tr_three ht
        rw [vr_int_inv h1, vr_int_inv h2, vr_int_inv h3]
        exact ⟨_, w, ρ, .inl (hk k1 k2 k3 x y c w hc), .lit rfl, hm, Ext.refl' _ hm.dom⟩
      · cases h
    · cases h
  | sub64 =>
    simp only [aext] at h
    split at h
    · rename_i k1 x k2 y k3 c
      split at h
      · rename_i hc
        cases h
        obtain ⟨x', y', z', rfl, h1, h2, h3⟩ := tr_three ht
        rw [vr_int_inv h1, vr_int_inv h2, vr_int_inv h3]
        exact ⟨_, w, ρ, .inl (hk k1 k2 k3 x y c w hc), .lit rfl, hm, Ext.refl' _ hm.dom⟩
      · cases h
    · cases h
  | same =>
    simp only [aext] at h
    split at h
    · cases h
      obtain ⟨x', rfl, h1⟩ := tr_one ht
      exact ⟨x', w, ρ, .inl (hk x' w), h1, hm, Ext.refl' _ hm.dom⟩
    · cases h
  | noZero e =>
    simp only [aext] at h
    split at h
    · rename_i n
      split at h
      · rename_i hn
        cases h
        obtain ⟨x', rfl, h1⟩ := tr_one ht
        rw [vr_int_inv h1]
        obtain ⟨hs, hrun⟩ := hk
        obtain ⟨cap, d, c, hcap, hc, hr⟩ := hrun n w hn.1 hn.2
        have hal := (hm.drawn d).alloc (e := e) (cs := List.replicate n.toNat junk) (c := c) (s := 1) (ro := false) (0, 0) (fun _ => loose_zero _) hs (by simp; omega) (fun j y hy => by
          rw [List.getElem?_replicate] at hy
          split at hy
          · rename_i hj
            cases hy
            have : j < c.size := by omega
            exact ⟨c[j], by simp [this], .junk⟩
          · cases hy)
        refine ⟨_, _, _, .inl hr, ?_, hal.1, ?_⟩
        · exact VR.slice (x := ⟨w.heap.size, c.size, 1⟩) (by simp [Ren.put]) (.inr ⟨hcap, by simp; omega⟩)
        · exact ⟨hal.2.le, hal.2.same, hal.2.len, hal.2.fresh, hal.2.os, hal.2.tape, hal.2.output, hal.2.size, hal.2.kept, hal.2.own⟩
      · cases h
    · cases h
end
end Go.Am
namespace Go.Am
noncomputable section
theorem fold_get (off : Nat) : ∀ (l : List Value) (k : Nat) (c : Array Value), off + k + l.length ≤ c.size →
    ((l.zipIdx k).foldl (fun cs p => cs.setIfInBounds (off + p.2) p.1) c).size = c.size ∧
    ∀ i, ((l.zipIdx k).foldl (fun cs p => cs.setIfInBounds (off + p.2) p.1) c)[i]? = if off + k ≤ i ∧ i < off + k + l.length then l[i - (off + k)]? else c[i]?
  | [], k, c, _ => ⟨rfl, fun i => by simp; omega⟩
  | x :: l, k, c, h => by
    simp only [List.length_cons] at h
    obtain ⟨h1, h2⟩ := fold_get off l (k + 1) (c.setIfInBounds (off + k) x) (by simp; omega)
    simp only [List.zipIdx_cons, List.foldl_cons]
    refine ⟨by rw [h1]; simp, fun i => ?_⟩
    rw [h2]
    by_cases hi : off + (k + 1) ≤ i ∧ i < off + (k + 1) + l.length
    · rw [if_pos hi, if_pos (by simp only [List.length_cons]; omega)]
      rw [show i - (off + k) = (i - (off + (k + 1))) + 1 by omega, List.getElem?_cons_succ]
    · rw [if_neg hi, Array.getElem?_setIfInBounds]
      by_cases he : off + k = i
      · subst he
        rw [if_pos rfl, if_pos (by omega), if_pos (by simp only [List.length_cons]; omega)]
        simp
      · rw [if_neg he, if_neg (by simp only [List.length_cons]; omega)]
theorem fold_cells (off : Nat) (v c : Array Value) (h : off + v.size ≤ c.size) :
    (v.zipIdx.foldl (fun cs (p : Value × Nat) => cs.setIfInBounds (off + p.2) p.1) c).size = c.size ∧
    ∀ i, (v.zipIdx.foldl (fun cs (p : Value × Nat) => cs.setIfInBounds (off + p.2) p.1) c)[i]? = if off ≤ i ∧ i < off + v.size then v[i - off]? else c[i]? := by
  obtain ⟨l⟩ := v
  have := fold_get off l 0 c (by simpa using h)
  rw [← Array.foldl_toList]
  simpa using this
def afillG (place : Nat → Option (Nat × Nat)) : List Value → List (Nat × Value) → Option (List Value)
  | cs, [] => some cs
  | cs, (i, v) :: l => match place i, vcells v with
    | some (off, size), some vs => if vs.length = size ∧ off + vs.length ≤ cs.length then afillG place (lay cs off vs) l else none
    | _, _ => none
theorem afillG_sound {ρ : Ren} (place : Nat → Option (Nat × Nat)) : ∀ (parts : List (Nat × Value)) (parts' : List (Nat × Value)) (cs : List Value) (c : Array Value) (l : List Value), parts.length = parts'.length →
    (∀ (i : Nat) (p p' : Nat × Value), parts[i]? = some p → parts'[i]? = some p' → p'.1 = p.1 ∧ VR ρ p.2 p'.2) → cs.length = c.size →
    (∀ (i : Nat) (x y : Value), cs[i]? = some x → c[i]? = some y → VR ρ x y) → afillG place cs parts = some l →
    ∃ c', Instr.fill place c parts' = some c' ∧ l.length = c'.size ∧ (∀ (i : Nat) (x y : Value), l[i]? = some x → c'[i]? = some y → VR ρ x y)
  | [], [], cs, c, l, _, _, hn, hv, h => by
    simp [afillG] at h; subst h
    exact ⟨c, rfl, hn, hv⟩
  | [], _ :: _, _, _, _, hl, _, _, _, _ => by simp at hl
  | _ :: _, [], _, _, _, hl, _, _, _, _ => by simp at hl
  | (i, v) :: parts, (i', v') :: parts', cs, c, l, hl, hp, hn, hv, h => by
    unfold afillG at h
    split at h
    · rename_i off size vs hpl hvs
      split at h
      · rename_i hc
        obtain ⟨hc1, hc2⟩ := hc
        obtain ⟨e1, hvv⟩ := hp 0 (i, v) (i', v') rfl rfl
        simp only at e1 hvv
        subst e1
        obtain ⟨k1, k2, _⟩ := vcells_vr hvv hvs
        have hle : off + v'.cells.size ≤ c.size := by omega
        obtain ⟨f1, f2⟩ := fold_cells off v'.cells c hle
        obtain ⟨c', hf, hr⟩ := afillG_sound place parts parts' (lay cs off vs) (v'.cells.zipIdx.foldl (fun cs (p : Value × Nat) => cs.setIfInBounds (off + p.2) p.1) c) l (by simpa using hl) (fun j p p' h2 h3 => hp (j + 1) p p' (by simpa using h2) (by simpa using h3))
          (by rw [lay_length hc2, f1]; exact hn)
          (fun j x y hx hy => by
            rw [lay_get hc2] at hx
            rw [f2] at hy
            by_cases hj : off ≤ j ∧ j < off + vs.length
            · rw [if_pos hj] at hx
              rw [if_pos (by omega)] at hy
              exact k2 _ x y hx hy
            · rw [if_neg hj] at hx
              rw [if_neg (by omega)] at hy
              exact hv j x y hx hy) h
        refine ⟨c', ?_, hr⟩
        unfold Instr.fill
        simp only [hpl]
        rw [if_neg (by simp; omega)]
        exact hf
      · cases h
    · cases h
def placesOf (P : Program) : List Field → Option (List (Nat × Nat))
  | [] => some []
  | f :: l => match P.info? f.type with
    | some i => match placesOf P l with
      | some r => some ((f.offset, i.size) :: r)
      | none => none
    | none => none
theorem placesOf_run {P : Program} {w : World} : ∀ {l : List Field} {r : List (Nat × Nat)}, placesOf P l = some r → (l.mapM (m := Sem) fun f => do pure (f.offset, ← sizeOf f.type)).run P w = .ok r w
  | [], r, h => by simp [placesOf] at h; subst h; simp
  | f :: l, r, h => by
    unfold placesOf at h
    split at h
    · rename_i i hi
      split at h
      · rename_i r1 h1
        cases h
        have := placesOf_run (w := w) h1
        simp only [List.mapM_cons, Sem.run_bind, run_sizeOf' hi, Result.andThen_ok, Sem.run_pure, this]
      · cases h
    · cases h
def zeroG (P : Program) (t : TypeId) : Option (List Value) :=
  match P.info? t with
  | some i => match i.zero with
    | some (.agg cs) => if cs.toList.all lit0 then some cs.toList else none
    | _ => none
  | none => none
theorem zeroG_run {P : Program} {t : TypeId} {l : List Value} (h : zeroG P t = some l) (w : World) : (zeroValue t).run P w = .ok (.agg ⟨l⟩) w ∧ l.all lit0 = true := by
  unfold zeroG at h
  split at h
  · rename_i i hi
    split at h
    · rename_i cs hz
      split at h
      · rename_i hl
        cases h
        exact ⟨by simp [zeroValue, run_typeInfo' hi, hz], hl⟩
      · cases h
    · cases h
  · cases h
def abuild (P : Program) (t : TypeId) (parts : List (Nat × Value)) : Option Value :=
  match zeroG P t, P.underlying t with
  | some zs, some (.struct fields) => match placesOf P fields.toList with
    | some ps => match afillG (fun i => ps.toArray[i]?) zs parts with
      | some l => some (.agg ⟨l⟩)
      | none => none
    | none => none
  | some zs, some (.array _ elem) => match P.info? elem with
    | some ei => match afillG (fun i => some (i * ei.size, ei.size)) zs parts with
      | some l => some (.agg ⟨l⟩)
      | none => none
    | none => none
  | _, _ => none
theorem vr_lits {ρ : Ren} {l : List Value} (h : l.all lit0 = true) : ∀ (i : Nat) (x y : Value), l[i]? = some x → (⟨l⟩ : Array Value)[i]? = some y → VR ρ x y := by
  intro i x y hx hy
  have : l[i]? = some y := by simpa using hy
  rw [hx] at this
  cases this
  exact .lit (lit2_of_lit1 (lit1_of_lit0 ((List.all_eq_true.1 h) x (List.mem_of_getElem? hx))))
theorem abuild_sound {P : Program} {ρ : Ren} {w : World} {t : TypeId} {parts parts' : List (Nat × Value)} {u : Value} (hl : parts.length = parts'.length)
    (hp : ∀ (i : Nat) (p p' : Nat × Value), parts[i]? = some p → parts'[i]? = some p' → p'.1 = p.1 ∧ VR ρ p.2 p'.2) (h : abuild P t parts = some u) :
    ∃ u', (Instr.build t parts'.toArray).run P w = .ok u' w ∧ VR ρ u u' := by
  unfold abuild at h
  split at h
  · rename_i zs fields hz hu
    obtain ⟨hzr, hzl⟩ := zeroG_run hz w
    split at h
    · rename_i ps hps
      split at h
      · rename_i l hf
        cases h
        obtain ⟨c', hfill, hn, hv⟩ := afillG_sound (ρ := ρ) _ parts parts' zs ⟨zs⟩ l hl hp rfl (vr_lits hzl) hf
        refine ⟨.agg c', ?_, ?_⟩
        · have hpr := placesOf_run (w := w) hps
          have hm : (fields.mapM (m := Sem) fun f => do pure (f.offset, ← sizeOf f.type)).run P w = .ok ps.toArray w := by
            rw [Array.mapM_eq_mapM_toList]
            simp at hpr
            simp [hpr]
          simp only [Instr.build, Sem.run_bind, hzr, Result.andThen_ok, run_underlying hu, hm, Value.cells]
          rw [hfill]
          rfl
        · obtain ⟨c'⟩ := c'
          exact .agg (by simpa using hn) (fun i x y hx hy => hv i x y hx (by simpa using hy))
      · cases h
    · cases h
  · rename_i zs n elem hz hu
    obtain ⟨hzr, hzl⟩ := zeroG_run hz w
    split at h
    · rename_i ei hei
      split at h
      · rename_i l hf
        cases h
        obtain ⟨c', hfill, hn, hv⟩ := afillG_sound (ρ := ρ) _ parts parts' zs ⟨zs⟩ l hl hp rfl (vr_lits hzl) hf
        refine ⟨.agg c', ?_, ?_⟩
        · simp only [Instr.build, Sem.run_bind, hzr, Result.andThen_ok, run_underlying hu, run_sizeOf' hei, Value.cells]
          rw [hfill]
          rfl
        · obtain ⟨c'⟩ := c'
          exact .agg (by simpa using hn) (fun i x y hx hy => hv i x y hx (by simpa using hy))
      · cases h
    · cases h
  · cases h
def afield (P : Program) (t : TypeId) (x : Value) (f : Nat) : Option Value :=
  match x with
  | .agg cs => match P.underlying t with
    | some (.struct fields) => match fields[f]? with
      | some fl => match P.underlying fl.type, P.info? fl.type with
        | some d, some i => match aggD d with
          | true => if fl.offset + i.size ≤ cs.toList.length then some (.agg ⟨(cs.toList.drop fl.offset).take i.size⟩) else none
          | false => cs.toList[fl.offset]?
        | _, _ => none
      | none => none
    | _ => none
  | _ => none
theorem afield_sound {P : Program} {ρ : Ren} {w : World} {t : TypeId} {x x' u : Value} {f : Nat} (hx : VR ρ x x') (h : afield P t x f = some u) :
    ∃ u', (Instr.field t x' f).run P w = .ok u' w ∧ VR ρ u u' := by
  unfold afield at h
  split at h
  · rename_i cs
    obtain ⟨l⟩ := cs
    obtain ⟨l', rfl, hn, hi⟩ := vr_agg_inv hx
    split at h
    · rename_i fields hu
      split at h
      · rename_i fl hfl
        split at h
        · rename_i d i hd hinfo
          split at h
          · rename_i hag
            split at h
            · rename_i hle
              cases h
              refine ⟨.agg ⟨(l'.drop fl.offset).take i.size⟩, ?_, .agg ?_ ?_⟩
              · simp only [Instr.field, Sem.run_bind, run_underlying hu, Result.andThen_ok, hfl, asAgg, Sem.run_pure, part, run_isAgg' hd, hag, if_true, run_sizeOf' hinfo]
                congr 2
                apply Array.ext'
                simp [List.take_drop]
              · simp only [List.length_take, List.length_drop, hn]
              · intro j a b ha hb
                rw [List.getElem?_take] at ha hb
                split at ha
                · rename_i hj
                  rw [if_pos hj] at hb
                  rw [List.getElem?_drop] at ha hb
                  exact hi _ a b ha hb
                · cases ha
            · cases h
          · rename_i hag
            have hlt : fl.offset < l.length := (List.getElem?_eq_some_iff.1 h).1
            have hlt' : fl.offset < l'.length := by omega
            refine ⟨l'[fl.offset], ?_, hi _ _ _ h (by simp [hlt'])⟩
            simp only [Instr.field, Sem.run_bind, run_underlying hu, Result.andThen_ok, hfl, asAgg, Sem.run_pure, part, run_isAgg' hd, hag, Bool.false_eq_true, if_false]
            simp [hlt']
        · cases h
      · cases h
    · cases h
  · cases h
def aappendZ (P : Program) (sT xT : TypeId) (s x : Value) (m : Mem) : Option (Value × Mem) :=
  match P.underlying sT, P.underlying xT with
  | some (.slice elem), some (.int _) =>
    match zero1 P elem, P.info? elem, s, x with
    | some z, some ei, .slice none 0 0, .int _ n =>
      if ei.bytes ≠ 0 ∧ 0 < n ∧ n ≤ 4294967296 ∧ (2 * n.toNat + 768) * ei.bytes ≤ 281474976710656 then
        some (.slice (some ⟨m.length, 0, none⟩) n.toNat n.toNat, m ++ [.row false elem (List.replicate n.toNat z)])
      else none
    | _, _, _, _ => none
  | _, _ => none
theorem zeroCells_one (z : Value) (n : Nat) : Builtin.zeroCells #[z] n = Array.replicate n z := by
  unfold Builtin.zeroCells
  apply Array.ext
  · simp
  · intro i h1 h2
    simp [Nat.mod_one]
theorem aappendZ_sound {P : Program} {ρ : Ren} {m m1 : Mem} {w : World} (hm : MR P ρ m w) {sT xT ty : TypeId} {s s' x x' u : Value} (hs : VR ρ s s') (hx : VR ρ x x') (h : aappendZ P sT xT s x m = some (u, m1)) :
    ∃ u' w1 ρ1, (Builtin.append_ #[sT, xT] ty #[s', x']).run P w = .ok u' w1 ∧ VR ρ1 u u' ∧ MR P ρ1 m1 w1 ∧ Ext ρ m w ρ1 m1 w1 := by
  unfold aappendZ at h
  split at h
  · rename_i elem k0 hsT hxT
    split at h
    · rename_i z ei k n hz hei
      split at h
      · rename_i hc
        obtain ⟨hb, hn0, hn1, hroom⟩ := hc
        cases h
        have := hs.eq_of_lit2 rfl; subst this
        have := hx.eq_of_lit2 rfl; subst this
        obtain ⟨i, hi, hs1, hz0, hlit⟩ := zero1_info hz
        rw [hei] at hi; cases hi
        obtain ⟨N, rfl⟩ := Int.eq_ofNat_of_zero_le (show 0 ≤ n by omega)
        simp only [Int.toNat_natCast] at hroom ⊢
        have hw : IntKind.i64.wrap (N : Int) = N := by
          have := wrapF_eq .i64 (N : Int)
          rw [← this]
          simp only [wrapF]
          omega
        have hcells := cells_lit0 hlit
        have hcap := nextslicecap_le (need := N) (oldCap := 0) (by omega)
        have h1 : ¬ (Builtin.nextslicecap N 0 * ei.bytes > 2 ^ 48) := by
          have : Builtin.nextslicecap N 0 * ei.bytes ≤ (2 * N + 768) * ei.bytes := Nat.mul_le_mul_right _ hcap
          omega
        have h2 : ¬ ((N : Int) * (ei.bytes : Int) > 2 ^ 48) := by
          have : N * ei.bytes ≤ (2 * N + 768) * ei.bytes := Nat.mul_le_mul_right _ (by omega)
          have h3 : N * ei.bytes ≤ 281474976710656 := by omega
          have : ((N * ei.bytes : Nat) : Int) ≤ 281474976710656 := by omega
          simp only [Int.natCast_mul] at this
          omega
        have h4 : ¬ ((N : Int) > IntKind.i64.max) := by
          have : IntKind.i64.max = 9223372036854775807 := by rfl
          omega
        let newCap := (Question.appendCap N 0 elem).cut (w.tape w.drawn (.appendCap N 0 elem))
        have hnc : N ≤ newCap := by simp [newCap, Question.cut]
        have hz' : ∀ d, (zeroValue elem).run P { w with drawn := d } = .ok z { w with drawn := d } := fun d => by simp [zeroValue, run_typeInfo' hei, hz0]
        have hz'' : (zeroValue elem).run P w = .ok z w := hz' w.drawn
        have hne : ¬ N * 1 = 0 := by omega
        have hrun : (Builtin.append_ #[sT, xT] ty #[.slice none 0 0, .int k N]).run P w =
            .ok (.slice (some ⟨w.heap.size, 0, none⟩) N newCap) (({ w with drawn := w.drawn + 1 } : World).alloc (.cells (#[] ++ Array.replicate N z ++ Array.replicate (newCap - N) z) elem)) := by
          simp only [Builtin.append_, List.getElem?_toArray, List.getElem?_cons_zero, List.getElem?_cons_succ, Sem.run_bind, run_underlying hsT, run_underlying hxT, Result.andThen_ok, run_sizeOf' hei, Sem.run_pure, if_true, asInt, asIntOf, hw,
            run_typeInfo' hei, h2, if_false, hs1, hne, hcells, Int.toNat_natCast, Nat.zero_add, hb, h1, h4, run_choose, Question.forced, run_askRoom, Bool.not_true, Bool.false_eq_true, show ¬ (N : Int) < 0 by omega, show ¬ N ≤ 0 by omega, Builtin.firstCells, hz', hz'', zeroCells_one, newRow, run_newObj, false_and, true_or, and_true]
          rfl
        have hsize : (#[] ++ Array.replicate N z ++ Array.replicate (newCap - N) z).size = newCap := by simp; omega
        have hal := (hm.drawn (w.drawn + 1)).alloc (e := elem) (cs := List.replicate N z) (c := #[] ++ Array.replicate N z ++ Array.replicate (newCap - N) z) (s := ei.size) (ro := false) (0, 0) (fun _ => loose_zero _) (by rw [hei]; rfl)
          (by rw [hsize]; simp; exact hnc) (fun j y hy => by
            rw [List.getElem?_replicate] at hy
            split at hy
            · rename_i hj
              cases hy
              refine ⟨z, ?_, .lit (lit2_of_lit1 (lit1_of_lit0 hlit))⟩
              rw [Array.getElem?_append_left (by simp; exact hj)]
              simp [hj]
            · cases hy)
        refine ⟨_, _, _, hrun, ?_, hal.1, ?_⟩
        · refine VR.slice (x := ⟨w.heap.size, _, ei.size⟩) (by simp [Ren.put]; rfl) (.inr ⟨hnc, ?_⟩)
          right
          show 0 + newCap * ei.size ≤ _
          rw [hs1]
          simp
          omega
        · exact ⟨hal.2.le, hal.2.same, hal.2.len, hal.2.fresh, hal.2.os, hal.2.tape, hal.2.output, hal.2.size, hal.2.kept, hal.2.own⟩
      · cases h
    · cases h
  · cases h
def abuildSliceG (P : Program) (t : TypeId) (len : Nat) (parts : List (Nat × Value)) (m : Mem) : Option (Value × Mem) :=
  match P.underlying t with
  | some (.slice elem) =>
    match zeroG P elem, P.info? elem with
    | some zs, some ei =>
      if zs.length = ei.size ∧ len * ei.size ≤ 16777216 ∧ 0 < len * ei.size then
        match afillG (fun i => some (i * ei.size, ei.size)) ((List.range (len * ei.size)).map (fun i => zs[i % zs.length]!)) parts with
        | some l => some (.slice (some ⟨m.length, 0, none⟩) len len, m ++ [.row false elem l])
        | none => none
      else none
    | _, _ => none
  | _ => none
theorem abuildSliceG_sound {P : Program} {ρ : Ren} {m m1 : Mem} {w : World} (hm : MR P ρ m w) {t : TypeId} {len : Nat} {parts parts' : List (Nat × Value)} {u : Value} (hl : parts.length = parts'.length)
    (hp : ∀ (i : Nat) (p p' : Nat × Value), parts[i]? = some p → parts'[i]? = some p' → p'.1 = p.1 ∧ VR ρ p.2 p'.2) (h : abuildSliceG P t len parts m = some (u, m1)) :
    ∃ u' w1 ρ1, (Instr.buildSlice t len parts'.toArray).run P w = .ok u' w1 ∧ VR ρ1 u u' ∧ MR P ρ1 m1 w1 ∧ Ext ρ m w ρ1 m1 w1 := by
  unfold abuildSliceG at h
  split at h
  · rename_i elem hu
    split at h
    · rename_i zs ei hz hei
      split at h
      · rename_i hc
        obtain ⟨hzl, hle, hpos⟩ := hc
        split at h
        · rename_i l hf
          cases h
          obtain ⟨hzr, hlit⟩ := zeroG_run hz w
          have hzs : ∀ i, i < len * ei.size → lit0 (zs[i % zs.length]!) = true := by
            intro i hi
            have h0 : 0 < zs.length := by
              rw [hzl]
              exact Nat.pos_of_ne_zero (fun e => by rw [e] at hpos; simp at hpos)
            have h1 : i % zs.length < zs.length := Nat.mod_lt _ h0
            rw [getElem!_pos zs _ h1]
            exact (List.all_eq_true.1 hlit) _ (List.getElem_mem h1)
          obtain ⟨c', hfill, hn, hv⟩ := afillG_sound (ρ := ρ) (fun i => some (i * ei.size, ei.size)) parts parts' _ ((Array.range (len * ei.size)).map ((⟨zs⟩ : Array Value)[· % (⟨zs⟩ : Array Value).size]!)) l hl hp (by simp) (fun j x y hx hy => by
            simp only [List.getElem?_map, List.getElem?_range', Array.getElem?_map] at hx hy
            by_cases hj : j < len * ei.size
            · rw [List.getElem?_range hj] at hx
              rw [Array.getElem?_range, if_pos hj] at hy
              simp at hx hy
              subst hx hy
              have h9 := hzs j hj
              rw [List.getElem!_eq_getElem?_getD] at h9
              exact .lit (lit2_of_lit1 (lit1_of_lit0 h9))
            · rw [List.getElem?_eq_none (by simp; omega)] at hx
              cases hx) hf
          have hal := hm.alloc (e := elem) (cs := l) (c := c') (s := ei.size) (ro := false) (0, 0) (fun _ => loose_zero _) (by rw [hei]; rfl) (by omega) (fun j y hy => by
            have hj : j < c'.size := by rw [← hn]; exact (List.getElem?_eq_some_iff.1 hy).1
            exact ⟨c'[j], by simp [hj], hv j y _ hy (by simp [hj])⟩)
          refine ⟨.slice (some ⟨w.heap.size, 0, none⟩) len len, _, _, ?_, ?_, hal.1, hal.2⟩
          · simp only [Instr.buildSlice, Sem.run_bind, run_underlying hu, Result.andThen_ok, run_sizeOf' hei]
            rw [if_neg (by omega), if_neg (by omega)]
            simp only [Sem.run_bind, hzr, Result.andThen_ok, Sem.run_pure, Value.cells]
            rw [hfill]
            simp only [newRow, Sem.run_bind, run_newObj, Result.andThen_ok, Sem.run_pure]
            rfl
          · exact VR.slice (x := ⟨w.heap.size, c'.size, ei.size⟩) (by simp [Ren.put]) (.inl rfl)
        · cases h
      · cases h
    · cases h
  · cases h
end
end Go.Am
