/-
  The abstract machine: slices, new variables, and one operation that is no call (own work; nothing of a dump).
-/
import Derived.Test.YtmopnogcdjehmaaDoorAmF
set_option linter.unusedSimpArgs false
set_option linter.unusedVariables false
namespace Go.Am
noncomputable section

/-- x[lo:hi] of an array behind a pointer, and of a slice that isn't nil. -/
def aslice (P : Program) (t : TypeId) (v : Value) (lo hi : Option Value) (m : Mem) : Option Value :=
  match P.underlying t, v with
  | some (.array n elem), .pointer (some ⟨b, o, none⟩) =>
    match P.info? elem with
    | some e =>
      match abounds n n lo hi with
      | some (l, h) => some (.slice (some ⟨b, if n = l then o else o + l * e.size, none⟩) (h - l) (n - l))
      | none => none
    | none => none
  | some (.slice elem), .slice (some ⟨b, o, none⟩) len c =>
    match P.info? elem, look m b with
    | some e, some (_, be, _) =>
      match P.info? be with
      | some bi =>
        match abounds len c lo hi with
        | some (l, h) => if l = c ∨ bi.size < e.size ∨ c < len then none else some (.slice (some ⟨b, o + l * e.size, none⟩) (h - l) (c - l))
        | none => none
      | none => none
    | _, _ => none
  | _, _ => none

theorem aslice_sound {P : Program} {ρ : Ren} {m : Mem} {w : World} (hm : MR P ρ m w) {t : TypeId} {v v' u : Value} {lo hi lo' hi' : Option Value} (hv : VR ρ v v')
    (hlo : ∀ v, lo = some v → ∃ v', lo' = some v' ∧ VR ρ v v') (hlo0 : lo = none → lo' = none) (hhi : ∀ v, hi = some v → ∃ v', hi' = some v' ∧ VR ρ v v') (hhi0 : hi = none → hi' = none)
    (h : aslice P t v lo hi m = some u) :
    ∃ u', (Instr.sliceAt t v' lo' hi' none).run P w = .ok u' w ∧ VR ρ u u' := by
  unfold aslice at h
  split at h
  · rename_i n elem b o hu
    split at h
    · rename_i e he
      split at h
      · rename_i l h0 hb
        cases h
        obtain ⟨x, hx, rfl⟩ := vr_ptr_inv hv
        obtain ⟨hr, h1, h2⟩ := abounds_sound (P := P) (w := w) false hlo hlo0 hhi hhi0 (Nat.le_refl _) (Nat.le_refl _) hb
        refine ⟨.slice (some ⟨x.r, if n = l then o else o + l * e.size, none⟩) (h0 - l) (n - l), ?_, .slice hx (.inl rfl)⟩
        simp only [Instr.sliceAt, Sem.run_bind, run_underlying hu, Result.andThen_ok, Instr.sureAddr, Sem.run_pure, hr, run_sizeOf' he, add_plain]
        split <;> rfl
      · cases h
    · cases h
  · rename_i elem b o len c hu
    split at h
    · rename_i e ro be cs he hbk
      split at h
      · rename_i bi hbi
        split at h
        · rename_i l h0 hb
          split at h
          · cases h
          · rename_i hno
            cases h
            obtain ⟨x, c', hx, rfl, hc⟩ := vr_slice_inv hv
            obtain ⟨x', c1, fr, hx', hw, hn, hl, _, _, hs⟩ := hm.row b ro be cs hbk
            rw [hx] at hx'; cases hx'
            rw [hbi] at hs
            simp only [Option.map_some, Option.some.injEq] at hs
            have hcc : c ≤ c' := by rcases hc with rfl | ⟨h, _⟩ <;> omega
            obtain ⟨hr, h1, h2⟩ := abounds_sound (P := P) (w := w) true hlo hlo0 hhi hhi0 hcc (by omega) hb
            refine ⟨.slice (some ⟨x.r, o + l * e.size, none⟩) (h0 - l) (c' - l), ?_, .slice hx ?_⟩
            · simp only [Instr.sliceAt, Instr.slice, Sem.run_bind, run_underlying hu, Result.andThen_ok, hr, run_sizeOf' he, Sem.run_pure]
              rw [if_neg (by omega)]
              simp only [Option.map_some, add_plain]
            · rcases hc with rfl | ⟨h3, h4⟩
              · left; rfl
              · right
                refine ⟨by omega, ?_⟩
                have h5 : l * e.size ≤ l * x.s := Nat.mul_le_mul_left _ (by omega)
                have h6 : l * x.s + (c' - l) * x.s = c' * x.s := by rw [← Nat.add_mul]; congr 1; omega
                omega
        · cases h
      · cases h
    · cases h
  · cases h

/-- A new variable with its zero value. -/
def aalloc (P : Program) (e : TypeId) (m : Mem) : Option (Value × Mem) :=
  match P.info? e with
  | some i => match i.zero with
    | some z => match vcells z with
      | some l => if l.all lit0 then some (.pointer (some ⟨m.length, 0, none⟩), m ++ [.row false e l]) else none
      | none => none
    | none => none
  | none => none

/-- A new variable with a value. -/
def abox (P : Program) (e : TypeId) (v : Value) (m : Mem) : Option (Value × Mem) :=
  match P.info? e with
  | some _ => match vcells v with
    | some l => some (.pointer (some ⟨m.length, 0, none⟩), m ++ [.row false e l])
    | none => none
  | none => none

theorem loose_zero (n : Nat) : Loose (0, 0) n := fun i _ h => by simp at h

theorem abox_sound {P : Program} {ρ : Ren} {m m1 : Mem} {w : World} (hm : MR P ρ m w) {e : TypeId} {v v' u : Value} (hv : VR ρ v v') (h : abox P e v m = some (u, m1)) :
    ∃ u' w1 ρ1, (Instr.box e v').run P w = .ok u' w1 ∧ VR ρ1 u u' ∧ MR P ρ1 m1 w1 ∧ Ext ρ m w ρ1 m1 w1 := by
  unfold abox at h
  split at h
  · rename_i i hi
    split at h
    · rename_i l hl
      cases h
      obtain ⟨h1, h2, _⟩ := vcells_vr hv hl
      have := hm.alloc (e := e) (cs := l) (c := v'.cells) (s := i.size) (ro := false) (0, 0) (fun _ => loose_zero _) (by rw [hi]; rfl) (by omega) (fun j y hy => by
        have hj : j < v'.cells.size := by rw [← h1]; exact (List.getElem?_eq_some_iff.1 hy).1
        exact ⟨v'.cells[j], by simp [hj], h2 j y _ hy (by simp [hj])⟩)
      refine ⟨.pointer (some ⟨w.heap.size, 0, none⟩), _, _, ?_, ?_, this.1, this.2⟩
      · simp only [Instr.box, newVar, newRow, Sem.run_bind, run_newObj, Result.andThen_ok, Sem.run_pure]
        rfl
      · exact VR.ptr (x := ⟨w.heap.size, v'.cells.size, i.size⟩) (by simp [Ren.put])
    · cases h
  · cases h

theorem aalloc_sound {P : Program} {ρ : Ren} {m m1 : Mem} {w : World} (hm : MR P ρ m w) {e : TypeId} {u : Value} (h : aalloc P e m = some (u, m1)) :
    ∃ u' w1 ρ1, (Instr.alloc e true (.tuple #[])).run P w = .ok u' w1 ∧ VR ρ1 u u' ∧ MR P ρ1 m1 w1 ∧ Ext ρ m w ρ1 m1 w1 := by
  unfold aalloc at h
  split at h
  · rename_i i hi
    split at h
    · rename_i z hz
      split at h
      · rename_i l hl
        split at h
        · rename_i hall
          cases h
          have hzv : VR ρ z z := by
            cases z <;> simp only [vcells] at hl
            case agg cs =>
              split at hl
              · cases hl; exact .lit (by simpa [lit2, lit1] using hall)
              · cases hl
            case tuple => cases hl
            case chan r => cases r <;> simp at hl; subst hl; exact .lit (lit2_of_lit1 (lit1_of_lit0 (by simpa using hall)))
            all_goals (simp only [Option.some.injEq] at hl; subst hl; exact .lit (lit2_of_lit1 (lit1_of_lit0 (by simpa using hall))))
          obtain ⟨u', w1, ρ1, hr, hrest⟩ := abox_sound (e := e) (m1 := m ++ [.row false e l]) (u := .pointer (some ⟨m.length, 0, none⟩)) hm hzv (by simp [abox, hi, hl])
          refine ⟨u', w1, ρ1, ?_, hrest⟩
          simp only [Instr.alloc, zeroValue, Sem.run_bind, run_typeInfo' hi, Result.andThen_ok, hz, Sem.run_pure]
          simpa [Instr.box] using hr
        · cases h
      · cases h
    · cases h
  · cases h

/-- A part of a tuple. -/
def aextract (v : Value) (i : Nat) : Option Value :=
  match v with
  | .tuple vs => vs.toList[i]?
  | _ => none

theorem aextract_sound {P : Program} {ρ : Ren} {w : World} {v v' u : Value} {i : Nat} (hv : VR ρ v v') (h : aextract v i = some u) :
    ∃ u', (Instr.extract v' i).run P w = .ok u' w ∧ VR ρ u u' := by
  unfold aextract at h
  split at h
  · rename_i vs
    cases hv with
    | lit hl =>
      refine ⟨u, ?_, .lit ?_⟩
      · have : vs[i]? = some u := by simpa using h
        simp [Instr.extract, this]
      · simp only [lit2] at hl
        exact lit2_of_lit1 ((List.all_eq_true.1 hl) u (List.mem_of_getElem? h))
    | tuple hn hx =>
      rename_i l l'
      have hi : i < l.length := (List.getElem?_eq_some_iff.1 h).1
      have hi' : i < l'.length := by omega
      refine ⟨l'[i], ?_, hx i _ _ h (by simp [hi'])⟩
      simp [Instr.extract, hi']
  · cases h

/-- An operation that only computes, over operands without addresses. -/
def apure (P : Program) (T : List Value) (o : Oper) : Option Value :=
  if o.op.operands.toList.all (fun x => lit2 (ev T x)) then
    match pv P (execOp (ev T) o) with
    | some (.value v) => if lit2 v then some v else none
    | _ => none
  else none

def isSelect : Op → Bool
  | .select _ _ => true
  | _ => false

/-- An element of an array, a letter of a text. -/
def aindex (P : Program) (t : TypeId) (v ix : Value) : Option Value :=
  match ix with
  | .int _ i =>
    match v with
    | .agg cs => match P.underlying t with
      | some (.array len elem) => if 0 ≤ i ∧ i < (len : Int) then match P.info? elem with
          | some e => match P.underlying elem with
            | some d => match aggD d with
              | false => cs.toList[i.toNat * e.size]?
              | true => none
            | none => none
          | none => none
        else none
      | _ => none
    | .string s => match P.underlying t with
      | some .string => if 0 ≤ i then match s.data.toList[i.toNat]? with
          | some b => some (.int .u8 (b.toNat : Int))
          | none => none
        else none
      | _ => none
    | _ => none
  | _ => none

theorem aindex_sound {P : Program} {ρ : Ren} {w : World} {t : TypeId} {v v' ix ix' u : Value} (hv : VR ρ v v') (hi : VR ρ ix ix') (h : aindex P t v ix = some u) :
    ∃ u', (Instr.index t v' ix').run P w = .ok u' w ∧ VR ρ u u' := by
  unfold aindex at h
  split at h
  · rename_i k i
    have := vr_int_inv hi; subst this
    split at h
    · rename_i cs
      split at h
      · rename_i len elem hu
        split at h
        · rename_i hb
          split at h
          · rename_i e he
            split at h
            · rename_i d hd
              split at h
              · rename_i hag
                have fin : ∀ (l : List Value) (y : Value), l[i.toNat * e.size]? = some y → (Instr.index t (.agg ⟨l⟩) (.int k i)).run P w = .ok y w := by
                  intro l y hy
                  simp only [Instr.index, asIntOf, Sem.run_bind, Sem.run_pure, Result.andThen_ok, run_underlying hu, hb, and_self, if_true, run_sizeOf' he, part, run_isAgg' hd, hag, Bool.false_eq_true, if_false]
                  simp [hy]
                cases hv with
                | lit hl =>
                  refine ⟨u, fin cs.toList u h, .lit ?_⟩
                  simp only [lit2, lit1] at hl
                  exact lit2_of_lit1 (lit1_of_lit0 ((List.all_eq_true.1 hl) u (List.mem_of_getElem? h)))
                | agg hn hx =>
                  rename_i l l'
                  have hlt : i.toNat * e.size < l.length := (List.getElem?_eq_some_iff.1 h).1
                  have hlt' : i.toNat * e.size < l'.length := by omega
                  exact ⟨l'[i.toNat * e.size], fin l' _ (by simp [hlt']), hx _ _ _ h (by simp [hlt'])⟩
              · cases h
            · cases h
          · cases h
        · cases h
      · cases h
    · rename_i s
      have := hv.eq_of_lit2 rfl; subst this
      split at h
      · rename_i hu
        split at h
        · rename_i hb
          split at h
          · rename_i b hs
            cases h
            refine ⟨_, ?_, .lit rfl⟩
            have hg : s[i.toNat]? = some b := by
              have hlt : i.toNat < s.data.toList.length := (List.getElem?_eq_some_iff.1 hs).1
              have hlt' : i.toNat < s.size := by simpa using hlt
              have e1 := (List.getElem?_eq_some_iff.1 hs).2
              rw [getElem?_pos s i.toNat hlt']
              congr 1
            simp only [Instr.index, asIntOf, Sem.run_bind, Sem.run_pure, Result.andThen_ok, run_underlying hu, hb, if_true, hg]
          · cases h
        · cases h
      · cases h
    · cases h
  · cases h

/-- A number as one of another kind. -/
def aconv (P : Program) (src dst : TypeId) (v : Value) : Option Value :=
  match v with
  | .int _ n => match P.underlying src with
    | some _ => match P.underlying dst with
      | some (.int k) => some (.int k (wrapF k n))
      | _ => none
    | none => none
  | _ => none

theorem aconv_sound {P : Program} {ρ : Ren} {w : World} {src dst : TypeId} {v v' u : Value} (hv : VR ρ v v') (h : aconv P src dst v = some u) :
    (convert src dst v').run P w = .ok u w ∧ lit2 u = true := by
  unfold aconv at h
  split at h
  · rename_i k0 n
    have := vr_int_inv hv; subst this
    split at h
    · rename_i d hd
      split at h
      · rename_i k hk
        cases h
        refine ⟨?_, rfl⟩
        simp only [convert, Sem.run_bind, run_underlying hd, run_underlying hk, Result.andThen_ok, Conv.intToInt, Sem.run_pure, wrapF_eq]
      · cases h
    · cases h
  · cases h

/-- One operation that is no call of a function. -/
def aop (P : Program) (T : List Value) (m : Mem) (o : Oper) : Option (Value × Mem) :=
  match o.op with
  | .move x => some (ev T x, m)
  | .assign x => some (ev T x, m)
  | .pick c a b => match ev T c with
    | .bool t => some (if t then ev T a else ev T b, m)
    | _ => none
  | .alloc e => aalloc P e m
  | .box e x => abox P e (ev T x) m
  | .load t x => (aload P t (ev T x) m).map (·, m)
  | .store t x y => (astore P t (ev T x) (ev T y) m).map (undef, ·)
  | .indexAddr t x ix => (aindexAddr P t (ev T x) (ev T ix)).map (·, m)
  | .fieldAddr s x f => (afieldAddr P s (ev T x) f).map (·, m)
  | .slice t x lo hi none => match ev T x with
    | .pointer (some _) | .slice (some _) _ _ => (aslice P t (ev T x) (lo.map (ev T)) (hi.map (ev T)) m).map (·, m)
    | _ => (apure P T o).map (·, m)
  | .extract x i => (aextract (ev T x) i).map (·, m)
  | .binOp op _ x y _ => match ev T x with
    | .int k a => match ev T y with
      | .int k' b => match abin op k a k' b with
        | some v => some (v, m)
        | none => (apure P T o).map (·, m)
      | _ => (apure P T o).map (·, m)
    | _ => (apure P T o).map (·, m)
  | .unOp .not _ x => match ev T x with
    | .bool b => some (.bool !b, m)
    | _ => (apure P T o).map (·, m)
  | .convert src dst x => match aconv P src dst (ev T x) with
    | some v => some (v, m)
    | none => (apure P T o).map (·, m)
  | .index t x ix => match aindex P t (ev T x) (ev T ix) with
    | some v => some (v, m)
    | none => (apure P T o).map (·, m)
  | .nilCheck x => match ev T x with
    | .pointer (some a) => some (.pointer (some a), m)
    | _ => (apure P T o).map (·, m)
  | _ => (apure P T o).map (·, m)

/-- What an operation of the model comes to. -/
def Got (r : Result Next) (v : Value) (w : World) : Prop := r = .ok (.value v) w ∨ (r = .ok .skip w ∧ v = undef)

def okOp (P : Program) (op : Op) : Bool := op.operands.toList.all (okOperand P) && !isSelect op

/-- Sound: the abstract operation and the model's. -/
def Sound (P : Program) (ρ : Ren) (m : Mem) (w : World) (r : Result Next) (v : Value) (m1 : Mem) : Prop :=
  ∃ v' w1 ρ1, Got r v' w1 ∧ VR ρ1 v v' ∧ MR P ρ1 m1 w1 ∧ Ext ρ m w ρ1 m1 w1

theorem apure_sound {P : Program} {ρ : Ren} {m : Mem} {w : World} {T : List Value} {a : Act} {o : Oper} (hm : MR P ρ m w) (hev : ∀ x, x ∈ o.op.operands.toList → VR ρ (ev T x) (a.eval x)) (hok : okOp P o.op = true) {v : Value}
    (h : apure P T o = some v) : Sound P ρ m w ((execOp a.eval o).run P w) v m := by
  unfold apure at h
  split at h
  · rename_i hall
    split at h
    · rename_i v0 hv
      split at h
      · rename_i hlit
        cases h
        simp only [okOp, Bool.and_eq_true] at hok
        have hsel : ∀ cs b, o.op ≠ .select cs b := by
          intro cs b e
          rw [e] at hok
          simp [isSelect] at hok
        have heq : execOp a.eval o = execOp (ev T) o := execOp_congr o hsel fun x hx => by
          have hx' : x ∈ o.op.operands.toList := by simpa using hx
          exact (hev x hx').eq_of_lit2 ((List.all_eq_true.1 hall) x hx')
        exact ⟨v, w, ρ, .inl (by rw [heq]; exact pv_run hv w), .lit hlit, hm, Ext.refl' _ hm.dom⟩
      · cases h
    · cases h
  · cases h

theorem sound_map {P : Program} {T : List Value} {o : Oper} {m m1 : Mem} {v : Value} (h : (apure P T o).map (·, m) = some (v, m1)) : apure P T o = some v ∧ m1 = m := by
  cases hp : apure P T o with
  | none => rw [hp] at h; cases h
  | some u => rw [hp] at h; simp at h; exact ⟨by rw [h.1], h.2.symm⟩

theorem map_pair {α : Type} {x : Option Value} {m m1 : α} {v : Value} (h : x.map (·, m) = some (v, m1)) : x = some v ∧ m1 = m := by
  cases x with
  | none => cases h
  | some u => simp at h; exact ⟨by rw [h.1], h.2.symm⟩

theorem vr_ptr_some {ρ : Ren} {ad : Addr} {v' : Value} (h : VR ρ (.pointer (some ad)) v') : ∃ b o x, ad = ⟨b, o, none⟩ ∧ ρ b = some x ∧ v' = .pointer (some ⟨x.r, o, none⟩) := by
  cases h with
  | lit h => simp [lit2, lit1, lit0] at h
  | ptr h => exact ⟨_, _, _, rfl, h, rfl⟩

theorem aop_sound {P : Program} {ρ : Ren} {m m1 : Mem} {w : World} {T : List Value} {a : Act} {o : Oper} (hm : MR P ρ m w) (hev : ∀ x, x ∈ o.op.operands.toList → VR ρ (ev T x) (a.eval x)) (hok : okOp P o.op = true) {v : Value}
    (h : aop P T m o = some (v, m1)) : Sound P ρ m w ((execOp a.eval o).run P w) v m1 := by
  unfold aop at h
  split at h
  · rename_i x ho
    cases h
    exact ⟨_, w, ρ, .inl (by simp only [execOp, ho]; rfl), hev x (by simp [ho, Op.operands]), hm, Ext.refl' _ hm.dom⟩
  · rename_i x ho
    cases h
    exact ⟨_, w, ρ, .inl (by simp only [execOp, ho]; rfl), hev x (by simp [ho, Op.operands]), hm, Ext.refl' _ hm.dom⟩
  · rename_i c x y ho
    split at h
    · rename_i t hc
      cases h
      have h0 := hev c (by simp [ho, Op.operands])
      rw [hc] at h0
      have h0' : a.eval c = .bool t := h0.eq_of_lit2 rfl
      refine ⟨if t then a.eval x else a.eval y, w, ρ, .inl (by simp [execOp, ho, h0', asBool]), ?_, hm, Ext.refl' _ hm.dom⟩
      cases t
      · exact hev y (by simp [ho, Op.operands])
      · exact hev x (by simp [ho, Op.operands])
    · cases h
  · rename_i e ho
    obtain ⟨u', w1, ρ1, hr, hrest⟩ := aalloc_sound hm h
    exact ⟨u', w1, ρ1, .inl (by simp [execOp, ho, hr]), hrest⟩
  · rename_i e x ho
    obtain ⟨u', w1, ρ1, hr, hrest⟩ := abox_sound hm (hev x (by simp [ho, Op.operands])) h
    exact ⟨u', w1, ρ1, .inl (by simp [execOp, ho, hr]), hrest⟩
  · rename_i t x ho
    obtain ⟨h9, rfl⟩ := map_pair h
    obtain ⟨u', hr, hv⟩ := aload_sound hm (hev x (by simp [ho, Op.operands])) h9
    exact ⟨u', w, ρ, .inl (by simp [execOp, ho, hr]), hv, hm, Ext.refl' _ hm.dom⟩
  · rename_i t x y ho
    cases hs : astore P t (ev T x) (ev T y) m with
    | none => rw [hs] at h; cases h
    | some m2 =>
      rw [hs] at h
      simp at h
      obtain ⟨rfl, rfl⟩ := h
      obtain ⟨w1, hr, h1, h2⟩ := astore_sound hm (hev x (by simp [ho, Op.operands])) (hev y (by simp [ho, Op.operands])) hs
      exact ⟨undef, w1, ρ, .inr ⟨by simp [execOp, ho, hr], rfl⟩, vr_undef ρ, h1, h2⟩
  · rename_i t x ix ho
    obtain ⟨h9, rfl⟩ := map_pair h
    obtain ⟨u', hr, hv⟩ := aindexAddr_sound (w := w) (hev x (by simp [ho, Op.operands])) (hev ix (by simp [ho, Op.operands])) h9
    exact ⟨u', w, ρ, .inl (by simp [execOp, ho, hr]), hv, hm, Ext.refl' _ hm.dom⟩
  · rename_i s x f ho
    obtain ⟨h9, rfl⟩ := map_pair h
    obtain ⟨u', hr, hv⟩ := afieldAddr_sound (w := w) (hev x (by simp [ho, Op.operands])) h9
    exact ⟨u', w, ρ, .inl (by simp [execOp, ho, hr]), hv, hm, Ext.refl' _ hm.dom⟩
  · rename_i t x lo hi ho
    have hs : (aslice P t (ev T x) (lo.map (ev T)) (hi.map (ev T)) m).map (·, m) = some (v, m1) → Sound P ρ m w ((execOp a.eval o).run P w) v m1 := by
      intro h
      obtain ⟨h9, rfl⟩ := map_pair h
      obtain ⟨u', hr, hv⟩ := aslice_sound (w := w) (lo' := lo.map a.eval) (hi' := hi.map a.eval) hm (hev x (by simp [ho, Op.operands]))
        (fun v hv => by cases lo with | none => cases hv | some y => cases hv; exact ⟨_, rfl, hev y (by simp [ho, Op.operands])⟩) (fun hv => by cases lo with | none => rfl | some y => cases hv)
        (fun v hv => by cases hi with | none => cases hv | some y => cases hv; exact ⟨_, rfl, hev y (by simp [ho, Op.operands])⟩) (fun hv => by cases hi with | none => rfl | some y => cases hv) h9
      exact ⟨u', w, ρ, .inl (by simp [execOp, ho, hr]), hv, hm, Ext.refl' _ hm.dom⟩
    split at h
    · exact hs h
    · exact hs h
    · obtain ⟨h9, rfl⟩ := sound_map h
      exact apure_sound hm hev hok h9
  · rename_i x i ho
    obtain ⟨h9, rfl⟩ := map_pair h
    obtain ⟨u', hr, hv⟩ := aextract_sound (P := P) (w := w) (hev x (by simp [ho, Op.operands])) h9
    exact ⟨u', w, ρ, .inl (by simp [execOp, ho, hr]), hv, hm, Ext.refl' _ hm.dom⟩
  · rename_i op t x y t' ho
    split at h
    · rename_i k a0 hx
      split at h
      · rename_i k' b0 hy
        split at h
        · rename_i v0 hb
          cases h
          have h1 := hev x (by simp [ho, Op.operands])
          have h2 := hev y (by simp [ho, Op.operands])
          rw [hx] at h1
          rw [hy] at h2
          have e1 := vr_int_inv h1
          have e2 := vr_int_inv h2
          refine ⟨v, w, ρ, .inl ?_, .lit (abin_lit hb), hm, Ext.refl' _ hm.dom⟩
          have hgd : (eqGuard op t x y (.int k a0) (.int k' b0)).run P w = .ok () w := by
            unfold eqGuard
            cases op <;> simp
          simp [execOp, ho, e1, e2, hgd, abin_sound t hb]
        · obtain ⟨h9, rfl⟩ := sound_map h
          exact apure_sound hm hev hok h9
      · obtain ⟨h9, rfl⟩ := sound_map h
        exact apure_sound hm hev hok h9
    · obtain ⟨h9, rfl⟩ := sound_map h
      exact apure_sound hm hev hok h9
  · rename_i t x ho
    split at h
    · rename_i b hx
      cases h
      have h1 := hev x (by simp [ho, Op.operands])
      rw [hx] at h1
      have e1 : a.eval x = .bool b := h1.eq_of_lit2 rfl
      exact ⟨.bool !b, w, ρ, .inl (by simp [execOp, ho, e1, Op.unary]), .lit rfl, hm, Ext.refl' _ hm.dom⟩
    · obtain ⟨h9, rfl⟩ := sound_map h
      exact apure_sound hm hev hok h9
  · rename_i src dst x ho
    split at h
    · rename_i v0 hc
      cases h
      obtain ⟨hr, hl⟩ := aconv_sound (w := w) (hev x (by simp [ho, Op.operands])) hc
      exact ⟨v, w, ρ, .inl (by simp [execOp, ho, hr]), .lit hl, hm, Ext.refl' _ hm.dom⟩
    · obtain ⟨h9, rfl⟩ := sound_map h
      exact apure_sound hm hev hok h9
  · rename_i t x ix ho
    split at h
    · rename_i v0 hc
      cases h
      obtain ⟨u', hr, hv⟩ := aindex_sound (P := P) (w := w) (hev x (by simp [ho, Op.operands])) (hev ix (by simp [ho, Op.operands])) hc
      exact ⟨u', w, ρ, .inl (by simp [execOp, ho, hr]), hv, hm, Ext.refl' _ hm.dom⟩
    · obtain ⟨h9, rfl⟩ := sound_map h
      exact apure_sound hm hev hok h9
  · rename_i x ho
    split at h
    · rename_i ad hx
      cases h
      have h0 := hev x (by simp [ho, Op.operands])
      rw [hx] at h0
      obtain ⟨b, off, y, rfl, hb, e1⟩ := vr_ptr_some h0
      refine ⟨_, w, ρ, .inl ?_, .ptr hb, hm, Ext.refl' _ hm.dom⟩
      simp only [execOp, ho, e1]
      rfl
    · obtain ⟨h9, rfl⟩ := sound_map h
      exact apure_sound hm hev hok h9
  · obtain ⟨h9, rfl⟩ := sound_map h
    exact apure_sound hm hev hok h9

end
end Go.Am
