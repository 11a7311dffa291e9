/-
  The abstract machine: calls and regions in the text's order (own work; nothing of a dump).
-/
import Derived.Test.YtfgincdpgdlfnaaDoorGrLimbTexts3
set_option linter.unusedSimpArgs false
set_option linter.unusedVariables false
namespace Go.Am
noncomputable section
abbrev Self := FuncId → List Value → Mem → Option (Value × Mem)
structure Env where
  P : Program
  G : Nat
  wr : FuncId → Bool
  ext : FuncId → Option XK
  fast : FuncId → Option (List Value → Option Value)
  strict : Bool
  good : FuncId → Bool
  sr : Nat → Array Oper → Bool := fun _ _ => false
  mkr : Nat → Array Oper → Bool := fun _ _ => false
def sealed : Blk → Blk
  | .row _ e cs => .row true e cs
  | b => b
def onlyTab : Blk → Blk
  | .tab e cs => .tab e cs
  | _ => .dead
def ainv (E : Env) (self : Self) (g : FuncId) (args : List Value) (m : Mem) : Option (Value × Mem) :=
  if args.all lit2 then
    match E.fast g with
    | some F => match F args with
      | some v => if lit2 v then some (v, m) else none
      | none => none
    | none => match self g args ((m.take E.G).map onlyTab) with
      | some (v, m1) => acoll m ((m.take E.G).map onlyTab).length v m1
      | none => none
  else if E.wr g then self g args m
  else
    match self g args (m.map sealed) with
    | some (v, m1) => acoll m (m.map sealed).length v m1
    | none => none
def Ends (P : Program) (ρ : Ren) (m : Mem) (w : World) (v : Value) (m1 : Mem) (e : Ending) (w1 : World) : Prop :=
  ∃ v' ρ1, e = .returned v' ∧ VR ρ1 v v' ∧ MR P ρ1 m1 w1 ∧ Ext ρ m w ρ1 m1 w1
def CallOK (P : Program) (self : Self) : Prop :=
  ∀ f args m v m1, self f args m = some (v, m1) → ∀ ρ w (args' : Array Value), MR P ρ m w → TR ρ args args' → Calls P f args' w (Ends P ρ m w v m1)
theorem mr_onlyTab {P : Program} {ρ : Ren} {m : Mem} {w : World} (h : MR P ρ m w) {G : Nat} (hG : P.globals.size ≤ G) :
    MR P (fun k => if k < G then ρ k else none) ((m.take G).map onlyTab) w := by
  have hget : ∀ k b, ((m.take G).map onlyTab)[k]? = some b → k < G ∧ ∃ b0, m[k]? = some b0 ∧ b = onlyTab b0 := by
    intro k b hb
    rw [List.getElem?_map, List.getElem?_take] at hb
    split at hb
    · rename_i hk
      cases hm : m[k]? with
      | none => rw [hm] at hb; cases hb
      | some b0 => rw [hm] at hb; simp at hb; exact ⟨hk, b0, rfl, hb.symm⟩
    · cases hb
  have hlook : ∀ k ro e cs, look ((m.take G).map onlyTab) k = some (ro, e, cs) → k < G ∧ ro = true ∧ m[k]? = some (.tab e cs) := by
    intro k ro e cs hk
    unfold look at hk
    split at hk
    · rename_i b hb
      obtain ⟨h1, b0, h2, rfl⟩ := hget k b hb
      cases b0 <;> simp [onlyTab, Blk.cells?] at hk
      obtain ⟨rfl, rfl, rfl⟩ := hk
      exact ⟨h1, rfl, h2⟩
    · cases hk
  refine ⟨?_, ?_, ?_, ?_, ?_, ?_⟩
  · intro k hk
    simp at hk
    split
    · exact h.dom k (by omega)
    · rfl
  · intro k x hx
    split at hx
    · exact h.bnd k x hx
    · cases hx
  · intro g hg
    obtain ⟨x, h1, h2⟩ := h.glob g hg
    exact ⟨x, by rw [if_pos (by omega)]; exact h1, h2⟩
  · intro k ro e cs hk
    obtain ⟨h1, rfl, h2⟩ := hlook k ro e cs hk
    have hl : look m k = some (true, e, cs) := by simp [look, h2, Blk.cells?]
    obtain ⟨x, c, fr, hx, hw, hn, hlen, hi, hf, hs⟩ := h.row k true e cs hl
    refine ⟨x, c, fr, by rw [if_pos h1]; exact hx, hw, hn, hlen, fun i u hu => ?_, fun hh => (by cases hh), hs⟩
    obtain ⟨y, hy, hr⟩ := hi i u hu
    have h0 := h.tab k e cs h2 u (List.mem_of_getElem? hu)
    rw [hr.eq_of_lit0 h0] at hy
    exact ⟨u, hy, .lit (lit2_of_lit1 (lit1_of_lit0 h0))⟩
  · intro k e cs k' ro' e' cs' x x' hk
    obtain ⟨_, b0, _, h2⟩ := hget k _ hk
    cases b0 <;> simp [onlyTab] at h2
  · intro k e cs hk
    obtain ⟨_, b0, h1, h2⟩ := hget k _ hk
    cases b0 <;> simp [onlyTab] at h2
    obtain ⟨rfl, rfl⟩ := h2
    exact h.tab k _ _ h1
theorem onlyTab_ro {m : Mem} {G : Nat} (k : Nat) (e : TypeId) (cs : List Value) : ((m.take G).map onlyTab)[k]? ≠ some (Blk.row false e cs) := by
  intro h
  rw [List.getElem?_map] at h
  cases hm : (m.take G)[k]? with
  | none => rw [hm] at h; cases h
  | some b => rw [hm] at h; cases b <;> simp [onlyTab] at h
theorem sealed_ro {m : Mem} (k : Nat) (e : TypeId) (cs : List Value) : (m.map sealed)[k]? ≠ some (Blk.row false e cs) := by
  intro h
  rw [List.getElem?_map] at h
  cases hm : m[k]? with
  | none => rw [hm] at h; cases h
  | some b => rw [hm] at h; cases b <;> simp [sealed] at h
theorem mr_sealed {P : Program} {ρ : Ren} {m : Mem} {w : World} (h : MR P ρ m w) : MR P ρ (m.map sealed) w := by
  have hlook : ∀ k ro e cs, look (m.map sealed) k = some (ro, e, cs) → ∃ ro0, ro = true ∧ look m k = some (ro0, e, cs) := by
    intro k ro e cs hk
    unfold look at hk
    split at hk
    · rename_i b hb
      rw [List.getElem?_map] at hb
      cases hm : m[k]? with
      | none => rw [hm] at hb; cases hb
      | some b0 =>
        rw [hm] at hb
        simp at hb
        subst hb
        cases b0 <;> simp [sealed, Blk.cells?] at hk
        · obtain ⟨rfl, rfl, rfl⟩ := hk; exact ⟨_, rfl, by simp [look, hm, Blk.cells?]; rfl⟩
        · obtain ⟨rfl, rfl, rfl⟩ := hk; exact ⟨true, rfl, by simp [look, hm, Blk.cells?]⟩
    · cases hk
  refine ⟨fun k hk => h.dom k (by simpa using hk), h.bnd, h.glob, ?_, ?_, ?_⟩
  · intro k ro e cs hk
    obtain ⟨ro0, rfl, hl⟩ := hlook k ro e cs hk
    obtain ⟨x, c, fr, h1, h2, h3, h4, h5, _, h7⟩ := h.row k ro0 e cs hl
    exact ⟨x, c, fr, h1, h2, h3, h4, h5, fun hh => (by cases hh), h7⟩
  · intro k e cs k' ro' e' cs' x x' hk
    exact absurd hk (sealed_ro k e cs)
  · intro k e cs hk
    rw [List.getElem?_map] at hk
    cases hm : m[k]? with
    | none => rw [hm] at hk; cases hk
    | some b0 =>
      rw [hm] at hk
      cases b0 <;> simp [sealed] at hk
      obtain ⟨rfl, rfl⟩ := hk
      exact h.tab k _ _ hm
theorem tr_lit {ρ ρ' : Ren} {args : List Value} {args' : Array Value} (h : TR ρ args args') (hl : args.all lit2 = true) : TR ρ' args args' :=
  ⟨h.size, fun i x y hx hy => by
    have h0 := (List.all_eq_true.1 hl) x (List.mem_of_getElem? hx)
    rw [(h.at_ i x y hx hy).eq_of_lit2 h0]
    exact .lit h0⟩
def FastOK (E : Env) : Prop := ∀ g F args v, E.fast g = some F → F args = some v → ∀ w : World, Calls E.P g args.toArray w fun e w1 => e = .returned v ∧ Go.RowKit.Below w.heap.size w w1
theorem mr_below {P : Program} {ρ : Ren} {m : Mem} {w w1 : World} (hm : MR P ρ m w) (hb : Go.RowKit.Below w.heap.size w w1) : MR P ρ m w1 ∧ Ext ρ m w ρ m w1 := by
  refine ⟨⟨hm.dom, fun k x hk => Nat.lt_of_lt_of_le (hm.bnd k x hk) hb.size, hm.glob, fun k ro e cs hk => ?_, hm.inj, hm.tab⟩, ?_⟩
  · obtain ⟨x, c, fr, h1, h2, h3⟩ := hm.row k ro e cs hk
    exact ⟨x, c, fr, h1, by rw [hb.block _ (hm.bnd k x h1)]; exact h2, h3⟩
  · exact ⟨Ren.le_refl _, fun _ _ => rfl, Nat.le_refl _, fun k x hk hx' => by (rw [hm.dom k hk] at hx'; cases hx'), hb.os, hb.tape, hb.output, hb.size, fun r hr _ => hb.block r hr, fun k e cs x hk hx' => .inr ⟨k, e, cs, x, hk, hx', rfl⟩⟩
theorem args_lit {ρ : Ren} {args : List Value} {args' : Array Value} (h : TR ρ args args') (hl : args.all lit2 = true) : args' = args.toArray := by
  obtain ⟨l⟩ := args'
  have := list_eq_of_vr (l' := l) (by simpa using h.size) (fun i x y hx hy => h.at_ i x y hx (by simpa using hy)) (p := lit2) (fun x y hx hv => hv.eq_of_lit2 hx) hl
  rw [this]
theorem ainv_sound {E : Env} {self : Self} (hG : E.P.globals.size ≤ E.G) (hf : FastOK E) (hs : CallOK E.P self) : CallOK E.P (ainv E self) := by
  intro f args m v m1 h ρ w args' hm ht
  unfold ainv at h
  split at h
  · rename_i hl
    split at h
    · rename_i F hF
      split at h
      · rename_i v0 hv0
        split at h
        · rename_i hlv
          cases h
          rw [args_lit ht hl]
          refine (hf _ _ _ _ hF hv0 w).mono ?_
          rintro e w1 ⟨rfl, hb⟩
          obtain ⟨h1, h2⟩ := mr_below hm hb
          exact ⟨v, ρ, rfl, .lit hlv, h1, h2⟩
        · cases h
      · cases h
    · split at h
      · rename_i v0 m0 h0
        refine (hs _ _ _ _ _ h0 _ w args' (mr_onlyTab hm hG) (tr_lit ht hl)).mono ?_
        rintro e w1 ⟨v', ρ1, rfl, hv, hm1, hx⟩
        obtain ⟨ρ2, h1, h2, h3⟩ := acoll_sound hm rfl (fun k x hk => by (split at hk; exact hk; cases hk)) (fun k e cs => onlyTab_ro k e cs) hm1 hx hv h
        exact ⟨v', ρ2, rfl, h1, h2, h3⟩
      · cases h
  · split at h
    · exact hs _ _ _ _ _ h ρ w args' hm ht
    · split at h
      · rename_i v0 m0 h0
        refine (hs _ _ _ _ _ h0 ρ w args' (mr_sealed hm) ht).mono ?_
        rintro e w1 ⟨v', ρ1, rfl, hv, hm1, hx⟩
        obtain ⟨ρ2, h1, h2, h3⟩ := acoll_sound hm rfl (fun k x hk => hk) (fun k e cs => sealed_ro k e cs) hm1 hx hv h
        exact ⟨v', ρ2, rfl, h1, h2, h3⟩
      · cases h
def callableB (P : Program) (g : FuncId) : Bool := match P.funcs[g]? with
  | some fn => fn.body.isSome
  | none => false
def abuiltin (P : Program) (T : List Value) (m : Mem) (o : Oper) (b : Builtin) (args : List Operand) (ts : List TypeId) : Option (Value × Mem) :=
  match b, args, ts with
  | .append, [s, x], [sT, xT] => match aappend P sT xT (ev T s) (ev T x) m with
    | some r => some r
    | none => aappendZ P sT xT (ev T s) (ev T x) m
  | .copy, [d, s], [dT, _] => acopy P dT (ev T d) (ev T s) m
  | .len, [x], [t] => match alen P t (ev T x) with
    | some v => some (v, m)
    | none => (apure P T o).map (·, m)
  | .unsafeString, [p, n], [pt, _] => ausString P pt (ev T p) (ev T n) m
  | .unsafeSliceData, [x], _ => match ev T x with
    | .slice (some ⟨b, off, none⟩) _ c => if c = 0 then none else some (.pointer (some ⟨b, off, none⟩), m)
    | _ => (apure P T o).map (·, m)
  | _, _, _ => (apure P T o).map (·, m)
def astep (E : Env) (self : Self) (T : List Value) (m : Mem) (o : Oper) : Option (Value × Mem) :=
  match o.op with
  | .call c => match c.callee with
    | .value f => match ev T f with
      | .func (.func g) a b => if a.toList.isEmpty && b.toList.isEmpty then
          match callableB E.P g with
          | true => ainv E self g (c.args.toList.map (ev T)) m
          | false => match E.ext g with
            | some k => aext k (c.args.toList.map (ev T)) m
            | none => none
        else match callableB E.P g with
          | true => ainv E self g (a.toList ++ c.args.toList.map (ev T) ++ b.toList) m
          | false => none
      | _ => none
    | .builtin b => abuiltin E.P T m o b c.args.toList c.argTypes.toList
    | _ => none
  | .convert src dst x => match aop E.P T m o with
    | some r => some r
    | none => match aconvB E.P src dst (ev T x) m with
      | some r => some r
      | none => (aptr E.P src dst (ev T x) m).map (·, m)
  | .binOp op t x y _ => match aop E.P T m o with
    | some r => some r
    | none => match op with
      | .eql => match aeq E.P t (ev T x) (ev T y) with
        | some b => some (.bool b, m)
        | none => none
      | .neq => match aeq E.P t (ev T x) (ev T y) with
        | some b => some (.bool !b, m)
        | none => none
      | _ => none
  | .buildSlice t len parts => match abuildSlice E.P t len (parts.toList.map fun p => (p.1, ev T p.2)) m with
    | some r => some r
    | none => abuildSliceG E.P t len (parts.toList.map fun p => (p.1, ev T p.2)) m
  | .build t parts => match aop E.P T m o with
    | some r => some r
    | none => (abuild E.P t (parts.toList.map fun p => (p.1, ev T p.2))).map (·, m)
  | .field t x f => match aop E.P T m o with
    | some r => some r
    | none => (afield E.P t (ev T x) f).map (·, m)
  | .makeSlice t l c => amakeSlice E.P t (ev T l) (ev T c) m
  | .makeFunc fn first captured => some (.func fn ⟨first.toList.map (ev T)⟩ ⟨captured.toList.map (ev T)⟩, m)
  | .nilCheck x => match ev T x with
    | .func (.func g) a b => some (.func (.func g) a b, m)
    | _ => aop E.P T m o
  | _ => aop E.P T m o
def noNum (P : Program) : Prop := ∀ (g : Nat) (fn : Func), P.funcs[g]? = some fn → (fn.name == "runtime.NumGoroutine") = false
theorem sound_wp {P : Program} {ρ : Ren} {m m1 : Mem} {w : World} {a : Act} {o : Oper} {v : Value} {K : Act → World → Prop} {Q : Exit → Act → World → Prop}
    (h : Sound P ρ m w ((execOp a.eval o).run P w) v m1) (hK : ∀ v' w1 ρ1, VR ρ1 v v' → MR P ρ1 m1 w1 → Ext ρ m w ρ1 m1 w1 → K (a.put o.dst v') w1) : o.wp P a w K Q := by
  obtain ⟨v', w1, ρ1, hg, hv, hm1, hx⟩ := h
  unfold Oper.wp
  rcases hg with hg | ⟨hg, rfl⟩
  · rw [hg]; exact hK v' w1 ρ1 hv hm1 hx
  · rw [hg]; exact hK _ w1 ρ1 hv hm1 hx
theorem builtin_run {P : Program} {w : World} {a : Act} {o : Oper} {c : Call} {b : Builtin} {F : Array TypeId → TypeId → Array Value → Sem Value} (ho : o.op = .call c) (hc : c.callee = .builtin b)
    (hb : ∀ ts ty cs args, builtin b ts ty cs args = (do pure (.value (← F ts ty args)))) {v : Value} {w1 : World} (h : (F c.argTypes o.type (c.args.map a.eval)).run P w = .ok v w1) :
    (execOp a.eval o).run P w = .ok (.value v) w1 := by
  simp [execOp, ho, resolve, hc, invoke, hb, h]
theorem abuiltin_sound {P : Program} {ρ : Ren} {m m1 : Mem} {w : World} {T : List Value} {a : Act} {o : Oper} (hm : MR P ρ m w) (hev : ∀ x, x ∈ o.op.operands.toList → VR ρ (ev T x) (a.eval x)) (hok : okOp P o.op = true) {v : Value}
    {c : Call} {b : Builtin} (ho : o.op = .call c) (hc : c.callee = .builtin b) (h : abuiltin P T m o b c.args.toList c.argTypes.toList = some (v, m1)) : Sound P ρ m w ((execOp a.eval o).run P w) v m1 := by
  have harg : ∀ x ∈ c.args.toList, VR ρ (ev T x) (a.eval x) := fun x hx => hev x (by simp [ho, Op.operands, Call.operands, hc]; simpa using hx)
  unfold abuiltin at h
  split at h
  · rename_i s x sT xT ha hts
    obtain ⟨u', w1, ρ1, hr, hrest⟩ : ∃ u' w1 ρ1, (Builtin.append_ #[sT, xT] o.type #[a.eval s, a.eval x]).run P w = .ok u' w1 ∧ VR ρ1 v u' ∧ MR P ρ1 m1 w1 ∧ Ext ρ m w ρ1 m1 w1 := by
      split at h
      · rename_i r h9
        cases h
        exact aappend_sound (ty := o.type) hm (harg s (by simp [ha])) (harg x (by simp [ha])) h9
      · exact aappendZ_sound (ty := o.type) hm (harg s (by simp [ha])) (harg x (by simp [ha])) h
    have e1 : c.args = #[s, x] := by rw [← ha]
    have e2 : c.argTypes = #[sT, xT] := by rw [← hts]
    exact ⟨u', w1, ρ1, .inl (builtin_run ho hc (fun _ _ _ _ => rfl) (by rw [e1, e2]; simpa using hr)), hrest⟩
  · rename_i d s dT sT ha hts
    obtain ⟨w1, hr, hl, hrest⟩ := acopy_sound (sT := sT) (ty := o.type) hm (harg d (by simp [ha])) (harg s (by simp [ha])) h
    have e1 : c.args = #[d, s] := by rw [← ha]
    have e2 : c.argTypes = #[dT, sT] := by rw [← hts]
    exact ⟨v, w1, ρ, .inl (builtin_run ho hc (fun _ _ _ _ => rfl) (by rw [e1, e2]; simpa using hr)), .lit hl, hrest⟩
  · rename_i x t ha hts
    split at h
    · rename_i v0 hlen
      cases h
      obtain ⟨hr, hl⟩ := alen_sound (P := P) (w := w) (ty := o.type) (harg x (by simp [ha])) hlen
      have e1 : c.args = #[x] := by rw [← ha]
      have e2 : c.argTypes = #[t] := by rw [← hts]
      exact ⟨v, w, ρ, .inl (builtin_run ho hc (fun _ _ _ _ => rfl) (by rw [e1, e2]; simpa using hr)), .lit hl, hm, Ext.refl' _ hm.dom⟩
    · obtain ⟨h9, rfl⟩ := sound_map h
      exact apure_sound hm hev hok h9
  · rename_i p n pt xt ha hts
    obtain ⟨w1, hr, hl, hrest⟩ := ausString_sound (xt := xt) (ty := o.type) hm (harg p (by simp [ha])) (harg n (by simp [ha])) h
    have e1 : c.args = #[p, n] := by rw [← ha]
    have e2 : c.argTypes = #[pt, xt] := by rw [← hts]
    exact ⟨v, w1, ρ, .inl (builtin_run ho hc (fun _ _ _ _ => rfl) (by rw [e1, e2]; simpa using hr)), .lit hl, hrest⟩
  · rename_i ts x ha
    split at h
    · rename_i bb off n cap hx
      split at h
      · cases h
      · rename_i hc0
        cases h
        have h1 := harg x (by simp [ha])
        rw [hx] at h1
        obtain ⟨y, c', hy, e0, hcap⟩ := vr_slice_inv h1
        have e1 : c.args = #[x] := by rw [← ha]
        refine ⟨.pointer (some ⟨y.r, off, none⟩), w, ρ, .inl (builtin_run ho hc (fun _ _ _ _ => rfl) ?_), .ptr hy, hm, Ext.refl' _ hm.dom⟩
        rw [e1]
        have hne : c' ≠ 0 := by rcases hcap with rfl | ⟨h9, _⟩ <;> omega
        have e3 : (#[x].map a.eval) = #[.slice (some ⟨y.r, off, none⟩) n c'] := by simp [e0]
        rw [e3]
        show (if c' ≠ 0 then pure (.pointer (some ⟨y.r, off, none⟩)) else _ : Sem Value).run P w = _
        rw [if_pos hne]
        rfl
    · obtain ⟨h9, rfl⟩ := sound_map h
      exact apure_sound hm hev hok h9
  · obtain ⟨h9, rfl⟩ := sound_map h
    exact apure_sound hm hev hok h9
theorem aeq_shape {P : Program} {ρ : Ren} {t : TypeId} {x x' y y' : Value} {b : Bool} (hx : VR ρ x x') (hy : VR ρ y y') (h : aeq P t x y = some b) :
    (∃ p q, x' = .pointer p ∧ y' = .pointer q) ∨ (∃ p n k q n' k', x' = .slice p n k ∧ y' = .slice q n' k') := by
  unfold aeq at h
  split at h
  · obtain ⟨_, _, _, _, _, rfl⟩ := vr_ptr_some hx
    have := hy.eq_of_lit2 rfl; subst this
    exact .inl ⟨_, _, rfl, rfl⟩
  · obtain ⟨_, _, _, _, _, rfl⟩ := vr_ptr_some hy
    have := hx.eq_of_lit2 rfl; subst this
    exact .inl ⟨_, _, rfl, rfl⟩
  · obtain ⟨_, _, _, _, _, rfl⟩ := vr_ptr_some hx
    obtain ⟨_, _, _, _, _, rfl⟩ := vr_ptr_some hy
    exact .inl ⟨_, _, rfl, rfl⟩
  · have := hy.eq_of_lit2 rfl; subst this
    cases hx with
    | lit hl => simp [lit2, lit1, lit0] at hl
    | slice _ _ => exact .inr ⟨_, _, _, _, _, _, rfl, rfl⟩
  · have := hx.eq_of_lit2 rfl; subst this
    cases hy with
    | lit hl => simp [lit2, lit1, lit0] at hl
    | slice _ _ => exact .inr ⟨_, _, _, _, _, _, rfl, rfl⟩
  · cases h
def XOK (E : Env) : Prop := ∀ g k, E.ext g = some k → XIs E.P g k
theorem vr_map {ρ : Ren} {T : List Value} {a : Act} {l : Array Operand} (h : ∀ x, x ∈ l.toList → VR ρ (ev T x) (a.eval x)) :
    (l.toList.map (ev T)).length = (l.map a.eval).toList.length ∧ ∀ (i : Nat) (x y : Value), (l.toList.map (ev T))[i]? = some x → (l.map a.eval).toList[i]? = some y → VR ρ x y := by
  refine ⟨by simp, fun i x y hx hy => ?_⟩
  rw [List.getElem?_map] at hx
  rw [Array.toList_map, List.getElem?_map] at hy
  cases hi : l.toList[i]? with
  | none => rw [hi] at hy; cases hy
  | some q =>
    rw [hi] at hx hy
    simp at hx hy
    subst hx hy
    exact h q (List.mem_of_getElem? hi)
theorem makeFunc_sound {P : Program} {ρ : Ren} {w : World} {T : List Value} {a : Act} {o : Oper} {fn : Fn} {first captured : Array Operand} (ho : o.op = .makeFunc fn first captured) (hev : ∀ x, x ∈ o.op.operands.toList → VR ρ (ev T x) (a.eval x)) :
    (execOp a.eval o).run P w = .ok (.value (.func fn (first.map a.eval) (captured.map a.eval))) w ∧ VR ρ (.func fn ⟨first.toList.map (ev T)⟩ ⟨captured.toList.map (ev T)⟩) (.func fn (first.map a.eval) (captured.map a.eval)) := by
  obtain ⟨h1, h2⟩ := vr_map (T := T) (a := a) (ρ := ρ) (l := first) fun x hx => hev x (by simp [ho, Op.operands]; left; simpa using hx)
  obtain ⟨h3, h4⟩ := vr_map (T := T) (a := a) (ρ := ρ) (l := captured) fun x hx => hev x (by simp [ho, Op.operands]; right; simpa using hx)
  exact ⟨by simp [execOp, ho, Instr.makeFunc], VR.func h1 h2 h3 h4⟩
theorem tr_caps {ρ : Ren} {a a' b b' l : List Value} {l' : Array Value} (hn : a.length = a'.length) (hi : ∀ (i : Nat) (x y : Value), a[i]? = some x → a'[i]? = some y → VR ρ x y)
    (hk : b.length = b'.length) (hj : ∀ (i : Nat) (x y : Value), b[i]? = some x → b'[i]? = some y → VR ρ x y) (h : TR ρ l l') : TR ρ (a ++ l ++ b) ((⟨a'⟩ : Array Value) ++ l' ++ (⟨b'⟩ : Array Value)) := by
  obtain ⟨l'⟩ := l'
  have hs : l.length = l'.length := by simpa using h.size
  refine ⟨by simp [hn, hk, hs], fun i x y hx hy => ?_⟩
  have hy : (a' ++ l' ++ b')[i]? = some y := by simpa using hy
  by_cases h1 : i < (a ++ l).length
  · have h1' : i < (a' ++ l').length := by simp at h1 ⊢; omega
    rw [List.getElem?_append_left h1] at hx
    rw [List.getElem?_append_left h1'] at hy
    by_cases h2 : i < a.length
    · rw [List.getElem?_append_left h2] at hx
      rw [List.getElem?_append_left (by omega)] at hy
      exact hi i x y hx hy
    · rw [List.getElem?_append_right (by omega)] at hx
      rw [List.getElem?_append_right (by omega)] at hy
      rw [hn] at hx
      exact h.at_ _ x y hx (by simpa using hy)
  · have h1' : ¬ i < (a' ++ l').length := by simp at h1 ⊢; omega
    rw [List.getElem?_append_right (by omega)] at hx
    rw [List.getElem?_append_right (by omega)] at hy
    have e : (a ++ l).length = (a' ++ l').length := by simp [hn, hs]
    rw [e] at hx
    exact hj _ x y hx hy
theorem parts_vr {ρ : Ren} {T : List Value} {a : Act} {parts : Array (Nat × Operand)} (h : ∀ q, q ∈ parts.toList → VR ρ (ev T q.2) (a.eval q.2)) :
    ∀ (i : Nat) (p p' : Nat × Value), (parts.toList.map fun p => (p.1, ev T p.2))[i]? = some p → (parts.toList.map fun p => (p.1, a.eval p.2))[i]? = some p' → p'.1 = p.1 ∧ VR ρ p.2 p'.2 := by
  intro i p p' hp hp'
  rw [List.getElem?_map] at hp hp'
  cases hi : parts.toList[i]? with
  | none => rw [hi] at hp; cases hp
  | some q =>
    rw [hi] at hp hp'
    simp at hp hp'
    subst hp hp'
    exact ⟨rfl, h q (List.mem_of_getElem? hi)⟩
theorem build_sound {P : Program} {ρ : Ren} {w : World} {T : List Value} {a : Act} {o : Oper} {t : TypeId} {parts : Array (Nat × Operand)} {v : Value} (ho : o.op = .build t parts) (hev : ∀ x, x ∈ o.op.operands.toList → VR ρ (ev T x) (a.eval x))
    (h : abuild P t (parts.toList.map fun p => (p.1, ev T p.2)) = some v) : ∃ u', (execOp a.eval o).run P w = .ok (.value u') w ∧ VR ρ v u' := by
  obtain ⟨u', hrun, hv⟩ := abuild_sound (w := w) (parts' := parts.toList.map fun p => (p.1, a.eval p.2)) (by simp) (parts_vr fun q hq => hev q.2 (by
    simp only [ho, Op.operands]
    exact List.mem_map.2 ⟨q, hq, rfl⟩)) h
  have e3 : (parts.toList.map fun p => (p.1, a.eval p.2)).toArray = parts.map fun p => (p.1, a.eval p.2) := by
    apply Array.ext'; simp
  rw [e3] at hrun
  exact ⟨u', by simp [execOp, ho, hrun], hv⟩
theorem astep_wp {E : Env} {self : Self} (hs : CallOK E.P (ainv E self)) (hnum : noNum E.P) (hx9 : XOK E) {ρ : Ren} {m m1 : Mem} {w : World} {T : List Value} {a : Act} {o : Oper} {v : Value}
    (hm : MR E.P ρ m w) (hev : ∀ x, x ∈ o.op.operands.toList → VR ρ (ev T x) (a.eval x)) (hok : okOp E.P o.op = true) (h : astep E self T m o = some (v, m1)) {K : Act → World → Prop} {Q : Exit → Act → World → Prop}
    (hK : ∀ v' w1 ρ1, VR ρ1 v v' → MR E.P ρ1 m1 w1 → Ext ρ m w ρ1 m1 w1 → K (a.put o.dst v') w1) : o.wp E.P a w K Q := by
  unfold astep at h
  split at h
  · rename_i c ho
    split at h
    · rename_i f hc
      split at h
      · rename_i g fa fb hf
        split at h
        · rename_i hcond
          simp only [Bool.and_eq_true, List.isEmpty_iff] at hcond
          obtain ⟨ha, hb⟩ := hcond
          have ha' : fa = #[] := by cases fa; simp at ha; subst ha; rfl
          have hb' : fb = #[] := by cases fb; simp at hb; subst hb; rfl
          subst ha' hb'
          have hfv := hev f (by simp [ho, Op.operands, Call.operands, hc])
          rw [hf] at hfv
          have hfe : a.eval f = .func (.func g) #[] #[] := hfv.eq_of_lit2 rfl
          have htr : TR ρ (c.args.toList.map (ev T)) (c.args.map a.eval) := by
            refine ⟨by simp, fun i x y hx hy => ?_⟩
            rw [List.getElem?_map] at hx
            rw [Array.getElem?_map] at hy
            cases hi : c.args[i]? with
            | none => rw [hi] at hy; cases hy
            | some q =>
              have hi' : c.args.toList[i]? = some q := by simpa using hi
              rw [hi'] at hx
              rw [hi] at hy
              simp at hx hy
              subst hx hy
              exact hev q (by simp [ho, Op.operands, Call.operands]; right; exact Array.mem_of_getElem? hi)
          have hcf : (execOp a.eval o).run E.P w = (callFunc g (c.args.map a.eval)).run E.P w := by
            simp [execOp, ho, resolve, hc, hfe, Deferred.ofValue, invoke]
          split at h
          · rename_i hcall
            unfold callableB at hcall
            split at hcall
            · rename_i fn hfn
              obtain ⟨code, hcode⟩ := Option.isSome_iff_exists.1 hcall
              have hrun : (execOp a.eval o).run E.P w = .ok (.enter g (c.args.map a.eval)) w := by
                have hn := hnum g fn hfn
                simp only [beq_eq_false_iff_ne, ne_eq] at hn
                rw [hcf]
                simp [callFunc, hfn, hn, hcode]
              unfold Oper.wp
              rw [hrun, Oper.upon_enter]
              refine (hs _ _ _ _ _ h ρ w _ hm htr).mono ?_
              rintro e w1 ⟨v', ρ1, rfl, hv, hm1, hx⟩
              exact hK v' w1 ρ1 hv hm1 hx
            · cases hcall
          · split at h
            · rename_i k hk
              exact sound_wp (by rw [hcf]; exact aext_sound hm (hx9 g k hk) htr h) hK
            · cases h
        · split at h
          · rename_i hcall
            have hfv := hev f (by simp [ho, Op.operands, Call.operands, hc])
            rw [hf] at hfv
            obtain ⟨a', b', hfe, hn, hi, hk, hj⟩ := vr_func_inv (a := fa.toList) (b := fb.toList) hfv
            have htr : TR ρ (c.args.toList.map (ev T)) (c.args.map a.eval) := by
              obtain ⟨h1, h2⟩ := vr_map (T := T) (a := a) (ρ := ρ) (l := c.args) fun x hx => hev x (by simp [ho, Op.operands, Call.operands]; right; simpa using hx)
              exact ⟨by simp, fun i x y hx hy => h2 i x y hx (by simpa using hy)⟩
            have hcf : (execOp a.eval o).run E.P w = (callFunc g ((⟨a'⟩ : Array Value) ++ c.args.map a.eval ++ (⟨b'⟩ : Array Value))).run E.P w := by
              simp [execOp, ho, resolve, hc, hfe, Deferred.ofValue, invoke]
            unfold callableB at hcall
            split at hcall
            · rename_i fn hfn
              obtain ⟨code, hcode⟩ := Option.isSome_iff_exists.1 hcall
              have hrun : (execOp a.eval o).run E.P w = .ok (.enter g ((⟨a'⟩ : Array Value) ++ c.args.map a.eval ++ (⟨b'⟩ : Array Value))) w := by
                have hn := hnum g fn hfn
                simp only [beq_eq_false_iff_ne, ne_eq] at hn
                rw [hcf]
                simp [callFunc, hfn, hn, hcode]
              unfold Oper.wp
              rw [hrun, Oper.upon_enter]
              refine (hs _ _ _ _ _ h ρ w _ hm (tr_caps hn hi hk hj htr)).mono ?_
              rintro e w1 ⟨v', ρ1, rfl, hv, hm1, hx⟩
              exact hK v' w1 ρ1 hv hm1 hx
            · cases hcall
          · cases h
      · cases h
    · rename_i b hc
      exact sound_wp (abuiltin_sound hm hev hok ho hc h) hK
    · cases h
  · rename_i src dst x ho
    split at h
    · rename_i r hr
      cases h
      exact sound_wp (aop_sound hm hev hok hr) hK
    · split at h
      · rename_i r hr
        cases h
        obtain ⟨u', w1, ρ1, hrun, hrest⟩ := aconvB_sound hm (hev x (by simp [ho, Op.operands])) hr
        exact sound_wp ⟨u', w1, ρ1, .inl (by simp [execOp, ho, hrun]), hrest⟩ hK
      · obtain ⟨h9, rfl⟩ := map_pair h
        obtain ⟨u', hrun, hv⟩ := aptr_sound hm (hev x (by simp [ho, Op.operands])) h9
        exact sound_wp ⟨u', w, ρ, .inl (by simp [execOp, ho, hrun]), hv, hm, Ext.refl' _ hm.dom⟩ hK
  · rename_i op t x y t' ho
    split at h
    · rename_i r hr
      cases h
      exact sound_wp (aop_sound hm hev hok hr) hK
    · have h1 := hev x (by simp [ho, Op.operands])
      have h2 := hev y (by simp [ho, Op.operands])
      split at h
      · split at h
        · rename_i b hb
          cases h
          have he := aeq_sound (w := w) h1 h2 hb
          have hbin : (do eqGuard .eql t x y (a.eval x) (a.eval y); binOp .eql t (a.eval x) (a.eval y) : Sem Value).run E.P w = .ok (.bool b) w := by
            rcases aeq_shape h1 h2 hb with ⟨p, q, e1, e2⟩ | ⟨p, n, k, q, n', k', e1, e2⟩
            · rw [e1, e2] at he ⊢
              simp [eqGuard, binOp, he]
            · rw [e1, e2] at he ⊢
              simp [eqGuard, binOp, he]
          exact sound_wp ⟨.bool b, w, ρ, .inl (by simp only [execOp, ho]; rw [Sem.run_bind, hbin]; rfl), .lit rfl, hm, Ext.refl' _ hm.dom⟩ hK
        · cases h
      · split at h
        · rename_i b hb
          cases h
          have he := aeq_sound (w := w) h1 h2 hb
          have hbin : (do eqGuard .neq t x y (a.eval x) (a.eval y); binOp .neq t (a.eval x) (a.eval y) : Sem Value).run E.P w = .ok (.bool !b) w := by
            rcases aeq_shape h1 h2 hb with ⟨p, q, e1, e2⟩ | ⟨p, n, k, q, n', k', e1, e2⟩
            · rw [e1, e2] at he ⊢
              simp [eqGuard, binOp, he]
            · rw [e1, e2] at he ⊢
              simp [eqGuard, binOp, he]
          exact sound_wp ⟨.bool !b, w, ρ, .inl (by simp only [execOp, ho]; rw [Sem.run_bind, hbin]; rfl), .lit rfl, hm, Ext.refl' _ hm.dom⟩ hK
        · cases h
      · cases h
  · rename_i t len parts ho
    have hpp : ∀ (i : Nat) (p p' : Nat × Value), (parts.toList.map fun p => (p.1, ev T p.2))[i]? = some p → (parts.toList.map fun p => (p.1, a.eval p.2))[i]? = some p' → p'.1 = p.1 ∧ VR ρ p.2 p'.2 := parts_vr fun q hq => hev q.2 (by
      simp only [ho, Op.operands]
      exact List.mem_map.2 ⟨q, hq, rfl⟩)
    have e3 : (parts.toList.map fun p => (p.1, a.eval p.2)).toArray = parts.map fun p => (p.1, a.eval p.2) := by
      apply Array.ext'; simp
    obtain ⟨u', w1, ρ1, hrun, hrest⟩ : ∃ u' w1 ρ1, (Instr.buildSlice t len (parts.toList.map fun p => (p.1, a.eval p.2)).toArray).run E.P w = .ok u' w1 ∧ VR ρ1 v u' ∧ MR E.P ρ1 m1 w1 ∧ Ext ρ m w ρ1 m1 w1 := by
      split at h
      · rename_i r h9
        cases h
        exact abuildSlice_sound hm (by simp) hpp h9
      · exact abuildSliceG_sound hm (by simp) hpp h
    rw [e3] at hrun
    exact sound_wp ⟨u', w1, ρ1, .inl (by simp [execOp, ho, hrun]), hrest⟩ hK
  · rename_i t parts ho
    split at h
    · rename_i r hr
      cases h
      exact sound_wp (aop_sound hm hev hok hr) hK
    · obtain ⟨h9, rfl⟩ := map_pair h
      obtain ⟨u', hrun, hv⟩ := build_sound ho hev h9 (w := w)
      exact sound_wp ⟨u', w, ρ, .inl hrun, hv, hm, Ext.refl' _ hm.dom⟩ hK
  · rename_i t x f ho
    split at h
    · rename_i r hr
      cases h
      exact sound_wp (aop_sound hm hev hok hr) hK
    · obtain ⟨h9, rfl⟩ := map_pair h
      obtain ⟨u', hrun, hv⟩ := afield_sound (w := w) (hev x (by simp [ho, Op.operands])) h9
      exact sound_wp ⟨u', w, ρ, .inl (by simp [execOp, ho, hrun]), hv, hm, Ext.refl' _ hm.dom⟩ hK
  · rename_i t l c ho
    obtain ⟨u', w1, ρ1, hrun, hrest⟩ := amakeSlice_sound hm (hev l (by simp [ho, Op.operands])) (hev c (by simp [ho, Op.operands])) h
    exact sound_wp ⟨u', w1, ρ1, .inl (by simp [execOp, ho, hrun]), hrest⟩ hK
  · rename_i fn first captured ho
    cases h
    obtain ⟨hr, hv⟩ := makeFunc_sound (P := E.P) (w := w) ho hev
    exact sound_wp ⟨_, w, ρ, .inl hr, hv, hm, Ext.refl' _ hm.dom⟩ hK
  · rename_i x ho
    split at h
    · rename_i g fa fb hx
      cases h
      have h0 := hev x (by simp [ho, Op.operands])
      rw [hx] at h0
      obtain ⟨a', b', e1, hn, hi, hk, hj⟩ := vr_func_inv (a := fa.toList) (b := fb.toList) h0
      refine sound_wp ⟨_, w, ρ, .inl ?_, .func hn hi hk hj, hm, Ext.refl' _ hm.dom⟩ hK
      simp only [execOp, ho, e1]
      rfl
    · exact sound_wp (aop_sound hm hev hok h) hK
  · exact sound_wp (aop_sound hm hev hok h) hK
def aput (T : List Value) (dst : Option Tmp) (v : Value) : List Value := match dst with
  | some d => setAt T v d
  | none => T
theorem tr_put {ρ : Ren} {T : List Value} {a : Act} (h : TR ρ T a.tmps) (dst : Option Tmp) {v v' : Value} (hv : VR ρ v v') : TR ρ (aput T dst v) (a.put dst v').tmps := by
  cases dst with
  | none => exact h
  | some d => rw [show aput T (some d) v = T.set d v from setAt_eq T v d]; exact h.set d hv
theorem put_defers (a : Act) (dst : Option Tmp) (v : Value) : (a.put dst v).defers = a.defers := by cases dst <;> rfl
def agd (ops : Array Oper) (T : List Value) (o : Oper) : Option Bool :=
  match o.guard with
  | none => some true
  | some (j, want) => match ops[j]? with
    | none => some false
    | some oj => match oj.dst with
      | none => some false
      | some d => match T[d]? with
        | some (.bool b) => some (b == want)
        | some (.chan (some _)) => none
        | _ => some false
theorem agd_sound {ops : Array Oper} {ρ : Ren} {T : List Value} {t : Array Value} {o : Oper} {b : Bool} (hsz : T.length = t.size) (ht : ∀ j want oj d, o.guard = some (j, want) → ops[j]? = some oj → oj.dst = some d → ∀ x y, T[d]? = some x → t[d]? = some y → VR ρ x y)
    (h : agd ops T o = some b) : Region.wanted o (yielded ops t) = b := by
  unfold agd at h
  unfold Region.wanted
  split at h
  · rename_i hg; simp only [hg]; cases h; rfl
  · rename_i j want hg
    simp only [hg]
    unfold yielded
    split at h
    · rename_i hj; cases h; simp [hj]
    · rename_i oj hj
      split at h
      · rename_i hd; cases h; simp [hj, hd]
      · rename_i d hd
        simp only [hj, Option.bind_some, hd]
        by_cases hlt : d < T.length
        · have hlt' : d < t.size := by rw [← hsz]; exact hlt
          have h1 : T[d]? = some T[d] := by simp [hlt]
          have h2 : t[d]? = some t[d] := by simp [hlt']
          have hv := ht j want oj d hg hj hd _ _ h1 h2
          rw [h1] at h
          rw [h2]
          generalize T[d] = x at *
          generalize t[d] = y at *
          split at h
          · rename_i b0 hx
            cases hx
            have : y = .bool b0 := hv.eq_of_lit2 rfl
            subst this
            cases h
            cases b0 <;> cases want <;> rfl
          · cases h
          · rename_i hx1 hx2
            cases h
            have hy : ∀ b, y ≠ .bool b := by
              intro b e
              subst e
              cases hv with
              | lit _ => exact hx1 b rfl
              | junk => exact hx2 0 rfl
            cases y <;> first | rfl | exact absurd rfl (hy _)
        · have hlt' : ¬ d < t.size := by rw [← hsz]; exact hlt
          rw [List.getElem?_eq_none (Nat.le_of_not_lt hlt)] at h
          rw [Array.getElem?_eq_none (Nat.le_of_not_lt hlt')]
          cases h
          rfl
theorem ev_all {P : Program} {ρ : Ren} {m : Mem} {w : World} {T : List Value} {a : Act} {o : Oper} (hm : MR P ρ m w) (ht : TR ρ T a.tmps) (hok : okOp P o.op = true) :
    ∀ x, x ∈ o.op.operands.toList → VR ρ (ev T x) (a.eval x) := by
  simp only [okOp, Bool.and_eq_true] at hok
  exact fun x hx => ev_vr hm ht x ((List.all_eq_true.1 hok.1) x hx)
def forceN {α : Type} (n : Nat) (k : Nat → α) : α := match n with
  | 0 => k 0
  | n + 1 => k (n + 1)
theorem forceN_eq {α : Type} (n : Nat) (k : Nat → α) : forceN n k = k n := by cases n <;> rfl
def forceI {α : Type} (n : Int) (k : Int → α) : α := match n with
  | .ofNat n => forceN n fun n => k (.ofNat n)
  | .negSucc n => forceN n fun n => k (.negSucc n)
theorem forceI_eq {α : Type} (n : Int) (k : Int → α) : forceI n k = k n := by cases n <;> simp [forceI, forceN_eq]
def forceV1 {α : Type} (v : Value) (k : Value → α) : α := match v with
  | .int kd n => forceI n fun n => k (.int kd n)
  | .bool b => match b with
    | true => k (.bool true)
    | false => k (.bool false)
  | .slice (some ⟨b, o, sp⟩) n c => forceN b fun b => forceN o fun o => forceN n fun n => forceN c fun c => k (.slice (some ⟨b, o, sp⟩) n c)
  | .pointer (some ⟨b, o, sp⟩) => forceN b fun b => forceN o fun o => k (.pointer (some ⟨b, o, sp⟩))
  | v => k v
theorem forceV1_eq {α : Type} (v : Value) (k : Value → α) : forceV1 v k = k v := by
  unfold forceV1
  split
  · rw [forceI_eq]
  · split <;> rfl
  · simp only [forceN_eq]
  · simp only [forceN_eq]
  · rfl
def forceL {α : Type} : List Value → (List Value → α) → α
  | [], k => k []
  | v :: l, k => forceV1 v fun v => forceL l fun l => k (v :: l)
theorem forceL_eq {α : Type} : ∀ (l : List Value) (k : List Value → α), forceL l k = k l
  | [], k => rfl
  | v :: l, k => by rw [forceL, forceV1_eq, forceL_eq l]
def forceV {α : Type} (v : Value) (k : Value → α) : α := match v with
  | .tuple vs => forceL vs.toList fun l => k (.tuple ⟨l⟩)
  | v => forceV1 v k
theorem forceV_eq {α : Type} (v : Value) (k : Value → α) : forceV v k = k v := by
  unfold forceV
  split
  · rw [forceL_eq]
  · exact forceV1_eq _ _
def aops (E : Env) (self : Self) (ops : Array Oper) : List Oper → List Value → Mem → Option (List Value × Mem)
  | [], T, m => some (T, m)
  | o :: l, T, m => match agd ops T o with
    | some true => if okOp E.P o.op then match astep E self T m o with
        | some (v, m1) => match E.strict with
          | true => forceV v fun v => aops E self ops l (aput T o.dst v) m1
          | false => aops E self ops l (aput T o.dst v) m1
        | none => none
      else none
    | some false => aops E self ops l (aput T o.dst undef) m
    | none => none
def Post (D : List Deferred) (P : Program) (ρ : Ren) (m : Mem) (w : World) (T1 : List Value) (m1 : Mem) (a1 : Act) (w1 : World) : Prop :=
  a1.defers = D ∧ ∃ ρ1, TR ρ1 T1 a1.tmps ∧ MR P ρ1 m1 w1 ∧ Ext ρ m w ρ1 m1 w1
theorem aops_sound {E : Env} {self : Self} (hs : CallOK E.P (ainv E self)) (hnum : noNum E.P) (hx9 : XOK E) {ops : Array Oper} {Q : Exit → Act → World → Prop} :
    ∀ (l : List Oper) (T : List Value) (m : Mem) (T1 : List Value) (m1 : Mem), aops E self ops l T m = some (T1, m1) → ∀ (D : List Deferred) (ρ : Ren) (w : World) (a : Act), a.defers = D → MR E.P ρ m w → TR ρ T a.tmps →
      (∀ a1 w1, Post D E.P ρ m w T1 m1 a1 w1 → Q .normal a1 w1) → wpList E.P ops Q l a w
  | [], T, m, T1, m1, h, D, ρ, w, a, hd, hm, ht, hQ => by
    simp only [aops, Option.some.injEq, Prod.mk.injEq] at h
    obtain ⟨rfl, rfl⟩ := h
    exact hQ a w ⟨hd, ρ, ht, hm, Ext.refl' _ hm.dom⟩
  | o :: l, T, m, T1, m1, h, D, ρ, w, a, hd, hm, ht, hQ => by
    unfold aops at h
    split at h
    · rename_i hg
      split at h
      · rename_i hok
        split at h
        · rename_i v m2 hst
          have h : aops E self ops l (aput T o.dst v) m2 = some (T1, m1) := by
            split at h
            · rw [forceV_eq] at h; exact h
            · exact h
          simp only [wpList, agd_sound ht.size (fun _ _ _ d _ _ _ x y => ht.at_ d x y) hg, if_true]
          left
          refine astep_wp hs hnum hx9 hm (ev_all hm ht hok) hok hst fun v' w1 ρ1 hv hm1 hx => ?_
          refine aops_sound hs hnum hx9 l _ _ _ _ h D ρ1 w1 _ (by rw [put_defers]; exact hd) hm1 (tr_put (ht.mono hx.le) o.dst hv) fun a2 w2 hp => hQ a2 w2 ?_
          obtain ⟨hd2, ρ2, h1, h2, h3⟩ := hp
          exact ⟨hd2, ρ2, h1, h2, hx.trans h3⟩
        · cases h
      · cases h
    · rename_i hg
      simp only [wpList, agd_sound ht.size (fun _ _ _ d _ _ _ x y => ht.at_ d x y) hg, Bool.false_eq_true, if_false]
      exact aops_sound hs hnum hx9 l _ _ _ _ h D ρ w _ (by rw [put_defers]; exact hd) hm (tr_put ht o.dst (vr_undef ρ)) hQ
    · cases h
end
end Go.Am
