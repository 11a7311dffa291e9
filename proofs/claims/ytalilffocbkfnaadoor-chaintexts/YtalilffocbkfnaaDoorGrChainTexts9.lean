/-
  Texts of my own, put together: PB, PN, 9, L.
-/
import Derived.Test.YtalilffocbkfnaaDoorGrChainTexts8
import Derived.Defers
import Derived.Recover
import Derived.Test.YtalilffocbkfnaaDoorProg
import Derived.KernelRfl
import Derived.Lib.Repeat
import Derived.Shelf.Strings.Repeat
/-
  The abstract machine: deferred calls that recover (own work; nothing of a dump).
-/
set_option linter.unusedSimpArgs false
set_option linter.unusedVariables false
namespace Go.Am
noncomputable section

/-- How a frame goes while its deferred call runs: it returns; it panics; it did, and that was recovered. -/
inductive PS where
  | none
  | live (pv : Value)
  | done

def PS.ok (ρ : Ren) : PS → FrameMode → Prop
  | .none, u => u = .returning
  | .live pv, u => ∃ pv', u = .panicking [{ v := pv', recovered := false }] ∧ VR ρ pv pv'
  | .done, u => ∃ pv', u = .panicking [{ v := pv', recovered := true }]

theorem PS.ok_mono {ρ ρ' : Ren} (hl : ρ.le ρ') {s : PS} {u : FrameMode} (h : s.ok ρ u) : s.ok ρ' u := by
  cases s with
  | none => exact h
  | live pv => obtain ⟨pv', h1, h2⟩ := h; exact ⟨pv', h1, h2.mono hl⟩
  | done => exact h

def isRec (o : Oper) : Bool := match o.op with
  | .call c => match c.callee with
    | .builtin .recover => true
    | _ => false
  | _ => false

/-- Operations one behind the other in a deferred call. -/
def aopsS (E : Env) (self : Self) (ops : Array Oper) : List Oper → List Value → Mem → PS → Option (List Value × Mem × PS)
  | [], T, m, s => some (T, m, s)
  | o :: l, T, m, s => match agd ops T o with
    | some true => if okOp E.P o.op then match isRec o with
        | true => match s with
          | .live pv => aopsS E self ops l (aput T o.dst pv) m .done
          | .none => aopsS E self ops l (aput T o.dst .nilIface) m .none
          | .done => aopsS E self ops l (aput T o.dst .nilIface) m .done
        | false => match astep E self T m o with
          | some (v, m1) => aopsS E self ops l (aput T o.dst v) m1 s
          | none => none
      else none
    | some false => aopsS E self ops l (aput T o.dst undef) m s
    | none => none

def SPost (D : List Deferred) (c₀ : Frame) (cs : List Frame) (P : Program) (ρ : Ren) (m : Mem) (w : World) (T1 : List Value) (m1 : Mem) (s1 : PS) (a1 : Act) (cs1 : List Frame) (w1 : World) : Prop :=
  a1.defers = D ∧ ∃ ρ1 u1, cs1 = { c₀ with mode := u1 } :: cs ∧ s1.ok ρ1 u1 ∧ TR ρ1 T1 a1.tmps ∧ MR P ρ1 m1 w1 ∧ Ext ρ m w ρ1 m1 w1

theorem SPost.after {D : List Deferred} {c₀ : Frame} {cs : List Frame} {P : Program} {ρ ρ1 : Ren} {m m1 m2 : Mem} {w w1 w2 : World} {T2 : List Value} {s2 : PS} {a2 : Act} {cs2 : List Frame} (hx : Ext ρ m w ρ1 m1 w1) (h : SPost D c₀ cs P ρ1 m1 w1 T2 m2 s2 a2 cs2 w2) : SPost D c₀ cs P ρ m w T2 m2 s2 a2 cs2 w2 := by
  obtain ⟨h1, ρ2, u2, h2, h3, h4, h5, h6⟩ := h
  exact ⟨h1, ρ2, u2, h2, h3, h4, h5, hx.trans h6⟩

theorem isRec_run {P : Program} {o : Oper} (h : isRec o = true) (a : Act) (w : World) : (execOp a.eval o).run P w = .ok .recover w := by
  unfold isRec at h
  split at h
  · rename_i c ho
    split at h
    · rename_i hc
      simp [execOp, ho, resolve, hc, invoke, builtin]
    · cases h
  · cases h

theorem aopsS_sound {E : Env} {self : Self} (hs : CallOK E.P (ainv E self)) (hnum : noNum E.P) (hx9 : XOK E) {ops : Array Oper} {c₀ : Frame} {cs : List Frame} :
    ∀ (l : List Oper) (k : Nat), (∀ j, l[j]? = ops[k + j]?) → ∀ (T : List Value) (m : Mem) (s : PS) (T1 : List Value) (m1 : Mem) (s1 : PS), aopsS E self ops l T m s = some (T1, m1, s1) → ∀ (D : List Deferred) (ρ : Ren) (u : FrameMode) (w : World) (a : Act), a.defers = D → s.ok ρ u → MR E.P ρ m w → TR ρ T a.tmps →
      ∀ (Q : Exit → Act → List Frame → World → Prop), (∀ a1 cs1 w1, SPost D c₀ cs E.P ρ m w T1 m1 s1 a1 cs1 w1 → Q .normal a1 cs1 w1) → wpOpsS E.P ops Q (List.range' k l.length) a ({ c₀ with mode := u } :: cs) w
  | [], k, _, T, m, s, T1, m1, s1, h, D, ρ, u, w, a, hd, hso, hm, ht, Q, hQ => by
    simp only [aopsS, Option.some.injEq, Prod.mk.injEq] at h
    obtain ⟨rfl, rfl, rfl⟩ := h
    exact hQ a _ w ⟨hd, ρ, u, rfl, hso, ht, hm, Ext.refl' _ hm.dom⟩
  | o :: l, k, hl, T, m, s, T1, m1, s1, h, D, ρ, u, w, a, hd, hso, hm, ht, Q, hQ => by
    have h0 : ops[k]? = some o := by simpa using (hl 0).symm
    have hl' : ∀ j, l[j]? = ops[k + 1 + j]? := fun j => by have := hl (j + 1); simpa [Nat.add_assoc, Nat.add_comm 1 j] using this
    simp only [List.length_cons, List.range'_succ, wpOpsS, h0]
    unfold aopsS at h
    split at h
    · rename_i hg
      rw [if_pos (agd_sound ht.size (fun _ _ _ d _ _ _ x y => ht.at_ d x y) hg)]
      split at h
      · rename_i hok
        split at h
        · rename_i hrec
          rw [isRec_run hrec a w]
          simp only
          split at h
          · rename_i pv
            obtain ⟨pv', rfl, hv⟩ := hso
            simp only [recoverD]
            exact aopsS_sound hs hnum hx9 l (k + 1) hl' _ _ _ _ _ _ h D ρ (.panicking [{ v := pv', recovered := true }]) w _ (by rw [put_defers]; exact hd) ⟨pv', rfl⟩ hm (tr_put ht o.dst hv) Q hQ
          · obtain rfl : u = .returning := hso
            simp only [recoverD]
            exact aopsS_sound hs hnum hx9 l (k + 1) hl' _ _ _ _ _ _ h D ρ .returning w _ (by rw [put_defers]; exact hd) rfl hm (tr_put ht o.dst (.lit rfl)) Q hQ
          · obtain ⟨pv', rfl⟩ := hso
            simp only [recoverD]
            exact aopsS_sound hs hnum hx9 l (k + 1) hl' _ _ _ _ _ _ h D ρ (.panicking [{ v := pv', recovered := true }]) w _ (by rw [put_defers]; exact hd) ⟨pv', rfl⟩ hm (tr_put ht o.dst (.lit rfl)) Q hQ
        · split at h
          · rename_i v m2 hst
            have hw : o.wp E.P a w (fun a' w' => wpOpsS E.P ops Q (List.range' (k + 1) l.length) a' ({ c₀ with mode := u } :: cs) w') (fun e a' w' => Q e a' ({ c₀ with mode := u } :: cs) w') := by
              refine astep_wp hs hnum hx9 hm (ev_all hm ht hok) hok hst fun v' w1 ρ1 hv hm1 hx => ?_
              exact aopsS_sound hs hnum hx9 l (k + 1) hl' _ _ _ _ _ _ h D ρ1 u w1 _ (by rw [put_defers]; exact hd) (PS.ok_mono hx.le hso) hm1 (tr_put (ht.mono hx.le) o.dst hv) Q fun a2 cs2 w2 h2 => hQ a2 cs2 w2 (h2.after hx)
            unfold Oper.wp at hw
            split
            · rename_i w' heq
              rw [heq] at hw
              exact hw.elim
            · exact hw
          · cases h
      · cases h
    · rename_i hg
      rw [if_neg (by rw [agd_sound ht.size (fun _ _ _ d _ _ _ x y => ht.at_ d x y) hg]; simp)]
      exact aopsS_sound hs hnum hx9 l (k + 1) hl' _ _ _ _ _ _ h D ρ u w _ (by rw [put_defers]; exact hd) hso hm (tr_put ht o.dst (vr_undef ρ)) Q hQ
    · cases h

/-- Code of a deferred call. -/
def acodeS (E : Env) (self : Self) (n : Nat) : Code → List Value → Mem → PS → Option (AExit × List Value × Mem × PS)
  | .seq a b, T, m, s => match acodeS E self n a T m s with
    | some (.normal, T1, m1, s1) => acodeS E self n b T1 m1 s1
    | r => r
  | .cond c a b, T, m, s => if okOperand E.P c then match ev T c with
      | .bool true => acodeS E self n a T m s
      | .bool false => acodeS E self n b T m s
      | _ => none
    else none
  | .region _ ops false, T, m, s => match aopsS E self ops ops.toList T m s with
    | some (T1, m1, s1) => some (.normal, T1, m1, s1)
    | none => none
  | c, T, m, s => match acode E self n c T m with
    | some (e, T1, m1) => some (e, T1, m1, s)
    | none => none

def BodySOK (P : Program) (c : Code) (body : List Value → Mem → PS → Option (AExit × List Value × Mem × PS)) : Prop :=
  ∀ T m s e T1 m1 s1, body T m s = some (e, T1, m1, s1) → ∀ (D : List Deferred) (ρ : Ren) (u : FrameMode) (w : World) (a : Act) (c₀ : Frame) (cs : List Frame), a.defers = D → s.ok ρ u → MR P ρ m w → TR ρ T a.tmps →
    c.wpS P (fun e' a1 cs1 w1 => e' = e.to ∧ SPost D c₀ cs P ρ m w T1 m1 s1 a1 cs1 w1) a ({ c₀ with mode := u } :: cs) w

theorem wpS_mono {P : Program} {c : Code} {Q Q' : Exit → Act → List Frame → World → Prop} {a : Act} {cs : List Frame} {w : World} (h : c.wpS P Q a cs w) (hq : ∀ e a cs w, Q e a cs w → Q' e a cs w) : c.wpS P Q' a cs w :=
  fun b k hb hr => let ⟨e, a', cs', w', q, r⟩ := h b k hb hr; ⟨e, a', cs', w', hq _ _ _ _ q, r⟩

theorem plainS {E : Env} {c : Code} {body : List Value → Mem → CRes} (hb : BodyOK E.P c body) : BodySOK E.P c (fun T m s => match body T m with | some (e, T1, m1) => some (e, T1, m1, s) | none => none) := by
  intro T m s e T1 m1 s1 h D ρ u w a c₀ cs hd hso hm ht
  simp only at h
  split at h
  · rename_i e0 T0 m0 h0
    cases h
    refine wpS_of_wp (wp_mono (hb _ _ _ _ _ h0 D ρ w a hd hm ht) ?_)
    rintro e' a1 w1 ⟨rfl, hd1, ρ1, ht1, hm1, hx1⟩
    exact ⟨rfl, hd1, ρ1, u, rfl, PS.ok_mono hx1.le hso, ht1, hm1, hx1⟩
  · cases h

theorem acodeS_sound {E : Env} {self : Self} (hs : CallOK E.P (ainv E self)) (hE : EnvOK E) (n : Nat) : ∀ c : Code, codeOk E.P E.wr E.sr E.mkr c = true → BodySOK E.P c (acodeS E self n c) := by
  intro c
  induction c with
  | seq x y ihx ihy =>
    intro hco T m s e T1 m1 s1 h D ρ u w a c₀ cs hd hso hm ht
    simp only [codeOk, Bool.and_eq_true] at hco
    simp only [acodeS] at h
    split at h
    · rename_i T2 m2 s2 h2
      refine wpS_seq (wpS_mono (ihx hco.1 _ _ _ _ _ _ _ h2 D ρ u w a c₀ cs hd hso hm ht) ?_)
      rintro e' a1 cs1 w1 ⟨rfl, hd1, ρ1, u1, rfl, hso1, ht1, hm1, hx1⟩
      show y.wpS E.P _ a1 _ w1
      refine wpS_mono (ihy hco.2 _ _ _ _ _ _ _ h D ρ1 u1 w1 a1 c₀ cs hd1 hso1 hm1 ht1) ?_
      rintro e'' a2 cs2 w2 ⟨rfl, hp⟩
      exact ⟨rfl, hp.after hx1⟩
    · rename_i r hr
      refine wpS_seq (wpS_mono (ihx hco.1 _ _ _ _ _ _ _ h D ρ u w a c₀ cs hd hso hm ht) ?_)
      rintro e' a1 cs1 w1 ⟨rfl, hp⟩
      cases e with
      | normal => exact absurd h (hr _ _ _)
      | exit id => exact ⟨rfl, hp⟩
      | ret => exact ⟨rfl, hp⟩
  | cond c x y ihx ihy =>
    intro hco T m s e T1 m1 s1 h D ρ u w a c₀ cs hd hso hm ht
    simp only [codeOk, Bool.and_eq_true] at hco
    simp only [acodeS] at h
    split at h
    · rename_i hok
      have hv := ev_vr hm ht c hok
      split at h
      · rename_i hc
        rw [hc] at hv
        exact wpS_cond (t := true) (hv.eq_of_lit2 rfl) (ihx hco.1 _ _ _ _ _ _ _ h D ρ u w a c₀ cs hd hso hm ht)
      · rename_i hc
        rw [hc] at hv
        exact wpS_cond (t := false) (hv.eq_of_lit2 rfl) (ihy hco.2 _ _ _ _ _ _ _ h D ρ u w a c₀ cs hd hso hm ht)
      · cases h
    · cases h
  | region id ops draw =>
    intro hco T m s e T1 m1 s1 h D ρ u w a c₀ cs hd hso hm ht
    cases draw with
    | false =>
      simp only [acodeS] at h
      split at h
      · rename_i T2 m2 s2 h2
        cases h
        refine wpS_region ?_
        have := aopsS_sound hs hE.num hE.ext (ops := ops) (c₀ := c₀) (cs := cs) ops.toList 0 (by simp) _ _ _ _ _ _ h2 D ρ u w a hd hso hm ht (fun e' a1 cs1 w1 => e' = AExit.normal.to ∧ SPost D c₀ cs E.P ρ m w T1 m1 s1 a1 cs1 w1) fun a1 cs1 w1 hp => ⟨rfl, hp⟩
        rw [List.range_eq_range']
        simpa using this
      · cases h
    | true => exact plainS (acode_sound hs hE n _ hco) T m s e T1 m1 s1 h D ρ u w a c₀ cs hd hso hm ht
  | skip => intro hco; exact plainS (acode_sound hs hE n _ hco)
  | label l => intro hco; exact plainS (acode_sound hs hE n _ hco)
  | exit id => intro hco; exact plainS (acode_sound hs hE n _ hco)
  | ret => intro hco; exact plainS (acode_sound hs hE n _ hco)
  | block id x ihx => intro hco; exact plainS (acode_sound hs hE n _ hco)
  | loop x ihx => intro hco; exact plainS (acode_sound hs hE n _ hco)
  | scope x ihx => intro hco; exact plainS (acode_sound hs hE n _ hco)
  | rangeFunc f ps x y ihx ihy => intro hco; exact plainS (acode_sound hs hE n _ hco)
  | goto l => intro hco; exact plainS (acode_sound hs hE n _ hco)
  | refuse t => intro hco; exact plainS (acode_sound hs hE n _ hco)

/-- A deferred call. -/
def abodyS (E : Env) (self : Self) (n : Nat) (f : FuncId) (args : List Value) (m : Mem) (s : PS) : Option (Mem × PS) :=
  if E.good f then match E.P.funcs[f]? with
  | some fn => match fn.body with
    | some c => match acodeS E self n c (args ++ List.replicate (fn.ntmps - args.length) undef) m s with
      | some (.normal, T1, m1, s1) => (ares E.P fn T1 m1).map fun _ => (m1, s1)
      | some (.ret, T1, m1, s1) => (ares E.P fn T1 m1).map fun _ => (m1, s1)
      | _ => none
    | none => none
  | none => none
  else none

theorem abodyS_sound {E : Env} {self : Self} (hs : CallOK E.P (ainv E self)) (hE : EnvOK E) (n : Nat) {f : FuncId} {args : List Value} {m m1 : Mem} {s s1 : PS} (h : abodyS E self n f args m s = some (m1, s1))
    {ρ : Ren} {u : FrameMode} {w : World} {args' : Array Value} (hm : MR E.P ρ m w) (ht : TR ρ args args') (hso : s.ok ρ u) :
    CallsD E.P f args' u w fun e u' w' => ∃ v ρ1, e = .returned v ∧ s1.ok ρ1 u' ∧ MR E.P ρ1 m1 w' ∧ Ext ρ m w ρ1 m1 w' := by
  unfold abodyS at h
  split at h
  case isFalse => cases h
  rename_i hgd
  split at h
  · rename_i fn hfn
    split at h
    · rename_i c hc
      have key : ∀ e T1, e ≠ AExit.exit 0 → (e = .normal ∨ e = .ret) → acodeS E self n c (args ++ List.replicate (fn.ntmps - args.length) undef) m s = some (e, T1, m1, s1) → (∃ v, ares E.P fn T1 m1 = some v) →
          CallsD E.P f args' u w fun e u' w' => ∃ v ρ1, e = .returned v ∧ s1.ok ρ1 u' ∧ MR E.P ρ1 m1 w' ∧ Ext ρ m w ρ1 m1 w' := by
        rintro e T1 _ he h2 ⟨v, hv⟩
        refine callsD_of_wpS hfn hc fun c₀ cs hu => ?_
        have hc0 : c₀ = { c₀ with mode := u } := by cases c₀; simp at hu; subst hu; rfl
        have := acodeS_sound hs hE n c (hE.good f fn c hgd hfn hc) _ _ _ _ _ _ _ h2 [] ρ u w { tmps := args' ++ Array.replicate (fn.ntmps - args'.size) undef, defers := [] } c₀ cs rfl hso hm (tr_start ht fn.ntmps)
        rw [hc0]
        refine wpS_mono this ?_
        rintro e' a1 cs1 w1 ⟨rfl, hd1, ρ1, u1, rfl, hso1, ht1, hm1, hx1⟩
        obtain ⟨v', hrun, _⟩ := ares_sound hm1 ht1 hv
        rcases he with rfl | rfl
        · exact ⟨hd1, u1, rfl, v', hrun, v', ρ1, rfl, hso1, hm1, hx1⟩
        · exact ⟨hd1, u1, rfl, v', hrun, v', ρ1, rfl, hso1, hm1, hx1⟩
      split at h
      · rename_i T1 m2 s2 h2
        cases hv : ares E.P fn T1 m2 with
        | none => rw [hv] at h; cases h
        | some v => rw [hv] at h; cases h; exact key .normal T1 (by simp) (.inl rfl) h2 ⟨v, hv⟩
      · rename_i T1 m2 s2 h2
        cases hv : ares E.P fn T1 m2 with
        | none => rw [hv] at h; cases h
        | some v => rw [hv] at h; cases h; exact key .ret T1 (by simp) (.inr rfl) h2 ⟨v, hv⟩
      · cases h
    · cases h
  · cases h

/-- Operations one behind the other, the last of which defers a call. -/
def aopsD (E : Env) (self : Self) (ops : Array Oper) : List Oper → List Value → Mem → Option (List Value × Mem × FuncId × List Value)
  | [], _, _ => none
  | o :: l, T, m => match agd ops T o with
    | some true => if okOp E.P o.op then match o.op with
        | .defer c => match l, c.callee with
          | [], .value f => match ev T f with
            | .func (.func g) a b => match callableB E.P g with
              | true => some (aput T o.dst undef, m, g, a.toList ++ c.args.toList.map (ev T) ++ b.toList)
              | false => none
            | _ => none
          | _, _ => none
        | _ => match astep E self T m o with
          | some (v, m1) => aopsD E self ops l (aput T o.dst v) m1
          | none => none
      else none
    | some false => aopsD E self ops l (aput T o.dst undef) m
    | none => none

/-- A call that waits to be made. -/
def DefIs (P : Program) (ρ : Ren) (g : FuncId) (dargs : List Value) (d : Deferred) : Prop :=
  ∃ cap : Array Value, d.target = .fn (.func g) cap ∧ TR ρ dargs (d.args ++ cap) ∧ ∀ w : World, (invoke d.target d.args).run P w = .ok (.enter g (d.args ++ cap)) w

theorem DefIs.mono {P : Program} {ρ ρ' : Ren} (hl : ρ.le ρ') {g : FuncId} {dargs : List Value} {d : Deferred} (h : DefIs P ρ g dargs d) : DefIs P ρ' g dargs d := by
  obtain ⟨cap, h1, h2, h3⟩ := h
  exact ⟨cap, h1, h2.mono hl, h3⟩

theorem aopsD_sound {E : Env} {self : Self} (hs : CallOK E.P (ainv E self)) (hnum : noNum E.P) (hx9 : XOK E) {ops : Array Oper} :
    ∀ (l : List Oper) (T : List Value) (m : Mem) (T1 : List Value) (m1 : Mem) (g : FuncId) (dargs : List Value), aopsD E self ops l T m = some (T1, m1, g, dargs) → ∀ (ρ : Ren) (w : World) (a : Act), a.defers = [] → MR E.P ρ m w → TR ρ T a.tmps →
      ∀ (Q : Exit → Act → World → Prop), (∀ a1 w1 ρ1 d, a1.defers = [d] → DefIs E.P ρ1 g dargs d → TR ρ1 T1 a1.tmps → MR E.P ρ1 m1 w1 → Ext ρ m w ρ1 m1 w1 → Q .normal a1 w1) → wpList E.P ops Q l a w
  | [], T, m, T1, m1, g, dargs, h, ρ, w, a, hd, hm, ht, Q, hQ => by simp [aopsD] at h
  | o :: l, T, m, T1, m1, g, dargs, h, ρ, w, a, hd, hm, ht, Q, hQ => by
    unfold aopsD at h
    split at h
    · rename_i hg
      split at h
      · rename_i hok
        simp only [wpList, agd_sound ht.size (fun _ _ _ d _ _ _ x y => ht.at_ d x y) hg, if_true]
        left
        split at h
        · rename_i c ho
          split at h
          · rename_i f hc
            split at h
            · rename_i g0 fa fb hf
              split at h
              · rename_i hcall
                simp only [Option.some.injEq, Prod.mk.injEq] at h
                obtain ⟨rfl, rfl, rfl, rfl⟩ := h
                have hev := ev_all hm ht hok
                have hfv := hev f (by simp [ho, Op.operands, Call.operands, hc])
                rw [hf] at hfv
                obtain ⟨a', b', hfe, hn, hi, hk, hj⟩ := vr_func_inv (a := fa.toList) (b := fb.toList) hfv
                have htr : TR ρ (c.args.toList.map (ev T)) (c.args.map a.eval) := by
                  obtain ⟨h1, h2⟩ := vr_map (T := T) (a := a) (ρ := ρ) (l := c.args) fun x hx => hev x (by simp [ho, Op.operands, Call.operands]; right; simpa using hx)
                  exact ⟨by simp, fun i x y hx hy => h2 i x y hx (by simpa using hy)⟩
                unfold callableB at hcall
                split at hcall
                · rename_i fn hfn
                  obtain ⟨code, hcode⟩ := Option.isSome_iff_exists.1 hcall
                  have hrun : (execOp a.eval o).run E.P w = .ok (.defer { target := .fn (.func g0) ⟨b'⟩, args := (⟨a'⟩ : Array Value) ++ c.args.map a.eval }) w := by
                    simp [execOp, ho, resolve, hc, hfe, Deferred.ofValue]
                  unfold Oper.wp
                  rw [hrun, Oper.upon_defer]
                  refine hQ _ w ρ { target := .fn (.func g0) ⟨b'⟩, args := (⟨a'⟩ : Array Value) ++ c.args.map a.eval } ?_ ⟨⟨b'⟩, rfl, tr_caps hn hi hk hj htr, fun w' => ?_⟩ ?_ hm (Ext.refl' _ hm.dom)
                  · rw [put_defers, hd]
                  · have hn := hnum g0 fn hfn
                    simp only [beq_eq_false_iff_ne, ne_eq] at hn
                    simp [invoke, callFunc, hfn, hn, hcode]
                  · exact tr_put (a := { tmps := a.tmps, defers := { target := .fn (.func g0) ⟨b'⟩, args := (⟨a'⟩ : Array Value) ++ c.args.map a.eval } :: a.defers }) ht o.dst (vr_undef ρ)
                · cases hcall
              · cases h
            · cases h
          · cases h
        · split at h
          · rename_i v m2 hst
            refine astep_wp hs hnum hx9 hm (ev_all hm ht hok) hok hst fun v' w1 ρ1 hv hm1 hx => ?_
            exact aopsD_sound hs hnum hx9 l _ _ _ _ _ _ h ρ1 w1 _ (by rw [put_defers]; exact hd) hm1 (tr_put (ht.mono hx.le) o.dst hv) Q fun a2 w2 ρ2 d h1 h2 h3 h4 h5 => hQ a2 w2 ρ2 d h1 h2 h3 h4 (hx.trans h5)
          · cases h
      · cases h
    · rename_i hg
      simp only [wpList, agd_sound ht.size (fun _ _ _ d _ _ _ x y => ht.at_ d x y) hg, Bool.false_eq_true, if_false]
      exact aopsD_sound hs hnum hx9 l _ _ _ _ _ _ h ρ w _ (by rw [put_defers]; exact hd) hm (tr_put ht o.dst (vr_undef ρ)) Q hQ
    · cases h

/-- Code that defers one call: which one, whether the rest panicked, the temporaries, the memory. -/
def acodeD (E : Env) (self sp : Self) (n : Nat) : Code → List Value → Mem → Option (FuncId × List Value × Option Value × List Value × Mem)
  | .seq a b, T, m => match acode E self n a T m with
    | some (.normal, T1, m1) => acodeD E self sp n b T1 m1
    | some _ => none
    | none => match a with
      | .region _ ops false => match aopsD E self ops ops.toList T m with
        | some (T1, m1, g, dargs) => match acode E self n b T1 m1 with
          | some (.normal, T2, m2) => some (g, dargs, none, T2, m2)
          | some (.ret, T2, m2) => some (g, dargs, none, T2, m2)
          | some _ => none
          | none => match acodeP E self sp n b T1 m1 with
            | some (pv, T2, m2) => some (g, dargs, some pv, T2, m2)
            | none => none
        | none => none
      | _ => none
  | _, _, _ => none

def DPost (P : Program) (ρ : Ren) (m : Mem) (w : World) (g : FuncId) (dargs : List Value) (pan : Option Value) (T1 : List Value) (m1 : Mem) (e : Exit) (a1 : Act) (w1 : World) : Prop :=
  ∃ ρ1 d, a1.defers = [d] ∧ DefIs P ρ1 g dargs d ∧ TR ρ1 T1 a1.tmps ∧ MR P ρ1 m1 w1 ∧ Ext ρ m w ρ1 m1 w1 ∧
    match pan with
    | none => e = .normal ∨ e = .ret
    | some pv => ∃ pv', e = .panic [{ v := pv', recovered := false }] ∧ VR ρ1 pv pv'

theorem acodeD_sound {E : Env} {self sp : Self} (hs : CallOK E.P (ainv E self)) (hp : PanOK E.P (ainvP E sp)) (hE : EnvOK E) (n : Nat) : ∀ c : Code, codeOk E.P E.wr E.sr E.mkr c = true → ∀ T m g dargs pan T1 m1, acodeD E self sp n c T m = some (g, dargs, pan, T1, m1) →
    ∀ (ρ : Ren) (w : World) (a : Act), a.defers = [] → MR E.P ρ m w → TR ρ T a.tmps → c.wp E.P (DPost E.P ρ m w g dargs pan T1 m1) a w := by
  intro c
  induction c with
  | seq x y ihx ihy =>
    intro hco T m g dargs pan T1 m1 h ρ w a hd hm ht
    simp only [codeOk, Bool.and_eq_true] at hco
    simp only [acodeD] at h
    split at h
    · rename_i T2 m2 h2
      refine wp_seq (wp_mono (acode_sound hs hE n x hco.1 _ _ _ _ _ h2 [] ρ w a hd hm ht) ?_)
      rintro e' a1 w1 ⟨rfl, hd1, ρ1, ht1, hm1, hx1⟩
      show y.wp E.P _ a1 w1
      refine wp_mono (ihy hco.2 _ _ _ _ _ _ _ h ρ1 w1 a1 hd1 hm1 ht1) ?_
      rintro e a2 w2 ⟨ρ2, d, h3, h4, h5, h6, h7, h8⟩
      exact ⟨ρ2, d, h3, h4, h5, h6, hx1.trans h7, h8⟩
    · cases h
    · split at h
      · rename_i id ops
        split at h
        · rename_i T2 m2 g0 da0 h2
          refine wp_seq (wp_region_list (aopsD_sound hs hE.num hE.ext _ _ _ _ _ _ _ h2 ρ w a hd hm ht _ fun a1 w1 ρ1 d hd1 hdi ht1 hm1 hx1 => ?_))
          show y.wp E.P _ a1 w1
          split at h
          · rename_i T3 m3 h3
            simp only [Option.some.injEq, Prod.mk.injEq] at h
            obtain ⟨rfl, rfl, rfl, rfl, rfl⟩ := h
            refine wp_mono (acode_sound hs hE n y hco.2 _ _ _ _ _ h3 [d] ρ1 w1 a1 hd1 hm1 ht1) ?_
            rintro e' a2 w2 ⟨rfl, hd2, ρ2, ht2, hm2, hx2⟩
            exact ⟨ρ2, d, hd2, hdi.mono hx2.le, ht2, hm2, hx1.trans hx2, .inl rfl⟩
          · rename_i T3 m3 h3
            simp only [Option.some.injEq, Prod.mk.injEq] at h
            obtain ⟨rfl, rfl, rfl, rfl, rfl⟩ := h
            refine wp_mono (acode_sound hs hE n y hco.2 _ _ _ _ _ h3 [d] ρ1 w1 a1 hd1 hm1 ht1) ?_
            rintro e' a2 w2 ⟨rfl, hd2, ρ2, ht2, hm2, hx2⟩
            exact ⟨ρ2, d, hd2, hdi.mono hx2.le, ht2, hm2, hx1.trans hx2, .inr rfl⟩
          · cases h
          · split at h
            · rename_i pv T3 m3 h3
              simp only [Option.some.injEq, Prod.mk.injEq] at h
              obtain ⟨rfl, rfl, rfl, rfl, rfl⟩ := h
              refine wp_mono (acodeP_sound hs hp hE n y hco.2 _ _ _ _ _ h3 [d] ρ1 w1 a1 hd1 hm1 ht1) ?_
              rintro e' a2 w2 ⟨pv', ρ2, rfl, hd2, ht2, hv2, hm2, hx2⟩
              exact ⟨ρ2, d, hd2, hdi.mono hx2.le, ht2, hm2, hx1.trans hx2, pv', rfl, hv2⟩
            · cases h
        · cases h
      · cases h
  | region id ops draw => intro _ T m g dargs pan T1 m1 h; simp [acodeD] at h
  | cond c x y ihx ihy => intro _ T m g dargs pan T1 m1 h; simp [acodeD] at h
  | block id x ihx => intro _ T m g dargs pan T1 m1 h; simp [acodeD] at h
  | loop x ihx => intro _ T m g dargs pan T1 m1 h; simp [acodeD] at h
  | scope x ihx => intro _ T m g dargs pan T1 m1 h; simp [acodeD] at h
  | skip => intro _ T m g dargs pan T1 m1 h; simp [acodeD] at h
  | label l => intro _ T m g dargs pan T1 m1 h; simp [acodeD] at h
  | exit id => intro _ T m g dargs pan T1 m1 h; simp [acodeD] at h
  | ret => intro _ T m g dargs pan T1 m1 h; simp [acodeD] at h
  | rangeFunc f ps x y ihx ihy => intro _ T m g dargs pan T1 m1 h; simp [acodeD] at h
  | goto l => intro _ T m g dargs pan T1 m1 h; simp [acodeD] at h
  | refuse s => intro _ T m g dargs pan T1 m1 h; simp [acodeD] at h

/-- A call of a function that defers one call, which recovers what there is. -/
def abodyD (E : Env) (self sp : Self) (n : Nat) (f : FuncId) (args : List Value) (m : Mem) : Option (Value × Mem) :=
  if E.good f then match E.P.funcs[f]? with
  | some fn => match fn.body with
    | some c => match acodeD E self sp n c (args ++ List.replicate (fn.ntmps - args.length) undef) m with
      | some (g, dargs, pan, T2, m2) => match abodyS E self n g dargs m2 (match pan with | none => .none | some pv => .live pv) with
        | some (m3, .none) => (ares E.P fn T2 m3).map (·, m3)
        | some (m3, .done) => (ares E.P fn T2 m3).map (·, m3)
        | _ => none
      | none => none
    | none => none
  | none => none
  else none

theorem abodyD_sound {E : Env} {self sp : Self} (hs : CallOK E.P (ainv E self)) (hp : PanOK E.P (ainvP E sp)) (hE : EnvOK E) (n : Nat) : CallOK E.P (abodyD E self sp n) := by
  intro f args m v m1 h ρ w args' hm ht
  unfold abodyD at h
  split at h
  case isFalse => cases h
  rename_i hgd
  split at h
  · rename_i fn hfn
    split at h
    · rename_i c hc
      split at h
      · rename_i g dargs pan T2 m2 h2
        have key : ∀ m3 s3, (s3 = PS.none ∨ s3 = PS.done) → abodyS E self n g dargs m2 (match pan with | none => .none | some pv => .live pv) = some (m3, s3) → (ares E.P fn T2 m3).map (·, m3) = some (v, m1) → Calls E.P f args' w (Ends E.P ρ m w v m1) := by
          intro m3 s3 hs3 h3 h4
          obtain ⟨h4, rfl⟩ := map_pair h4
          refine calls_of_wp_defers hfn hc ?_
          refine wp_mono (acodeD_sound hs hp hE n c (hE.good f fn c hgd hfn hc) _ _ _ _ _ _ _ h2 ρ w _ rfl hm (tr_start ht fn.ntmps)) ?_
          rintro e a1 w1 ⟨ρ1, d, hd1, ⟨cap, hdt, hda, hdi⟩, ht1, hm1, hx1, hpan⟩
          have leave : ∀ u, u ≠ .run → (match pan with | none => PS.none | some pv => .live pv).ok ρ1 u → Leaves E.P fn a1.tmps (Ends E.P ρ m w v m1) a1.defers u w1 := by
            intro u hu hso
            rw [hd1]
            obtain ⟨dt, dar⟩ := d
            simp only at hdt hdi hda
            subst hdt
            refine leaves_cons hu (hdi w1) ?_
            refine (abodyS_sound hs hE n h3 hm1 hda hso).mono ?_
            rintro e' u' w' ⟨v9, ρ2, rfl, hso2, hm2, hx2⟩
            have hset : settle u' = .returning := by
              rcases hs3 with rfl | rfl
              · rw [show u' = .returning from hso2]; rfl
              · obtain ⟨pv', rfl⟩ := hso2; rfl
            show Leaves E.P fn a1.tmps _ [] (settle u') w'
            rw [hset]
            obtain ⟨v', hrun, hv⟩ := ares_sound hm2 (ht1.mono hx2.le) h4
            exact ⟨v', hrun, v', ρ2, rfl, hv, hm2, hx1.trans hx2⟩
          cases pan with
          | none =>
            rcases hpan with rfl | rfl
            · exact leave .returning (by simp) rfl
            · exact leave .returning (by simp) rfl
          | some pv =>
            obtain ⟨pv', rfl, hv⟩ := hpan
            exact leave (.panicking [{ v := pv', recovered := false }]) (by simp) ⟨pv', rfl, hv⟩
        split at h
        · rename_i m3 h3; exact key m3 .none (.inl rfl) h3 h
        · rename_i m3 h3; exact key m3 .done (.inr rfl) h3 h
        · cases h
      · cases h
    · cases h
  · cases h

/-- A program's functions, with so much fuel, where that is known: what they answer; what they panic with. -/
def runQ (E : Env) (M : Mem) (K : List Fact) : Nat → Self × Self
  | 0 => (fun _ _ _ => none, fun _ _ _ => none)
  | n + 1 => (fun f args m => match hasF K f && eqM m M with
      | true => match lookF K f args with
        | some v => some (v, m)
        | none => none
      | false => match abody E (runQ E M K n).1 (n + 1) f args m with
        | some r => some r
        | none => abodyD E (runQ E M K n).1 (runQ E M K n).2 (n + 1) f args m,
    fun f args m => abodyP E (runQ E M K n).1 (runQ E M K n).2 (n + 1) f args m)

theorem runQ_sound {E : Env} (hE : EnvOK E) {M : Mem} {K : List Fact} (hK : ∀ F, F ∈ K → F.holds E.P M) : ∀ n, CallOK E.P (runQ E M K n).1 ∧ PanOK E.P (runQ E M K n).2
  | 0 => ⟨fun f args m v m1 h => by simp [runQ] at h, fun f args m v m1 h => by simp [runQ] at h⟩
  | n + 1 => by
    obtain ⟨h1, h2⟩ := runQ_sound hE hK n
    have hs := ainv_sound hE.globals hE.fast h1
    have hp := ainvP_sound hE.globals h2
    refine ⟨?_, abodyP_sound hs hp hE (n + 1)⟩
    intro f args m v m1 h
    simp only [runQ] at h
    split at h
    · rename_i hb
      simp only [Bool.and_eq_true] at hb
      split at h
      · rename_i v0 hl
        cases h
        obtain ⟨F, hF, rfl, rfl, rfl⟩ := lookF_sound hl
        rw [eqM_sound hb.2]
        exact hK F hF
      · cases h
    · split at h
      · rename_i r hr
        cases h
        exact abody_sound hs hE (n + 1) _ _ _ _ _ hr
      · exact abodyD_sound hs hp hE (n + 1) _ _ _ _ _ h

end
end Go.Am

/-
  The abstract machine: panics and deferred calls, as simp takes them (own work; nothing of a dump).
-/
set_option linter.unusedSimpArgs false
set_option linter.unusedVariables false
namespace Go.Am
noncomputable section

def aopsPN (E : Env) (self sp : Self) (ops : Array Oper) : List Oper → List Value → Mem → PRes
  | [], _, _ => none
  | o :: l, T, m => match agd ops T o with
    | some true => match astep E self T m o with
        | some (v, m1) => aopsPN E self sp ops l (aput T o.dst v) m1
        | none => match apan E sp T m o with
          | some (pv, m1) => some (pv, T, m1)
          | none => none
    | some false => aopsPN E self sp ops l (aput T o.dst undef) m
    | none => none

theorem aopsP_eqN {E : Env} {self sp : Self} {ops : Array Oper} : ∀ (l : List Oper) (T : List Value) (m : Mem), l.all (fun o => okOp E.P o.op) = true → aopsP E self sp ops l T m = aopsPN E self sp ops l T m
  | [], T, m, _ => rfl
  | o :: l, T, m, h => by
    simp only [List.all_cons, Bool.and_eq_true] at h
    rw [aopsP, aopsPN]
    cases hg : agd ops T o with
    | none => rfl
    | some b =>
      cases b with
      | false => exact aopsP_eqN l _ _ h.2
      | true =>
        simp only [h.1, if_true]
        cases hs : astep E self T m o with
        | none => rfl
        | some r =>
          obtain ⟨v, m1⟩ := r
          exact aopsP_eqN l _ _ h.2

def acodePN (E : Env) (self sp : Self) (n : Nat) : Code → List Value → Mem → PRes
  | .region _ ops false, T, m => aopsPN E self sp ops ops.toList T m
  | .seq a b, T, m => match acodeN E self n a T m with
    | some (.normal, T1, m1) => acodePN E self sp n b T1 m1
    | some _ => none
    | none => acodePN E self sp n a T m
  | .cond c a b, T, m => match ev T c with
      | .bool true => acodePN E self sp n a T m
      | .bool false => acodePN E self sp n b T m
      | _ => none
  | .block _ c, T, m => acodePN E self sp n c T m
  | .loop c, T, m => aloopP (acodeN E self n c) (acodePN E self sp n c) n T m
  | .scope c, T, m => acodePN E self sp n c T m
  | _, _, _ => none

theorem acodeP_eqN {E : Env} {self sp : Self} {n : Nat} : ∀ (c : Code), codeSt E.P c = true → acodeP E self sp n c = acodePN E self sp n c
  | .skip, _ => by funext T m; simp only [acodeP, acodePN]
  | .label _, _ => by funext T m; simp only [acodeP, acodePN]
  | .region id ops draw, h => by
    funext T m
    cases draw with
    | false => simp only [acodeP, acodePN]; rw [aopsP_eqN _ _ _ h]
    | true => simp only [acodeP, acodePN]
  | .seq a b, h => by
    simp only [codeSt, Bool.and_eq_true] at h
    funext T m
    simp only [acodeP, acodePN, acode_eqN a h.1, acodeP_eqN a h.1, acodeP_eqN b h.2]
    try rfl
  | .cond c a b, h => by
    simp only [codeSt, Bool.and_eq_true] at h
    funext T m
    simp only [acodeP, acodePN, acodeP_eqN a h.2.1, acodeP_eqN b h.2.2, h.1, if_true]
    try rfl
  | .block id c, h => by
    simp only [codeSt] at h
    funext T m
    simp only [acodeP, acodePN, acodeP_eqN c h]
  | .loop c, h => by
    simp only [codeSt] at h
    funext T m
    simp only [acodeP, acodePN, acode_eqN c h, acodeP_eqN c h]
  | .scope c, h => by
    simp only [codeSt] at h
    funext T m
    simp only [acodeP, acodePN, acodeP_eqN c h]
  | .exit _, _ => by funext T m; simp only [acodeP, acodePN]
  | .ret, _ => by funext T m; simp only [acodeP, acodePN]
  | .rangeFunc .., _ => by funext T m; simp only [acodeP, acodePN]
  | .goto _, _ => by funext T m; simp only [acodeP, acodePN]
  | .refuse _, _ => by funext T m; simp only [acodeP, acodePN]

def finishP : PRes → Option (Value × Mem)
  | some (pv, _, m1) => some (pv, m1)
  | none => none

theorem abodyP_eqF {E : Env} {self sp : Self} {n : Nat} {f : FuncId} {fn : Func} {c : Code} {args : List Value} {m : Mem} (hg : E.good f = true) (hf : E.P.funcs[f]? = some fn) (hc : fn.body = some c) (hst : codeSt E.P c = true) (hn : args.length ≤ fn.ntmps) :
    abodyP E self sp n f args m = finishP (acodePN E self sp n c (lst (init args) fn.ntmps) m) := by
  unfold abodyP
  rw [if_pos hg, hf]
  simp only [hc, acodeP_eqN c hst, lst_init hn]
  cases acodePN E self sp n c (lst (init args) fn.ntmps) m with
  | none => rfl
  | some r => rfl

/-- Nothing is deferred. -/
def isDef (o : Oper) : Bool := match o.op with
  | .defer _ => true
  | _ => false
def noDef : Code → Bool
  | .region _ ops _ => ops.toList.all fun o => !isDef o
  | .seq a b => noDef a && noDef b
  | _ => true

theorem aopsD_none {E : Env} {self : Self} {ops : Array Oper} : ∀ (l : List Oper) (T : List Value) (m : Mem), (l.all fun o => !isDef o) = true → aopsD E self ops l T m = none
  | [], T, m, _ => rfl
  | o :: l, T, m, h => by
    simp only [List.all_cons, Bool.and_eq_true] at h
    obtain ⟨h1, h2⟩ := h
    unfold isDef at h1
    rw [aopsD]
    cases hg : agd ops T o with
    | none => rfl
    | some b =>
      cases b with
      | false => exact aopsD_none l _ _ h2
      | true =>
        simp only
        split
        · split
          · rename_i heq
            rw [heq] at h1
            cases h1
          · cases hs : astep E self T m o with
            | none => rfl
            | some r =>
              obtain ⟨v, m1⟩ := r
              exact aopsD_none l _ _ h2
        · rfl

theorem acodeD_none {E : Env} {self sp : Self} {n : Nat} : ∀ (c : Code) (T : List Value) (m : Mem), noDef c = true → acodeD E self sp n c T m = none
  | .seq a b, T, m, h => by
    simp only [noDef, Bool.and_eq_true] at h
    unfold acodeD
    cases ha : acode E self n a T m with
    | some r =>
      obtain ⟨e, T1, m1⟩ := r
      cases e with
      | normal => exact acodeD_none b _ _ h.2
      | _ => rfl
    | none =>
      simp only
      cases a with
      | region id ops d =>
        cases d with
        | false =>
          have h1 := h.1
          simp only [noDef] at h1
          simp only [aopsD_none _ T m h1]
        | true => rfl
      | _ => rfl
  | .skip, _, _, _ => rfl
  | .label _, _, _, _ => rfl
  | .region .., _, _, _ => rfl
  | .cond .., _, _, _ => rfl
  | .block .., _, _, _ => rfl
  | .loop .., _, _, _ => rfl
  | .scope .., _, _, _ => rfl
  | .exit .., _, _, _ => rfl
  | .ret, _, _, _ => rfl
  | .rangeFunc .., _, _, _ => rfl
  | .goto .., _, _, _ => rfl
  | .refuse .., _, _, _ => rfl

theorem abodyD_none {E : Env} {self sp : Self} {n : Nat} {f : FuncId} {fn : Func} {c : Code} {args : List Value} {m : Mem} (hf : E.P.funcs[f]? = some fn) (hc : fn.body = some c) (hd : noDef c = true) : abodyD E self sp n f args m = none := by
  unfold abodyD
  rw [hf]
  simp only [hc, acodeD_none c _ m hd]
  split <;> rfl

/-- Code that defers a call, as simp takes it. -/
def aopsDN (E : Env) (self : Self) (ops : Array Oper) : List Oper → List Value → Mem → Option (List Value × Mem × FuncId × List Value)
  | [], _, _ => none
  | o :: l, T, m => match agd ops T o with
    | some true => match o.op with
        | .defer c => match l, c.callee with
          | [], .value f => match ev T f with
            | .func (.func g) a b => match callableB E.P g with
              | true => some (aput T o.dst undef, m, g, a.toList ++ c.args.toList.map (ev T) ++ b.toList)
              | false => none
            | _ => none
          | _, _ => none
        | _ => match astep E self T m o with
          | some (v, m1) => aopsDN E self ops l (aput T o.dst v) m1
          | none => none
    | some false => aopsDN E self ops l (aput T o.dst undef) m
    | none => none

theorem aopsD_eqN {E : Env} {self : Self} {ops : Array Oper} : ∀ (l : List Oper) (T : List Value) (m : Mem), l.all (fun o => okOp E.P o.op) = true → aopsD E self ops l T m = aopsDN E self ops l T m
  | [], T, m, _ => rfl
  | o :: l, T, m, h => by
    simp only [List.all_cons, Bool.and_eq_true] at h
    rw [aopsD, aopsDN]
    cases hg : agd ops T o with
    | none => rfl
    | some b =>
      cases b with
      | false => exact aopsD_eqN l _ _ h.2
      | true =>
        simp only [h.1, if_true]
        split
        · rename_i c heq
          simp only [heq] <;> first | rfl | (cases l <;> rfl)
        · rename_i hne
          cases hs : astep E self T m o with
          | none => simp only
          | some r =>
            obtain ⟨v, m1⟩ := r
            simp only
            exact aopsD_eqN l _ _ h.2

def acodeDN (E : Env) (self sp : Self) (n : Nat) : Code → List Value → Mem → Option (FuncId × List Value × Option Value × List Value × Mem)
  | .seq a b, T, m => match acodeN E self n a T m with
    | some (.normal, T1, m1) => acodeDN E self sp n b T1 m1
    | some _ => none
    | none => match a with
      | .region _ ops false => match aopsDN E self ops ops.toList T m with
        | some (T1, m1, g, dargs) => match acodeN E self n b T1 m1 with
          | some (.normal, T2, m2) => some (g, dargs, none, T2, m2)
          | some (.ret, T2, m2) => some (g, dargs, none, T2, m2)
          | some _ => none
          | none => match acodePN E self sp n b T1 m1 with
            | some (pv, T2, m2) => some (g, dargs, some pv, T2, m2)
            | none => none
        | none => none
      | _ => none
  | _, _, _ => none

theorem acodeD_eqN {E : Env} {self sp : Self} {n : Nat} : ∀ (c : Code) (T : List Value) (m : Mem), codeSt E.P c = true → acodeD E self sp n c T m = acodeDN E self sp n c T m
  | .seq a b, T, m, h => by
    simp only [codeSt, Bool.and_eq_true] at h
    unfold acodeD acodeDN
    rw [acode_eqN a h.1]
    cases ha : acodeN E self n a T m with
    | some r =>
      obtain ⟨e, T1, m1⟩ := r
      cases e with
      | normal => exact acodeD_eqN b _ _ h.2
      | _ => rfl
    | none =>
      simp only
      cases a with
      | region id ops d =>
        cases d with
        | false =>
          have h1 := h.1
          simp only [codeSt] at h1
          simp only [aopsD_eqN _ T m h1, acode_eqN b h.2, acodeP_eqN b h.2] <;> rfl
        | true => rfl
      | _ => rfl
  | .skip, _, _, _ => rfl
  | .label _, _, _, _ => rfl
  | .region .., _, _, _ => rfl
  | .cond .., _, _, _ => rfl
  | .block .., _, _, _ => rfl
  | .loop .., _, _, _ => rfl
  | .scope .., _, _, _ => rfl
  | .exit .., _, _, _ => rfl
  | .ret, _, _, _ => rfl
  | .rangeFunc .., _, _, _ => rfl
  | .goto .., _, _, _ => rfl
  | .refuse .., _, _, _ => rfl

/-- Code of a deferred call, as simp takes it. -/
def aopsSN (E : Env) (self : Self) (ops : Array Oper) : List Oper → List Value → Mem → PS → Option (List Value × Mem × PS)
  | [], T, m, s => some (T, m, s)
  | o :: l, T, m, s => match agd ops T o with
    | some true => match isRec o with
        | true => match s with
          | .live pv => aopsSN E self ops l (aput T o.dst pv) m .done
          | .none => aopsSN E self ops l (aput T o.dst .nilIface) m .none
          | .done => aopsSN E self ops l (aput T o.dst .nilIface) m .done
        | false => match astep E self T m o with
          | some (v, m1) => aopsSN E self ops l (aput T o.dst v) m1 s
          | none => none
    | some false => aopsSN E self ops l (aput T o.dst undef) m s
    | none => none

theorem aopsS_eqN {E : Env} {self : Self} {ops : Array Oper} : ∀ (l : List Oper) (T : List Value) (m : Mem) (s : PS), l.all (fun o => okOp E.P o.op) = true → aopsS E self ops l T m s = aopsSN E self ops l T m s
  | [], T, m, s, _ => rfl
  | o :: l, T, m, s, h => by
    simp only [List.all_cons, Bool.and_eq_true] at h
    unfold aopsS aopsSN
    cases hg : agd ops T o with
    | none => rfl
    | some b =>
      cases b with
      | false => exact aopsS_eqN l _ _ _ h.2
      | true =>
        simp only [h.1, if_true]
        cases hr : isRec o with
        | true => cases s <;> exact aopsS_eqN l _ _ _ h.2
        | false =>
          simp only
          cases hs : astep E self T m o with
          | none => rfl
          | some r =>
            obtain ⟨v, m1⟩ := r
            exact aopsS_eqN l _ _ _ h.2

def acodeSN (E : Env) (self : Self) (n : Nat) : Code → List Value → Mem → PS → Option (AExit × List Value × Mem × PS)
  | .seq a b, T, m, s => match acodeSN E self n a T m s with
    | some (.normal, T1, m1, s1) => acodeSN E self n b T1 m1 s1
    | r => r
  | .cond c a b, T, m, s => match ev T c with
      | .bool true => acodeSN E self n a T m s
      | .bool false => acodeSN E self n b T m s
      | _ => none
  | .region _ ops false, T, m, s => match aopsSN E self ops ops.toList T m s with
    | some (T1, m1, s1) => some (.normal, T1, m1, s1)
    | none => none
  | c, T, m, s => match acodeN E self n c T m with
    | some (e, T1, m1) => some (e, T1, m1, s)
    | none => none

theorem acodeS_eqN {E : Env} {self : Self} {n : Nat} : ∀ (c : Code) (T : List Value) (m : Mem) (s : PS), codeSt E.P c = true → acodeS E self n c T m s = acodeSN E self n c T m s
  | .seq a b, T, m, s, h => by
    simp only [codeSt, Bool.and_eq_true] at h
    have hb : acodeS E self n b = acodeSN E self n b := by
      funext T m s
      exact acodeS_eqN b T m s h.2
    simp only [acodeS, acodeSN, acodeS_eqN a _ _ _ h.1, hb]
    try rfl
  | .cond c a b, T, m, s, h => by
    simp only [codeSt, Bool.and_eq_true] at h
    simp only [acodeS, acodeSN, acodeS_eqN a _ _ _ h.2.1, acodeS_eqN b _ _ _ h.2.2, h.1, if_true]
    try rfl
  | .region id ops draw, T, m, s, h => by
    cases draw with
    | false => simp only [acodeS, acodeSN]; rw [aopsS_eqN _ _ _ _ h]; try rfl
    | true => simp only [acodeS, acodeSN, acode_eqN _ h]; try rfl
  | .skip, _, _, _, h => by simp only [acodeS, acodeSN, acode_eqN _ h]; try rfl
  | .label _, _, _, _, h => by simp only [acodeS, acodeSN, acode_eqN _ h]; try rfl
  | .block .., _, _, _, h => by simp only [acodeS, acodeSN, acode_eqN _ h]; try rfl
  | .loop .., _, _, _, h => by simp only [acodeS, acodeSN, acode_eqN _ h]; try rfl
  | .scope .., _, _, _, h => by simp only [acodeS, acodeSN, acode_eqN _ h]; try rfl
  | .exit .., _, _, _, h => by simp only [acodeS, acodeSN, acode_eqN _ h]; try rfl
  | .ret, _, _, _, h => by simp only [acodeS, acodeSN, acode_eqN _ h]; try rfl
  | .rangeFunc .., _, _, _, h => by simp only [acodeS, acodeSN, acode_eqN _ h]; try rfl
  | .goto .., _, _, _, h => by simp only [acodeS, acodeSN, acode_eqN _ h]; try rfl
  | .refuse .., _, _, _, h => by simp only [acodeS, acodeSN, acode_eqN _ h]; try rfl

def psOf : Option Value → PS
  | none => .none
  | some pv => .live pv

theorem abodyD_eqF {E : Env} {self sp : Self} {n : Nat} {f : FuncId} {fn : Func} {c : Code} {args : List Value} {m : Mem} (hg : E.good f = true) (hf : E.P.funcs[f]? = some fn) (hc : fn.body = some c) (hst : codeSt E.P c = true) (hn : args.length ≤ fn.ntmps)
    {g : FuncId} {dargs : List Value} {pan : Option Value} {T2 : List Value} {m2 m3 : Mem} {s : PS} {v : Value} (h1 : acodeDN E self sp n c (lst (init args) fn.ntmps) m = some (g, dargs, pan, T2, m2)) (h2 : abodyS E self n g dargs m2 (psOf pan) = some (m3, s)) (hs : s = .none ∨ s = .done) (h3 : ares E.P fn T2 m3 = some v) :
    abodyD E self sp n f args m = some (v, m3) := by
  unfold abodyD
  rw [if_pos hg, hf]
  simp only [hc, acodeD_eqN c _ _ hst, lst_init hn, h1]
  cases pan with
  | none =>
    have h2' : abodyS E self n g dargs m2 .none = some (m3, s) := h2
    simp only [h2']
    rcases hs with rfl | rfl <;> simp only [h3, Option.map_some]
  | some pv =>
    have h2' : abodyS E self n g dargs m2 (.live pv) = some (m3, s) := h2
    simp only [h2']
    rcases hs with rfl | rfl <;> simp only [h3, Option.map_some]

theorem abodyS_eqF {E : Env} {self : Self} {n : Nat} {f : FuncId} {fn : Func} {c : Code} {args : List Value} {m : Mem} {s : PS} (hg : E.good f = true) (hf : E.P.funcs[f]? = some fn) (hc : fn.body = some c) (hst : codeSt E.P c = true) (hn : args.length ≤ fn.ntmps)
    {T1 : List Value} {m1 : Mem} {s1 : PS} {e : AExit} (h1 : acodeSN E self n c (lst (init args) fn.ntmps) m s = some (e, T1, m1, s1)) (he : e = .normal ∨ e = .ret) {v : Value} (h2 : ares E.P fn T1 m1 = some v) : abodyS E self n f args m s = some (m1, s1) := by
  unfold abodyS
  rw [if_pos hg, hf]
  simp only [hc, acodeS_eqN c _ _ _ hst, lst_init hn, h1]
  rcases he with rfl | rfl <;> simp only [h2, Option.map_some]

/-- Answers, panics, so many calls deep; what is told of some functions by itself. -/
def runO (E : Env) (S : List FuncId) (O : Self) : Nat → Self × Self
  | 0 => (fun _ _ _ => none, fun _ _ _ => none)
  | n + 1 => (fun f args m => match S.contains f with
      | true => O f args m
      | false => match abody E (runO E S O n).1 (n + 1) f args m with
        | some r => some r
        | none => abodyD E (runO E S O n).1 (runO E S O n).2 (n + 1) f args m,
    fun f args m => abodyP E (runO E S O n).1 (runO E S O n).2 (n + 1) f args m)

theorem runO_sound {E : Env} (hE : EnvOK E) {S : List FuncId} {O : Self} (hO : CallOK E.P O) : ∀ n, CallOK E.P (runO E S O n).1 ∧ PanOK E.P (runO E S O n).2
  | 0 => ⟨fun f args m v m1 h => by simp [runO] at h, fun f args m v m1 h => by simp [runO] at h⟩
  | n + 1 => by
    obtain ⟨h1, h2⟩ := runO_sound hE hO n
    have hs := ainv_sound hE.globals hE.fast h1
    have hp := ainvP_sound hE.globals h2
    refine ⟨?_, abodyP_sound hs hp hE (n + 1)⟩
    intro f args m v m1 h
    simp only [runO] at h
    split at h
    · exact hO _ _ _ _ _ h
    · split at h
      · rename_i r hr
        cases h
        exact abody_sound hs hE (n + 1) _ _ _ _ _ hr
      · exact abodyD_sound hs hp hE (n + 1) _ _ _ _ _ h

theorem runO_told {E : Env} {S : List FuncId} {O : Self} {n : Nat} {f : FuncId} {args : List Value} {m : Mem} (hS : S.contains f = true) : (runO E S O (n + 1)).1 f args m = O f args m := by
  simp only [runO, hS]
theorem runO_1 {E : Env} {S : List FuncId} {O : Self} {n : Nat} {f : FuncId} {args : List Value} {m : Mem} {r : Value × Mem} (hS : S.contains f = false) (h : abody E (runO E S O n).1 (n + 1) f args m = some r) : (runO E S O (n + 1)).1 f args m = some r := by
  simp only [runO, hS, h]
theorem runO_no {E : Env} {S : List FuncId} {O : Self} {n : Nat} {f : FuncId} {args : List Value} {m : Mem} (hS : S.contains f = false) (h : abody E (runO E S O n).1 (n + 1) f args m = none) (hd : abodyD E (runO E S O n).1 (runO E S O n).2 (n + 1) f args m = none) : (runO E S O (n + 1)).1 f args m = none := by
  simp only [runO, hS, h, hd]
theorem runO_door {E : Env} {S : List FuncId} {O : Self} {n : Nat} {f : FuncId} {args : List Value} {m : Mem} {r : Value × Mem} (hS : S.contains f = false) (h : abody E (runO E S O n).1 (n + 1) f args m = none) (hd : abodyD E (runO E S O n).1 (runO E S O n).2 (n + 1) f args m = some r) : (runO E S O (n + 1)).1 f args m = some r := by
  simp only [runO, hS, h, hd]
theorem runO_2 {E : Env} {S : List FuncId} {O : Self} {n : Nat} {f : FuncId} {args : List Value} {m : Mem} {r : Value × Mem} (h : abodyP E (runO E S O n).1 (runO E S O n).2 (n + 1) f args m = some r) : (runO E S O (n + 1)).2 f args m = some r := by
  simp only [runO, h]
end
end Go.Am

/-
  The abstract machine of this seat's program: what is told of it (own work).
-/
set_option linter.unusedSimpArgs false
set_option linter.unusedVariables false
namespace Go.Am.Seat
open Go.Proofs Go.Am

def wrs : List Nat := [46, 27, 29, 28, 47, 48, 42, 50, dynId, 23, 45, 35, 36, 37]
def wrF (g : FuncId) : Bool := wrs.contains g
def extF (g : FuncId) : Option XK := if g = 49 then some .same else if g = 55 then some (.noZero 5) else none

def hasCall (ops : Array Oper) : Bool := ops.toList.any fun o => match o.op with
  | .call _ => true
  | _ => false
/-- Drawn regions that make variables, which are taken by themselves. -/
def srF (id : Nat) (ops : Array Oper) : Bool := ((id == 1 && ((ops.size == 9 || ops.size == 6) && isAl ops (ops.size - 2))) || ((id == 2 && (ops.size == 6 && isAl ops 4)) || ((id == 3 && (ops.size == 14 || (ops.size == 12 || (ops.size == 8 || (ops.size == 10 && isAl ops 8))))) || ((id == 4 && (ops.size == 6 && (isAl ops 4 || isAl ops 3))) || (id == 5 && ops.size == 11))))) || (hasCall ops && ([(4, 22)] : List (Nat × Nat)).any fun p => id == p.1 && ops.size == p.2)
/-- Drawn regions that make rows. -/
def mkF (id : Nat) (ops : Array Oper) : Bool := (hasCall ops && ([(4, 22)] : List (Nat × Nat)).any fun p => id == p.1 && ops.size == p.2)

/-- A text so often. -/
def repeatF : List Value → Option Value
  | [.string s, .int .i64 n] => if 0 ≤ n ∧ (n ≤ 4096 ∧ s.size ≤ 4096) then some (.string ⟨(Lib.repeatL s.data.toList n.toNat).toArray⟩) else none
  | _ => none

noncomputable def E : Env := { P := Tryd.prog, G := 3, wr := wrF, ext := extF, fast := fun g => if g = 54 then some repeatF else none, strict := true, sr := srF, mkr := mkF, good := fun g => !(([4] : List Nat).contains g) }

def int64s (l : List Int) : List Value := l.map (.int .u64)
def keys : List Int := [4794697086780616226, 8158064640168781261, 13096744586834688815, 16840607885511220156, 4131703408338449720, 6480981068601479193, 10538285296894168987, 12329834152419229976, 15566598209576043074, 1334009975649890238, 2608012711638119052, 6128411473006802146, 8268148722764581231, 9286055187155687089, 11230858885718282805, 13951009754708518548, 16472876342353939154, 17275323862435702243, 1135362057144423861, 2597628984639134821, 3308224258029322869, 5365058923640841347, 6679025012923562964, 8573033837759648693, 10970295158949994411, 12119686244451234320, 12683024718118986047, 13788192230050041572, 14330467153632333762, 15395433587784984357, 489312712824947311, 1452737877330783856, 2861767655752347644, 3322285676063803686, 5560940570517711597, 5996557281743188959, 7280758554555802590, 8532644243296465576, 9350256976987008742, 10552545826968843579, 11727347734174303076, 12113106623233404929, 14000437183269869457, 14369950271660146224, 15101387698204529176, 15463397548674623760, 17586052441742319658, 1182934255886127544, 1847814050463011016, 2177327727835720531, 2830643537854262169, 3796741975233480872, 4115178125766777443, 5681478168544905931, 6601373596472566643, 7507060721942968483, 8399075790359081724, 8693463985226723168, 9568029438360202098, 10144078919501101548, 10430055236837252648, 11840083180663258601, 13761210420658862357, 14299343276471374635, 14566680578165727644, 15097957966210449927, 16922976911328602910, 17689382322260857208, 500013540394364858, 748580250866718886, 1242879168328830382, 1977374033974150939, 2944078676154940804, 3659926193048069267, 4368137639120453308, 4836135668995329356, 5532061633213252278, 6448918945643986474, 6902733635092675308, 7801388544844847127]
def start : List Int := [7640891576956012808, 13503953896175478587, 4354685564936845355, 11912009170470909681, 5840696475078001361, 11170449401992604703, 2270897969802886507, 6620516959819538809]
def pows : List Int := [1, 10, 100, 1000, 10000, 100000, 1000000, 10000000, 100000000, 1000000000, 10000000000, 100000000000, 1000000000000, 10000000000000, 100000000000000, 1000000000000000, 10000000000000000, 100000000000000000, 1000000000000000000, 10000000000000000000]

/-- The memory at the start of a law for which nothing is laid. -/
def mem0 : Mem := [.dead, .dead, .dead]

/-- The memory at a law's start, of the first and of the second chapter: what is laid for it. -/
def mem1 : Mem := [.dead, .dead, .dead]
def mem2 : Mem := [.tab 91 (int64s start), .tab 101 (int64s keys), .dead]
def primeW : List Int := [18446744073709551597, 18446744073709551615, 18446744073709551615, 9223372036854775807, 0, 0, 0, 0]
def rootW : List Int := [14190309331451158704, 3405592160176694392, 3120150775007532967, 3135389899092516619]
def mem5 : Mem := [.dead, .dead, .dead]
def mem5r : Mem := [.dead, .dead, .dead]

def isTrue : Option (Value × Mem) → Bool
  | some (.bool true, _) => true
  | _ => false

end Go.Am.Seat

/-
  strings.Repeat's contract laid at this program, in plain words (as the kit's laying tool writes them).
-/
set_option linter.unusedSimpArgs false
set_option linter.unusedVariables false
namespace Go.Proofs
open Go.Shelf
def Tryd.lays105_ren : Go.Shelf.Ren := ⟨fun | 105 => 54 | 212 => 57 | 99 => 58 | 165 => 46 | 166 => 28 | 170 => 59 | 169 => 29 | 263 => 61 | 264 => 62 | 206 => 63 | 240 => 42 | 241 => 50 | 276 => 49 | 277 => 55 | n => n, fun | 9 => 9 | 3 => 3 | 4 => 4 | 20 => 20 | 0 => 0 | 46 => 71 | 109 => 106 | 5 => 5 | 72 => 66 | 76 => 72 | 51 => 110 | 146 => 111 | 53 => 22 | 148 => 113 | 70 => 64 | 37 => 56 | 75 => 69 | 127 => 84 | 164 => 97 | 80 => 49 | n => n, fun | n => n⟩
theorem Tryd.lays105 : Go.Proofs.Lays.n105 Tryd.prog Tryd.lays105_ren := {
  mixed := by kernel_rfl
  f99 := Tryd.func58.trans (congrArg some (by kernel_rfl))
  f105 := Tryd.func54.trans (congrArg some (by kernel_rfl))
  f165 := Tryd.func46.trans (congrArg some (by kernel_rfl))
  f166 := Tryd.func28.trans (congrArg some (by kernel_rfl))
  f169 := Tryd.func29.trans (congrArg some (by kernel_rfl))
  f170 := Tryd.func59.trans (congrArg some (by kernel_rfl))
  f206 := Tryd.func63.trans (congrArg some (by kernel_rfl))
  f212 := Tryd.func57.trans (congrArg some (by kernel_rfl))
  f240 := Tryd.func42.trans (congrArg some (by kernel_rfl))
  f241 := Tryd.func50.trans (congrArg some (by kernel_rfl))
  f263 := Tryd.func61.trans (congrArg some (by kernel_rfl))
  f264 := Tryd.func62.trans (congrArg some (by kernel_rfl))
  f276 := Tryd.func49.trans (congrArg some (by kernel_rfl))
  f277 := Tryd.func55.trans (congrArg some (by kernel_rfl))
  t0 := Tryd.underlying0
  a0 := Tryd.isAgg0
  z0 := Tryd.sizeOf0
  v0 := Tryd.zeroValue0
  t3 := Tryd.underlying3
  a3 := Tryd.isAgg3
  z3 := Tryd.sizeOf3
  v3 := Tryd.zeroValue3
  t4 := Tryd.underlying4
  a4 := Tryd.isAgg4
  z4 := Tryd.sizeOf4
  v4 := Tryd.zeroValue4
  t5 := Tryd.underlying5
  a5 := Tryd.isAgg5
  z5 := Tryd.sizeOf5
  v5 := Tryd.zeroValue5
  t9 := Tryd.underlying9
  a9 := Tryd.isAgg9
  z9 := Tryd.sizeOf9
  v9 := Tryd.zeroValue9
  t20 := Tryd.underlying20
  a20 := Tryd.isAgg20
  z20 := Tryd.sizeOf20
  v20 := Tryd.zeroValue20
  t37 := Tryd.underlying56
  a37 := Tryd.isAgg56
  z37 := Tryd.sizeOf56
  v37 := Tryd.zeroValue56
  t46 := Tryd.underlying71
  a46 := Tryd.isAgg71
  z46 := Tryd.sizeOf71
  v46 := Tryd.zeroValue71
  t51 := Tryd.underlying110
  a51 := Tryd.isAgg110
  z51 := Tryd.sizeOf110
  v51 := Tryd.zeroValue110
  t53 := Tryd.underlying22
  a53 := Tryd.isAgg22
  z53 := Tryd.sizeOf22
  v53 := Tryd.zeroValue22
  t70 := Tryd.underlying64
  a70 := Tryd.isAgg64
  z70 := Tryd.sizeOf64
  v70 := Tryd.zeroValue64
  t72 := Tryd.underlying66
  a72 := Tryd.isAgg66
  z72 := Tryd.sizeOf66
  v72 := Tryd.zeroValue66
  t75 := Tryd.underlying69
  a75 := Tryd.isAgg69
  z75 := Tryd.sizeOf69
  v75 := Tryd.zeroValue69
  t76 := Tryd.underlying72
  a76 := Tryd.isAgg72
  z76 := Tryd.sizeOf72
  v76 := Tryd.zeroValue72
  t109 := Tryd.underlying106
  a109 := Tryd.isAgg106
  z109 := Tryd.sizeOf106
  v109 := Tryd.zeroValue106
  t127 := Tryd.underlying84
  a127 := Tryd.isAgg84
  z127 := Tryd.sizeOf84
  v127 := Tryd.zeroValue84
  t146 := Tryd.underlying111
  a146 := Tryd.isAgg111
  z146 := Tryd.sizeOf111
  v146 := Tryd.zeroValue111
  t148 := Tryd.underlying113
  a148 := Tryd.isAgg113
  z148 := Tryd.sizeOf113
  v148 := Tryd.zeroValue113
  t164 := Tryd.underlying97
  a164 := Tryd.isAgg97
  z164 := Tryd.sizeOf97
  v164 := Tryd.zeroValue97 }
theorem Tryd.Builder_Extra_105 : Builder.Extra Tryd.prog Tryd.lays105_ren := {
  sizeBuilder := by kernel_rfl
  liesBuilder := by kernel_rfl
  t5 := Tryd.underlying5
  a5 := Tryd.isAgg5
  z5 := Tryd.sizeOf5
  v5 := Tryd.zeroValue5
  infoByte := by kernel_rfl
  cellsByte := by kernel_rfl
  sizeByte := by kernel_rfl
  neB5 := by decide }
end Go.Proofs
