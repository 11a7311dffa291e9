/-
  The abstract machine: code, and calls of functions (own work; nothing of a dump).
-/
import Derived.Test.YtmopnogcdjehmaaDoorAmK
set_option linter.unusedSimpArgs false
set_option linter.unusedVariables false
namespace Go.Am
noncomputable section

inductive AExit where
  | normal
  | exit (id : Nat)
  | ret

def AExit.to : AExit → Exit
  | .normal => .normal
  | .exit id => .exit id
  | .ret => .ret

abbrev CRes := Option (AExit × List Value × Mem)

def aloop (body : List Value → Mem → CRes) : Nat → List Value → Mem → CRes
  | 0, _, _ => none
  | n + 1, T, m => match body T m with
    | some (.normal, T1, m1) => aloop body n T1 m1
    | r => r

def acode (E : Env) (self : Self) (n : Nat) : Code → List Value → Mem → CRes
  | .skip, T, m => some (.normal, T, m)
  | .label _, T, m => some (.normal, T, m)
  | .region _ ops false, T, m => match aops E self ops ops.toList T m with
    | some (T1, m1) => some (.normal, T1, m1)
    | none => none
  | .region _ ops true, T, m => match adraw E self ops T m with
    | some (T1, m1) => some (.normal, T1, m1)
    | none => none
  | .seq a b, T, m => match acode E self n a T m with
    | some (.normal, T1, m1) => acode E self n b T1 m1
    | r => r
  | .cond c a b, T, m => if okOperand E.P c then match ev T c with
      | .bool true => acode E self n a T m
      | .bool false => acode E self n b T m
      | _ => none
    else none
  | .block id c, T, m => match acode E self n c T m with
    | some (.exit id', T1, m1) => if id' = id then some (.normal, T1, m1) else some (.exit id', T1, m1)
    | r => r
  | .loop c, T, m => aloop (acode E self n c) n T m
  | .exit id, T, m => some (.exit id, T, m)
  | .ret, T, m => some (.ret, T, m)
  | .scope c, T, m => acode E self n c T m
  | _, _, _ => none

/-- Every region that draws is one whose order makes no difference. -/
def codeOk (P : Program) (wr : FuncId → Bool) : Code → Bool
  | .region _ ops draw => match draw with
    | true => drawOkB P wr ops
    | false => true
  | .seq a b => codeOk P wr a && codeOk P wr b
  | .cond _ a b => codeOk P wr a && codeOk P wr b
  | .block _ a => codeOk P wr a
  | .loop a => codeOk P wr a
  | .scope a => codeOk P wr a
  | _ => true

/-- What is asked of the program, and of what is told of it. -/
structure EnvOK (E : Env) : Prop where
  globals : E.P.globals.size ≤ E.G
  fast : FastOK E
  num : noNum E.P
  ext : XOK E
  mixed : E.P.follows .mixedOrders = true
  good : ∀ (f : Nat) (fn : Func) (c : Code), E.good f = true → E.P.funcs[f]? = some fn → fn.body = some c → codeOk E.P E.wr c = true

def CodePost (P : Program) (ρ : Ren) (m : Mem) (w : World) (e : AExit) (T1 : List Value) (m1 : Mem) (e' : Exit) (a1 : Act) (w1 : World) : Prop :=
  e' = e.to ∧ Post P ρ m w T1 m1 a1 w1

theorem Post.after {P : Program} {ρ ρ1 : Ren} {m m1 m2 : Mem} {w w1 w2 : World} {T2 : List Value} {a2 : Act} (hx : Ext ρ m w ρ1 m1 w1) (h : Post P ρ1 m1 w1 T2 m2 a2 w2) : Post P ρ m w T2 m2 a2 w2 := by
  obtain ⟨hd, ρ2, h1, h2, h3⟩ := h
  exact ⟨hd, ρ2, h1, h2, hx.trans h3⟩

def BodyOK (P : Program) (c : Code) (body : List Value → Mem → CRes) : Prop :=
  ∀ T m e T1 m1, body T m = some (e, T1, m1) → ∀ (ρ : Ren) (w : World) (a : Act), a.defers = [] → MR P ρ m w → TR ρ T a.tmps → c.wp P (CodePost P ρ m w e T1 m1) a w

theorem rounds_mono {P : Program} {c : Code} : ∀ {n : Nat} {Q Q' : Exit → Act → World → Prop} {a : Act} {w : World}, Code.rounds P c Q n a w → (∀ e a w, Q e a w → Q' e a w) → Code.rounds P c Q' n a w
  | 0, _, _, _, _, h, _ => h.elim
  | n + 1, Q, Q', a, w, h, hq => by
    rw [rounds_succ] at h ⊢
    refine wp_mono h ?_
    intro e a1 w1 h1
    cases e with
    | normal => exact rounds_mono h1 hq
    | exit id => exact hq _ _ _ h1
    | goto l => exact hq _ _ _ h1
    | ret => exact hq _ _ _ h1
    | panic ch => exact hq _ _ _ h1
    | outgrown => exact hq _ _ _ h1

theorem aloop_sound {P : Program} {c : Code} {body : List Value → Mem → CRes} (hb : BodyOK P c body) :
    ∀ (n : Nat) T m e T1 m1, aloop body n T m = some (e, T1, m1) → e ≠ .normal ∧ ∀ (ρ : Ren) (w : World) (a : Act), a.defers = [] → MR P ρ m w → TR ρ T a.tmps → Code.rounds P c (CodePost P ρ m w e T1 m1) n a w
  | 0, T, m, e, T1, m1, h => by simp [aloop] at h
  | n + 1, T, m, e, T1, m1, h => by
    unfold aloop at h
    split at h
    · rename_i T2 m2 h2
      obtain ⟨hne, ih⟩ := aloop_sound hb n _ _ _ _ _ h
      refine ⟨hne, fun ρ w a hd hm ht => ?_⟩
      rw [rounds_succ]
      refine wp_mono (hb _ _ _ _ _ h2 ρ w a hd hm ht) ?_
      rintro e' a1 w1 ⟨rfl, hd1, ρ1, ht1, hm1, hx1⟩
      show Code.rounds P c _ n a1 w1
      have := ih ρ1 w1 a1 hd1 hm1 ht1
      refine rounds_mono this ?_
      rintro e'' a2 w2 ⟨rfl, hp⟩
      exact ⟨rfl, hp.after hx1⟩
    · rename_i r hr
      have hne : e ≠ .normal := by rintro rfl; exact hr _ _ h
      refine ⟨hne, fun ρ w a hd hm ht => ?_⟩
      rw [rounds_succ]
      refine wp_mono (hb _ _ _ _ _ h ρ w a hd hm ht) ?_
      rintro e' a1 w1 ⟨rfl, hp⟩
      cases e with
      | normal => exact absurd rfl hne
      | exit id => exact ⟨rfl, hp⟩
      | ret => exact ⟨rfl, hp⟩

theorem acode_sound {E : Env} {self : Self} (hs : CallOK E.P (ainv E self)) (hE : EnvOK E) (n : Nat) : ∀ c : Code, codeOk E.P E.wr c = true → BodyOK E.P c (acode E self n c) := by
  intro c
  induction c with
  | skip =>
    intro _ T m e T1 m1 h ρ w a hd hm ht
    simp only [acode, Option.some.injEq, Prod.mk.injEq] at h
    obtain ⟨rfl, rfl, rfl⟩ := h
    exact wp_skip ⟨rfl, hd, ρ, ht, hm, Ext.refl' _ hm.dom⟩
  | label l =>
    intro _ T m e T1 m1 h ρ w a hd hm ht
    simp only [acode, Option.some.injEq, Prod.mk.injEq] at h
    obtain ⟨rfl, rfl, rfl⟩ := h
    exact wp_label ⟨rfl, hd, ρ, ht, hm, Ext.refl' _ hm.dom⟩
  | region id ops draw =>
    intro hco T m e T1 m1 h ρ w a hd hm ht
    cases draw with
    | false =>
      simp only [acode] at h
      split at h
      · rename_i T2 m2 h2
        cases h
        exact wp_region_list (aops_sound hs hE.num hE.ext _ _ _ _ _ h2 ρ w a hd hm ht fun a1 w1 hp => ⟨rfl, hp⟩)
      · cases h
    | true =>
      simp only [acode] at h
      split at h
      · rename_i T2 m2 h2
        cases h
        refine wp_mono (adraw_sound hs hE.num hE.ext hE.mixed hco h2 id ρ w a hd hm ht) ?_
        rintro e' a1 w1 ⟨rfl, hp⟩
        exact ⟨rfl, hp⟩
      · cases h
  | seq x y ihx ihy =>
    intro hco T m e T1 m1 h ρ w a hd hm ht
    simp only [codeOk, Bool.and_eq_true] at hco
    have ihx := ihx hco.1
    have ihy := ihy hco.2
    simp only [acode] at h
    split at h
    · rename_i T2 m2 h2
      refine wp_seq (wp_mono (ihx _ _ _ _ _ h2 ρ w a hd hm ht) ?_)
      rintro e' a1 w1 ⟨rfl, hd1, ρ1, ht1, hm1, hx1⟩
      show y.wp E.P _ a1 w1
      refine wp_mono (ihy _ _ _ _ _ h ρ1 w1 a1 hd1 hm1 ht1) ?_
      rintro e'' a2 w2 ⟨rfl, hp⟩
      exact ⟨rfl, hp.after hx1⟩
    · rename_i r hr
      refine wp_seq (wp_mono (ihx _ _ _ _ _ h ρ w a hd hm ht) ?_)
      rintro e' a1 w1 ⟨rfl, hp⟩
      cases e with
      | normal => exact absurd h (hr _ _)
      | exit id => exact ⟨rfl, hp⟩
      | ret => exact ⟨rfl, hp⟩
  | cond c x y ihx ihy =>
    intro hco T m e T1 m1 h ρ w a hd hm ht
    simp only [codeOk, Bool.and_eq_true] at hco
    have ihx := ihx hco.1
    have ihy := ihy hco.2
    simp only [acode] at h
    split at h
    · rename_i hok
      have hv := ev_vr hm ht c hok
      split at h
      · rename_i hc
        rw [hc] at hv
        exact wp_cond (t := true) (hv.eq_of_lit2 rfl) (ihx _ _ _ _ _ h ρ w a hd hm ht)
      · rename_i hc
        rw [hc] at hv
        exact wp_cond (t := false) (hv.eq_of_lit2 rfl) (ihy _ _ _ _ _ h ρ w a hd hm ht)
      · cases h
    · cases h
  | block id x ihx =>
    intro hco T m e T1 m1 h ρ w a hd hm ht
    have ihx := ihx hco
    simp only [acode] at h
    split at h
    · rename_i id' T2 m2 h2
      refine wp_block (wp_mono (ihx _ _ _ _ _ h2 ρ w a hd hm ht) ?_)
      rintro e' a1 w1 ⟨rfl, hp⟩
      simp only [AExit.to, Exit.inBlock]
      split at h
      · rename_i he
        cases h
        rw [if_pos he]; exact ⟨rfl, hp⟩
      · rename_i he
        cases h
        rw [if_neg he]; exact ⟨rfl, hp⟩
    · rename_i r hr
      refine wp_block (wp_mono (ihx _ _ _ _ _ h ρ w a hd hm ht) ?_)
      rintro e' a1 w1 ⟨rfl, hp⟩
      cases e with
      | normal => exact ⟨rfl, hp⟩
      | exit id' => exact absurd h (hr _ _ _)
      | ret => exact ⟨rfl, hp⟩
  | loop x ihx =>
    intro hco T m e T1 m1 h ρ w a hd hm ht
    have ihx := ihx hco
    simp only [acode] at h
    exact wp_loop_rounds n ((aloop_sound ihx n _ _ _ _ _ h).2 ρ w a hd hm ht)
  | exit id =>
    intro _ T m e T1 m1 h ρ w a hd hm ht
    simp only [acode, Option.some.injEq, Prod.mk.injEq] at h
    obtain ⟨rfl, rfl, rfl⟩ := h
    exact wp_exit ⟨rfl, hd, ρ, ht, hm, Ext.refl' _ hm.dom⟩
  | ret =>
    intro _ T m e T1 m1 h ρ w a hd hm ht
    simp only [acode, Option.some.injEq, Prod.mk.injEq] at h
    obtain ⟨rfl, rfl, rfl⟩ := h
    exact wp_ret ⟨rfl, hd, ρ, ht, hm, Ext.refl' _ hm.dom⟩
  | scope x ihx =>
    intro hco T m e T1 m1 h ρ w a hd hm ht
    have ihx := ihx hco
    simp only [acode] at h
    refine wp_scope_straight (wp_mono (ihx _ _ _ _ _ h ρ w a hd hm ht) ?_)
    rintro e' a1 w1 ⟨rfl, hp⟩
    cases e with
    | normal => exact ⟨rfl, hp⟩
    | exit id' => exact ⟨rfl, hp⟩
    | ret => exact ⟨rfl, hp⟩
  | rangeFunc f ps x y ihx ihy => intro _ T m e T1 m1 h; simp [acode] at h
  | goto l => intro _ T m e T1 m1 h; simp [acode] at h
  | refuse s => intro _ T m e T1 m1 h; simp [acode] at h

/-- The results. -/
def ares1 (P : Program) (T : List Value) (m : Mem) : ResultVar → Option Value
  | .tmp t => some (nth T t)
  | .cell a t => match nth T a with
    | .pointer (some ad) => aload P t (.pointer (some ad)) m
    | _ => none

def aresL (P : Program) (T : List Value) (m : Mem) : List ResultVar → Option (List Value)
  | [] => some []
  | r :: l => match ares1 P T m r with
    | some v => match aresL P T m l with
      | some vs => some (v :: vs)
      | none => none
    | none => none

def ares (P : Program) (fn : Func) (T : List Value) (m : Mem) : Option Value :=
  match aresL P T m fn.results.toList with
  | some [v] => some v
  | some vs => some (.tuple ⟨vs⟩)
  | none => none

def resSem (tmps : Array Value) : ResultVar → Sem Value
  | .tmp t => pure (tmps.getD t undef)
  | .cell a t => do loadVar t (← asAddr (tmps.getD a undef))

theorem ares1_sound {P : Program} {ρ : Ren} {m : Mem} {w : World} {T : List Value} {t : Array Value} (hm : MR P ρ m w) (ht : TR ρ T t) {r : ResultVar} {v : Value} (h : ares1 P T m r = some v) :
    ∃ v', (resSem t r).run P w = .ok v' w ∧ VR ρ v v' := by
  have hget : ∀ i, VR ρ (nth T i) (t.getD i undef) := fun i => ev_vr (a := { tmps := t, defers := [] }) hm ht (.tmp i) rfl
  cases r with
  | tmp i =>
    simp only [ares1, Option.some.injEq] at h
    subst h
    exact ⟨t.getD i undef, by simp [resSem], hget i⟩
  | cell a ty =>
    simp only [ares1] at h
    split at h
    · rename_i ad had
      have hv := hget a
      rw [had] at hv
      obtain ⟨u', hr, hu⟩ := aload_sound hm hv h
      obtain ⟨b, o, x, rfl, hx, e1⟩ := vr_ptr_some hv
      refine ⟨u', ?_, hu⟩
      rw [e1] at hr
      simp only [resSem, Sem.run_bind, e1, asAddr, Sem.run_pure, Result.andThen_ok]
      simpa [Instr.loadAt, Instr.sureAddr] using hr
    · cases h

theorem aresL_sound {P : Program} {ρ : Ren} {m : Mem} {w : World} {T : List Value} {t : Array Value} (hm : MR P ρ m w) (ht : TR ρ T t) : ∀ {l : List ResultVar} {vs : List Value}, aresL P T m l = some vs →
    ∃ vs', (l.mapM (resSem t)).run P w = .ok vs' w ∧ vs.length = vs'.length ∧ ∀ (i : Nat) (x y : Value), vs[i]? = some x → vs'[i]? = some y → VR ρ x y
  | [], vs, h => by simp [aresL] at h; subst h; exact ⟨[], by simp, rfl, fun i x y hx => by simp at hx⟩
  | r :: l, vs, h => by
    unfold aresL at h
    split at h
    · rename_i v h1
      split at h
      · rename_i vs1 h2
        cases h
        obtain ⟨v', hr1, hv⟩ := ares1_sound hm ht h1
        obtain ⟨vs', hr2, hl, hi⟩ := aresL_sound hm ht h2
        refine ⟨v' :: vs', by simp [List.mapM_cons, hr1, hr2], by simp [hl], fun i x y hx hy => ?_⟩
        cases i with
        | zero => simp at hx hy; subst hx hy; exact hv
        | succ i => simp at hx hy; exact hi i x y hx hy
      · cases h
    · cases h

theorem ares_sound {P : Program} {ρ : Ren} {m : Mem} {w : World} {fn : Func} {T : List Value} {t : Array Value} (hm : MR P ρ m w) (ht : TR ρ T t) {v : Value} (h : ares P fn T m = some v) :
    ∃ v', (results fn t).run P w = .ok v' w ∧ VR ρ v v' := by
  have key : ∀ vs, aresL P T m fn.results.toList = some vs → ∃ vs' : List Value, (results fn t).run P w = .ok (if h : vs'.toArray.size = 1 then vs'.toArray[0] else .tuple vs'.toArray) w ∧ vs.length = vs'.length ∧ ∀ (i : Nat) (x y : Value), vs[i]? = some x → vs'[i]? = some y → VR ρ x y := by
    intro vs hvs
    obtain ⟨vs', hr, hl, hi⟩ := aresL_sound hm ht hvs
    refine ⟨vs', ?_, hl, hi⟩
    have he : results fn t = ((fn.results.mapM (resSem t)) >>= fun vs => pure (if h : vs.size = 1 then vs[0] else .tuple vs)) := by
      unfold results
      congr 1
    rw [he, Array.mapM_eq_mapM_toList]
    simp [hr]
  unfold ares at h
  split at h
  · rename_i v0 h0
    cases h
    obtain ⟨vs', hr, hl, hi⟩ := key _ h0
    match vs', hl with
    | [v'], _ => exact ⟨v', by rw [hr]; rfl, hi 0 v v' rfl rfl⟩
  · rename_i vs hno hvs
    cases h
    obtain ⟨vs', hr, hl, hi⟩ := key _ hvs
    refine ⟨.tuple ⟨vs'⟩, ?_, .tuple hl hi⟩
    rw [hr]
    have : ¬ vs'.toArray.size = 1 := by
      intro h1
      simp at h1
      rw [h1] at hl
      match vs, hl with
      | [v0], _ => exact hno v0 rfl
    rw [dif_neg this]
  · cases h

/-- A function's call. -/
def abody (E : Env) (self : Self) (n : Nat) (f : FuncId) (args : List Value) (m : Mem) : Option (Value × Mem) :=
  if E.good f then match E.P.funcs[f]? with
  | some fn => match fn.body with
    | some c => match acode E self n c (args ++ List.replicate (fn.ntmps - args.length) undef) m with
      | some (.normal, T1, m1) => (ares E.P fn T1 m1).map (·, m1)
      | some (.ret, T1, m1) => (ares E.P fn T1 m1).map (·, m1)
      | _ => none
    | none => none
  | none => none
  else none

theorem abody_sound {E : Env} {self : Self} (hs : CallOK E.P (ainv E self)) (hE : EnvOK E) (n : Nat) : CallOK E.P (abody E self n) := by
  intro f args m v m1 h ρ w args' hm ht
  unfold abody at h
  split at h
  case isFalse => cases h
  rename_i hgd
  split at h
  · rename_i fn hfn
    split at h
    · rename_i c hc
      have htr : TR ρ (args ++ List.replicate (fn.ntmps - args.length) undef) (args' ++ Array.replicate (fn.ntmps - args'.size) undef) := by
        refine ⟨by simp [ht.size], fun i x y hx hy => ?_⟩
        by_cases hi : i < args.length
        · rw [List.getElem?_append_left hi] at hx
          rw [Array.getElem?_append_left (by rw [← ht.size]; exact hi)] at hy
          exact ht.at_ i x y hx hy
        · rw [List.getElem?_append_right (by omega)] at hx
          rw [Array.getElem?_append_right (by rw [← ht.size]; omega)] at hy
          rw [List.getElem?_replicate] at hx
          rw [Array.getElem?_replicate] at hy
          split at hx
          · split at hy
            · cases hx; cases hy; exact vr_undef ρ
            · cases hy
          · cases hx
      refine calls_of_wp hfn hc ?_
      have fin : ∀ T1 m2 a1 w1, a1.defers = [] → Post E.P ρ m w T1 m2 a1 w1 → (ares E.P fn T1 m2).map (·, m2) = some (v, m1) →
          a1.defers = [] ∧ ∃ v', (results fn a1.tmps).run E.P w1 = .ok v' w1 ∧ Ends E.P ρ m w v m1 (.returned v') w1 := by
        intro T1 m2 a1 w1 hd hp hr
        obtain ⟨h9, rfl⟩ := map_pair hr
        obtain ⟨_, ρ1, ht1, hm1, hx1⟩ := hp
        obtain ⟨v', hrun, hv⟩ := ares_sound hm1 ht1 h9
        exact ⟨hd, v', hrun, v', ρ1, rfl, hv, hm1, hx1⟩
      split at h
      · rename_i T1 m2 h2
        refine wp_mono (acode_sound hs hE n c (hE.good f fn c hgd hfn hc) _ _ _ _ _ h2 ρ w _ rfl hm htr) ?_
        rintro e' a1 w1 ⟨rfl, hp⟩
        exact fin T1 m2 a1 w1 hp.1 hp h
      · rename_i T1 m2 h2
        refine wp_mono (acode_sound hs hE n c (hE.good f fn c hgd hfn hc) _ _ _ _ _ h2 ρ w _ rfl hm htr) ?_
        rintro e' a1 w1 ⟨rfl, hp⟩
        exact fin T1 m2 a1 w1 hp.1 hp h
      · cases h
    · cases h
  · cases h

/-- A program's functions, with so much fuel. -/
def run (E : Env) : Nat → Self
  | 0 => fun _ _ _ => none
  | n + 1 => abody E (run E n) (n + 1)

theorem run_sound {E : Env} (hE : EnvOK E) : ∀ n, CallOK E.P (run E n)
  | 0 => fun f args m v m1 h => by simp [run] at h
  | n + 1 => abody_sound (ainv_sound hE.globals hE.fast (run_sound hE n)) hE (n + 1)

end
end Go.Am
