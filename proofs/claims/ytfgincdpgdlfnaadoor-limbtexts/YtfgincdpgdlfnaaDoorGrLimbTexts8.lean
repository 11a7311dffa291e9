/-
  Texts of my own, put together: 8, S, U, N, 9, L.
-/
import Derived.Test.YtfgincdpgdlfnaaDoorGrLimbTexts7
import Derived.Test.YtfgincdpgdlfnaaDoorProg
import Derived.KernelRfl
import Derived.Lib.Repeat
import Derived.Shelf.Strings.Repeat
set_option linter.unusedSimpArgs false
set_option linter.unusedVariables false
namespace Go.Am
noncomputable section
inductive AExit where
  | normal
  | exit (id : Nat)
  | ret
def AExit.to : AExit → Exit
  | .normal => .normal
  | .exit id => .exit id
  | .ret => .ret
abbrev CRes := Option (AExit × List Value × Mem)
def aloop (body : List Value → Mem → CRes) : Nat → List Value → Mem → CRes
  | 0, _, _ => none
  | n + 1, T, m => match body T m with
    | some (.normal, T1, m1) => aloop body n T1 m1
    | r => r
def adraw2 (E : Env) (self : Self) (id : Nat) (ops : Array Oper) (T : List Value) (m : Mem) : Option (List Value × Mem) := match E.sr id ops with
  | true => match E.mkr id ops with
    | true => amk E self ops T m
    | false => asr E self ops T m
  | false => adraw E self ops T m
def acode (E : Env) (self : Self) (n : Nat) : Code → List Value → Mem → CRes
  | .skip, T, m => some (.normal, T, m)
  | .label _, T, m => some (.normal, T, m)
  | .region _ ops false, T, m => match aops E self ops ops.toList T m with
    | some (T1, m1) => some (.normal, T1, m1)
    | none => none
  | .region id ops true, T, m => match adraw2 E self id ops T m with
    | some (T1, m1) => some (.normal, T1, m1)
    | none => none
  | .seq a b, T, m => match acode E self n a T m with
    | some (.normal, T1, m1) => acode E self n b T1 m1
    | r => r
  | .cond c a b, T, m => if okOperand E.P c then match ev T c with
      | .bool true => acode E self n a T m
      | .bool false => acode E self n b T m
      | _ => none
    else none
  | .block id c, T, m => match acode E self n c T m with
    | some (.exit id', T1, m1) => if id' = id then some (.normal, T1, m1) else some (.exit id', T1, m1)
    | r => r
  | .loop c, T, m => aloop (acode E self n c) n T m
  | .exit id, T, m => some (.exit id, T, m)
  | .ret, T, m => some (.ret, T, m)
  | .scope c, T, m => acode E self n c T m
  | _, _, _ => none
def codeOk (P : Program) (wr : FuncId → Bool) (sr mk : Nat → Array Oper → Bool) : Code → Bool
  | .region id ops draw => match draw with
    | true => (match sr id ops with
      | true => (match mk id ops with
        | true => mkOkB ops
        | false => srOkB P ops)
      | false => drawOkB P wr ops)
    | false => true
  | .seq a b => codeOk P wr sr mk a && codeOk P wr sr mk b
  | .cond _ a b => codeOk P wr sr mk a && codeOk P wr sr mk b
  | .block _ a => codeOk P wr sr mk a
  | .loop a => codeOk P wr sr mk a
  | .scope a => codeOk P wr sr mk a
  | _ => true
structure EnvOK (E : Env) : Prop where
  globals : E.P.globals.size ≤ E.G
  fast : FastOK E
  num : noNum E.P
  ext : XOK E
  mixed : E.P.follows .mixedOrders = true
  good : ∀ (f : Nat) (fn : Func) (c : Code), E.good f = true → E.P.funcs[f]? = some fn → fn.body = some c → codeOk E.P E.wr E.sr E.mkr c = true
def CodePost (D : List Deferred) (P : Program) (ρ : Ren) (m : Mem) (w : World) (e : AExit) (T1 : List Value) (m1 : Mem) (e' : Exit) (a1 : Act) (w1 : World) : Prop :=
  e' = e.to ∧ Post D P ρ m w T1 m1 a1 w1
theorem Post.after {D : List Deferred} {P : Program} {ρ ρ1 : Ren} {m m1 m2 : Mem} {w w1 w2 : World} {T2 : List Value} {a2 : Act} (hx : Ext ρ m w ρ1 m1 w1) (h : Post D P ρ1 m1 w1 T2 m2 a2 w2) : Post D P ρ m w T2 m2 a2 w2 := by
  obtain ⟨hd, ρ2, h1, h2, h3⟩ := h
  exact ⟨hd, ρ2, h1, h2, hx.trans h3⟩
def BodyOK (P : Program) (c : Code) (body : List Value → Mem → CRes) : Prop :=
  ∀ T m e T1 m1, body T m = some (e, T1, m1) → ∀ (D : List Deferred) (ρ : Ren) (w : World) (a : Act), a.defers = D → MR P ρ m w → TR ρ T a.tmps → c.wp P (CodePost D P ρ m w e T1 m1) a w
theorem rounds_mono {P : Program} {c : Code} : ∀ {n : Nat} {Q Q' : Exit → Act → World → Prop} {a : Act} {w : World}, Code.rounds P c Q n a w → (∀ e a w, Q e a w → Q' e a w) → Code.rounds P c Q' n a w
  | 0, _, _, _, _, h, _ => h.elim
  | n + 1, Q, Q', a, w, h, hq => by
    rw [rounds_succ] at h ⊢
    refine wp_mono h ?_
    intro e a1 w1 h1
    cases e with
    | normal => exact rounds_mono h1 hq
    | exit id => exact hq _ _ _ h1
    | goto l => exact hq _ _ _ h1
    | ret => exact hq _ _ _ h1
    | panic ch => exact hq _ _ _ h1
    | outgrown => exact hq _ _ _ h1
theorem aloop_sound {P : Program} {c : Code} {body : List Value → Mem → CRes} (hb : BodyOK P c body) :
    ∀ (n : Nat) T m e T1 m1, aloop body n T m = some (e, T1, m1) → e ≠ .normal ∧ ∀ (D : List Deferred) (ρ : Ren) (w : World) (a : Act), a.defers = D → MR P ρ m w → TR ρ T a.tmps → Code.rounds P c (CodePost D P ρ m w e T1 m1) n a w
  | 0, T, m, e, T1, m1, h => by simp [aloop] at h
  | n + 1, T, m, e, T1, m1, h => by
    unfold aloop at h
    split at h
    · rename_i T2 m2 h2
      obtain ⟨hne, ih⟩ := aloop_sound hb n _ _ _ _ _ h
      refine ⟨hne, fun D ρ w a hd hm ht => ?_⟩
      rw [rounds_succ]
      refine wp_mono (hb _ _ _ _ _ h2 D ρ w a hd hm ht) ?_
      rintro e' a1 w1 ⟨rfl, hd1, ρ1, ht1, hm1, hx1⟩
      show Code.rounds P c _ n a1 w1
      have := ih D ρ1 w1 a1 hd1 hm1 ht1
      refine rounds_mono this ?_
      rintro e'' a2 w2 ⟨rfl, hp⟩
      exact ⟨rfl, hp.after hx1⟩
    · rename_i r hr
      have hne : e ≠ .normal := by rintro rfl; exact hr _ _ h
      refine ⟨hne, fun D ρ w a hd hm ht => ?_⟩
      rw [rounds_succ]
      refine wp_mono (hb _ _ _ _ _ h D ρ w a hd hm ht) ?_
      rintro e' a1 w1 ⟨rfl, hp⟩
      cases e with
      | normal => exact absurd rfl hne
      | exit id => exact ⟨rfl, hp⟩
      | ret => exact ⟨rfl, hp⟩
theorem acode_sound {E : Env} {self : Self} (hs : CallOK E.P (ainv E self)) (hE : EnvOK E) (n : Nat) : ∀ c : Code, codeOk E.P E.wr E.sr E.mkr c = true → BodyOK E.P c (acode E self n c) := by
  intro c
  induction c with
  | skip =>
    intro _ T m e T1 m1 h D ρ w a hd hm ht
    simp only [acode, Option.some.injEq, Prod.mk.injEq] at h
    obtain ⟨rfl, rfl, rfl⟩ := h
    exact wp_skip ⟨rfl, hd, ρ, ht, hm, Ext.refl' _ hm.dom⟩
  | label l =>
    intro _ T m e T1 m1 h D ρ w a hd hm ht
    simp only [acode, Option.some.injEq, Prod.mk.injEq] at h
    obtain ⟨rfl, rfl, rfl⟩ := h
    exact wp_label ⟨rfl, hd, ρ, ht, hm, Ext.refl' _ hm.dom⟩
  | region id ops draw =>
    intro hco T m e T1 m1 h D ρ w a hd hm ht
    cases draw with
    | false =>
      simp only [acode] at h
      split at h
      · rename_i T2 m2 h2
        cases h
        exact wp_region_list (aops_sound hs hE.num hE.ext _ _ _ _ _ h2 D ρ w a hd hm ht fun a1 w1 hp => ⟨rfl, hp⟩)
      · cases h
    | true =>
      simp only [acode] at h
      split at h
      · rename_i T2 m2 h2
        cases h
        simp only [codeOk] at hco
        unfold adraw2 at h2
        cases hsr : E.sr id ops with
        | true =>
          simp only [hsr] at h2 hco
          cases hmk : E.mkr id ops with
          | true =>
            simp only [hmk] at h2 hco
            refine wp_mono (amk_sound hs hE.num hE.ext hE.mixed hco h2 id ρ w a hd hm ht) ?_
            rintro e' a1 w1 ⟨rfl, hp⟩
            exact ⟨rfl, hp⟩
          | false =>
            simp only [hmk] at h2 hco
            refine wp_mono (asr_sound hs hE.num hE.ext hE.mixed hco h2 id ρ w a hd hm ht) ?_
            rintro e' a1 w1 ⟨rfl, hp⟩
            exact ⟨rfl, hp⟩
        | false =>
          simp only [hsr] at h2 hco
          refine wp_mono (adraw_sound hs hE.num hE.ext hE.mixed hco h2 id ρ w a hd hm ht) ?_
          rintro e' a1 w1 ⟨rfl, hp⟩
          exact ⟨rfl, hp⟩
      · cases h
  | seq x y ihx ihy =>
    intro hco T m e T1 m1 h D ρ w a hd hm ht
    simp only [codeOk, Bool.and_eq_true] at hco
    have ihx := ihx hco.1
    have ihy := ihy hco.2
    simp only [acode] at h
    split at h
    · rename_i T2 m2 h2
      refine wp_seq (wp_mono (ihx _ _ _ _ _ h2 D ρ w a hd hm ht) ?_)
      rintro e' a1 w1 ⟨rfl, hd1, ρ1, ht1, hm1, hx1⟩
      show y.wp E.P _ a1 w1
      refine wp_mono (ihy _ _ _ _ _ h D ρ1 w1 a1 hd1 hm1 ht1) ?_
      rintro e'' a2 w2 ⟨rfl, hp⟩
      exact ⟨rfl, hp.after hx1⟩
    · rename_i r hr
      refine wp_seq (wp_mono (ihx _ _ _ _ _ h D ρ w a hd hm ht) ?_)
      rintro e' a1 w1 ⟨rfl, hp⟩
      cases e with
      | normal => exact absurd h (hr _ _)
      | exit id => exact ⟨rfl, hp⟩
      | ret => exact ⟨rfl, hp⟩
  | cond c x y ihx ihy =>
    intro hco T m e T1 m1 h D ρ w a hd hm ht
    simp only [codeOk, Bool.and_eq_true] at hco
    have ihx := ihx hco.1
    have ihy := ihy hco.2
    simp only [acode] at h
    split at h
    · rename_i hok
      have hv := ev_vr hm ht c hok
      split at h
      · rename_i hc
        rw [hc] at hv
        exact wp_cond (t := true) (hv.eq_of_lit2 rfl) (ihx _ _ _ _ _ h D ρ w a hd hm ht)
      · rename_i hc
        rw [hc] at hv
        exact wp_cond (t := false) (hv.eq_of_lit2 rfl) (ihy _ _ _ _ _ h D ρ w a hd hm ht)
      · cases h
    · cases h
  | block id x ihx =>
    intro hco T m e T1 m1 h D ρ w a hd hm ht
    have ihx := ihx hco
    simp only [acode] at h
    split at h
    · rename_i id' T2 m2 h2
      refine wp_block (wp_mono (ihx _ _ _ _ _ h2 D ρ w a hd hm ht) ?_)
      rintro e' a1 w1 ⟨rfl, hp⟩
      simp only [AExit.to, Exit.inBlock]
      split at h
      · rename_i he
        cases h
        rw [if_pos he]; exact ⟨rfl, hp⟩
      · rename_i he
        cases h
        rw [if_neg he]; exact ⟨rfl, hp⟩
    · rename_i r hr
      refine wp_block (wp_mono (ihx _ _ _ _ _ h D ρ w a hd hm ht) ?_)
      rintro e' a1 w1 ⟨rfl, hp⟩
      cases e with
      | normal => exact ⟨rfl, hp⟩
      | exit id' => exact absurd h (hr _ _ _)
      | ret => exact ⟨rfl, hp⟩
  | loop x ihx =>
    intro hco T m e T1 m1 h D ρ w a hd hm ht
    have ihx := ihx hco
    simp only [acode] at h
    exact wp_loop_rounds n ((aloop_sound ihx n _ _ _ _ _ h).2 D ρ w a hd hm ht)
  | exit id =>
    intro _ T m e T1 m1 h D ρ w a hd hm ht
    simp only [acode, Option.some.injEq, Prod.mk.injEq] at h
    obtain ⟨rfl, rfl, rfl⟩ := h
    exact wp_exit ⟨rfl, hd, ρ, ht, hm, Ext.refl' _ hm.dom⟩
  | ret =>
    intro _ T m e T1 m1 h D ρ w a hd hm ht
    simp only [acode, Option.some.injEq, Prod.mk.injEq] at h
    obtain ⟨rfl, rfl, rfl⟩ := h
    exact wp_ret ⟨rfl, hd, ρ, ht, hm, Ext.refl' _ hm.dom⟩
  | scope x ihx =>
    intro hco T m e T1 m1 h D ρ w a hd hm ht
    have ihx := ihx hco
    simp only [acode] at h
    refine wp_scope_straight (wp_mono (ihx _ _ _ _ _ h D ρ w a hd hm ht) ?_)
    rintro e' a1 w1 ⟨rfl, hp⟩
    cases e with
    | normal => exact ⟨rfl, hp⟩
    | exit id' => exact ⟨rfl, hp⟩
    | ret => exact ⟨rfl, hp⟩
  | rangeFunc f ps x y ihx ihy => intro _ T m e T1 m1 h; simp [acode] at h
  | goto l => intro _ T m e T1 m1 h; simp [acode] at h
  | refuse s => intro _ T m e T1 m1 h; simp [acode] at h
def ares1 (P : Program) (T : List Value) (m : Mem) : ResultVar → Option Value
  | .tmp t => some (nth T t)
  | .cell a t => match nth T a with
    | .pointer (some ad) => aload P t (.pointer (some ad)) m
    | _ => none
def aresL (P : Program) (T : List Value) (m : Mem) : List ResultVar → Option (List Value)
  | [] => some []
  | r :: l => match ares1 P T m r with
    | some v => match aresL P T m l with
      | some vs => some (v :: vs)
      | none => none
    | none => none
def ares (P : Program) (fn : Func) (T : List Value) (m : Mem) : Option Value :=
  match aresL P T m fn.results.toList with
  | some [v] => some v
  | some vs => some (.tuple ⟨vs⟩)
  | none => none
def resSem (tmps : Array Value) : ResultVar → Sem Value
  | .tmp t => pure (tmps.getD t undef)
  | .cell a t => do loadVar t (← asAddr (tmps.getD a undef))
theorem ares1_sound {P : Program} {ρ : Ren} {m : Mem} {w : World} {T : List Value} {t : Array Value} (hm : MR P ρ m w) (ht : TR ρ T t) {r : ResultVar} {v : Value} (h : ares1 P T m r = some v) :
    ∃ v', (resSem t r).run P w = .ok v' w ∧ VR ρ v v' := by
  have hget : ∀ i, VR ρ (nth T i) (t.getD i undef) := fun i => ev_vr (a := { tmps := t, defers := [] }) hm ht (.tmp i) rfl
  cases r with
  | tmp i =>
    simp only [ares1, Option.some.injEq] at h
    subst h
    exact ⟨t.getD i undef, by simp [resSem], hget i⟩
  | cell a ty =>
    simp only [ares1] at h
    split at h
    · rename_i ad had
      have hv := hget a
      rw [had] at hv
      obtain ⟨u', hr, hu⟩ := aload_sound hm hv h
      obtain ⟨b, o, x, rfl, hx, e1⟩ := vr_ptr_some hv
      refine ⟨u', ?_, hu⟩
      rw [e1] at hr
      simp only [resSem, Sem.run_bind, e1, asAddr, Sem.run_pure, Result.andThen_ok]
      simpa [Instr.loadAt, Instr.sureAddr] using hr
    · cases h
theorem aresL_sound {P : Program} {ρ : Ren} {m : Mem} {w : World} {T : List Value} {t : Array Value} (hm : MR P ρ m w) (ht : TR ρ T t) : ∀ {l : List ResultVar} {vs : List Value}, aresL P T m l = some vs →
    ∃ vs', (l.mapM (resSem t)).run P w = .ok vs' w ∧ vs.length = vs'.length ∧ ∀ (i : Nat) (x y : Value), vs[i]? = some x → vs'[i]? = some y → VR ρ x y
  | [], vs, h => by simp [aresL] at h; subst h; exact ⟨[], by simp, rfl, fun i x y hx => by simp at hx⟩
  | r :: l, vs, h => by
    unfold aresL at h
    split at h
    · rename_i v h1
      split at h
      · rename_i vs1 h2
        cases h
        obtain ⟨v', hr1, hv⟩ := ares1_sound hm ht h1
        obtain ⟨vs', hr2, hl, hi⟩ := aresL_sound hm ht h2
        refine ⟨v' :: vs', by simp [List.mapM_cons, hr1, hr2], by simp [hl], fun i x y hx hy => ?_⟩
        cases i with
        | zero => simp at hx hy; subst hx hy; exact hv
        | succ i => simp at hx hy; exact hi i x y hx hy
      · cases h
    · cases h
theorem ares_sound {P : Program} {ρ : Ren} {m : Mem} {w : World} {fn : Func} {T : List Value} {t : Array Value} (hm : MR P ρ m w) (ht : TR ρ T t) {v : Value} (h : ares P fn T m = some v) :
    ∃ v', (results fn t).run P w = .ok v' w ∧ VR ρ v v' := by
  have key : ∀ vs, aresL P T m fn.results.toList = some vs → ∃ vs' : List Value, (results fn t).run P w = .ok (if h : vs'.toArray.size = 1 then vs'.toArray[0] else .tuple vs'.toArray) w ∧ vs.length = vs'.length ∧ ∀ (i : Nat) (x y : Value), vs[i]? = some x → vs'[i]? = some y → VR ρ x y := by
    intro vs hvs
    obtain ⟨vs', hr, hl, hi⟩ := aresL_sound hm ht hvs
    refine ⟨vs', ?_, hl, hi⟩
    have he : results fn t = ((fn.results.mapM (resSem t)) >>= fun vs => pure (if h : vs.size = 1 then vs[0] else .tuple vs)) := by
      unfold results
      congr 1
    rw [he, Array.mapM_eq_mapM_toList]
    simp [hr]
  unfold ares at h
  split at h
  · rename_i v0 h0
    cases h
    obtain ⟨vs', hr, hl, hi⟩ := key _ h0
    match vs', hl with
    | [v'], _ => exact ⟨v', by rw [hr]; rfl, hi 0 v v' rfl rfl⟩
  · rename_i vs hno hvs
    cases h
    obtain ⟨vs', hr, hl, hi⟩ := key _ hvs
    refine ⟨.tuple ⟨vs'⟩, ?_, .tuple hl hi⟩
    rw [hr]
    have : ¬ vs'.toArray.size = 1 := by
      intro h1
      simp at h1
      rw [h1] at hl
      match vs, hl with
      | [v0], _ => exact hno v0 rfl
    rw [dif_neg this]
  · cases h
def abody (E : Env) (self : Self) (n : Nat) (f : FuncId) (args : List Value) (m : Mem) : Option (Value × Mem) :=
  if E.good f then match E.P.funcs[f]? with
  | some fn => match fn.body with
    | some c => match acode E self n c (args ++ List.replicate (fn.ntmps - args.length) undef) m with
      | some (.normal, T1, m1) => (ares E.P fn T1 m1).map (·, m1)
      | some (.ret, T1, m1) => (ares E.P fn T1 m1).map (·, m1)
      | _ => none
    | none => none
  | none => none
  else none
theorem abody_sound {E : Env} {self : Self} (hs : CallOK E.P (ainv E self)) (hE : EnvOK E) (n : Nat) : CallOK E.P (abody E self n) := by
  intro f args m v m1 h ρ w args' hm ht
  unfold abody at h
  split at h
  case isFalse => cases h
  rename_i hgd
  split at h
  · rename_i fn hfn
    split at h
    · rename_i c hc
      have htr : TR ρ (args ++ List.replicate (fn.ntmps - args.length) undef) (args' ++ Array.replicate (fn.ntmps - args'.size) undef) := by
        refine ⟨by simp [ht.size], fun i x y hx hy => ?_⟩
        by_cases hi : i < args.length
        · rw [List.getElem?_append_left hi] at hx
          rw [Array.getElem?_append_left (by rw [← ht.size]; exact hi)] at hy
          exact ht.at_ i x y hx hy
        · rw [List.getElem?_append_right (by omega)] at hx
          rw [Array.getElem?_append_right (by rw [← ht.size]; omega)] at hy
          rw [List.getElem?_replicate] at hx
          rw [Array.getElem?_replicate] at hy
          split at hx
          · split at hy
            · cases hx; cases hy; exact vr_undef ρ
            · cases hy
          · cases hx
      refine calls_of_wp hfn hc ?_
      have fin : ∀ T1 m2 a1 w1, a1.defers = [] → Post [] E.P ρ m w T1 m2 a1 w1 → (ares E.P fn T1 m2).map (·, m2) = some (v, m1) →
          a1.defers = [] ∧ ∃ v', (results fn a1.tmps).run E.P w1 = .ok v' w1 ∧ Ends E.P ρ m w v m1 (.returned v') w1 := by
        intro T1 m2 a1 w1 hd hp hr
        obtain ⟨h9, rfl⟩ := map_pair hr
        obtain ⟨_, ρ1, ht1, hm1, hx1⟩ := hp
        obtain ⟨v', hrun, hv⟩ := ares_sound hm1 ht1 h9
        exact ⟨hd, v', hrun, v', ρ1, rfl, hv, hm1, hx1⟩
      split at h
      · rename_i T1 m2 h2
        refine wp_mono (acode_sound hs hE n c (hE.good f fn c hgd hfn hc) _ _ _ _ _ h2 [] ρ w _ rfl hm htr) ?_
        rintro e' a1 w1 ⟨rfl, hp⟩
        exact fin T1 m2 a1 w1 hp.1 hp h
      · rename_i T1 m2 h2
        refine wp_mono (acode_sound hs hE n c (hE.good f fn c hgd hfn hc) _ _ _ _ _ h2 [] ρ w _ rfl hm htr) ?_
        rintro e' a1 w1 ⟨rfl, hp⟩
        exact fin T1 m2 a1 w1 hp.1 hp h
      · cases h
    · cases h
  · cases h
def run (E : Env) : Nat → Self
  | 0 => fun _ _ _ => none
  | n + 1 => abody E (run E n) (n + 1)
end
end Go.Am
namespace Go.Am
noncomputable section
def eqV0 : Value → Value → Bool
  | .int k n, .int k' n' => decide (k = k') && decide (n = n')
  | .bool b, .bool b' => b == b'
  | .string s, .string s' => decide (s.data.toList = s'.data.toList)
  | _, _ => false
theorem eqV0_sound {x y : Value} (h : eqV0 x y = true) : x = y := by
  unfold eqV0 at h
  split at h
  · simp only [Bool.and_eq_true, decide_eq_true_eq] at h
    obtain ⟨rfl, rfl⟩ := h
    rfl
  · simp only [beq_iff_eq] at h
    rw [h]
  · rename_i s s'
    have h1 : s.data.toList = s'.data.toList := of_decide_eq_true h
    obtain ⟨⟨l⟩⟩ := s
    obtain ⟨⟨l'⟩⟩ := s'
    simp only at h1
    rw [h1]
  · cases h
def eqL (eq : Value → Value → Bool) : List Value → List Value → Bool
  | [], [] => true
  | x :: l, y :: l' => eq x y && eqL eq l l'
  | _, _ => false
theorem eqL_sound {eq : Value → Value → Bool} (he : ∀ x y, eq x y = true → x = y) : ∀ {l l' : List Value}, eqL eq l l' = true → l = l'
  | [], [], _ => rfl
  | x :: l, y :: l', h => by
    simp only [eqL, Bool.and_eq_true] at h
    rw [he x y h.1, eqL_sound he h.2]
  | [], _ :: _, h => by simp [eqL] at h
  | _ :: _, [], h => by simp [eqL] at h
def eqV : Value → Value → Bool
  | .agg c, .agg c' => eqL eqV0 c.toList c'.toList
  | x, y => eqV0 x y
theorem eqV_sound {x y : Value} (h : eqV x y = true) : x = y := by
  unfold eqV at h
  split at h
  · rename_i c c'
    have h1 := eqL_sound (fun _ _ => eqV0_sound) h
    obtain ⟨l⟩ := c
    obtain ⟨l'⟩ := c'
    simp only at h1
    rw [h1]
  · exact eqV0_sound h
def eqB : Blk → Blk → Bool
  | .dead, .dead => true
  | .tab e cs, .tab e' cs' => decide (e = e') && eqL eqV0 cs cs'
  | _, _ => false
def eqM : Mem → Mem → Bool
  | [], [] => true
  | x :: l, y :: l' => eqB x y && eqM l l'
  | _, _ => false
theorem eqB_sound {x y : Blk} (h : eqB x y = true) : x = y := by
  unfold eqB at h
  split at h
  · rfl
  · simp only [Bool.and_eq_true, decide_eq_true_eq] at h
    rw [h.1, eqL_sound (fun _ _ => eqV0_sound) h.2]
  · cases h
theorem eqM_sound : ∀ {l l' : Mem}, eqM l l' = true → l = l'
  | [], [], _ => rfl
  | x :: l, y :: l', h => by
    simp only [eqM, Bool.and_eq_true] at h
    rw [eqB_sound h.1, eqM_sound h.2]
  | [], _ :: _, h => by simp [eqM] at h
  | _ :: _, [], h => by simp [eqM] at h
structure Fact where
  g : FuncId
  args : List Value
  v : Value
def Fact.holds (P : Program) (M : Mem) (F : Fact) : Prop := ∀ ρ w (args' : Array Value), MR P ρ M w → TR ρ F.args args' → Calls P F.g args' w (Ends P ρ M w F.v M)
def lookF : List Fact → FuncId → List Value → Option Value
  | [], _, _ => none
  | F :: l, g, args => if F.g = g then if eqL eqV F.args args then some F.v else lookF l g args else lookF l g args
def hasF : List Fact → FuncId → Bool
  | [], _ => false
  | F :: l, g => if F.g = g then true else hasF l g
theorem lookF_sound {g : FuncId} {args : List Value} {v : Value} : ∀ {l : List Fact}, lookF l g args = some v → ∃ F, F ∈ l ∧ F.g = g ∧ F.args = args ∧ F.v = v
  | [], h => by simp [lookF] at h
  | F :: l, h => by
    unfold lookF at h
    split at h
    · rename_i hg
      split at h
      · rename_i ha
        cases h
        exact ⟨F, by simp, hg, eqL_sound (fun _ _ => eqV_sound) ha, rfl⟩
      · obtain ⟨F', h1, h2⟩ := lookF_sound h
        exact ⟨F', by simp [h1], h2⟩
    · obtain ⟨F', h1, h2⟩ := lookF_sound h
      exact ⟨F', by simp [h1], h2⟩
def runK (E : Env) (M : Mem) (K : List Fact) : Nat → Self
  | 0 => fun _ _ _ => none
  | n + 1 => fun f args m => match hasF K f with
    | true => match eqM m M with
      | true => match lookF K f args with
        | some v => some (v, m)
        | none => abody E (runK E M K n) (n + 1) f args m
      | false => abody E (runK E M K n) (n + 1) f args m
    | false => abody E (runK E M K n) (n + 1) f args m
theorem runK_sound {E : Env} (hE : EnvOK E) {M : Mem} {K : List Fact} (hK : ∀ F, F ∈ K → F.holds E.P M) : ∀ n, CallOK E.P (runK E M K n)
  | 0 => fun f args m v m1 h => by simp [runK] at h
  | n + 1 => by
    have hb := abody_sound (ainv_sound hE.globals hE.fast (runK_sound hE hK n)) hE (n + 1)
    intro f args m v m1 h
    unfold runK at h
    split at h
    · split at h
      · rename_i hm
        split at h
        · rename_i v0 hl
          cases h
          obtain ⟨F, hF, rfl, rfl, rfl⟩ := lookF_sound hl
          rw [eqM_sound hm]
          exact hK F hF
        · exact hb f args m v m1 h
      · exact hb f args m v m1 h
    · exact hb f args m v m1 h
def ansIs (v : Value) : Option (Value × Mem) → Bool
  | some (u, _) => lit2 u && eqV u v
  | none => false
theorem fact_of_run {E : Env} (hE : EnvOK E) {M : Mem} {K : List Fact} (hK : ∀ F, F ∈ K → F.holds E.P M) (n : Nat) (F : Fact) (hlen : M.length = E.G) (htab : eqM (M.map onlyTab) M = true) (hargs : F.args.all lit2 = true) (hfast : (E.fast F.g).isNone = true)
    (h : ansIs F.v (runK E M K n F.g F.args M) = true) : F.holds E.P M := by
  have hs := ainv_sound hE.globals hE.fast (runK_sound hE hK n)
  have ht : (M.take E.G).map onlyTab = M := by rw [List.take_of_length_le (by omega)]; exact eqM_sound htab
  refine hs F.g F.args M F.v M ?_
  unfold ainv
  rw [if_pos hargs, ht]
  have hf : E.fast F.g = none := by simpa using hfast
  rw [hf]
  unfold ansIs at h
  split at h
  · rename_i u m1 hr
    simp only [Bool.and_eq_true] at h
    rw [hr]
    simp only
    unfold acoll
    rw [if_pos h.1, eqV_sound h.2]
  · cases h
end
end Go.Am
namespace Go.Am
noncomputable section
theorem nth_zero (v : Value) (l : List Value) : nth (v :: l) 0 = v := rfl
theorem nth_succ (v : Value) (l : List Value) (t : Nat) : nth (v :: l) (t + 1) = nth l t := rfl
def aopsN (E : Env) (self : Self) (ops : Array Oper) : List Oper → List Value → Mem → Option (List Value × Mem)
  | [], T, m => some (T, m)
  | o :: l, T, m => match agd ops T o with
    | some true => match astep E self T m o with
      | some (v, m1) => aopsN E self ops l (aput T o.dst v) m1
      | none => none
    | some false => aopsN E self ops l (aput T o.dst undef) m
    | none => none
theorem aops_eqN {E : Env} {self : Self} {ops : Array Oper} : ∀ (l : List Oper) (T : List Value) (m : Mem), l.all (fun o => okOp E.P o.op) = true → aops E self ops l T m = aopsN E self ops l T m
  | [], T, m, _ => rfl
  | o :: l, T, m, h => by
    simp only [List.all_cons, Bool.and_eq_true] at h
    rw [aops, aopsN]
    cases hg : agd ops T o with
    | none => rfl
    | some b =>
      cases b with
      | false => exact aops_eqN l _ _ h.2
      | true =>
        simp only [h.1, if_true]
        cases hs : astep E self T m o with
        | none => rfl
        | some r =>
          obtain ⟨v, m1⟩ := r
          simp only
          rw [← aops_eqN l _ _ h.2]
          cases E.strict with
          | true => exact forceV_eq v _
          | false => rfl
def adrawN (E : Env) (self : Self) (ops : Array Oper) (B : Nat) : List Oper → Nat → List Value → Mem → List (Nat × Nat) → Bool → Option (List Value × Mem)
  | [], _, T, m, _, _ => some (T, m)
  | o :: l, i, T, m, lb, ls => match agd ops T o with
    | some true => match cls E.P E.wr o with
        | 0 => match afloat E.P T o with
          | some v => adrawN E self ops B l (i + 1) (aput T o.dst v) m lb ls
          | none => none
        | 1 => match astep E self T (m.map sealed) o with
          | some (v, m1) => if earlyOk E T B m o v || !earlyB E.P E.wr ops i then if m1.length = m.length then match looseB E.P E.wr ops i with
              | true => if laterOk E T m o v then adrawN E self ops B l (i + 1) (aput T o.dst v) m (loadAt T o i ++ lb) true else none
              | false => adrawN E self ops B l (i + 1) (aput T o.dst v) m lb ls
            else none
            else none
          | none => none
        | _ => if !ls || sparesB E T (liveB E.P E.wr ops lb i) o then match astep E self T m o with
            | some (v, m1) => adrawN E self ops B l (i + 1) (aput T o.dst v) m1 lb ls
            | none => none
          else none
    | some false => adrawN E self ops B l (i + 1) (aput T o.dst undef) m lb ls
    | none => none
theorem adraw_eqN {E : Env} {self : Self} {ops : Array Oper} {B : Nat} : ∀ (l : List Oper) (i : Nat) (T : List Value) (m : Mem) (lb : List (Nat × Nat)) (ls : Bool), l.all (fun o => okOp E.P o.op) = true → adrawL E self ops B l i T m lb ls = adrawN E self ops B l i T m lb ls
  | [], _, _, _, _, _, _ => rfl
  | o :: l, i, T, m, lb, ls, h => by
    simp only [List.all_cons, Bool.and_eq_true] at h
    have ih : ∀ i T m lb ls, adrawL E self ops B l i T m lb ls = adrawN E self ops B l i T m lb ls := fun i T m lb ls => adraw_eqN l i T m lb ls h.2
    rw [adrawL, adrawN]
    simp only [h.1, if_true, ih]
    cases hs : E.strict with
    | true =>
      simp only [forceV_eq]
      rfl
    | false => rfl
def codeSt (P : Program) : Code → Bool
  | .region _ ops _ => ops.toList.all fun o => okOp P o.op
  | .seq a b => codeSt P a && codeSt P b
  | .cond c a b => okOperand P c && (codeSt P a && codeSt P b)
  | .block _ c => codeSt P c
  | .loop c => codeSt P c
  | .scope c => codeSt P c
  | _ => true
def acodeN (E : Env) (self : Self) (n : Nat) : Code → List Value → Mem → CRes
  | .skip, T, m => some (.normal, T, m)
  | .label _, T, m => some (.normal, T, m)
  | .region _ ops false, T, m => match aopsN E self ops ops.toList T m with
    | some (T1, m1) => some (.normal, T1, m1)
    | none => none
  | .region id ops true, T, m => match (match E.sr id ops with | true => (match E.mkr id ops with | true => amk E self ops T m | false => asr E self ops T m) | false => adrawN E self ops m.length ops.toList 0 T m [] false) with
    | some (T1, m1) => some (.normal, T1, m1)
    | none => none
  | .seq a b, T, m => match acodeN E self n a T m with
    | some (.normal, T1, m1) => acodeN E self n b T1 m1
    | r => r
  | .cond c a b, T, m => match ev T c with
      | .bool true => acodeN E self n a T m
      | .bool false => acodeN E self n b T m
      | _ => none
  | .block id c, T, m => match acodeN E self n c T m with
    | some (.exit id', T1, m1) => if id' = id then some (.normal, T1, m1) else some (.exit id', T1, m1)
    | r => r
  | .loop c, T, m => aloop (acodeN E self n c) n T m
  | .exit id, T, m => some (.exit id, T, m)
  | .ret, T, m => some (.ret, T, m)
  | .scope c, T, m => acodeN E self n c T m
  | _, _, _ => none
theorem acode_eqN {E : Env} {self : Self} {n : Nat} : ∀ (c : Code), codeSt E.P c = true → acode E self n c = acodeN E self n c
  | .skip, _ => by funext T m; simp only [acode, acodeN]
  | .label _, _ => by funext T m; simp only [acode, acodeN]
  | .region id ops draw, h => by
    funext T m
    cases draw with
    | false => simp only [acode, acodeN]; rw [aops_eqN _ _ _ h]; try rfl
    | true => simp only [acode, acodeN, adraw2, adraw]; rw [adraw_eqN _ _ _ _ _ _ h]; try rfl
  | .seq a b, h => by
    simp only [codeSt, Bool.and_eq_true] at h
    funext T m
    simp only [acode, acodeN, acode_eqN a h.1, acode_eqN b h.2]
    try rfl
  | .cond c a b, h => by
    simp only [codeSt, Bool.and_eq_true] at h
    funext T m
    simp only [acode, acodeN, acode_eqN a h.2.1, acode_eqN b h.2.2, h.1, if_true]
    try rfl
  | .block id c, h => by
    funext T m
    simp only [acode, acodeN, acode_eqN c h]
    try rfl
  | .loop c, h => by
    funext T m
    simp only [acode, acodeN, acode_eqN c h]
    try rfl
  | .scope c, h => by
    funext T m
    simp only [acode, acodeN, acode_eqN c h]
    try rfl
  | .exit _, _ => by funext T m; simp only [acode, acodeN]
  | .ret, _ => by funext T m; simp only [acode, acodeN]
  | .rangeFunc .., _ => by funext T m; simp only [acode, acodeN]
  | .goto _, _ => by funext T m; simp only [acode, acodeN]
  | .refuse _, _ => by funext T m; simp only [acode, acodeN]
def finish (P : Program) (fn : Func) : CRes → Option (Value × Mem)
  | some (.normal, T1, m1) => (ares P fn T1 m1).map (·, m1)
  | some (.ret, T1, m1) => (ares P fn T1 m1).map (·, m1)
  | _ => none
theorem abody_eqN {E : Env} {self : Self} {n : Nat} {f : FuncId} {fn : Func} {c : Code} {args : List Value} {m : Mem} (hg : E.good f = true) (hf : E.P.funcs[f]? = some fn) (hc : fn.body = some c) (hst : codeSt E.P c = true) :
    abody E self n f args m = finish E.P fn (acodeN E self n c (args ++ List.replicate (fn.ntmps - args.length) undef) m) := by
  unfold abody
  rw [if_pos hg, hf]
  simp only [hc]
  rw [acode_eqN c hst]
  cases acodeN E self n c (args ++ List.replicate (fn.ntmps - args.length) undef) m with
  | none => rfl
  | some r =>
    obtain ⟨e, T1, m1⟩ := r
    cases e <;> rfl
theorem runK_other {E : Env} {M : Mem} {K : List Fact} {n : Nat} {f : FuncId} {args : List Value} {m : Mem} (h : hasF K f = false) : runK E M K (n + 1) f args m = abody E (runK E M K n) (n + 1) f args m := by
  simp only [runK, h]
def cellAt (m : Mem) (b o : Nat) : Option Value := match look m b with
  | some (_, _, cs) => cs[o]?
  | none => none
theorem aload_cell {P : Program} {t : TypeId} {d : TypeDesc} (hd : P.underlying t = some d) (ha : aggD d = false) (b o : Nat) (m : Mem) : aload P t (.pointer (some ⟨b, o, none⟩)) m = cellAt m b o := by
  unfold aload cellAt
  simp only [hd, ha]
  cases look m b with
  | none => rfl
  | some r => rfl
def isAddr : Value → Bool
  | .pointer (some _) => true
  | .slice (some _) _ _ => true
  | _ => false
theorem isAddr_lit2 {v : Value} (h : isAddr v = true) : lit2 v = false := by
  unfold isAddr at h
  split at h
  · rfl
  · rfl
  · cases h
def apureC (P : Program) (T : List Value) (o : Oper) : Option Value := apure P T o
theorem apure_convert {P : Program} {T : List Value} {d : Option Tmp} {s t ty : TypeId} {x : Operand} {pos : String} {af : Array Edge} {g : Option (Nat × Bool)} :
    apure P T { dst := d, op := .convert s t x, type := ty, pos := pos, after := af, guard := g } = match isAddr (ev T x) with
      | true => none
      | false => apureC P T { dst := d, op := .convert s t x, type := ty, pos := pos, after := af, guard := g } := by
  cases h : isAddr (ev T x) with
  | false => rfl
  | true =>
    unfold apure
    rw [if_neg]
    simp [Op.operands, isAddr_lit2 h]
theorem lookRow {m : Mem} {b : Nat} {ro : Bool} {e : TypeId} {cs : List Value} (h : m[b]? = some (.row ro e cs)) : look m b = some (ro, e, cs) := by
  unfold look
  rw [h]
  rfl
theorem cellAt_row {m : Mem} {b : Nat} {ro : Bool} {e : TypeId} {cs : List Value} (h : m[b]? = some (.row ro e cs)) (o : Nat) : cellAt m b o = cs[o]? := by
  unfold cellAt look
  rw [h]
  rfl
theorem astore_cell {P : Program} {t : TypeId} {i : TypeInfo} (hi : P.info? t = some i) (hs : i.size = 1) {m : Mem} {b o : Nat} {e : TypeId} {cs : List Value} (h : m[b]? = some (.row false e cs)) (ho : o < cs.length) {u : Value} (hu : vcells u = some [u]) :
    astore P t (.pointer (some ⟨b, o, none⟩)) u m = some (m.set b (.row false e (cs.set o u))) := by
  unfold astore
  simp only [h, hu, hi]
  rw [if_pos ⟨by rw [hs]; rfl, by simp; omega⟩]
  rfl
end
end Go.Am
namespace Go.Am
noncomputable section
def gdV (v : Option Value) (want : Bool) : Option Bool := match v with
  | some (Value.bool b) => some (b == want)
  | some (Value.chan (some _)) => none
  | _ => some false
def gdAt (T : List Value) (d : Nat) (want : Bool) : Option Bool := gdV T[d]? want
theorem gdV_bool (b want : Bool) : gdV (some (.bool b)) want = some (b == want) := rfl
theorem gdV_undef (want : Bool) : gdV (some undef) want = some false := rfl
theorem agd_at {ops : Array Oper} {j d : Nat} {want : Bool} (h : (ops[j]?).map (·.dst) = some (some d)) {T : List Value} {dd : Option Tmp} {op : Op} {ty : TypeId} {pos : String} {af : Array Edge} :
    agd ops T { dst := dd, op := op, type := ty, pos := pos, after := af, guard := some (j, want) } = gdAt T d want := by
  obtain ⟨o, h1, h2⟩ := Option.map_eq_some_iff.1 h
  simp only [agd, h1, h2, gdAt, gdV]
  rfl
theorem agd_none {ops : Array Oper} {T : List Value} {dd : Option Tmp} {op : Op} {ty : TypeId} {pos : String} {af : Array Edge} :
    agd ops T { dst := dd, op := op, type := ty, pos := pos, after := af, guard := none } = some true := rfl
theorem bft : (false == true) = false := rfl
theorem btf : (true == false) = false := rfl
def upd (F : Nat → Value) (d : Nat) (v : Value) : Nat → Value := fun t => if t = d then v else F t
def lst (F : Nat → Value) (N : Nat) : List Value := (List.range N).map F
def init (l : List Value) : Nat → Value := fun t => l.getD t undef
theorem upd_at (F : Nat → Value) (d : Nat) (v : Value) (t : Nat) : upd F d v t = if t = d then v else F t := rfl
theorem lst_length (F : Nat → Value) (N : Nat) : (lst F N).length = N := by simp [lst]
theorem get_lst (F : Nat → Value) (N t : Nat) : (lst F N)[t]? = if t < N then some (F t) else none := by
  unfold lst
  rw [List.getElem?_map]
  by_cases h : t < N
  · rw [if_pos h, List.getElem?_range h]; rfl
  · rw [if_neg h, List.getElem?_eq_none (by simpa using h)]; rfl
theorem nth_lst (F : Nat → Value) (N t : Nat) : nth (lst F N) t = if t < N then F t else undef := by
  rw [nth_eq, List.getD_eq_getElem?_getD, get_lst]
  split <;> rfl
theorem setAt_lst (F : Nat → Value) (N : Nat) (v : Value) (d : Nat) : setAt (lst F N) v d = lst (upd F d v) N := by
  rw [setAt_eq]
  apply List.ext_getElem?
  intro i
  rw [List.getElem?_set, get_lst, get_lst, lst_length, upd_at]
  by_cases h : d = i
  · subst h
    simp
  · rw [if_neg h]
    have h' : ¬ i = d := fun e => h e.symm
    simp only [h', if_false]
theorem init_nil (t : Nat) : init [] t = undef := rfl
theorem init_zero (v : Value) (l : List Value) : init (v :: l) 0 = v := rfl
theorem init_succ (v : Value) (l : List Value) (t : Nat) : init (v :: l) (t + 1) = init l t := rfl
theorem lst_init {l : List Value} {N : Nat} (h : l.length ≤ N) : l ++ List.replicate (N - l.length) undef = lst (init l) N := by
  apply List.ext_getElem?
  intro i
  rw [get_lst]
  unfold init
  rw [List.getD_eq_getElem?_getD]
  by_cases h1 : i < l.length
  · rw [List.getElem?_append_left h1, if_pos (by omega)]
    simp [h1]
  · rw [List.getElem?_append_right (by omega), List.getElem?_replicate]
    by_cases h2 : i < N
    · rw [if_pos (by omega), if_pos h2, List.getElem?_eq_none (by omega)]; rfl
    · rw [if_neg (by omega), if_neg h2]
theorem abody_eqF {E : Env} {self : Self} {n : Nat} {f : FuncId} {fn : Func} {c : Code} {args : List Value} {m : Mem} (hg : E.good f = true) (hf : E.P.funcs[f]? = some fn) (hc : fn.body = some c) (hst : codeSt E.P c = true) (hn : args.length ≤ fn.ntmps) :
    abody E self n f args m = finish E.P fn (acodeN E self n c (lst (init args) fn.ntmps) m) := by
  rw [abody_eqN hg hf hc hst, lst_init hn]
variable {P : Program} {T : List Value} {d : Option Tmp} {s t ty : TypeId} {x y : Operand} {pos : String} {af : Array Edge} {g : Option (Nat × Bool)}
theorem apure_add : apure P T { dst := d, op := .binOp .add s x y t, type := ty, pos := pos, after := af, guard := g } = match ev T x with
    | .string a => (match ev T y with
      | .string c => if a.size + c.size ≤ 9223372036854775807 then some (.string (a ++ c)) else none
      | _ => apureC P T { dst := d, op := .binOp .add s x y t, type := ty, pos := pos, after := af, guard := g })
    | _ => apureC P T { dst := d, op := .binOp .add s x y t, type := ty, pos := pos, after := af, guard := g } := by
  cases hx : ev T x with
  | string a =>
    cases hy : ev T y with
    | string c =>
      have hm : (IntKind.i64.max : Int) = 9223372036854775807 := by decide
      by_cases hs : a.size + c.size ≤ 9223372036854775807
      · have h1 : ¬ (((a.size + c.size : Nat) : Int) > 9223372036854775807) := by omega
        simp only [apure, Op.operands, List.all_cons, List.all_nil, hx, hy, lit2, lit1, lit0, Bool.and_self, if_true, execOp, eqGuard, binOp, Op.stringOp, hm, h1, if_false, hs]
        rfl
      · have h1 : ((a.size + c.size : Nat) : Int) > 9223372036854775807 := by omega
        simp only [apure, Op.operands, List.all_cons, List.all_nil, hx, hy, lit2, lit1, lit0, Bool.and_self, if_true, execOp, eqGuard, binOp, Op.stringOp, hm, h1, if_false, hs]
        rfl
    | _ => rfl
  | _ => rfl
theorem apure_eql : apure P T { dst := d, op := .binOp .eql s x y t, type := ty, pos := pos, after := af, guard := g } = match ev T x with
    | .string a => (match ev T y with
      | .string c => some (.bool (a.toList == c.toList))
      | _ => apureC P T { dst := d, op := .binOp .eql s x y t, type := ty, pos := pos, after := af, guard := g })
    | .pointer (some _) => none
    | .slice (some _) _ _ => none
    | _ => apureC P T { dst := d, op := .binOp .eql s x y t, type := ty, pos := pos, after := af, guard := g } := by
  cases hx : ev T x with
  | string a =>
    cases hy : ev T y with
    | string c =>
      simp only [apure, Op.operands, List.all_cons, List.all_nil, hx, hy, lit2, lit1, lit0, Bool.and_self, if_true, execOp, eqGuard, binOp, Op.stringOp]
      rfl
    | _ => rfl
  | pointer a =>
    cases a with
    | none => rfl
    | some a =>
      unfold apure
      rw [if_neg]
      simp [Op.operands, hx, lit2, lit1, lit0]
  | slice a n c =>
    cases a with
    | none => rfl
    | some a =>
      unfold apure
      rw [if_neg]
      simp [Op.operands, hx, lit2, lit1, lit0]
  | _ => rfl
theorem apure_neq : apure P T { dst := d, op := .binOp .neq s x y t, type := ty, pos := pos, after := af, guard := g } = match ev T x with
    | .string a => (match ev T y with
      | .string c => some (.bool !(a.toList == c.toList))
      | _ => apureC P T { dst := d, op := .binOp .neq s x y t, type := ty, pos := pos, after := af, guard := g })
    | .pointer (some _) => none
    | .slice (some _) _ _ => none
    | _ => apureC P T { dst := d, op := .binOp .neq s x y t, type := ty, pos := pos, after := af, guard := g } := by
  cases hx : ev T x with
  | string a =>
    cases hy : ev T y with
    | string c =>
      simp only [apure, Op.operands, List.all_cons, List.all_nil, hx, hy, lit2, lit1, lit0, Bool.and_self, if_true, execOp, eqGuard, binOp, Op.stringOp]
      rfl
    | _ => rfl
  | pointer a =>
    cases a with
    | none => rfl
    | some a =>
      unfold apure
      rw [if_neg]
      simp [Op.operands, hx, lit2, lit1, lit0]
  | slice a n c =>
    cases a with
    | none => rfl
    | some a =>
      unfold apure
      rw [if_neg]
      simp [Op.operands, hx, lit2, lit1, lit0]
  | _ => rfl
def apC1 (P : Program) (b : Builtin) (ts : Array TypeId) (ty : TypeId) (u : Value) : Option Value := apure P [u] { dst := none, op := .call { callee := .builtin b, args := #[.tmp 0], argTypes := ts }, type := ty, pos := "", after := #[], guard := none }
theorem apure_call1 {b : Builtin} {ts : Array TypeId} {i : Nat} : apure P T { dst := d, op := .call { callee := .builtin b, args := #[.tmp i], argTypes := ts }, type := ty, pos := pos, after := af, guard := g } = apC1 P b ts ty (nth T i) := by
  unfold apC1 apure
  simp only [Op.operands, Call.operands, execOp, resolve, ev, nth_zero, nth_succ, Array.toList_append, List.nil_append, List.all_cons, List.all_nil, List.map_toArray, List.map_cons, List.map_nil]
def apC2 (P : Program) (b : Builtin) (ts : Array TypeId) (ty : TypeId) (u v : Value) : Option Value := apure P [u, v] { dst := none, op := .call { callee := .builtin b, args := #[.tmp 0, .tmp 1], argTypes := ts }, type := ty, pos := "", after := #[], guard := none }
theorem apure_call2 {b : Builtin} {ts : Array TypeId} {i j : Nat} : apure P T { dst := d, op := .call { callee := .builtin b, args := #[.tmp i, .tmp j], argTypes := ts }, type := ty, pos := pos, after := af, guard := g } = apC2 P b ts ty (nth T i) (nth T j) := by
  unfold apC2 apure
  simp only [Op.operands, Call.operands, execOp, resolve, ev, nth_zero, nth_succ, Array.toList_append, List.nil_append, List.all_cons, List.all_nil, List.map_toArray, List.map_cons, List.map_nil]
def apC3 (P : Program) (b : Builtin) (ts : Array TypeId) (ty : TypeId) (u v w : Value) : Option Value := apure P [u, v, w] { dst := none, op := .call { callee := .builtin b, args := #[.tmp 0, .tmp 1, .tmp 2], argTypes := ts }, type := ty, pos := "", after := #[], guard := none }
theorem apure_call3 {b : Builtin} {ts : Array TypeId} {i j k : Nat} : apure P T { dst := d, op := .call { callee := .builtin b, args := #[.tmp i, .tmp j, .tmp k], argTypes := ts }, type := ty, pos := pos, after := af, guard := g } = apC3 P b ts ty (nth T i) (nth T j) (nth T k) := by
  unfold apC3 apure
  simp only [Op.operands, Call.operands, execOp, resolve, ev, nth_zero, nth_succ, Array.toList_append, List.nil_append, List.all_cons, List.all_nil, List.map_toArray, List.map_cons, List.map_nil]
theorem pv_bind {α β : Type} {P : Program} {sm : Sem α} {f : α → Sem β} {a : α} (h : pv P sm = some a) : pv P (sm >>= f) = pv P (f a) := by
  show pv P (Sem.bind sm f) = _
  induction sm with
  | pure b => simp only [pv, Option.some.injEq] at h; subst h; rfl
  | program k ih => simp only [pv] at h; simp only [Sem.bind, pv]; exact ih P h
  | _ => simp [pv] at h
theorem pv_bound {v : Value} {n k : Nat} (code : BoundsCode) (h : abound v n = some k) : pv P (Instr.sliceBound v n code) = some k := by
  unfold abound at h
  split at h
  · rename_i kd i
    split at h
    · rename_i hb
      cases h
      unfold Instr.sliceBound
      rw [pv_bind (a := (kd, i)) rfl]
      simp only [hb, and_self, if_true]
      rfl
    · cases h
  · cases h
theorem apure_slice {lo hi : Option Operand} {st : ByteArray} (ht : P.underlying t = some .string) (hx : ev T x = .string st) (hl : ∀ v, lo = some v → lit2 (ev T v) = true) (hh : ∀ v, hi = some v → lit2 (ev T v) = true) {l h : Nat}
    (hb : abounds st.size st.size (lo.map (ev T)) (hi.map (ev T)) = some (l, h)) :
    apure P T { dst := d, op := .slice t x lo hi none, type := ty, pos := pos, after := af, guard := g } = some (.string (st.extract l h)) := by
  have hu : pv P (underlying t) = some .string := by
    unfold underlying
    rw [pv_bind (a := P) rfl, ht]
    rfl
  have hbd : pv P (Instr.sliceBounds false st.size st.size (lo.map (ev T)) (hi.map (ev T)) none) = some (l, h, st.size) := by
    unfold abounds at hb
    unfold Instr.sliceBounds
    rw [pv_bind (a := st.size) rfl]
    cases hi with
    | none =>
      simp only [Option.map_none] at hb ⊢
      rw [pv_bind (a := st.size) rfl]
      cases lo with
      | none =>
        simp only [Option.map_none, Option.some.injEq, Prod.mk.injEq] at hb ⊢
        obtain ⟨rfl, rfl⟩ := hb
        rfl
      | some v =>
        simp only [Option.map_some] at hb ⊢
        split at hb
        · rename_i l0 hl0
          cases hb
          rw [pv_bind (pv_bound _ hl0)]
          rfl
        · cases hb
    | some u =>
      simp only [Option.map_some] at hb ⊢
      split at hb
      · rename_i h0 hh0
        rw [pv_bind (pv_bound _ hh0)]
        cases lo with
        | none =>
          simp only [Option.map_none, Option.some.injEq, Prod.mk.injEq] at hb ⊢
          obtain ⟨rfl, rfl⟩ := hb
          rfl
        | some v =>
          simp only [Option.map_some] at hb ⊢
          split at hb
          · rename_i l0 hl0
            cases hb
            rw [pv_bind (pv_bound _ hl0)]
            rfl
          · cases hb
      · cases hb
  have hops : ({ dst := d, op := .slice t x lo hi none, type := ty, pos := pos, after := af, guard := g } : Oper).op.operands.toList.all (fun x => lit2 (ev T x)) = true := by
    have h0 : lit2 (ev T x) = true := by rw [hx]; rfl
    cases lo with
    | none => cases hi with
      | none => simp [Op.operands, h0]
      | some u => simp [Op.operands, h0, show lit2 (ev T u) = true from hh u rfl]
    | some v => cases hi with
      | none => simp [Op.operands, h0, show lit2 (ev T v) = true from hl v rfl]
      | some u => simp [Op.operands, h0, show lit2 (ev T u) = true from hh u rfl, show lit2 (ev T v) = true from hl v rfl]
  have hex : pv P (execOp (ev T) { dst := d, op := .slice t x lo hi none, type := ty, pos := pos, after := af, guard := g }) = some (.value (.string (st.extract l h))) := by
    simp only [execOp, hx, Option.map_none]
    rw [pv_bind (a := Value.string (st.extract l h)) ?_]
    · rfl
    unfold Instr.sliceAt
    rw [pv_bind hu]
    show pv P (Instr.slice t (.string st) _ _ none) = _
    unfold Instr.slice
    rw [pv_bind hu]
    simp only [Option.isSome_none, Bool.false_eq_true, if_false]
    rw [pv_bind hbd]
    rfl
  unfold apure
  rw [if_pos hops, hex]
  rfl
def sliceS (st : ByteArray) (a b : Int) : Option Value := if 0 ≤ b ∧ b ≤ (st.size : Int) then if 0 ≤ a ∧ a ≤ b then some (.string (st.extract a.toNat b.toNat)) else none else none
def orElse (a : Option Value) (b : Option Value) : Option Value := match a with
  | some v => some v
  | none => b
theorem orElse_some (v : Value) (b : Option Value) : orElse (some v) b = some v := rfl
theorem abounds_sliceS {st : ByteArray} {k k' : IntKind} {a b : Int} {v : Value} (h : sliceS st a b = some v) : ∃ l hh, abounds st.size st.size (some (.int k a)) (some (.int k' b)) = some (l, hh) ∧ v = .string (st.extract l hh) := by
  unfold sliceS at h
  split at h
  · rename_i h1
    split at h
    · rename_i h2
      cases h
      refine ⟨a.toNat, b.toNat, ?_, rfl⟩
      unfold abounds abound
      simp only
      rw [if_pos h1]
      simp only
      rw [if_pos (by omega)]
    · cases h
  · cases h
theorem apure_slice2 {lo hi : Operand} (ht : P.underlying t = some .string) : apure P T { dst := d, op := .slice t x (some lo) (some hi) none, type := ty, pos := pos, after := af, guard := g } = match ev T x with
    | .string st => (match ev T lo with
      | .int _ a => (match ev T hi with
        | .int _ b => orElse (sliceS st a b) (apureC P T { dst := d, op := .slice t x (some lo) (some hi) none, type := ty, pos := pos, after := af, guard := g })
        | _ => apureC P T { dst := d, op := .slice t x (some lo) (some hi) none, type := ty, pos := pos, after := af, guard := g })
      | _ => apureC P T { dst := d, op := .slice t x (some lo) (some hi) none, type := ty, pos := pos, after := af, guard := g })
    | _ => apureC P T { dst := d, op := .slice t x (some lo) (some hi) none, type := ty, pos := pos, after := af, guard := g } := by
  cases hx : ev T x with
  | string st =>
    cases hl : ev T lo with
    | int k a =>
      cases hh : ev T hi with
      | int k' b =>
        simp only
        cases hs : sliceS st a b with
        | none => rfl
        | some v =>
          obtain ⟨l, h, hb, rfl⟩ := abounds_sliceS (k := k) (k' := k') hs
          rw [orElse_some]
          exact apure_slice ht hx (fun v hv => by cases hv; rw [hl]; rfl) (fun v hv => by cases hv; rw [hh]; rfl) (by simpa [hl, hh] using hb)
      | _ => rfl
    | _ => rfl
  | _ => rfl
theorem wrap_i64 {n : Int} (h : 0 ≤ n) (h' : n < 9223372036854775808) : wrapF .i64 n = n := by
  simp only [wrapF]
  rw [if_neg (by omega)]
  omega
def drawTab (P : Program) (wr : FuncId → Bool) (ops : Array Oper) : List (Bool × Bool) := (List.range ops.size).map fun i => match ops[i]? with
  | some o => (match cls P wr o with
    | 1 => (earlyB P wr ops i, looseB P wr ops i)
    | _ => (false, false))
  | none => (false, false)
def adrawT (E : Env) (self : Self) (ops : Array Oper) (B : Nat) : List Oper → List (Bool × Bool) → Nat → List Value → Mem → List (Nat × Nat) → Bool → Option (List Value × Mem)
  | [], _, _, T, m, _, _ => some (T, m)
  | _ :: _, [], _, _, _, _, _ => none
  | o :: l, (e, q) :: tb, i, T, m, lb, ls => match agd ops T o with
    | some true => match cls E.P E.wr o with
        | 0 => match afloat E.P T o with
          | some v => adrawT E self ops B l tb (i + 1) (aput T o.dst v) m lb ls
          | none => none
        | 1 => match astep E self T (m.map sealed) o with
          | some (v, m1) => if earlyOk E T B m o v || !e then if m1.length = m.length then match q with
              | true => if laterOk E T m o v then adrawT E self ops B l tb (i + 1) (aput T o.dst v) m (loadAt T o i ++ lb) true else none
              | false => adrawT E self ops B l tb (i + 1) (aput T o.dst v) m lb ls
            else none
            else none
          | none => none
        | _ => if !ls || sparesB E T (liveB E.P E.wr ops lb i) o then match astep E self T m o with
            | some (v, m1) => adrawT E self ops B l tb (i + 1) (aput T o.dst v) m1 lb ls
            | none => none
          else none
    | some false => adrawT E self ops B l tb (i + 1) (aput T o.dst undef) m lb ls
    | none => none
theorem adrawT_eq {E : Env} {self : Self} {ops : Array Oper} {B : Nat} : ∀ (l : List Oper) (i : Nat) (T : List Value) (m : Mem) (lb : List (Nat × Nat)) (ls : Bool), ops.toList.drop i = l →
    adrawN E self ops B l i T m lb ls = adrawT E self ops B l ((drawTab E.P E.wr ops).drop i) i T m lb ls
  | [], _, _, _, _, _, _ => by rw [adrawN, adrawT]
  | o :: l, i, T, m, lb, ls, h => by
    have hi : i < ops.size := by
      have := congrArg List.length h
      simp at this
      omega
    have ho : ops[i]? = some o := by
      have := congrArg (fun l : List Oper => l[0]?) h
      simpa using this
    have ht : (drawTab E.P E.wr ops).drop i = (match cls E.P E.wr o with
        | 1 => (earlyB E.P E.wr ops i, looseB E.P E.wr ops i)
        | _ => (false, false)) :: (drawTab E.P E.wr ops).drop (i + 1) := by
      have hl : i < (drawTab E.P E.wr ops).length := by simp [drawTab, hi]
      rw [List.drop_eq_getElem_cons hl]
      congr 1
      simp [drawTab, ho]
    have hn : ops.toList.drop (i + 1) = l := by
      rw [← List.drop_drop, h]; rfl
    have ih : ∀ T m lb ls, adrawN E self ops B l (i + 1) T m lb ls = adrawT E self ops B l ((drawTab E.P E.wr ops).drop (i + 1)) (i + 1) T m lb ls := fun T m lb ls => adrawT_eq l (i + 1) T m lb ls hn
    rw [ht, adrawN, adrawT]
    simp only [ih]
    cases hg : agd ops T o with
    | none => rfl
    | some b =>
      cases b with
      | false => rfl
      | true =>
        simp only
        have hle := cls_le E.P E.wr o
        match hc : cls E.P E.wr o, hle with
        | 0, _ => rfl
        | 1, _ => rfl
        | 2, _ => rfl
theorem adraw_tab {E : Env} {self : Self} {ops : Array Oper} {B : Nat} {T : List Value} {m : Mem} {lb : List (Nat × Nat)} {ls : Bool} {tb : List (Bool × Bool)} (h : drawTab E.P E.wr ops = tb) :
    adrawN E self ops B ops.toList 0 T m lb ls = adrawT E self ops B ops.toList tb 0 T m lb ls := by
  rw [adrawT_eq ops.toList 0 _ _ _ _ (by simp), List.drop_zero, h]
theorem aloop_inv {body : List Value → Mem → CRes} {I : Nat → List Value → Mem → Prop} {Q : AExit → List Value → Mem → Prop} {N : Nat}
    (step : ∀ i T m, i ≤ N → I i T m → (∃ T' m', body T m = some (.normal, T', m') ∧ i < N ∧ I (i + 1) T' m') ∨ (∃ e T' m', body T m = some (e, T', m') ∧ e ≠ .normal ∧ Q e T' m')) :
    ∀ (k i f : Nat) (T : List Value) (m : Mem), i + k = N → k < f → I i T m → ∃ e T' m', aloop body f T m = some (e, T', m') ∧ Q e T' m' := by
  intro k
  induction k with
  | zero =>
    intro i f T m hk hf hi
    obtain ⟨f, rfl⟩ : ∃ g, f = g + 1 := ⟨f - 1, by omega⟩
    rcases step i T m (by omega) hi with ⟨T', m', _, hlt, _⟩ | ⟨e, T', m', hb, he, hq⟩
    · omega
    · refine ⟨e, T', m', ?_, hq⟩
      rw [aloop, hb]
      cases e with
      | normal => exact absurd rfl he
      | exit id => rfl
      | ret => rfl
  | succ k ih =>
    intro i f T m hk hf hi
    obtain ⟨f, rfl⟩ : ∃ g, f = g + 1 := ⟨f - 1, by omega⟩
    rcases step i T m (by omega) hi with ⟨T', m', hb, hlt, hn⟩ | ⟨e, T', m', hb, he, hq⟩
    · obtain ⟨e, T2, m2, h2, hq⟩ := ih (i + 1) f T' m' (by omega) (by omega) hn
      exact ⟨e, T2, m2, by rw [aloop, hb]; exact h2, hq⟩
    · refine ⟨e, T', m', ?_, hq⟩
      rw [aloop, hb]
      cases e with
      | normal => exact absurd rfl he
      | exit id => rfl
      | ret => rfl
end
end Go.Am
namespace Go.Am.Seat
open Go.Proofs Go.Am
def wrs : List Nat := [32, 35, 33, 45, 46, 41]
def wrF (g : FuncId) : Bool := wrs.contains g
def extF (g : FuncId) : Option XK := if g = 37 then some .add64 else if g = 51 then some .same else if g = 52 then some (.noZero 5) else none
def hasCall (ops : Array Oper) : Bool := ops.toList.any fun o => match o.op with
  | .call _ => true
  | _ => false
def srF (id : Nat) (ops : Array Oper) : Bool := ((id == 1 && ((ops.size == 9 || ops.size == 6) && isAl ops (ops.size - 2))) || ((id == 2 && (ops.size == 6 && isAl ops 4)) || ((id == 3 && (ops.size == 14 || (ops.size == 12 || (ops.size == 8 || (ops.size == 10 && isAl ops 8))))) || ((id == 4 && (ops.size == 6 && (isAl ops 4 || isAl ops 3))) || (id == 5 && ops.size == 11))))) || (hasCall ops && ([(9, 11), (2, 8), (3, 6)] : List (Nat × Nat)).any fun p => id == p.1 && ops.size == p.2)
def mkF (id : Nat) (ops : Array Oper) : Bool := (hasCall ops && ([(9, 11), (2, 8), (3, 6)] : List (Nat × Nat)).any fun p => id == p.1 && ops.size == p.2)
def repeatF : List Value → Option Value
  | [.string s, .int .i64 n] => if 0 ≤ n ∧ (n ≤ 4096 ∧ s.size ≤ 4096) then some (.string ⟨(Lib.repeatL s.data.toList n.toNat).toArray⟩) else none
  | _ => none
noncomputable def E : Env := { P := Tryd.prog, G := 6, wr := wrF, ext := extF, fast := fun g => if g = 24 then some repeatF else none, strict := true, sr := srF, mkr := mkF, good := fun g => !(([] : List Nat).contains g) }
def int64s (l : List Int) : List Value := l.map (.int .u64)
def start : List Int := [7640891576956012808, 13503953896175478587, 4354685564936845355, 11912009170470909681, 5840696475078001361, 11170449401992604703, 2270897969802886507, 6620516959819538809]
def pows : List Int := [1, 10, 100, 1000, 10000, 100000, 1000000, 10000000, 100000000, 1000000000, 10000000000, 100000000000, 1000000000000, 10000000000000, 100000000000000, 1000000000000000, 10000000000000000, 100000000000000000, 1000000000000000000, 10000000000000000000]
def mem1 : Mem := [.dead, .dead, .tab 80 (int64s pows), .dead, .dead, .dead]
end Go.Am.Seat
namespace Go.Proofs
open Go.Shelf
def Tryd.lays105_ren : Go.Shelf.Ren := ⟨fun | 105 => 24 | 212 => 30 | 99 => 31 | 165 => 32 | 166 => 33 | 170 => 34 | 169 => 35 | 263 => 43 | 264 => 36 | 206 => 44 | 240 => 45 | 241 => 46 | 276 => 51 | 277 => 52 | n => n, fun | 9 => 9 | 3 => 3 | 4 => 4 | 20 => 20 | 0 => 0 | 46 => 42 | 109 => 57 | 5 => 5 | 72 => 62 | 76 => 66 | 51 => 74 | 146 => 75 | 53 => 22 | 148 => 54 | 70 => 60 | 37 => 41 | 75 => 65 | 127 => 77 | 164 => 84 | 80 => 36 | n => n, fun | n => n⟩
theorem Tryd.lays105 : Go.Proofs.Lays.n105 Tryd.prog Tryd.lays105_ren := {
  mixed := by kernel_rfl
  f99 := Tryd.func31.trans (congrArg some (by kernel_rfl))
  f105 := Tryd.func24.trans (congrArg some (by kernel_rfl))
  f165 := Tryd.func32.trans (congrArg some (by kernel_rfl))
  f166 := Tryd.func33.trans (congrArg some (by kernel_rfl))
  f169 := Tryd.func35.trans (congrArg some (by kernel_rfl))
  f170 := Tryd.func34.trans (congrArg some (by kernel_rfl))
  f206 := Tryd.func44.trans (congrArg some (by kernel_rfl))
  f212 := Tryd.func30.trans (congrArg some (by kernel_rfl))
  f240 := Tryd.func45.trans (congrArg some (by kernel_rfl))
  f241 := Tryd.func46.trans (congrArg some (by kernel_rfl))
  f263 := Tryd.func43.trans (congrArg some (by kernel_rfl))
  f264 := Tryd.func36.trans (congrArg some (by kernel_rfl))
  f276 := Tryd.func51.trans (congrArg some (by kernel_rfl))
  f277 := Tryd.func52.trans (congrArg some (by kernel_rfl))
  t0 := Tryd.underlying0
  a0 := Tryd.isAgg0
  z0 := Tryd.sizeOf0
  v0 := Tryd.zeroValue0
  t3 := Tryd.underlying3
  a3 := Tryd.isAgg3
  z3 := Tryd.sizeOf3
  v3 := Tryd.zeroValue3
  t4 := Tryd.underlying4
  a4 := Tryd.isAgg4
  z4 := Tryd.sizeOf4
  v4 := Tryd.zeroValue4
  t5 := Tryd.underlying5
  a5 := Tryd.isAgg5
  z5 := Tryd.sizeOf5
  v5 := Tryd.zeroValue5
  t9 := Tryd.underlying9
  a9 := Tryd.isAgg9
  z9 := Tryd.sizeOf9
  v9 := Tryd.zeroValue9
  t20 := Tryd.underlying20
  a20 := Tryd.isAgg20
  z20 := Tryd.sizeOf20
  v20 := Tryd.zeroValue20
  t37 := Tryd.underlying41
  a37 := Tryd.isAgg41
  z37 := Tryd.sizeOf41
  v37 := Tryd.zeroValue41
  t46 := Tryd.underlying42
  a46 := Tryd.isAgg42
  z46 := Tryd.sizeOf42
  v46 := Tryd.zeroValue42
  t51 := Tryd.underlying74
  a51 := Tryd.isAgg74
  z51 := Tryd.sizeOf74
  v51 := Tryd.zeroValue74
  t53 := Tryd.underlying22
  a53 := Tryd.isAgg22
  z53 := Tryd.sizeOf22
  v53 := Tryd.zeroValue22
  t70 := Tryd.underlying60
  a70 := Tryd.isAgg60
  z70 := Tryd.sizeOf60
  v70 := Tryd.zeroValue60
  t72 := Tryd.underlying62
  a72 := Tryd.isAgg62
  z72 := Tryd.sizeOf62
  v72 := Tryd.zeroValue62
  t75 := Tryd.underlying65
  a75 := Tryd.isAgg65
  z75 := Tryd.sizeOf65
  v75 := Tryd.zeroValue65
  t76 := Tryd.underlying66
  a76 := Tryd.isAgg66
  z76 := Tryd.sizeOf66
  v76 := Tryd.zeroValue66
  t109 := Tryd.underlying57
  a109 := Tryd.isAgg57
  z109 := Tryd.sizeOf57
  v109 := Tryd.zeroValue57
  t127 := Tryd.underlying77
  a127 := Tryd.isAgg77
  z127 := Tryd.sizeOf77
  v127 := Tryd.zeroValue77
  t146 := Tryd.underlying75
  a146 := Tryd.isAgg75
  z146 := Tryd.sizeOf75
  v146 := Tryd.zeroValue75
  t148 := Tryd.underlying54
  a148 := Tryd.isAgg54
  z148 := Tryd.sizeOf54
  v148 := Tryd.zeroValue54
  t164 := Tryd.underlying84
  a164 := Tryd.isAgg84
  z164 := Tryd.sizeOf84
  v164 := Tryd.zeroValue84 }
theorem Tryd.Builder_Extra_105 : Builder.Extra Tryd.prog Tryd.lays105_ren := {
  sizeBuilder := by kernel_rfl
  liesBuilder := by kernel_rfl
  t5 := Tryd.underlying5
  a5 := Tryd.isAgg5
  z5 := Tryd.sizeOf5
  v5 := Tryd.zeroValue5
  infoByte := by kernel_rfl
  cellsByte := by kernel_rfl
  sizeByte := by kernel_rfl
  neB5 := by decide }
end Go.Proofs
