/-
  The abstract machine without its static looks: what simp reckons with (own work; nothing of a dump).
-/
import Derived.Test.YtmopnogcdjehmaaDoorAmS
set_option linter.unusedSimpArgs false
set_option linter.unusedVariables false
namespace Go.Am
noncomputable section

theorem nth_zero (v : Value) (l : List Value) : nth (v :: l) 0 = v := rfl
theorem nth_succ (v : Value) (l : List Value) (t : Nat) : nth (v :: l) (t + 1) = nth l t := rfl
theorem setAt_zero (u v : Value) (l : List Value) : setAt (v :: l) u 0 = u :: l := rfl
theorem setAt_succ (u v : Value) (l : List Value) (t : Nat) : setAt (v :: l) u (t + 1) = v :: setAt l u t := rfl

def aopsN (E : Env) (self : Self) (ops : Array Oper) : List Oper → List Value → Mem → Option (List Value × Mem)
  | [], T, m => some (T, m)
  | o :: l, T, m => match agd ops T o with
    | some true => match astep E self T m o with
      | some (v, m1) => aopsN E self ops l (aput T o.dst v) m1
      | none => none
    | some false => aopsN E self ops l (aput T o.dst undef) m
    | none => none

theorem aops_eqN {E : Env} {self : Self} {ops : Array Oper} : ∀ (l : List Oper) (T : List Value) (m : Mem), l.all (fun o => okOp E.P o.op) = true → aops E self ops l T m = aopsN E self ops l T m
  | [], T, m, _ => rfl
  | o :: l, T, m, h => by
    simp only [List.all_cons, Bool.and_eq_true] at h
    rw [aops, aopsN]
    cases hg : agd ops T o with
    | none => rfl
    | some b =>
      cases b with
      | false => exact aops_eqN l _ _ h.2
      | true =>
        simp only [h.1, if_true]
        cases hs : astep E self T m o with
        | none => rfl
        | some r =>
          obtain ⟨v, m1⟩ := r
          simp only
          rw [← aops_eqN l _ _ h.2]
          cases E.strict with
          | true => exact forceV_eq v _
          | false => rfl

def adrawN (E : Env) (self : Self) (ops : Array Oper) (B : Nat) : List Oper → Nat → List Value → Mem → List (Nat × Nat) → Bool → Option (List Value × Mem)
  | [], _, T, m, _, _ => some (T, m)
  | o :: l, i, T, m, lb, ls => match agd ops T o with
    | some true => match cls E.P E.wr o with
        | 0 => match afloat E.P T o with
          | some v => adrawN E self ops B l (i + 1) (aput T o.dst v) m lb ls
          | none => none
        | 1 => match astep E self T (m.map sealed) o with
          | some (v, m1) => if earlyOk E T B m o v || !earlyB E.P E.wr ops i then if m1.length = m.length then match looseB E.P E.wr ops i with
              | true => if laterOk E T m o v then adrawN E self ops B l (i + 1) (aput T o.dst v) m (loadAt T o i ++ lb) true else none
              | false => adrawN E self ops B l (i + 1) (aput T o.dst v) m lb ls
            else none
            else none
          | none => none
        | _ => if !ls || sparesB E T (liveB E.P E.wr ops lb i) o then match astep E self T m o with
            | some (v, m1) => adrawN E self ops B l (i + 1) (aput T o.dst v) m1 lb ls
            | none => none
          else none
    | some false => adrawN E self ops B l (i + 1) (aput T o.dst undef) m lb ls
    | none => none

theorem adraw_eqN {E : Env} {self : Self} {ops : Array Oper} {B : Nat} : ∀ (l : List Oper) (i : Nat) (T : List Value) (m : Mem) (lb : List (Nat × Nat)) (ls : Bool), l.all (fun o => okOp E.P o.op) = true → adrawL E self ops B l i T m lb ls = adrawN E self ops B l i T m lb ls
  | [], _, _, _, _, _, _ => rfl
  | o :: l, i, T, m, lb, ls, h => by
    simp only [List.all_cons, Bool.and_eq_true] at h
    have ih : ∀ i T m lb ls, adrawL E self ops B l i T m lb ls = adrawN E self ops B l i T m lb ls := fun i T m lb ls => adraw_eqN l i T m lb ls h.2
    rw [adrawL, adrawN]
    simp only [h.1, if_true, ih]
    cases hs : E.strict with
    | true =>
      simp only [forceV_eq]
      rfl
    | false => rfl

/-- All operations are such as the machine takes; and all operands. -/
def codeSt (P : Program) : Code → Bool
  | .region _ ops _ => ops.toList.all fun o => okOp P o.op
  | .seq a b => codeSt P a && codeSt P b
  | .cond c a b => okOperand P c && (codeSt P a && codeSt P b)
  | .block _ c => codeSt P c
  | .loop c => codeSt P c
  | .scope c => codeSt P c
  | _ => true

def acodeN (E : Env) (self : Self) (n : Nat) : Code → List Value → Mem → CRes
  | .skip, T, m => some (.normal, T, m)
  | .label _, T, m => some (.normal, T, m)
  | .region _ ops false, T, m => match aopsN E self ops ops.toList T m with
    | some (T1, m1) => some (.normal, T1, m1)
    | none => none
  | .region _ ops true, T, m => match adrawN E self ops m.length ops.toList 0 T m [] false with
    | some (T1, m1) => some (.normal, T1, m1)
    | none => none
  | .seq a b, T, m => match acodeN E self n a T m with
    | some (.normal, T1, m1) => acodeN E self n b T1 m1
    | r => r
  | .cond c a b, T, m => match ev T c with
      | .bool true => acodeN E self n a T m
      | .bool false => acodeN E self n b T m
      | _ => none
  | .block id c, T, m => match acodeN E self n c T m with
    | some (.exit id', T1, m1) => if id' = id then some (.normal, T1, m1) else some (.exit id', T1, m1)
    | r => r
  | .loop c, T, m => aloop (acodeN E self n c) n T m
  | .exit id, T, m => some (.exit id, T, m)
  | .ret, T, m => some (.ret, T, m)
  | .scope c, T, m => acodeN E self n c T m
  | _, _, _ => none

theorem acode_eqN {E : Env} {self : Self} {n : Nat} : ∀ (c : Code), codeSt E.P c = true → acode E self n c = acodeN E self n c
  | .skip, _ => by funext T m; simp only [acode, acodeN]
  | .label _, _ => by funext T m; simp only [acode, acodeN]
  | .region id ops draw, h => by
    funext T m
    cases draw with
    | false => simp only [acode, acodeN]; rw [aops_eqN _ _ _ h]; rfl
    | true => simp only [acode, acodeN, adraw]; rw [adraw_eqN _ _ _ _ _ _ h]; rfl
  | .seq a b, h => by
    simp only [codeSt, Bool.and_eq_true] at h
    funext T m
    simp only [acode, acodeN, acode_eqN a h.1, acode_eqN b h.2]
    rfl
  | .cond c a b, h => by
    simp only [codeSt, Bool.and_eq_true] at h
    funext T m
    simp only [acode, acodeN, acode_eqN a h.2.1, acode_eqN b h.2.2, h.1, if_true]
    rfl
  | .block id c, h => by
    funext T m
    simp only [acode, acodeN, acode_eqN c h]
    try rfl
  | .loop c, h => by
    funext T m
    simp only [acode, acodeN, acode_eqN c h]
    try rfl
  | .scope c, h => by
    funext T m
    simp only [acode, acodeN, acode_eqN c h]
    try rfl
  | .exit _, _ => by funext T m; simp only [acode, acodeN]
  | .ret, _ => by funext T m; simp only [acode, acodeN]
  | .rangeFunc .., _ => by funext T m; simp only [acode, acodeN]
  | .goto _, _ => by funext T m; simp only [acode, acodeN]
  | .refuse _, _ => by funext T m; simp only [acode, acodeN]

/-- How a function ends. -/
def finish (P : Program) (fn : Func) : CRes → Option (Value × Mem)
  | some (.normal, T1, m1) => (ares P fn T1 m1).map (·, m1)
  | some (.ret, T1, m1) => (ares P fn T1 m1).map (·, m1)
  | _ => none

theorem abody_eqN {E : Env} {self : Self} {n : Nat} {f : FuncId} {fn : Func} {c : Code} {args : List Value} {m : Mem} (hg : E.good f = true) (hf : E.P.funcs[f]? = some fn) (hc : fn.body = some c) (hst : codeSt E.P c = true) :
    abody E self n f args m = finish E.P fn (acodeN E self n c (args ++ List.replicate (fn.ntmps - args.length) undef) m) := by
  unfold abody
  rw [if_pos hg, hf]
  simp only [hc]
  rw [acode_eqN c hst]
  cases acodeN E self n c (args ++ List.replicate (fn.ntmps - args.length) undef) m with
  | none => rfl
  | some r =>
    obtain ⟨e, T1, m1⟩ := r
    cases e <;> rfl

theorem runK_other {E : Env} {M : Mem} {K : List Fact} {n : Nat} {f : FuncId} {args : List Value} {m : Mem} (h : hasF K f = false) : runK E M K (n + 1) f args m = abody E (runK E M K n) (n + 1) f args m := by
  simp only [runK, h]

def cellAt (m : Mem) (b o : Nat) : Option Value := match look m b with
  | some (_, _, cs) => cs[o]?
  | none => none

theorem aload_cell {P : Program} {t : TypeId} {d : TypeDesc} (hd : P.underlying t = some d) (ha : aggD d = false) (b o : Nat) (m : Mem) : aload P t (.pointer (some ⟨b, o, none⟩)) m = cellAt m b o := by
  unfold aload cellAt
  simp only [hd, ha]
  cases look m b with
  | none => rfl
  | some r => rfl

/-- An address. -/
def isAddr : Value → Bool
  | .pointer (some _) => true
  | .slice (some _) _ _ => true
  | _ => false

theorem isAddr_lit2 {v : Value} (h : isAddr v = true) : lit2 v = false := by
  unfold isAddr at h
  split at h
  · rfl
  · rfl
  · cases h

/-- The same, under another name. -/
def apureC (P : Program) (T : List Value) (o : Oper) : Option Value := apure P T o

theorem apure_convert {P : Program} {T : List Value} {d : Option Tmp} {s t ty : TypeId} {x : Operand} {pos : String} {af : Array Edge} {g : Option (Nat × Bool)} :
    apure P T { dst := d, op := .convert s t x, type := ty, pos := pos, after := af, guard := g } = match isAddr (ev T x) with
      | true => none
      | false => apureC P T { dst := d, op := .convert s t x, type := ty, pos := pos, after := af, guard := g } := by
  cases h : isAddr (ev T x) with
  | false => rfl
  | true =>
    unfold apure
    rw [if_neg]
    simp [Op.operands, isAddr_lit2 h]

theorem apure_binOp {P : Program} {T : List Value} {d : Option Tmp} {s t ty : TypeId} {b : BinOp} {x y : Operand} {pos : String} {af : Array Edge} {g : Option (Nat × Bool)} :
    apure P T { dst := d, op := .binOp b s x y t, type := ty, pos := pos, after := af, guard := g } = match isAddr (ev T x) with
      | true => none
      | false => apureC P T { dst := d, op := .binOp b s x y t, type := ty, pos := pos, after := af, guard := g } := by
  cases h : isAddr (ev T x) with
  | false => rfl
  | true =>
    unfold apure
    rw [if_neg]
    simp [Op.operands, isAddr_lit2 h]

theorem lookRow {m : Mem} {b : Nat} {ro : Bool} {e : TypeId} {cs : List Value} (h : m[b]? = some (.row ro e cs)) : look m b = some (ro, e, cs) := by
  unfold look
  rw [h]
  rfl

theorem cellAt_row {m : Mem} {b : Nat} {ro : Bool} {e : TypeId} {cs : List Value} (h : m[b]? = some (.row ro e cs)) (o : Nat) : cellAt m b o = cs[o]? := by
  unfold cellAt look
  rw [h]
  rfl

theorem aeq_same {P : Program} {t e : TypeId} {i : TypeInfo} (ht : P.underlying t = some (.pointer e)) (hi : P.info? e = some i) (hs : i.size ≠ 0) (a : Addr) : aeq P t (.pointer (some a)) (.pointer (some a)) = some true := by
  unfold aeq
  simp only [ht, hi]
  rw [if_pos ⟨hs, trivial⟩]

theorem aptr_to {P : Program} {s t e : TypeId} {i : TypeInfo} (h1 : P.underlying s = some (.pointer t)) (h2 : P.underlying e = some .unsafePointer) (hi : P.info? t = some i) (hs : i.size ≠ 0) {m : Mem} {b : Nat} {ro : Bool} {e' : TypeId} {cs : List Value}
    (h : m[b]? = some (.row ro e' cs)) (hc : 0 < cs.length) : aptr P s e (.pointer (some ⟨b, 0, none⟩)) m = some (.pointer (some ⟨b, 0, none⟩)) := by
  have hl9 := lookRow h
  unfold aptr
  simp only [hl9, h1, h2, hi]
  rw [if_pos ⟨hs, hc⟩]

theorem aptr_from {P : Program} {s t u : TypeId} {i : TypeInfo} (h1 : P.underlying s = some .unsafePointer) (h2 : P.underlying t = some (.pointer u)) (hi : P.info? u = some i) (hs : i.size ≠ 0) {m : Mem} {b : Nat} {ro : Bool} {e : TypeId} {cs : List Value}
    (h : m[b]? = some (.row ro e cs)) (hl : liesAt P P.depth e (cs.length / P.cellsOf e) 0 u 1 = true) : aptr P s t (.pointer (some ⟨b, 0, none⟩)) m = some (.pointer (some ⟨b, 0, none⟩)) := by
  have hl9 := lookRow h
  unfold aptr
  simp only [hl9, h1, h2, hi]
  rw [if_pos ⟨hs, hl⟩]

theorem astore_cell {P : Program} {t : TypeId} {i : TypeInfo} (hi : P.info? t = some i) (hs : i.size = 1) {m : Mem} {b o : Nat} {e : TypeId} {cs : List Value} (h : m[b]? = some (.row false e cs)) (ho : o < cs.length) {u : Value} (hu : vcells u = some [u]) :
    astore P t (.pointer (some ⟨b, o, none⟩)) u m = some (m.set b (.row false e (cs.set o u))) := by
  unfold astore
  simp only [h, hu, hi]
  rw [if_pos ⟨by rw [hs]; rfl, by simp; omega⟩]
  rfl

end
end Go.Am
