/-
  Texts of my own, put together: E16, E17, T, X2.
-/
import Derived.Test.YtdoadaachaggnaaDoorGrFieldBytes15
import Derived.Test.YtdoadaachaggnaaDoorGrFieldBytes17
import Derived.Test.YtdoadaachaggnaaDoorGrFieldBytes5
import Derived.Lib.LaidTab
import Derived.ChangeShapes
import Derived.Test.YtdoadaachaggnaaDoorGrFieldBytes0
/-
  FieldBytes on the abstract machine (own work).
-/
set_option linter.unusedSimpArgs false
set_option linter.unusedVariables false
namespace Go.Am.Seat
open Go.Proofs Go.Am Go.Am.Num
set_option maxRecDepth 100000
set_option maxHeartbeats 4000000

noncomputable def rfb_0 : Array Oper := match Tryd.f8.body with
  | some (.seq (.region _ o _) _) => o
  | _ => #[]
noncomputable def lfb_0 : List Oper := match Tryd.f8.body with
  | some (.seq (.region _ o _) _) => o.toList
  | _ => []
theorem efb_0 : rfb_0.toList = lfb_0 := rfl
noncomputable def rfb_1 : Array Oper := match Tryd.f8.body with
  | some (.seq _ (.seq (.seq (.region _ o _) _) _)) => o
  | _ => #[]
noncomputable def lfb_1 : List Oper := match Tryd.f8.body with
  | some (.seq _ (.seq (.seq (.region _ o _) _) _)) => o.toList
  | _ => []
theorem efb_1 : rfb_1.toList = lfb_1 := rfl
noncomputable def rfb_2 : Array Oper := match Tryd.f8.body with
  | some (.seq _ (.seq (.seq _ (.cond _ (.seq (.region _ o _) _) _)) _)) => o
  | _ => #[]
noncomputable def lfb_2 : List Oper := match Tryd.f8.body with
  | some (.seq _ (.seq (.seq _ (.cond _ (.seq (.region _ o _) _) _)) _)) => o.toList
  | _ => []
theorem efb_2 : rfb_2.toList = lfb_2 := rfl
noncomputable def rfb_3 : Array Oper := match Tryd.f8.body with
  | some (.seq _ (.seq _ (.seq (.region _ o _) _))) => o
  | _ => #[]
noncomputable def lfb_3 : List Oper := match Tryd.f8.body with
  | some (.seq _ (.seq _ (.seq (.region _ o _) _))) => o.toList
  | _ => []
theorem efb_3 : rfb_3.toList = lfb_3 := rfl
theorem qfb_3 : E.sr 3 rfb_3 = true := by kernel_rfl
theorem qfb_103 : srTab rfb_3 = [(48, some (48, .tmp 17)), (48, some (48, .tmp 22))] := by kernel_rfl
noncomputable def rfb_4 : Array Oper := match Tryd.f8.body with
  | some (.seq _ (.seq _ (.seq _ (.seq (.region _ o _) _)))) => o
  | _ => #[]
noncomputable def lfb_4 : List Oper := match Tryd.f8.body with
  | some (.seq _ (.seq _ (.seq _ (.seq (.region _ o _) _)))) => o.toList
  | _ => []
theorem efb_4 : rfb_4.toList = lfb_4 := rfl
noncomputable def rfb_5 : Array Oper := match Tryd.f8.body with
  | some (.seq _ (.seq _ (.seq _ (.seq _ (.seq (.region _ o _) _))))) => o
  | _ => #[]
noncomputable def lfb_5 : List Oper := match Tryd.f8.body with
  | some (.seq _ (.seq _ (.seq _ (.seq _ (.seq (.region _ o _) _))))) => o.toList
  | _ => []
theorem efb_5 : rfb_5.toList = lfb_5 := rfl
noncomputable def rfb_6 : Array Oper := match Tryd.f8.body with
  | some (.seq _ (.seq _ (.seq _ (.seq _ (.seq _ (.seq (.region _ o _) _)))))) => o
  | _ => #[]
noncomputable def lfb_6 : List Oper := match Tryd.f8.body with
  | some (.seq _ (.seq _ (.seq _ (.seq _ (.seq _ (.seq (.region _ o _) _)))))) => o.toList
  | _ => []
theorem efb_6 : rfb_6.toList = lfb_6 := rfl
theorem gfb_6_2 {T : List Value} {dd : Option Tmp} {op : Op} {ty : TypeId} {pos : String} {af : Array Edge} {want : Bool} : agd rfb_6 T { dst := dd, op := op, type := ty, pos := pos, after := af, guard := some (2, want) } = gdAt T 37 want := agd_at (by kernel_rfl)
theorem gfb_6_6 {T : List Value} {dd : Option Tmp} {op : Op} {ty : TypeId} {pos : String} {af : Array Edge} {want : Bool} : agd rfb_6 T { dst := dd, op := op, type := ty, pos := pos, after := af, guard := some (6, want) } = gdAt T 41 want := agd_at (by kernel_rfl)
theorem gfb_6_11 {T : List Value} {dd : Option Tmp} {op : Op} {ty : TypeId} {pos : String} {af : Array Edge} {want : Bool} : agd rfb_6 T { dst := dd, op := op, type := ty, pos := pos, after := af, guard := some (11, want) } = gdAt T 46 want := agd_at (by kernel_rfl)
theorem gfb_6_16 {T : List Value} {dd : Option Tmp} {op : Op} {ty : TypeId} {pos : String} {af : Array Edge} {want : Bool} : agd rfb_6 T { dst := dd, op := op, type := ty, pos := pos, after := af, guard := some (16, want) } = gdAt T 51 want := agd_at (by kernel_rfl)
theorem gfb_6_27 {T : List Value} {dd : Option Tmp} {op : Op} {ty : TypeId} {pos : String} {af : Array Edge} {want : Bool} : agd rfb_6 T { dst := dd, op := op, type := ty, pos := pos, after := af, guard := some (27, want) } = gdAt T 62 want := agd_at (by kernel_rfl)
theorem gfb_6_37 {T : List Value} {dd : Option Tmp} {op : Op} {ty : TypeId} {pos : String} {af : Array Edge} {want : Bool} : agd rfb_6 T { dst := dd, op := op, type := ty, pos := pos, after := af, guard := some (37, want) } = gdAt T 72 want := agd_at (by kernel_rfl)
theorem dfb_6 {self : Self} {B : Nat} {T : List Value} {m : Mem} {lb : List (Nat × Nat)} {ls : Bool} : adrawN E self rfb_6 B rfb_6.toList 0 T m lb ls = adrawT E self rfb_6 B rfb_6.toList [(false, false), (false, false), (false, false), (false, false), (false, false), (false, false), (false, false), (false, false), (false, false), (false, false), (false, false), (false, false), (false, false), (false, false), (false, false), (false, false), (false, false), (false, false), (false, false), (false, false), (false, false), (false, false), (false, false), (false, false), (false, false), (false, false), (false, false), (false, false), (false, false), (false, false), (false, false), (false, false), (false, false), (false, false), (false, false), (false, false), (false, false), (false, false), (false, false), (false, false), (false, false), (false, false), (false, false), (false, false), (false, false), (false, false)] 0 T m lb ls := adraw_tab (by kernel_rfl)
theorem sfb_6 : E.sr 6 rfb_6 = false := by kernel_rfl
theorem bodyfb : Tryd.f8.body = some (.seq (.region 0 rfb_0 false) (.seq (.seq (.region 1 rfb_1 false) (.cond (.tmp 12) (.seq (.region 2 rfb_2 false) .ret) .skip)) (.seq (.region 3 rfb_3 true) (.seq (.region 4 rfb_4 false) (.seq (.region 5 rfb_5 false) (.seq (.region 6 rfb_6 true) .ret)))))) := rfl
-- ntmps 80

/-- Equality within a drawn region, as a function of the values. -/
noncomputable def eqFl (P : Program) (s : TypeId) (x y : Operand) (u v : Value) : Option Value := match u with
  | .int k a => (match v with
    | .int k' b => (match abin .eql k a k' b with
      | some w => some w
      | none => eqlVal P s x y u v)
    | _ => eqlVal P s x y u v)
  | _ => (match eqlVal P s x y u v with
    | some w => some w
    | none => (match aeq P s u v with
      | some b => some (.bool b)
      | none => none))
theorem afloat_eqlV {P : Program} {T : List Value} {d : Option Tmp} {s t ty : TypeId} {x y : Operand} {pos : String} {af : Array Edge} {g : Option (Nat × Bool)} :
    afloat P T { dst := d, op := .binOp .eql s x y t, type := ty, pos := pos, after := af, guard := g } = eqFl P s x y (ev T x) (ev T y) := by
  unfold afloat eqFl
  simp only [apure_eqlV]
  rfl
theorem eqFl_int {P : Program} {s : TypeId} {x y : Operand} {k : IntKind} {a b : Int} : eqFl P s x y (.int k a) (.int k b) = some (.bool (a == b)) := by
  unfold eqFl
  have : abin .eql k a k b = some (.bool (a == b)) := by unfold abin; simp only [if_true]
  simp only [this]
theorem eqFl_bool {x y : Operand} {p q : Bool} : eqFl E.P 4 x y (.bool p) (.bool q) = some (.bool (p == q)) := rfl
theorem eqFl_46 {x y : Operand} (u v : Nat → Nat) : eqFl E.P 46 x y (arrK .u8 32 u) (arrK .u8 32 v) = some (.bool ((List.range 32).all fun j => ((u j : Nat) : Int) == ((v j : Nat) : Int))) := by
  have h := eql46 (x := x) (y := y) u v
  unfold eqFl
  unfold arrK at h ⊢
  simp only [h]
theorem idx46_0 (w : Nat → Nat) : aindex E.P 46 (arrK .u8 32 w) (.int .i64 0) = some (.int .u8 ((w 0 : Nat) : Int)) := by kernel_rfl
theorem and8_1 {x : Nat} (hx : x < 256) : abin .and .u8 ((x : Nat) : Int) .u8 1 = some (.int .u8 ((x % 2 : Nat) : Int)) := by
  have h : ∀ y, y < 256 → abin .and .u8 ((y : Nat) : Int) .u8 1 = some (.int .u8 ((y % 2 : Nat) : Int)) := by
    intro y hy
    have h1 : abin .and .u8 ((y : Nat) : Int) .u8 1 = some (.int .u8 (wrapF .u8 ((((((y : Nat) : Int) % 256).toNat &&& ((1 : Int) % 256).toNat : Nat)) : Int))) := by kernel_rfl
    have e1 : (((y : Nat) : Int) % 256).toNat = y := by omega
    have e2 : ((1 : Int) % 256).toNat = 1 := rfl
    rw [h1, e1, e2, Nat.and_one_is_mod]
    have : wrapF .u8 ((y % 2 : Nat) : Int) = ((y % 2 : Nat) : Int) := by simp only [wrapF]; omega
    rw [this]
  exact h x hx

theorem bytes_same {X Y : Nat} (hX : X < P25519) (hY : Y < P25519) : ((List.range 32).all fun j => ((byteX X j : Nat) : Int) == ((byteX Y j : Nat) : Int)) = decide (X = Y) := by
  by_cases h : X = Y
  · subst h; simp
  · rw [decide_eq_false h]
    cases hq : (List.range 32).all (fun j => ((byteX X j : Nat) : Int) == ((byteX Y j : Nat) : Int)) with
    | false => rfl
    | true =>
      exfalso
      apply h
      rw [List.all_eq_true] at hq
      have hb : ∀ j, j < 32 → byteX X j = byteX Y j := fun j hj => by
        have := hq j (List.mem_range.2 hj)
        exact Int.ofNat.inj (by simpa using this)
      rw [← loose_byteX hX, ← loose_byteX hY]
      unfold looseF
      have ha : ∀ k, k < 4 → accW (byteX X) k 8 = accW (byteX Y) k 8 := fun k hk => accW_ext k (fun i hi => hb (8 * k + i) (by omega)) 8 (Nat.le_refl _)
      rw [ha 0 (by omega), ha 1 (by omega), ha 2 (by omega), ha 3 (by omega)]

theorem abs_neg {X : Nat} (hX : X < P25519) : absF X = absF ((P25519 - X) % P25519) := by
  have hP : P25519 = 57896044618658097711785492504343953926634992332820282019728792003956564819949 := rfl
  unfold absF
  by_cases h0 : X = 0
  · subst h0
    rw [Nat.sub_zero, Nat.mod_self, if_neg (by decide), if_neg (by decide)]
  · have h1 : (P25519 - X) % P25519 = P25519 - X := Nat.mod_eq_of_lt (by omega)
    rw [h1]
    by_cases h : X % 2 = 1
    · rw [if_pos h, if_neg (by omega)]
    · rw [if_neg h, if_pos (by omega), show P25519 - (P25519 - X) = X by omega, Nat.mod_eq_of_lt hX]

theorem absF_lt {X : Nat} (hX : X < P25519) : absF X < P25519 := by
  unfold absF
  split
  · exact Nat.mod_lt _ (by decide)
  · exact hX

theorem neg_byte {X : Nat} : ((((byteX X 0 % 2 : Nat) : Nat) : Int) == 1) = decide (X % 2 = 1) := by
  have : byteX X 0 % 2 = X % 2 := by
    unfold byteX
    rw [show (0 : Nat) / 8 = 0 from rfl, show (0 : Nat) % 8 = 0 from rfl, Nat.mul_zero, Nat.pow_zero, Nat.div_one, wd_0]
    omega
  rw [this]
  by_cases h : X % 2 = 1
  · rw [h]; rfl
  · rw [decide_eq_false h, show X % 2 = 0 by omega]; rfl

theorem callPa : callableB E.P 46 = true := by kernel_rfl
theorem callSm : callableB E.P 44 = true := by kernel_rfl
theorem wrSm : E.wr 44 = false := by kernel_rfl
theorem wrNeg1 : E.wr 41 = false := by kernel_rfl
theorem callAb : callableB E.P 39 = true := by kernel_rfl
theorem wrAb : E.wr 39 = false := by kernel_rfl
theorem wrLo : E.wr 26 = false := by kernel_rfl
theorem callAw5 : callableB E.P 25 = true := by kernel_rfl
theorem addr4b : addrT E.P 4 4 = false := by kernel_rfl
theorem ext_0' (v : Value) : aextract (.tuple ⟨[v, .int .i64 0]⟩) 0 = some v := rfl
theorem ext_1' (v : Value) : aextract (.tuple ⟨[v, .int .i64 0]⟩) 1 = some (.int .i64 0) := rfl

section
variable {self : Self} {nf : Nat} {F : Nat → Value} {B D N N2 : Mem} {va vb vP vQ vX vY bX bY vN vA : Value} {pa pb px py pu pv pn : Nat} {rX rY : Blk}
theorem fb0 (i0 : F 0 = va) (i1 : F 1 = vb) {m A : Mem} (b1 : abox E.P 46 va m = some (.pointer (some ⟨pa, 0, none⟩), A)) (b2 : abox E.P 46 vb A = some (.pointer (some ⟨pb, 0, none⟩), B)) :
    ∃ F', acodeN E self nf (.region 0 rfb_0 false) (lst F 80) m = some (.normal, lst F' 80, B) ∧ F' 2 = .pointer (some ⟨pa, 0, none⟩) ∧ F' 3 = .pointer (some ⟨pb, 0, none⟩) := by
  simp only [↓dfb_6, ↓sfb_6, qfb_103, qfb_3, efb_0, efb_1, efb_2, efb_3, efb_4, efb_5, efb_6, lfb_0, lfb_1, lfb_2, lfb_3, lfb_4, lfb_5, lfb_6, gfb_6_11, gfb_6_16, gfb_6_2, gfb_6_27, gfb_6_37, gfb_6_6, agd_none, gdAt, gdV_bool, gdV_undef, Tryd.f8, List.append_eq, List.cons_append, List.nil_append, apure_call1, apure_call2, apure_call3, bft, btf, acodeN, List.getElem?_toArray, List.getElem?_cons_zero, List.getElem?_cons_succ, aopsN, adrawT, cls, astep, aop, afloat, ev, nth_lst, get_lst, aput, setAt_lst, upd_at, init_zero, init_succ, init_nil, Nat.reduceLT, Nat.reduceEqDiff, reduceIte, abuiltin, alen, Option.map_some, Option.map_none, orElse_some, apure_add, apure_eqlV, eqlVal_str, eqlVal_bool, eqlVal_ptr, eqlVal_slice, eqlVal_wide, eqlVal_int, allT, ↓aop_eqlV, apure_neq, List.map_cons, List.map_nil, List.all_cons, List.all_nil, lit2, lit1, lit0, List.isEmpty_nil, Bool.and_self, Bool.and_true, Bool.true_and, Bool.false_and, Bool.and_false, Bool.not_true, Bool.not_false, Bool.or_true, Bool.true_or, Bool.false_or, Bool.or_false, Bool.false_eq_true, if_true, if_false, List.length_map, beq_self_eq_true, und3, und4, und5, und9, i0, i1, b1, b2]
  exact ⟨_, rfl, by simp only [upd_at, Nat.reduceEqDiff, reduceIte], by simp only [upd_at, Nat.reduceEqDiff, reduceIte]⟩
theorem fb1 (hw1 : ainv E self 25 [] B = some (.bool true, B)) :
    ∃ F', acodeN E self nf (.region 1 rfb_1 false) (lst F 80) B = some (.normal, lst F' 80, B) ∧ F' 2 = F 2 ∧ F' 3 = F 3 ∧ F' 12 = .bool false := by
  simp only [↓dfb_6, ↓sfb_6, qfb_103, qfb_3, efb_0, efb_1, efb_2, efb_3, efb_4, efb_5, efb_6, lfb_0, lfb_1, lfb_2, lfb_3, lfb_4, lfb_5, lfb_6, gfb_6_11, gfb_6_16, gfb_6_2, gfb_6_27, gfb_6_37, gfb_6_6, agd_none, gdAt, gdV_bool, gdV_undef, Tryd.f8, List.append_eq, List.cons_append, List.nil_append, apure_call1, apure_call2, apure_call3, bft, btf, acodeN, List.getElem?_toArray, List.getElem?_cons_zero, List.getElem?_cons_succ, aopsN, adrawT, cls, astep, aop, afloat, ev, nth_lst, get_lst, aput, setAt_lst, upd_at, init_zero, init_succ, init_nil, Nat.reduceLT, Nat.reduceEqDiff, reduceIte, abuiltin, alen, Option.map_some, Option.map_none, orElse_some, apure_add, apure_eqlV, eqlVal_str, eqlVal_bool, eqlVal_ptr, eqlVal_slice, eqlVal_wide, eqlVal_int, allT, ↓aop_eqlV, apure_neq, List.map_cons, List.map_nil, List.all_cons, List.all_nil, lit2, lit1, lit0, List.isEmpty_nil, Bool.and_self, Bool.and_true, Bool.true_and, Bool.false_and, Bool.and_false, Bool.not_true, Bool.not_false, Bool.or_true, Bool.true_or, Bool.false_or, Bool.or_false, Bool.false_eq_true, if_true, if_false, List.length_map, beq_self_eq_true, und3, und4, und5, und9, callAw5, hw1]
  exact ⟨_, rfl, by simp only [upd_at, Nat.reduceEqDiff, reduceIte], by simp only [upd_at, Nat.reduceEqDiff, reduceIte], by simp only [upd_at, Nat.reduceEqDiff, reduceIte]⟩
theorem fb3 (h2 : F 2 = .pointer (some ⟨pa, 0, none⟩)) (h3 : F 3 = .pointer (some ⟨pb, 0, none⟩)) (la : aload E.P 46 (.pointer (some ⟨pa, 0, none⟩)) (B.map sealed) = some va) (lb : aload E.P 46 (.pointer (some ⟨pb, 0, none⟩)) (B.map sealed) = some vb)
    (d1 : decide (pa < B.length) = true) (d2 : decide (pb < B.length) = true) (dG : decide (E.G ≤ B.length) = true) (la1 : lit2 va = true) (lb1 : lit2 vb = true) (v1 : lit2 vP = true) (v2 : lit2 vQ = true) (v3 : lit2 vX = true) (v4' : lit2 vY = true)
    (c1 : ∀ M, ainv E self 26 [va] M = some (vP, M)) (c2 : ∀ M, ainv E self 26 [vb] M = some (vQ, M)) (c3 : ∀ M, ainv E self 35 [vP, vQ] M = some (vX, M)) (c4' : ∀ M, ainv E self 31 [vP, vQ] M = some (vY, M))
    (w1 : astore E.P 48 (.pointer (some ⟨0, 0, none⟩)) vX [.row false 48 (c4 0 0 0 0)] = some [rX]) (w2 : astore E.P 48 (.pointer (some ⟨0, 0, none⟩)) vY [.row false 48 (c4 0 0 0 0)] = some [rY]) :
    ∃ F', acodeN E self nf (.region 3 rfb_3 true) (lst F 80) B = some (.normal, lst F' 80, B ++ [rX, rY]) ∧ F' 5 = .pointer (some ⟨B.length, 0, none⟩) ∧ F' 6 = .pointer (some ⟨B.length + 1, 0, none⟩) := by
  generalize hz : Blk.row false 48 (c4 0 0 0 0) = z at *
  have z48' := z48
  rw [hz] at z48'
  simp only [↓dfb_6, ↓sfb_6, qfb_103, qfb_3, efb_0, efb_1, efb_2, efb_3, efb_4, efb_5, efb_6, lfb_0, lfb_1, lfb_2, lfb_3, lfb_4, lfb_5, lfb_6, gfb_6_11, gfb_6_16, gfb_6_2, gfb_6_27, gfb_6_37, gfb_6_6, agd_none, gdAt, gdV_bool, gdV_undef, Tryd.f8, List.append_eq, List.cons_append, List.nil_append, apure_call1, apure_call2, apure_call3, bft, btf, acodeN, List.getElem?_toArray, List.getElem?_cons_zero, List.getElem?_cons_succ, aopsN, adrawT, cls, astep, aop, afloat, ev, nth_lst, get_lst, aput, setAt_lst, upd_at, init_zero, init_succ, init_nil, Nat.reduceLT, Nat.reduceEqDiff, reduceIte, abuiltin, alen, Option.map_some, Option.map_none, orElse_some, apure_add, apure_eqlV, eqlVal_str, eqlVal_bool, eqlVal_ptr, eqlVal_slice, eqlVal_wide, eqlVal_int, allT, ↓aop_eqlV, apure_neq, List.map_cons, List.map_nil, List.all_cons, List.all_nil, lit2, lit1, lit0, List.isEmpty_nil, Bool.and_self, Bool.and_true, Bool.true_and, Bool.false_and, Bool.and_false, Bool.not_true, Bool.not_false, Bool.or_true, Bool.true_or, Bool.false_or, Bool.or_false, Bool.false_eq_true, if_true, if_false, List.length_map, beq_self_eq_true, und3, und4, und5, und9, asr, asrT, contents, content, belowB, isCall, laterOk, eq_self, decide_true, Bool.and_self, h2, h3, la, lb, d1, d2, dG, ↓la1, ↓lb1, callLo, wrLo, addr48, c1, c2, callMul, wrMul, c3, callAddF, wrAddF, c4', ↓v1, ↓v2, ↓v3, ↓v4', z48', w1, w2, Nat.add_zero]
  exact ⟨_, rfl, by simp only [upd_at, Nat.reduceEqDiff, reduceIte, Nat.zero_add], by simp only [upd_at, Nat.reduceEqDiff, reduceIte, Nat.zero_add]⟩
theorem fb4 (h5 : F 5 = .pointer (some ⟨px, 0, none⟩)) (lx : aload E.P 48 (.pointer (some ⟨px, 0, none⟩)) D = some vX) (k1 : ∀ M, ainv E self 48 [vX] M = some (bX, M)) (k3 : ∀ M, ainv E self 46 [bX] M = some (.tuple ⟨[vX, .int .i64 0]⟩, M))
    (b3 : aalloc E.P 48 D = some (.pointer (some ⟨pn, 0, none⟩), N)) (st1 : astore E.P 48 (.pointer (some ⟨pn, 0, none⟩)) vX N = some N2) :
    ∃ F', acodeN E self nf (.region 4 rfb_4 false) (lst F 80) D = some (.normal, lst F' 80, N2) ∧ F' 5 = F 5 ∧ F' 6 = F 6 ∧ F' 7 = .pointer (some ⟨pn, 0, none⟩) ∧ F' 8 = .int .i64 0 := by
  simp only [↓dfb_6, ↓sfb_6, qfb_103, qfb_3, efb_0, efb_1, efb_2, efb_3, efb_4, efb_5, efb_6, lfb_0, lfb_1, lfb_2, lfb_3, lfb_4, lfb_5, lfb_6, gfb_6_11, gfb_6_16, gfb_6_2, gfb_6_27, gfb_6_37, gfb_6_6, agd_none, gdAt, gdV_bool, gdV_undef, Tryd.f8, List.append_eq, List.cons_append, List.nil_append, apure_call1, apure_call2, apure_call3, bft, btf, acodeN, List.getElem?_toArray, List.getElem?_cons_zero, List.getElem?_cons_succ, aopsN, adrawT, cls, astep, aop, afloat, ev, nth_lst, get_lst, aput, setAt_lst, upd_at, init_zero, init_succ, init_nil, Nat.reduceLT, Nat.reduceEqDiff, reduceIte, abuiltin, alen, Option.map_some, Option.map_none, orElse_some, apure_add, apure_eqlV, eqlVal_str, eqlVal_bool, eqlVal_ptr, eqlVal_slice, eqlVal_wide, eqlVal_int, allT, ↓aop_eqlV, apure_neq, List.map_cons, List.map_nil, List.all_cons, List.all_nil, lit2, lit1, lit0, List.isEmpty_nil, Bool.and_self, Bool.and_true, Bool.true_and, Bool.false_and, Bool.and_false, Bool.not_true, Bool.not_false, Bool.or_true, Bool.true_or, Bool.false_or, Bool.or_false, Bool.false_eq_true, if_true, if_false, List.length_map, beq_self_eq_true, und3, und4, und5, und9, h5, lx, callBy, k1, callPa, k3, ext_0', ext_1', b3, st1]
  exact ⟨_, rfl, by simp only [upd_at, Nat.reduceEqDiff, reduceIte, h5], by simp only [upd_at, Nat.reduceEqDiff, reduceIte], by simp only [upd_at, Nat.reduceEqDiff, reduceIte], by simp only [upd_at, Nat.reduceEqDiff, reduceIte]⟩
theorem fb5 (h6 : F 6 = .pointer (some ⟨px, 0, none⟩)) (lx : aload E.P 48 (.pointer (some ⟨px, 0, none⟩)) D = some vX) (k1 : ∀ M, ainv E self 48 [vX] M = some (bX, M)) (k3 : ∀ M, ainv E self 46 [bX] M = some (.tuple ⟨[vX, .int .i64 0]⟩, M))
    (b3 : aalloc E.P 48 D = some (.pointer (some ⟨pn, 0, none⟩), N)) (st1 : astore E.P 48 (.pointer (some ⟨pn, 0, none⟩)) vX N = some N2) :
    ∃ F', acodeN E self nf (.region 5 rfb_5 false) (lst F 80) D = some (.normal, lst F' 80, N2) ∧ F' 5 = F 5 ∧ F' 6 = F 6 ∧ F' 7 = F 7 ∧ F' 8 = F 8 ∧ F' 9 = .pointer (some ⟨pn, 0, none⟩) ∧ F' 10 = .int .i64 0 := by
  simp only [↓dfb_6, ↓sfb_6, qfb_103, qfb_3, efb_0, efb_1, efb_2, efb_3, efb_4, efb_5, efb_6, lfb_0, lfb_1, lfb_2, lfb_3, lfb_4, lfb_5, lfb_6, gfb_6_11, gfb_6_16, gfb_6_2, gfb_6_27, gfb_6_37, gfb_6_6, agd_none, gdAt, gdV_bool, gdV_undef, Tryd.f8, List.append_eq, List.cons_append, List.nil_append, apure_call1, apure_call2, apure_call3, bft, btf, acodeN, List.getElem?_toArray, List.getElem?_cons_zero, List.getElem?_cons_succ, aopsN, adrawT, cls, astep, aop, afloat, ev, nth_lst, get_lst, aput, setAt_lst, upd_at, init_zero, init_succ, init_nil, Nat.reduceLT, Nat.reduceEqDiff, reduceIte, abuiltin, alen, Option.map_some, Option.map_none, orElse_some, apure_add, apure_eqlV, eqlVal_str, eqlVal_bool, eqlVal_ptr, eqlVal_slice, eqlVal_wide, eqlVal_int, allT, ↓aop_eqlV, apure_neq, List.map_cons, List.map_nil, List.all_cons, List.all_nil, lit2, lit1, lit0, List.isEmpty_nil, Bool.and_self, Bool.and_true, Bool.true_and, Bool.false_and, Bool.and_false, Bool.not_true, Bool.not_false, Bool.or_true, Bool.true_or, Bool.false_or, Bool.or_false, Bool.false_eq_true, if_true, if_false, List.length_map, beq_self_eq_true, und3, und4, und5, und9, h6, lx, callBy, k1, callPa, k3, ext_0', ext_1', b3, st1]
  exact ⟨_, rfl, by simp only [upd_at, Nat.reduceEqDiff, reduceIte], by simp only [upd_at, Nat.reduceEqDiff, reduceIte, h6], by simp only [upd_at, Nat.reduceEqDiff, reduceIte], by simp only [upd_at, Nat.reduceEqDiff, reduceIte], by simp only [upd_at, Nat.reduceEqDiff, reduceIte], by simp only [upd_at, Nat.reduceEqDiff, reduceIte]⟩
theorem fb6 {O : Mem} {x0 : Nat} {q r : Bool} (h5 : F 5 = .pointer (some ⟨px, 0, none⟩)) (h6 : F 6 = .pointer (some ⟨py, 0, none⟩)) (h7 : F 7 = .pointer (some ⟨pu, 0, none⟩)) (h8 : F 8 = .int .i64 0) (h9 : F 9 = .pointer (some ⟨pv, 0, none⟩)) (h10 : F 10 = .int .i64 0)
    (sx : aload E.P 48 (.pointer (some ⟨px, 0, none⟩)) (O.map sealed) = some vX) (sy : aload E.P 48 (.pointer (some ⟨py, 0, none⟩)) (O.map sealed) = some vY) (su : aload E.P 48 (.pointer (some ⟨pu, 0, none⟩)) (O.map sealed) = some vX) (sv : aload E.P 48 (.pointer (some ⟨pv, 0, none⟩)) (O.map sealed) = some vY)
    (s1 : ∀ M, ainv E self 44 [vX, vX] M = some (.bool true, M)) (s2 : ∀ M, ainv E self 44 [vY, vY] M = some (.bool true, M)) (s3 : ∀ M, ainv E self 44 [vX, vY] M = some (.bool q, M))
    (k1 : ∀ M, ainv E self 48 [vX] M = some (bX, M)) (k2 : ∀ M, ainv E self 48 [vY] M = some (bY, M))
    (f46 : ∀ x y, eqFl E.P 46 x y bX bY = some (.bool q)) (ix : aindex E.P 46 bX (.int .i64 0) = some (.int .u8 ((x0 : Nat) : Int))) (h8' : abin .and .u8 ((x0 : Nat) : Int) .u8 1 = some (.int .u8 ((x0 % 2 : Nat) : Int))) (hnb : (((x0 % 2 : Nat) : Int) == 1) = r)
    (n1 : ∀ M, ainv E self 41 [vX] M = some (.bool r, M)) (n2 : ainv E self 38 [vX] (O.map sealed) = some (vN, O.map sealed)) (a1 : ainv E self 39 [vX] (O.map sealed) = some (vA, O.map sealed)) (a2 : ainv E self 39 [vN] (O.map sealed) = some (vA, O.map sealed))
    (s4 : ∀ M, ainv E self 44 [vA, vA] M = some (.bool true, M)) :
    ∃ F', acodeN E self nf (.region 6 rfb_6 true) (lst F 80) O = some (.normal, lst F' 80, O) ∧ F' 4 = .bool true := by
  have z0 : (((0 : Int)) == 0) = true := rfl
  have hq : (q == q) = true := by cases q <;> rfl
  have hr : (r == r) = true := by cases r <;> rfl
  simp only [↓dfb_6, ↓sfb_6, qfb_103, qfb_3, efb_0, efb_1, efb_2, efb_3, efb_4, efb_5, efb_6, lfb_0, lfb_1, lfb_2, lfb_3, lfb_4, lfb_5, lfb_6, gfb_6_11, gfb_6_16, gfb_6_2, gfb_6_27, gfb_6_37, gfb_6_6, agd_none, gdAt, gdV_bool, gdV_undef, Tryd.f8, List.append_eq, List.cons_append, List.nil_append, apure_call1, apure_call2, apure_call3, bft, btf, acodeN, List.getElem?_toArray, List.getElem?_cons_zero, List.getElem?_cons_succ, aopsN, adrawT, cls, astep, aop, afloat, ev, nth_lst, get_lst, aput, setAt_lst, upd_at, init_zero, init_succ, init_nil, Nat.reduceLT, Nat.reduceEqDiff, reduceIte, abuiltin, alen, Option.map_some, Option.map_none, orElse_some, apure_add, apure_eqlV, eqlVal_str, eqlVal_bool, eqlVal_ptr, eqlVal_slice, eqlVal_wide, eqlVal_int, allT, ↓aop_eqlV, apure_neq, List.map_cons, List.map_nil, List.all_cons, List.all_nil, lit2, lit1, lit0, List.isEmpty_nil, Bool.and_self, Bool.and_true, Bool.true_and, Bool.false_and, Bool.and_false, Bool.not_true, Bool.not_false, Bool.or_true, Bool.true_or, Bool.false_or, Bool.or_false, Bool.false_eq_true, if_true, if_false, List.length_map, beq_self_eq_true, und3, und4, und5, und9, ↓afloat_eqlV, eqFl_int, eqFl_bool, z0, hq, hr, h5, h6, h7, h8, h9, h10, sx, sy, su, sv, callSm, wrSm, addr4b, s1, s2, s3, callBy, wrBy, addr46, k1, k2, f46, callNeg1, wrNeg1, n1, ix, h8', hnb, callAb, wrAb, addr48, a1, callNeg, wrNeg, n2, a2, s4]
  exact ⟨_, rfl, by simp only [upd_at, Nat.reduceEqDiff, reduceIte]⟩
end

section
variable {self : Self} {nf : Nat} {m : Mem} {a b : Nat → Nat}
theorem fb_body (ha : ∀ i, a i < 256) (hb : ∀ i, b i < 256) (hG : E.G ≤ m.length) (hT : TabP m) (haw : ∀ x, ainv E self 25 [] (m ++ x) = some (.bool true, m ++ x))
    (hlo : ∀ b, (∀ i, b i < 256) → Ans self 26 [arrK .u8 32 b] (el (looseF b))) (hmu : MulOk self)
    (had : ∀ X Y, X < P25519 → Y < P25519 → Ans self 31 [el X, el Y] (el ((X + Y) % P25519)))
    (hby : ∀ X, Ans self 48 [el X] (arrK .u8 32 (byteX X)))
    (hpa : ∀ X, X < P25519 → Ans self 46 [arrK .u8 32 (byteX X)] (.tuple ⟨[el X, .int .i64 0]⟩))
    (hsm : ∀ X Y, X < P25519 → Y < P25519 → Ans self 44 [el X, el Y] (.bool (decide (X = Y))))
    (hn1 : ∀ X, X < P25519 → Ans self 41 [el X] (.bool (decide (X % 2 = 1))))
    (hng : ∀ X, X < P25519 → AnsT self 38 [el X] (el ((P25519 - X) % P25519)))
    (hab : ∀ X, X < P25519 → AnsT self 39 [el X] (el (absF X))) :
    ∃ m', abody E self nf 8 [arrK .u8 32 a, arrK .u8 32 b] m = some (.bool true, m') := by
  rw [abody_eqF (by kernel_rfl) Tryd.func8 bodyfb (by kernel_rfl) (Nat.le_of_ble_eq_true rfl)]
  rw [show Tryd.f8.ntmps = 80 from rfl]
  have b1 := a46.box (w := a) (m := m)
  have hw1 := haw ([Blk.row false 46 (rowK .u8 32 a)] ++ [Blk.row false 46 (rowK .u8 32 b)])
  rw [← List.append_assoc] at hw1
  have tA : TabP (m ++ [Blk.row false 46 (rowK .u8 32 a)]) := hT.app
  generalize hA : m ++ [Blk.row false 46 (rowK .u8 32 a)] = A at b1 hw1 tA
  have lA : A.length = m.length + 1 := by rw [← hA]; simp
  have b2 := a46.box (w := b) (m := A)
  rw [lA] at b2
  have tB : TabP (A ++ [Blk.row false 46 (rowK .u8 32 b)]) := tA.app
  generalize hB : A ++ [Blk.row false 46 (rowK .u8 32 b)] = B at b2 hw1 tB
  have lB : B.length = m.length + 2 := by rw [← hB]; simp [lA]
  have ga : B[m.length]? = some (.row false 46 (rowK .u8 32 a)) := by
    rw [← hB, List.getElem?_append_left (by omega), ← hA]; simp
  have gb : B[m.length + 1]? = some (.row false 46 (rowK .u8 32 b)) := by
    rw [← hB, List.getElem?_append_right (by omega), lA]; simp
  have la : aload E.P 46 (.pointer (some ⟨m.length, 0, none⟩)) (B.map sealed) = some (arrK .u8 32 a) := a46.load (ro := true) (be := 46) (by rw [List.getElem?_map, ga]; rfl)
  have lb : aload E.P 46 (.pointer (some ⟨m.length + 1, 0, none⟩)) (B.map sealed) = some (arrK .u8 32 b) := a46.load (ro := true) (be := 46) (by rw [List.getElem?_map, gb]; rfl)
  have d1 : decide (m.length < B.length) = true := decide_eq_true (by omega)
  have d2 : decide (m.length + 1 < B.length) = true := decide_eq_true (by omega)
  have dG : decide (E.G ≤ B.length) = true := decide_eq_true (by omega)
  have c1 := hlo a ha
  have c2 := hlo b hb
  have hP := looseF_lt a
  have hQ := looseF_lt b
  generalize looseF a = P at *
  generalize looseF b = Q at *
  have c3 := hmu P Q hP hQ
  have c4' := had P Q hP hQ
  have hXl : P * Q % P25519 < P25519 := Nat.mod_lt _ (by decide)
  have hYl : (P + Q) % P25519 < P25519 := Nat.mod_lt _ (by decide)
  generalize P * Q % P25519 = X at *
  generalize (P + Q) % P25519 = Y at *
  have la2 := arrK_lit .u8 32 a
  have lb2 := arrK_lit .u8 32 b
  -- the variables
  obtain ⟨D, hD⟩ : ∃ D, D = B ++ [Blk.row false 48 (c4 (wd 0 X) (wd 1 X) (wd 2 X) (wd 3 X)), Blk.row false 48 (c4 (wd 0 Y) (wd 1 Y) (wd 2 Y) (wd 3 Y))] := ⟨_, rfl⟩
  have lD : D.length = m.length + 4 := by rw [hD]; simp [lB]
  have tD : TabP D := by rw [hD]; exact tB.app
  have gx : D[m.length + 2]? = some (.row false 48 (c4 (wd 0 X) (wd 1 X) (wd 2 X) (wd 3 X))) := by
    rw [hD, List.getElem?_append_right (by omega), lB]; simp
  have gy : D[m.length + 3]? = some (.row false 48 (c4 (wd 0 Y) (wd 1 Y) (wd 2 Y) (wd 3 Y))) := by
    rw [hD, List.getElem?_append_right (by omega), lB, show m.length + 3 - (m.length + 2) = 1 by omega]; rfl
  have lx := load48 gx
  have b3 := alloc48 D
  rw [lD] at b3
  generalize hN : D ++ [Blk.row false 48 (c4 0 0 0 0)] = N at b3
  have lN : N.length = m.length + 5 := by rw [← hN]; simp [lD]
  have gn : N[m.length + 4]? = some (.row false 48 (c4 0 0 0 0)) := by
    rw [← hN, List.getElem?_append_right (by omega), lD]; simp
  have st1 := store48 (a := wd 0 X) (b := wd 1 X) (c := wd 2 X) (d := wd 3 X) gn rfl
  obtain ⟨N2, hN2⟩ : ∃ N2, N2 = N.set (m.length + 4) (.row false 48 (c4 (wd 0 X) (wd 1 X) (wd 2 X) (wd 3 X))) := ⟨_, rfl⟩
  rw [← hN2] at st1
  have lN2 : N2.length = m.length + 5 := by rw [hN2]; simp [lN]
  have oN2 : ∀ k, k < m.length + 4 → N2[k]? = D[k]? := fun k hk => by rw [hN2, List.getElem?_set_ne (by omega), ← hN, List.getElem?_append_left (by omega)]
  have gu : N2[m.length + 4]? = some (.row false 48 (c4 (wd 0 X) (wd 1 X) (wd 2 X) (wd 3 X))) := by rw [hN2, List.getElem?_set_self (by omega)]
  have ly := load48 ((oN2 _ (by omega)).trans gy)
  have b4 := alloc48 N2
  rw [lN2] at b4
  generalize hO : N2 ++ [Blk.row false 48 (c4 0 0 0 0)] = O at b4
  have lO : O.length = m.length + 6 := by rw [← hO]; simp [lN2]
  have go : O[m.length + 5]? = some (.row false 48 (c4 0 0 0 0)) := by
    rw [← hO, List.getElem?_append_right (by omega), lN2]; simp
  have st2 := store48 (a := wd 0 Y) (b := wd 1 Y) (c := wd 2 Y) (d := wd 3 Y) go rfl
  obtain ⟨O2, hO2⟩ : ∃ O2, O2 = O.set (m.length + 5) (.row false 48 (c4 (wd 0 Y) (wd 1 Y) (wd 2 Y) (wd 3 Y))) := ⟨_, rfl⟩
  rw [← hO2] at st2
  have oO2 : ∀ k, k < m.length + 5 → O2[k]? = N2[k]? := fun k hk => by rw [hO2, List.getElem?_set_ne (by omega), ← hO, List.getElem?_append_left (by omega)]
  have kv : O2[m.length + 5]? = some (.row false 48 (c4 (wd 0 Y) (wd 1 Y) (wd 2 Y) (wd 3 Y))) := by rw [hO2, List.getElem?_set_self (by omega)]
  have ku := (oO2 _ (by omega)).trans gu
  have kx := ((oO2 _ (by omega)).trans (oN2 _ (by omega))).trans gx
  have ky := ((oO2 _ (by omega)).trans (oN2 _ (by omega))).trans gy
  have hGp : m.length ≠ 0 := by
    have : E.G = 8 := rfl
    omega
  have tO : TabP O2 := by
    have h0 : 0 < m.length := (List.getElem?_eq_some_iff.1 hT).1
    unfold TabP
    rw [oO2 _ (by omega), oN2 _ (by omega)]
    exact tD
  have sx : aload E.P 48 (.pointer (some ⟨m.length + 2, 0, none⟩)) (O2.map sealed) = some (st4 (wd 0 X) (wd 1 X) (wd 2 X) (wd 3 X)) := load48 (ro := true) (e := 48) (by rw [List.getElem?_map, kx]; rfl)
  have sy : aload E.P 48 (.pointer (some ⟨m.length + 3, 0, none⟩)) (O2.map sealed) = some (st4 (wd 0 Y) (wd 1 Y) (wd 2 Y) (wd 3 Y)) := load48 (ro := true) (e := 48) (by rw [List.getElem?_map, ky]; rfl)
  have su : aload E.P 48 (.pointer (some ⟨m.length + 4, 0, none⟩)) (O2.map sealed) = some (st4 (wd 0 X) (wd 1 X) (wd 2 X) (wd 3 X)) := load48 (ro := true) (e := 48) (by rw [List.getElem?_map, ku]; rfl)
  have sv : aload E.P 48 (.pointer (some ⟨m.length + 5, 0, none⟩)) (O2.map sealed) = some (st4 (wd 0 Y) (wd 1 Y) (wd 2 Y) (wd 3 Y)) := load48 (ro := true) (e := 48) (by rw [List.getElem?_map, kv]; rfl)
  have k1 := hby X
  have k2 := hby Y
  have k3 := hpa X hXl
  have k4 := hpa Y hYl
  have s1 := hsm X X hXl hXl
  have s2 := hsm Y Y hYl hYl
  have s3 := hsm X Y hXl hYl
  rw [decide_eq_true rfl] at s1 s2
  have n1 := hn1 X hXl
  have tS := tO.sealed
  have n2 := hng X hXl _ tS
  have a1 := hab X hXl _ tS
  have a2 := hab ((P25519 - X) % P25519) (Nat.mod_lt _ (by decide)) _ tS
  rw [← abs_neg hXl] at a2
  have s4 := hsm (absF X) (absF X) (absF_lt hXl) (absF_lt hXl)
  rw [decide_eq_true rfl] at s4
  unfold Ans at c1 c2 c3 c4' k1 k2 k3 k4 s1 s2 s3 s4 n1
  have hbs := bytes_same hXl hYl
  have hnb := neg_byte (X := X)
  have h8 := and8_1 (byteX_lt X 0)
  rw [← el_st] at lx ly st1 st2 sx sy su sv
  obtain ⟨G0, r0, p2, p3⟩ := fb0 (self := self) (nf := nf) (F := init [arrK .u8 32 a, arrK .u8 32 b]) rfl rfl b1 b2
  obtain ⟨G1, r1, q2, q3, q12⟩ := fb1 (self := self) (nf := nf) (F := G0) hw1
  obtain ⟨G3, r3, u5, u6⟩ := fb3 (self := self) (nf := nf) (F := G1) (q2.trans p2) (q3.trans p3) la lb d1 d2 dG la2 lb2 (el_lit P) (el_lit Q) (el_lit X) (el_lit Y) c1 c2 c3 c4' (lay48 X) (lay48 Y)
  rw [← hD] at r3
  rw [lB] at u5 u6
  obtain ⟨G4, r4, x5, x6, x7, x8⟩ := fb4 (self := self) (nf := nf) (F := G3) u5 lx k1 k3 b3 st1
  obtain ⟨G5, r5, y5, y6, y7, y8, y9, y10⟩ := fb5 (self := self) (nf := nf) (F := G4) (x6.trans u6) ly k2 k4 b4 st2
  obtain ⟨G6, r6, z4⟩ := fb6 (self := self) (nf := nf) (F := G5) (y5.trans (x5.trans u5)) (y6.trans (x6.trans u6)) (y7.trans x7) (y8.trans x8) y9 y10 sx sy su sv s1 s2 s3 k1 k2 (fun x y => by rw [← hbs]; exact eqFl_46 _ _) (idx46_0 (byteX X)) h8 hnb n1 n2 a1 a2 s4
  generalize Code.region 0 rfb_0 false = C0 at *
  generalize Code.region 1 rfb_1 false = C1 at *
  generalize Code.region 3 rfb_3 true = C3 at *
  generalize Code.region 4 rfb_4 false = C4 at *
  generalize Code.region 5 rfb_5 false = C5 at *
  generalize Code.region 6 rfb_6 true = C6 at *
  simp only [acodeN, r0, r1, ev, nth_lst, Nat.reduceLT, reduceIte, q12, r3, r4, r5, r6, finish, ares, aresL, ares1, Tryd.f8, z4]
  exact ⟨_, rfl⟩
end
end Go.Am.Seat

/-
  FieldBytes, over the whole (own work).
-/
set_option linter.unusedSimpArgs false
set_option linter.unusedVariables false
namespace Go.Am.Seat
open Go.Proofs Go.Am Go.Am.Num
set_option maxRecDepth 100000
set_option maxHeartbeats 4000000

def KB : List Fact := [awakeF5]
theorem KB_hold (F : Fact) (h : F ∈ KB) : F.holds E.P mem5 := by
  simp only [KB, List.mem_cons, List.not_mem_nil, or_false] at h
  subst h
  exact awake05
theorem noF_KB : NoF KB := by
  have h : (fieldFs.all fun f => !hasF KB f) = true := by kernel_rfl
  intro f hf
  have := List.all_eq_true.1 h f hf
  simpa using this
theorem awake5_call (x : Mem) : ainv E (runK E mem5 KB 2000) 25 [] (mem5 ++ x) = some (.bool true, mem5 ++ x) := by
  have h : runK E mem5 KB 2000 25 [] mem5 = some (.bool true, mem5) := by kernel_rfl
  exact ainv_lit rfl (by kernel_rfl) (by rw [show ((mem5 ++ x).take E.G).map onlyTab = mem5 from rfl]; exact h) rfl

theorem lawFB (a b : Nat → Nat) (ha : ∀ i, a i < 256) (hb : ∀ i, b i < 256) : ∃ m', runK E mem5 KB 2001 8 [arrK .u8 32 a, arrK .u8 32 b] mem5 = some (.bool true, m') := by
  have hr : runK E mem5 KB 2001 8 [arrK .u8 32 a, arrK .u8 32 b] mem5 = abody E (runK E mem5 KB 2000) 2001 8 [arrK .u8 32 a, arrK .u8 32 b] mem5 := by
    rw [runK]
    simp only [show hasF KB 8 = false from rfl]
  rw [hr]
  exact fb_body ha hb (Nat.le_of_ble_eq_true rfl) rfl awake5_call (fun b hb => L_lo (n := 1997) noF_KB (by omega) b hb) (L_mul (n := 1997) noF_KB (by omega)) (fun X Y hX hY => L_ad (n := 1997) noF_KB X Y hX hY) (fun X => L_by (n := 1999) noF_KB (by omega) X) (fun X hX => L_pa (n := 1996) noF_KB (by omega) X hX) (fun X Y hX hY => L_sm (n := 1999) noF_KB X Y hX hY)
    (fun X hX => L_ng1 (n := 1999) noF_KB X hX) (fun X hX => L_ng (n := 1997) noF_KB X hX) (fun X hX => L_ab (n := 1996) noF_KB X hX)

/-- Bytes of an argument. -/
def fn8 (l : List Int) (i : Nat) : Nat := (l.getD i 0).toNat
theorem wf_u8 {n : Int} (h : (Lit.int .u8 n).wf = true) : 0 ≤ n ∧ n < 256 := by
  unfold Lit.wf at h
  simp only [Bool.and_eq_true, decide_eq_true_eq] at h
  have h1 : IntKind.u8.min = 0 := by decide
  have h2 : IntKind.u8.max = 255 := by decide
  rw [h1, h2] at h
  omega
theorem fn8_lt {l : List Int} (h : ∀ n, n ∈ l → (Lit.int .u8 n).wf = true) (i : Nat) : fn8 l i < 256 := by
  unfold fn8
  by_cases hi : i < l.length
  · have := wf_u8 (h l[i] (List.getElem_mem hi))
    simp only [List.getD_eq_getElem?_getD, List.getElem?_eq_getElem hi, Option.getD_some]
    omega
  · rw [List.getD_eq_getElem?_getD, List.getElem?_eq_none (by omega)]
    decide
theorem bytes_arr {l : List Int} (hl : l.length = 32) (h : ∀ n, n ∈ l → (Lit.int .u8 n).wf = true) : Value.agg ⟨l.map (Value.int .u8)⟩ = arrK .u8 32 (fn8 l) := by
  unfold arrK
  congr 2
  apply List.ext_getElem?
  intro j
  by_cases hj : j < 32
  · have hg : l[j]? = some l[j] := by simp [hl, hj]
    rw [rowK_get hj, List.getElem?_map, hg]
    have := wf_u8 (h l[j] (by simp))
    unfold fn8
    rw [List.getD_eq_getElem?_getD, hg]
    show some (Value.int .u8 l[j]) = some (Value.int .u8 ((l[j].toNat : Nat) : Int))
    rw [Int.toNat_of_nonneg this.1]
  · rw [List.getElem?_eq_none (by rw [List.length_map, hl]; omega), List.getElem?_eq_none (by rw [rowK_length]; omega)]

theorem lawFBw (a : List Int) (la : a.length = 32) (wa : ∀ n, n ∈ a → (Lit.int .u8 n).wf = true) (b : List Int) (lb : b.length = 32) (wb : ∀ n, n ∈ b → (Lit.int .u8 n).wf = true) :
    ∃ m', runK E mem5 KB 2001 8 [.agg ⟨a.map (.int .u8)⟩, .agg ⟨b.map (.int .u8)⟩] mem5 = some (.bool true, m') := by
  rw [bytes_arr la wa, bytes_arr lb wb]
  exact lawFB (fn8 a) (fn8 b) (fn8_lt wa) (fn8_lt wb)
end Go.Am.Seat

/-
  The abstract memory at a law's start: tables that are laid, and package variables of which nothing is said (own work; nothing of a dump).
-/
set_option linter.unusedSimpArgs false
set_option linter.unusedVariables false
namespace Go.Am
noncomputable section

def ren0 (P : Program) (m : Mem) : Ren := fun k => match m[k]? with
  | some (.tab e cs) => some ⟨k, cs.length, ((P.info? e).map (·.size)).getD 0⟩
  | some _ => some ⟨k, 0, 0⟩
  | none => none

/-- What is asked of a block. -/
def BlkAt (P : Program) (W : World) (k : Nat) : Blk → Prop
  | .dead => True
  | .tab e cs => W.heap[k]? = some (.cells ⟨cs⟩ e (0, 0)) ∧ (P.info? e).isSome = true ∧ cs.all lit0 = true
  | .row .. => False

theorem mr_tabs {P : Program} {m : Mem} {W : World} (hG : P.globals.size ≤ m.length) (hsize : m.length ≤ W.heap.size) (hb : ∀ k b, m[k]? = some b → BlkAt P W k b) : MR P (ren0 P m) m W := by
  have hr : ∀ k x, ren0 P m k = some x → k < m.length ∧ x.r = k := by
    intro k x h
    unfold ren0 at h
    cases hm : m[k]? with
    | none => rw [hm] at h; cases h
    | some b =>
      have hk : k < m.length := (List.getElem?_eq_some_iff.1 hm).1
      rw [hm] at h
      cases b <;> (cases h; exact ⟨hk, rfl⟩)
  have hs : ∀ k, k < m.length → ∃ x, ren0 P m k = some x ∧ x.r = k := by
    intro k hk
    have hm : m[k]? = some m[k] := by simp [hk]
    cases hq : m[k] with
    | dead => exact ⟨_, by unfold ren0; rw [hm, hq], rfl⟩
    | row ro e cs => exact ⟨_, by unfold ren0; rw [hm, hq], rfl⟩
    | tab e cs => exact ⟨_, by unfold ren0; rw [hm, hq], rfl⟩
  have hl : ∀ k ro e cs, look m k = some (ro, e, cs) → m[k]? = some (.tab e cs) := by
    intro k ro e cs h
    unfold look at h
    split at h
    · rename_i b hm
      have := hb k b hm
      cases b with
      | dead => simp [Blk.cells?] at h
      | row => exact absurd this id
      | tab e' cs' =>
        simp [Blk.cells?] at h
        obtain ⟨_, rfl, rfl⟩ := h
        exact hm
    · cases h
  refine ⟨fun k hk => ?_, fun k x h => ?_, fun g hg => hs g (by omega), fun k ro e cs h => ?_, fun k e cs k' ro' e' cs' x x' h => ?_, fun k e cs h => ?_⟩
  · unfold ren0
    rw [List.getElem?_eq_none hk]
  · obtain ⟨h1, h2⟩ := hr k x h
    omega
  · have hm := hl k ro e cs h
    obtain ⟨h1, h2, h3⟩ := hb k _ hm
    refine ⟨⟨k, cs.length, ((P.info? e).map (·.size)).getD 0⟩, ⟨cs⟩, (0, 0), by unfold ren0; rw [hm], h1, rfl, Nat.le_refl _, fun i u hu => ⟨u, by simpa using hu, .lit ?_⟩, fun _ => loose_zero _, ?_⟩
    · exact lit2_of_lit1 (lit1_of_lit0 (List.all_eq_true.1 h3 u (List.mem_of_getElem? hu)))
    · cases hi : P.info? e with
      | none => rw [hi] at h2; cases h2
      | some i => rfl
  · exact absurd (hb k _ h) id
  · obtain ⟨_, _, h3⟩ := hb k _ h
    intro v hv
    exact List.all_eq_true.1 h3 v hv

/-- A package variable's block. -/
theorem shaped_at {P : Program} {W : World} (h : W.ShapedOpen P) {g : Nat} {t : TypeId} (hg : g < P.globals.size) (h0 : (((begin P (fun _ _ => 0) default).world.heap[g]?).bind Obj.row?).map (·.2) = some t) :
    ∃ cs, W.heap[g]? = some (.cells cs t (0, 0)) := by
  obtain ⟨⟨z, t'⟩, h1, h2⟩ := Option.map_eq_some_iff.1 h0
  simp only at h2
  subst h2
  obtain ⟨cs, hc, _⟩ := h.1 g z t' hg h1
  exact ⟨cs, hc⟩

theorem tab_at {P : Program} {W : World} {name : String} {k : IntKind} {zs : List Int} {g : Nat} {t : TypeId} {cs : Array Value} (hg : P.globalNamed name = some g) (hc : W.heap[g]? = some (.cells cs t (0, 0))) (h : Lib.TabIs P W name k zs) :
    W.heap[g]? = some (.cells ⟨zs.map (.int k)⟩ t (0, 0)) := by
  unfold Lib.TabIs World.var? at h
  rw [hg] at h
  simp only [Option.bind_some, hc] at h
  cases h
  exact hc

theorem laid_tail {P : Program} {x : String × DataW Unit} {r : List (String × DataW Unit)} {w : World} (h : laidMet P (x :: r) w) : laidMet P r w := by
  obtain ⟨ps, hv, hnd, hrows⟩ := h
  obtain ⟨n, d⟩ := x
  obtain ⟨g, t, cs, fuel, p, q, _, _, _, _, hq, rfl⟩ := hv
  exact ⟨q, hq, List.Nodup.sublist (List.sublist_append_right _ _) hnd, fun b off hm => hrows b off (List.mem_append_right _ hm)⟩

/-- How a law's call ends, seen from outside: what was there stands as it stood. -/
theorem below_of_ends {P : Program} {ρ : Ren} {m m1 : Mem} {w w1 : World} {v : Value} {e : Ending} (hm : ∀ (k : Nat) (e : TypeId) (cs : List Value), m[k]? ≠ some (Blk.row false e cs)) (hv : lit2 v = true) (h : Ends P ρ m w v m1 e w1) : e = .returned v ∧ Go.RowKit.Below w.heap.size w w1 := by
  obtain ⟨v', ρ1, rfl, hvr, _, hx⟩ := h
  refine ⟨?_, ⟨hx.os, hx.tape, hx.output, hx.size, fun r hr => hx.kept r hr fun k e cs _ hk _ => absurd hk (hm k e cs)⟩⟩
  rw [hvr.eq_of_lit2 hv]
end
end Go.Am

/-
  An array of numbers as a law's argument (own work; nothing of a dump).
-/
set_option linter.unusedSimpArgs false
set_option linter.unusedVariables false
namespace Go.Am
theorem mapM_spec {α β : Type} (f : α → Option β) : ∀ (l : List α) (xs : List β), l.mapM f = some xs → xs.length = l.length ∧ ∀ (i : Nat) (a : α), l[i]? = some a → ∃ x, xs[i]? = some x ∧ f a = some x
  | [], xs, h => by
    simp only [List.mapM_nil, Option.pure_def, Option.some.injEq] at h
    subst h
    exact ⟨rfl, fun i a ha => by simp at ha⟩
  | b :: l, xs, h => by
    simp only [List.mapM_cons, Option.pure_def, Option.bind_eq_bind] at h
    obtain ⟨x, hx, h⟩ := Option.bind_eq_some_iff.1 h
    obtain ⟨ys, hy, h⟩ := Option.bind_eq_some_iff.1 h
    cases h
    obtain ⟨h1, h2⟩ := mapM_spec f l ys hy
    refine ⟨by simp [h1], fun i a ha => ?_⟩
    cases i with
    | zero => simp at ha; subst ha; exact ⟨x, rfl, hx⟩
    | succ i => simp at ha; simpa using h2 i a ha
theorem mapM_mk {α β : Type} {f : α → Option β} {g : α → β} : ∀ (l : List α), (∀ a, a ∈ l → f a = some (g a)) → l.mapM f = some (l.map g)
  | [], _ => rfl
  | b :: l, h => by
    simp only [List.mapM_cons, Option.pure_def, Option.bind_eq_bind, List.map_cons]
    rw [h b (by simp), mapM_mk l fun a ha => h a (by simp [ha])]
    rfl
theorem take_one {α : Type} {l : List α} {i : Nat} (h : i < l.length) : (l.drop i).take 1 = [l[i]] := by
  rw [List.drop_eq_getElem_cons h]
  rfl

variable {H : Type} {enc : TypeId × Value → H} {P : Program} {W : World} {base : Nat} {spare : Nat → Bool} {held : Bool}

theorem open_arr {r : Reach} {b0 : Nat} {t e : TypeId} {n : Nat} {k : IntKind} {v : Value} {d : DataW H} {ps : List MemPlace} (ht : P.underlying t = some (.array n e)) (he : P.underlying e = some (.int k)) (hc : P.cellsOf t = n) (hce : P.cellsOf e = 1)
    (hval : Value.okWide P W r b0 t v) (hd : DataW.Trod enc P W base spare held t v d ps) :
    ∃ l : List Int, l.length = n ∧ v = .agg ⟨l.map (.int k)⟩ ∧ d = .agg (l.map fun x => .lit (.int k x)) ∧ ps = [] ∧ ∀ x, x ∈ l → (Lit.int k x).wf = true := by
  unfold Value.okWide at hval
  simp only [ht] at hval
  obtain ⟨⟨cs⟩, rfl, hsz, _⟩ := hval
  have hlen : cs.length = n := by rw [hc] at hsz; simpa using hsz
  obtain ⟨fuel, hf⟩ := hd
  cases fuel with
  | zero => simp [DataW.trod] at hf
  | succ fuel =>
    unfold DataW.trod at hf
    simp only [ht, Value.cells, hlen, hc, hce, if_true, Nat.mul_one] at hf
    obtain ⟨xs, hx, hd⟩ := Option.map_eq_some_iff.1 hf
    obtain ⟨h1, h2⟩ := mapM_spec _ _ _ hx
    have hxl : xs.length = n := by rw [h1]; simp
    have key : ∀ i, i < n → ∃ x : Int, cs[i]? = some (.int k x) ∧ xs[i]? = some (.lit (.int k x), []) ∧ (Lit.int k x).wf = true := by
      intro i hi
      obtain ⟨x, hx1, hx2⟩ := h2 i i (List.getElem?_range hi)
      rw [take_one (by omega)] at hx2
      obtain ⟨y, g, rfl, w⟩ := DataW.trod_int he hx2
      simp only [List.cons.injEq, and_true] at g
      exact ⟨y, by rw [← g]; simp [hlen, hi], hx1, w⟩
    let l : List Int := cs.map fun v => match v with | .int _ x => x | _ => 0
    have hl : l.length = n := by simp [l, hlen]
    have hget : ∀ i, i < n → ∃ x : Int, l[i]? = some x ∧ cs[i]? = some (.int k x) ∧ xs[i]? = some (.lit (.int k x), []) ∧ (Lit.int k x).wf = true := by
      intro i hi
      obtain ⟨x, a1, a2, a3⟩ := key i hi
      exact ⟨x, by simp [l, a1], a1, a2, a3⟩
    have e1 : cs = l.map (.int k) := by
      apply List.ext_getElem?
      intro i
      by_cases hi : i < n
      · obtain ⟨x, a0, a1, _⟩ := hget i hi
        rw [a1, List.getElem?_map, a0]; rfl
      · rw [List.getElem?_eq_none (by omega), List.getElem?_eq_none (by simp; omega)]
    have e2 : xs = l.map fun x => (.lit (.int k x), []) := by
      apply List.ext_getElem?
      intro i
      by_cases hi : i < n
      · obtain ⟨x, a0, _, a2, _⟩ := hget i hi
        rw [a2, List.getElem?_map, a0]; rfl
      · rw [List.getElem?_eq_none (by omega), List.getElem?_eq_none (by simp; omega)]
    have e3 : (l.map fun x => ((.lit (.int k x), []) : DataW H × List MemPlace)).flatMap (·.2) = [] := by
      rw [List.flatMap_map]
      simp
    rw [e2] at hd
    simp only [Prod.mk.injEq] at hd
    obtain ⟨d1, d2⟩ := hd
    refine ⟨l, hl, by rw [e1], ?_, ?_, ?_⟩
    · rw [← d1, List.map_map]; rfl
    · rw [← d2]; exact e3
    · intro x hx
      obtain ⟨i, hi, rfl⟩ := List.mem_iff_getElem.1 hx
      obtain ⟨y, a0, _, _, a3⟩ := hget i (by omega)
      rw [List.getElem?_eq_getElem hi] at a0
      cases a0
      exact a3

theorem shut_arr {t e : TypeId} {n : Nat} {k : IntKind} {l : List Int} (ht : P.underlying t = some (.array n e)) (he : P.underlying e = some (.int k)) (hc : P.cellsOf t = n) (hce : P.cellsOf e = 1) (hl : l.length = n) (hw : ∀ x, x ∈ l → (Lit.int k x).wf = true) :
    DataW.Trod enc P W base spare held t (.agg ⟨l.map (.int k)⟩) (.agg (l.map fun x => .lit (.int k x))) [] := by
  refine ⟨2, ?_⟩
  unfold DataW.trod
  simp only [ht, Value.cells, List.length_map, hl, hc, hce, if_true, Nat.mul_one]
  have h : (List.range n).mapM (fun i => DataW.trod enc P W base spare held 1 e (List.take 1 (List.drop i (l.map (Value.int k))))) = some ((List.range n).map fun i => ((.lit (.int k (l.getD i 0)), []) : DataW H × List MemPlace)) := by
    refine mapM_mk _ fun i hi => ?_
    have hi' : i < l.length := by rw [hl]; exact List.mem_range.1 hi
    rw [take_one (by simpa using hi')]
    have hg : l.getD i 0 = l[i] := by simp [hi']
    rw [hg]
    simp only [List.getElem_map, DataW.trod, he, hw l[i] (List.getElem_mem hi'), and_self, if_true]
  rw [h]
  have e1 : (List.range n).map (fun i => (DataW.lit (.int k (l.getD i 0)) : DataW H)) = l.map fun x => .lit (.int k x) := by
    apply List.ext_getElem?
    intro i
    by_cases hi : i < n
    · have hi' : i < l.length := by omega
      simp [hi, hi']
    · rw [List.getElem?_eq_none (by simp; omega), List.getElem?_eq_none (by simp; omega)]
  have e2 : ((List.range n).map fun i => ((.lit (.int k (l.getD i 0)), []) : DataW H × List MemPlace)).flatMap (·.2) = [] := by
    rw [List.flatMap_map]
    simp
  simp only [Option.map_some, List.map_map]
  rw [e2]
  congr 3
end Go.Am
