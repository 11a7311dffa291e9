/-
  Texts of my own, put together: E7, E8, E9, E10.
-/
import Derived.Test.YtplgffkmpdnfdaaDoorGrFieldReckons20
/-
  Add, Neg, Sub, Square, Negative, Zero, Same, Abs on the abstract machine (own work).
-/
set_option linter.unusedSimpArgs false
set_option linter.unusedVariables false
namespace Go.Am.Seat
open Go.Proofs Go.Am Go.Am.Num
set_option maxRecDepth 100000
set_option maxHeartbeats 4000000

noncomputable def rad_0 : Array Oper := match Tryd.f40.body with
  | some (.seq (.region _ o _) _) => o
  | _ => #[]
noncomputable def lad_0 : List Oper := match Tryd.f40.body with
  | some (.seq (.region _ o _) _) => o.toList
  | _ => []
theorem ead_0 : rad_0.toList = lad_0 := rfl
noncomputable def rad_1 : Array Oper := match Tryd.f40.body with
  | some (.seq _ (.seq (.region _ o _) _)) => o
  | _ => #[]
noncomputable def lad_1 : List Oper := match Tryd.f40.body with
  | some (.seq _ (.seq (.region _ o _) _)) => o.toList
  | _ => []
theorem ead_1 : rad_1.toList = lad_1 := rfl
noncomputable def rad_2 : Array Oper := match Tryd.f40.body with
  | some (.seq _ (.seq _ (.seq (.region _ o _) _))) => o
  | _ => #[]
noncomputable def lad_2 : List Oper := match Tryd.f40.body with
  | some (.seq _ (.seq _ (.seq (.region _ o _) _))) => o.toList
  | _ => []
theorem ead_2 : rad_2.toList = lad_2 := rfl
noncomputable def rad_3 : Array Oper := match Tryd.f40.body with
  | some (.seq _ (.seq _ (.seq _ (.seq (.region _ o _) _)))) => o
  | _ => #[]
noncomputable def lad_3 : List Oper := match Tryd.f40.body with
  | some (.seq _ (.seq _ (.seq _ (.seq (.region _ o _) _)))) => o.toList
  | _ => []
theorem ead_3 : rad_3.toList = lad_3 := rfl
noncomputable def rad_4 : Array Oper := match Tryd.f40.body with
  | some (.seq _ (.seq _ (.seq _ (.seq _ (.seq (.region _ o _) _))))) => o
  | _ => #[]
noncomputable def lad_4 : List Oper := match Tryd.f40.body with
  | some (.seq _ (.seq _ (.seq _ (.seq _ (.seq (.region _ o _) _))))) => o.toList
  | _ => []
theorem ead_4 : rad_4.toList = lad_4 := rfl
theorem bodyad : Tryd.f40.body = some (.seq (.region 0 rad_0 false) (.seq (.region 1 rad_1 false) (.seq (.region 2 rad_2 false) (.seq (.region 3 rad_3 false) (.seq (.region 4 rad_4 false) .ret))))) := rfl
-- ntmps 46
noncomputable def rng_0 : Array Oper := match Tryd.f47.body with
  | some (.seq (.region _ o _) _) => o
  | _ => #[]
noncomputable def lng_0 : List Oper := match Tryd.f47.body with
  | some (.seq (.region _ o _) _) => o.toList
  | _ => []
theorem eng_0 : rng_0.toList = lng_0 := rfl
noncomputable def rng_1 : Array Oper := match Tryd.f47.body with
  | some (.seq _ (.seq (.region _ o _) _)) => o
  | _ => #[]
noncomputable def lng_1 : List Oper := match Tryd.f47.body with
  | some (.seq _ (.seq (.region _ o _) _)) => o.toList
  | _ => []
theorem eng_1 : rng_1.toList = lng_1 := rfl
noncomputable def rng_2 : Array Oper := match Tryd.f47.body with
  | some (.seq _ (.seq _ (.seq (.region _ o _) _))) => o
  | _ => #[]
noncomputable def lng_2 : List Oper := match Tryd.f47.body with
  | some (.seq _ (.seq _ (.seq (.region _ o _) _))) => o.toList
  | _ => []
theorem eng_2 : rng_2.toList = lng_2 := rfl
noncomputable def rng_3 : Array Oper := match Tryd.f47.body with
  | some (.seq _ (.seq _ (.seq _ (.seq (.region _ o _) _)))) => o
  | _ => #[]
noncomputable def lng_3 : List Oper := match Tryd.f47.body with
  | some (.seq _ (.seq _ (.seq _ (.seq (.region _ o _) _)))) => o.toList
  | _ => []
theorem eng_3 : rng_3.toList = lng_3 := rfl
noncomputable def rng_4 : Array Oper := match Tryd.f47.body with
  | some (.seq _ (.seq _ (.seq _ (.seq _ (.seq (.region _ o _) _))))) => o
  | _ => #[]
noncomputable def lng_4 : List Oper := match Tryd.f47.body with
  | some (.seq _ (.seq _ (.seq _ (.seq _ (.seq (.region _ o _) _))))) => o.toList
  | _ => []
theorem eng_4 : rng_4.toList = lng_4 := rfl
theorem bodyng : Tryd.f47.body = some (.seq (.region 0 rng_0 false) (.seq (.region 1 rng_1 false) (.seq (.region 2 rng_2 false) (.seq (.region 3 rng_3 false) (.seq (.region 4 rng_4 false) .ret))))) := rfl
-- ntmps 44
noncomputable def rsb_0 : Array Oper := match Tryd.f42.body with
  | some (.seq (.region _ o _) _) => o
  | _ => #[]
noncomputable def lsb_0 : List Oper := match Tryd.f42.body with
  | some (.seq (.region _ o _) _) => o.toList
  | _ => []
theorem esb_0 : rsb_0.toList = lsb_0 := rfl
noncomputable def rsb_1 : Array Oper := match Tryd.f42.body with
  | some (.seq _ (.seq (.region _ o _) _)) => o
  | _ => #[]
noncomputable def lsb_1 : List Oper := match Tryd.f42.body with
  | some (.seq _ (.seq (.region _ o _) _)) => o.toList
  | _ => []
theorem esb_1 : rsb_1.toList = lsb_1 := rfl
theorem dsb_1 {self : Self} {B : Nat} {T : List Value} {m : Mem} {lb : List (Nat × Nat)} {ls : Bool} : adrawN E self rsb_1 B rsb_1.toList 0 T m lb ls = adrawT E self rsb_1 B rsb_1.toList [(false, false), (false, false), (false, false), (false, false), (false, false)] 0 T m lb ls := adraw_tab (by kernel_rfl)
theorem ssb_1 : E.sr 1 rsb_1 = false := by kernel_rfl
theorem bodysb : Tryd.f42.body = some (.seq (.region 0 rsb_0 false) (.seq (.region 1 rsb_1 true) .ret)) := rfl
-- ntmps 9
noncomputable def rsq_0 : Array Oper := match Tryd.f46.body with
  | some (.seq (.region _ o _) _) => o
  | _ => #[]
noncomputable def lsq_0 : List Oper := match Tryd.f46.body with
  | some (.seq (.region _ o _) _) => o.toList
  | _ => []
theorem esq_0 : rsq_0.toList = lsq_0 := rfl
noncomputable def rsq_1 : Array Oper := match Tryd.f46.body with
  | some (.seq _ (.seq (.region _ o _) _)) => o
  | _ => #[]
noncomputable def lsq_1 : List Oper := match Tryd.f46.body with
  | some (.seq _ (.seq (.region _ o _) _)) => o.toList
  | _ => []
theorem esq_1 : rsq_1.toList = lsq_1 := rfl
theorem bodysq : Tryd.f46.body = some (.seq (.region 0 rsq_0 false) (.seq (.region 1 rsq_1 false) .ret)) := rfl
-- ntmps 6
noncomputable def rng1_0 : Array Oper := match Tryd.f50.body with
  | some (.seq (.region _ o _) _) => o
  | _ => #[]
noncomputable def lng1_0 : List Oper := match Tryd.f50.body with
  | some (.seq (.region _ o _) _) => o.toList
  | _ => []
theorem eng1_0 : rng1_0.toList = lng1_0 := rfl
noncomputable def rng1_1 : Array Oper := match Tryd.f50.body with
  | some (.seq _ (.seq (.region _ o _) _)) => o
  | _ => #[]
noncomputable def lng1_1 : List Oper := match Tryd.f50.body with
  | some (.seq _ (.seq (.region _ o _) _)) => o.toList
  | _ => []
theorem eng1_1 : rng1_1.toList = lng1_1 := rfl
theorem bodyng1 : Tryd.f50.body = some (.seq (.region 0 rng1_0 false) (.seq (.region 1 rng1_1 false) .ret)) := rfl
-- ntmps 7
noncomputable def rze_0 : Array Oper := match Tryd.f52.body with
  | some (.seq (.region _ o _) _) => o
  | _ => #[]
noncomputable def lze_0 : List Oper := match Tryd.f52.body with
  | some (.seq (.region _ o _) _) => o.toList
  | _ => []
theorem eze_0 : rze_0.toList = lze_0 := rfl
noncomputable def rze_1 : Array Oper := match Tryd.f52.body with
  | some (.seq _ (.seq (.region _ o _) _)) => o
  | _ => #[]
noncomputable def lze_1 : List Oper := match Tryd.f52.body with
  | some (.seq _ (.seq (.region _ o _) _)) => o.toList
  | _ => []
theorem eze_1 : rze_1.toList = lze_1 := rfl
theorem bodyze : Tryd.f52.body = some (.seq (.region 0 rze_0 false) (.seq (.region 1 rze_1 false) .ret)) := rfl
-- ntmps 6
noncomputable def rsm_0 : Array Oper := match Tryd.f53.body with
  | some (.seq (.region _ o _) _) => o
  | _ => #[]
noncomputable def lsm_0 : List Oper := match Tryd.f53.body with
  | some (.seq (.region _ o _) _) => o.toList
  | _ => []
theorem esm_0 : rsm_0.toList = lsm_0 := rfl
noncomputable def rsm_1 : Array Oper := match Tryd.f53.body with
  | some (.seq _ (.seq (.region _ o _) _)) => o
  | _ => #[]
noncomputable def lsm_1 : List Oper := match Tryd.f53.body with
  | some (.seq _ (.seq (.region _ o _) _)) => o.toList
  | _ => []
theorem esm_1 : rsm_1.toList = lsm_1 := rfl
theorem bodysm : Tryd.f53.body = some (.seq (.region 0 rsm_0 false) (.seq (.region 1 rsm_1 false) .ret)) := rfl
-- ntmps 8
noncomputable def rab_0 : Array Oper := match Tryd.f48.body with
  | some (.seq (.region _ o _) _) => o
  | _ => #[]
noncomputable def lab_0 : List Oper := match Tryd.f48.body with
  | some (.seq (.region _ o _) _) => o.toList
  | _ => []
theorem eab_0 : rab_0.toList = lab_0 := rfl
noncomputable def rab_1 : Array Oper := match Tryd.f48.body with
  | some (.seq _ (.seq (.seq (.region _ o _) _) _)) => o
  | _ => #[]
noncomputable def lab_1 : List Oper := match Tryd.f48.body with
  | some (.seq _ (.seq (.seq (.region _ o _) _) _)) => o.toList
  | _ => []
theorem eab_1 : rab_1.toList = lab_1 := rfl
noncomputable def rab_2 : Array Oper := match Tryd.f48.body with
  | some (.seq _ (.seq (.seq _ (.cond _ (.seq (.region _ o _) _) _)) _)) => o
  | _ => #[]
noncomputable def lab_2 : List Oper := match Tryd.f48.body with
  | some (.seq _ (.seq (.seq _ (.cond _ (.seq (.region _ o _) _) _)) _)) => o.toList
  | _ => []
theorem eab_2 : rab_2.toList = lab_2 := rfl
noncomputable def rab_3 : Array Oper := match Tryd.f48.body with
  | some (.seq _ (.seq _ (.seq (.region _ o _) _))) => o
  | _ => #[]
noncomputable def lab_3 : List Oper := match Tryd.f48.body with
  | some (.seq _ (.seq _ (.seq (.region _ o _) _))) => o.toList
  | _ => []
theorem eab_3 : rab_3.toList = lab_3 := rfl
theorem bodyab : Tryd.f48.body = some (.seq (.region 0 rab_0 false) (.seq (.seq (.region 1 rab_1 false) (.cond (.tmp 4) (.seq (.region 2 rab_2 false) .ret) .skip)) (.seq (.region 3 rab_3 false) .ret))) := rfl
-- ntmps 8

/-- What the memory must hold: the table of p. -/
def TabP (m : Mem) : Prop := m[1]? = some (.tab 24 (int64s primeW))

theorem p_lt : P25519 < 57896044618658097711785492504343953926634992332820282019728792003956564819968 := by unfold P25519; omega
theorem el_st (V : Nat) : el V = st4 (wd 0 V) (wd 1 V) (wd 2 V) (wd 3 V) := rfl

theorem carry1 (A D c : Nat) : (A + D + c) / 18446744073709551616 = A / 18446744073709551616 + D / 18446744073709551616 + (A % 18446744073709551616 + D % 18446744073709551616 + c) / 18446744073709551616 ∧ (A + D + c) % 18446744073709551616 = (A % 18446744073709551616 + D % 18446744073709551616 + c) % 18446744073709551616 := by omega

theorem add_ok (X Y : Nat) :
    (wd 0 X + wd 0 Y) % 18446744073709551616 = wd 0 (X + Y) ∧ (wd 1 X + wd 1 Y + (wd 0 X + wd 0 Y) / 18446744073709551616) % 18446744073709551616 = wd 1 (X + Y) ∧
    (wd 2 X + wd 2 Y + (wd 1 X + wd 1 Y + (wd 0 X + wd 0 Y) / 18446744073709551616) / 18446744073709551616) % 18446744073709551616 = wd 2 (X + Y) ∧
    ((wd 3 X + wd 3 Y) % 18446744073709551616 + (wd 2 X + wd 2 Y + (wd 1 X + wd 1 Y + (wd 0 X + wd 0 Y) / 18446744073709551616) / 18446744073709551616) / 18446744073709551616) % 18446744073709551616 = wd 3 (X + Y) := by
  rw [Nat.mod_add_mod]
  have c0 := carry1 X Y 0
  have c1 := carry1 (X / 18446744073709551616) (Y / 18446744073709551616) ((wd 0 X + wd 0 Y) / 18446744073709551616)
  have c2 := carry1 (X / 18446744073709551616 / 18446744073709551616) (Y / 18446744073709551616 / 18446744073709551616) ((wd 1 X + wd 1 Y + (wd 0 X + wd 0 Y) / 18446744073709551616) / 18446744073709551616)
  have c3 := carry1 (X / 18446744073709551616 / 18446744073709551616 / 18446744073709551616) (Y / 18446744073709551616 / 18446744073709551616 / 18446744073709551616) ((wd 2 X + wd 2 Y + (wd 1 X + wd 1 Y + (wd 0 X + wd 0 Y) / 18446744073709551616) / 18446744073709551616) / 18446744073709551616)
  have e2 : ∀ V, wd 2 V = V / 18446744073709551616 / 18446744073709551616 % 18446744073709551616 := fun V => by rw [Nat.div_div_eq_div_mul]; rfl
  have e3 : ∀ V, wd 3 V = V / 18446744073709551616 / 18446744073709551616 / 18446744073709551616 % 18446744073709551616 := fun V => by rw [Nat.div_div_eq_div_mul, Nat.div_div_eq_div_mul]; rfl
  rw [Nat.add_zero, Nat.add_zero, ← wd_0 X, ← wd_0 Y] at c0
  rw [← wd_1 X, ← wd_1 Y] at c1
  rw [← e2 X, ← e2 Y] at c2
  rw [← e3 X, ← e3 Y] at c3
  refine ⟨?_, ?_, ?_, ?_⟩
  · rw [wd_0 (X + Y), c0.2]
  · rw [wd_1 (X + Y), c0.1, c1.2]
  · rw [e2 (X + Y), c0.1, c1.1, c2.2]
  · rw [e3 (X + Y), c0.1, c1.1, c2.1, c3.2]

theorem eqlU2 (a b : Int) : abin .eql .u64 a .u64 b = some (.bool (a == b)) := by kernel_rfl

section
variable {self : Self} {nf : Nat} {m : Mem} {X Y : Nat}
theorem ad_body (hX : X < P25519) (hY : Y < P25519) (hse : SettleOk self) :
    ∃ m', abody E self nf 40 [el X, el Y] m = some (el ((X + Y) % P25519), m') := by
  rw [abody_eqF (by kernel_rfl) Tryd.func40 bodyad (by kernel_rfl) (Nat.le_of_ble_eq_true rfl)]
  rw [show Tryd.f40.ntmps = 46 from rfl]
  have hp := p_lt
  have b1 := box48 (wd 0 X) (wd 1 X) (wd 2 X) (wd 3 X) m
  generalize hA : m ++ [Blk.row false 58 (c4 (wd 0 X) (wd 1 X) (wd 2 X) (wd 3 X))] = A at b1
  have lA : A.length = m.length + 1 := by rw [← hA]; simp
  have b2 := box48 (wd 0 Y) (wd 1 Y) (wd 2 Y) (wd 3 Y) A
  rw [lA] at b2
  generalize hB : A ++ [Blk.row false 58 (c4 (wd 0 Y) (wd 1 Y) (wd 2 Y) (wd 3 Y))] = B at b2
  have lB : B.length = m.length + 2 := by rw [← hB]; simp [lA]
  have b3 := alloc48 B
  rw [lB] at b3
  generalize hC : B ++ [Blk.row false 58 (c4 0 0 0 0)] = C at b3
  have gx : C[m.length]? = some (.row false 58 (c4 (wd 0 X) (wd 1 X) (wd 2 X) (wd 3 X))) := by
    rw [← hC, List.getElem?_append_left (by omega), ← hB, List.getElem?_append_left (by omega), ← hA]; simp
  have gy : C[m.length + 1]? = some (.row false 58 (c4 (wd 0 Y) (wd 1 Y) (wd 2 Y) (wd 3 Y))) := by
    rw [← hC, List.getElem?_append_left (by omega), ← hB, List.getElem?_append_right (by omega), lA]; simp
  have gr : C[m.length + 2]? = some (.row false 58 (c4 0 0 0 0)) := by
    rw [← hC, List.getElem?_append_right (by omega), lB]; simp
  obtain ⟨x0, x1, x2, x3⟩ := cell4 gx
  obtain ⟨y0, y1, y2, y3⟩ := cell4 gy
  have q1 : (wd 0 X + wd 0 Y) / 18446744073709551616 ≤ 1 := by have := wd_lt 0 X; have := wd_lt 0 Y; omega
  have q2 : (wd 1 X + wd 1 Y + (wd 0 X + wd 0 Y) / 18446744073709551616) / 18446744073709551616 ≤ 1 := by have := wd_lt 1 X; have := wd_lt 1 Y; omega
  obtain ⟨a0, a1, a2, a3⟩ := add_ok X Y
  have cs := hse (wd 0 (X + Y)) (wd 1 (X + Y)) (wd 2 (X + Y)) (wd 3 (X + Y)) 0 (wd_lt _ _) (wd_lt _ _) (wd_lt _ _) (wd_lt _ _) (by decide)
  rw [v4_wd (by omega), Nat.zero_mul, Nat.add_zero, ← a0, ← a1, ← a2, ← a3, show (((0 : Nat)) : Int) = 0 from rfl] at cs
  clear a0 a1 a2 a3
  obtain ⟨R, hR⟩ : ∃ R, R = (X + Y) % P25519 := ⟨_, rfl⟩
  rw [← hR] at cs ⊢
  have st2 := store48 (a := wd 0 R) (b := wd 1 R) (c := wd 2 R) (d := wd 3 R) gr rfl
  have ld2 := load48 (m := C.set (m.length + 2) (.row false 58 (c4 (wd 0 R) (wd 1 R) (wd 2 R) (wd 3 R)))) (p := m.length + 2) (a := wd 0 R) (b := wd 1 R) (c := wd 2 R) (d := wd 3 R) (by rw [List.getElem?_set_self (lt_of_at gr)])
  unfold Ans at cs
  rw [el_st X, el_st Y, el_st R]
  rw [el_st R] at cs
  clear hR hse hC hB hA gx gy gr
  generalize wd 0 R = R0 at *
  generalize wd 1 R = R1 at *
  generalize wd 2 R = R2 at *
  generalize wd 3 R = R3 at *
  generalize wd 0 X = X0 at *
  generalize wd 1 X = X1 at *
  generalize wd 2 X = X2 at *
  generalize wd 3 X = X3 at *
  generalize wd 0 Y = Y0 at *
  generalize wd 1 Y = Y1 at *
  generalize wd 2 Y = Y2 at *
  generalize wd 3 Y = Y3 at *
  simp only [ead_0, ead_1, ead_2, ead_3, ead_4, lad_0, lad_1, lad_2, lad_3, lad_4, agd_none, gdAt, gdV_bool, gdV_undef, Tryd.f40, List.append_eq, List.cons_append, List.nil_append, apure_call1, apure_call2, apure_call3, bft, btf, acodeN, List.getElem?_toArray, List.getElem?_cons_zero, List.getElem?_cons_succ, aopsN, adrawT, cls, astep, aop, afloat, ev, nth_lst, get_lst, aput, setAt_lst, upd_at, init_zero, init_succ, init_nil, Nat.reduceLT, Nat.reduceEqDiff, reduceIte, abuiltin, alen, Option.map_some, Option.map_none, orElse_some, apure_add, apure_eqlV, eqlVal_str, eqlVal_bool, eqlVal_ptr, eqlVal_slice, eqlVal_wide, eqlVal_int, allT, ↓aop_eqlV, apure_neq, List.map_cons, List.map_nil, List.all_cons, List.all_nil, lit2, lit1, lit0, List.isEmpty_nil, Bool.and_self, Bool.and_true, Bool.true_and, Bool.false_and, Bool.and_false, Bool.not_true, Bool.not_false, Bool.or_true, Bool.true_or, Bool.false_or, Bool.or_false, Bool.false_eq_true, if_true, if_false, List.length_map, beq_self_eq_true, und3, und4, und5, und9, b1, b2, b3, fa48_0, fa48_1, fa48_2, fa48_3, load22, x0, x1, x2, x3, y0, y1, y2, y3, callAdd, extAdd, add64O, add64C, ex0, ex1, q1, q2, addN, callSe, cs, st2, ld2, finish, ares, aresL, ares1]
  exact ⟨_, rfl⟩

theorem callMul : callableB E.P 44 = true := by kernel_rfl
theorem sq_body (hmu : ∀ M, ainv E self 44 [el X, el X] M = some (el Y, M)) :
    ∃ m', abody E self nf 46 [el X] m = some (el Y, m') := by
  rw [abody_eqF (by kernel_rfl) Tryd.func46 bodysq (by kernel_rfl) (Nat.le_of_ble_eq_true rfl)]
  rw [show Tryd.f46.ntmps = 6 from rfl]
  have b1 := box48 (wd 0 X) (wd 1 X) (wd 2 X) (wd 3 X) m
  generalize hA : m ++ [Blk.row false 58 (c4 (wd 0 X) (wd 1 X) (wd 2 X) (wd 3 X))] = A at b1
  have lA : A.length = m.length + 1 := by rw [← hA]; simp
  have b3 := alloc48 A
  rw [lA] at b3
  generalize hC : A ++ [Blk.row false 58 (c4 0 0 0 0)] = C at b3
  have gx : C[m.length]? = some (.row false 58 (c4 (wd 0 X) (wd 1 X) (wd 2 X) (wd 3 X))) := by
    rw [← hC, List.getElem?_append_left (by omega), ← hA]; simp
  have gr : C[m.length + 1]? = some (.row false 58 (c4 0 0 0 0)) := by
    rw [← hC, List.getElem?_append_right (by omega), lA]; simp
  have lx := load48 gx
  have st2 := store48 (a := wd 0 Y) (b := wd 1 Y) (c := wd 2 Y) (d := wd 3 Y) gr rfl
  have ld2 := load48 (m := C.set (m.length + 1) (.row false 58 (c4 (wd 0 Y) (wd 1 Y) (wd 2 Y) (wd 3 Y)))) (p := m.length + 1) (a := wd 0 Y) (b := wd 1 Y) (c := wd 2 Y) (d := wd 3 Y) (by rw [List.getElem?_set_self (lt_of_at gr)])
  rw [← el_st] at b1 lx st2 ld2
  simp only [esq_0, esq_1, lsq_0, lsq_1, agd_none, gdAt, gdV_bool, gdV_undef, Tryd.f46, List.append_eq, List.cons_append, List.nil_append, apure_call1, apure_call2, apure_call3, bft, btf, acodeN, List.getElem?_toArray, List.getElem?_cons_zero, List.getElem?_cons_succ, aopsN, adrawT, cls, astep, aop, afloat, ev, nth_lst, get_lst, aput, setAt_lst, upd_at, init_zero, init_succ, init_nil, Nat.reduceLT, Nat.reduceEqDiff, reduceIte, abuiltin, alen, Option.map_some, Option.map_none, orElse_some, apure_add, apure_eqlV, eqlVal_str, eqlVal_bool, eqlVal_ptr, eqlVal_slice, eqlVal_wide, eqlVal_int, allT, ↓aop_eqlV, apure_neq, List.map_cons, List.map_nil, List.all_cons, List.all_nil, lit2, lit1, lit0, List.isEmpty_nil, Bool.and_self, Bool.and_true, Bool.true_and, Bool.false_and, Bool.and_false, Bool.not_true, Bool.not_false, Bool.or_true, Bool.true_or, Bool.false_or, Bool.or_false, Bool.false_eq_true, if_true, if_false, List.length_map, beq_self_eq_true, und3, und4, und5, und9, b1, b3, lx, callMul, hmu, st2, ld2, finish, ares, aresL, ares1]
  exact ⟨_, rfl⟩

theorem ng1_body (hX : X < 115792089237316195423570985008687907853269984665640564039457584007913129639936) : ∃ m', abody E self nf 50 [el X] m = some (.bool (decide (X % 2 = 1)), m') := by
  rw [abody_eqF (by kernel_rfl) Tryd.func50 bodyng1 (by kernel_rfl) (Nat.le_of_ble_eq_true rfl)]
  rw [show Tryd.f50.ntmps = 7 from rfl]
  have b1 := box48 (wd 0 X) (wd 1 X) (wd 2 X) (wd 3 X) m
  have gx : (m ++ [Blk.row false 58 (c4 (wd 0 X) (wd 1 X) (wd 2 X) (wd 3 X))])[m.length]? = some (.row false 58 (c4 (wd 0 X) (wd 1 X) (wd 2 X) (wd 3 X))) := by simp
  generalize hA : m ++ [Blk.row false 58 (c4 (wd 0 X) (wd 1 X) (wd 2 X) (wd 3 X))] = A at b1 gx
  obtain ⟨x0, _, _, _⟩ := cell4 gx
  have a1 := and1 (wd_lt 0 X)
  have h2 : ((((wd 0 X % 2 : Nat) : Nat) : Int) == 1) = decide (X % 2 = 1) := by
    have : wd 0 X % 2 = X % 2 := by rw [wd_0]; omega
    rw [this]
    by_cases h : X % 2 = 1
    · rw [h]; rfl
    · rw [decide_eq_false h, show X % 2 = 0 by omega]; rfl
  rw [el_st]
  simp only [eng1_0, eng1_1, lng1_0, lng1_1, agd_none, gdAt, gdV_bool, gdV_undef, Tryd.f50, List.append_eq, List.cons_append, List.nil_append, apure_call1, apure_call2, apure_call3, bft, btf, acodeN, List.getElem?_toArray, List.getElem?_cons_zero, List.getElem?_cons_succ, aopsN, adrawT, cls, astep, aop, afloat, ev, nth_lst, get_lst, aput, setAt_lst, upd_at, init_zero, init_succ, init_nil, Nat.reduceLT, Nat.reduceEqDiff, reduceIte, abuiltin, alen, Option.map_some, Option.map_none, orElse_some, apure_add, apure_eqlV, eqlVal_str, eqlVal_bool, eqlVal_ptr, eqlVal_slice, eqlVal_wide, eqlVal_int, allT, ↓aop_eqlV, apure_neq, List.map_cons, List.map_nil, List.all_cons, List.all_nil, lit2, lit1, lit0, List.isEmpty_nil, Bool.and_self, Bool.and_true, Bool.true_and, Bool.false_and, Bool.and_false, Bool.not_true, Bool.not_false, Bool.or_true, Bool.true_or, Bool.false_or, Bool.or_false, Bool.false_eq_true, if_true, if_false, List.length_map, beq_self_eq_true, und3, und4, und5, und9, b1, fa48_0, load22, x0, a1, eqlU2, h2, finish, ares, aresL, ares1]
  exact ⟨_, rfl⟩
end
end Go.Am.Seat

/-
  Neg, Zero, Same, Abs, Sub on the abstract machine (own work).
-/
set_option linter.unusedSimpArgs false
set_option linter.unusedVariables false
namespace Go.Am.Seat
open Go.Proofs Go.Am Go.Am.Num
set_option maxRecDepth 100000
set_option maxHeartbeats 4000000

/-- A call's answer where the table of p is laid. -/
def AnsT (self : Self) (f : FuncId) (args : List Value) (v : Value) : Prop := ∀ M : Mem, TabP M → ainv E self f args M = some (v, M)
theorem Ans.t {self : Self} {f : FuncId} {args : List Value} {v : Value} (h : Ans self f args v) : AnsT self f args v := fun M _ => h M
theorem TabP.app {m x : Mem} (h : TabP m) : TabP (m ++ x) := by
  unfold TabP at *
  rw [List.getElem?_append_left (List.getElem?_eq_some_iff.1 h).1]
  exact h
theorem TabP.sealed {m : Mem} (h : TabP m) : TabP (m.map sealed) := by
  unfold TabP at *
  rw [List.getElem?_map, h]
  rfl
theorem TabP.set {m : Mem} (h : TabP m) {k : Nat} (hk : k ≠ 1) (b : Blk) : TabP (m.set k b) := by
  unfold TabP at *
  rw [List.getElem?_set_ne hk]
  exact h
theorem TabP.only {m : Mem} (h : TabP m) : TabP ((m.take E.G).map onlyTab) := by
  unfold TabP at *
  have hG : E.G = 9 := rfl
  rw [List.getElem?_map, List.getElem?_take_of_lt (by rw [hG]; decide), h]
  rfl
theorem ans_ofT {self : Self} {f : FuncId} {args : List Value} {v : Value} (ha : args.all lit2 = true) (hf : E.fast f = none) (hv : lit2 v = true) (h : ∀ m, TabP m → ∃ m', self f args m = some (v, m')) : AnsT self f args v := by
  intro M hM
  obtain ⟨m', h'⟩ := h ((M.take E.G).map onlyTab) hM.only
  exact ainv_lit ha hf h' hv

theorem sub64C (x y c : Nat) (m : Mem) : aext .sub64 [.int .u64 (x : Nat), .int .u64 (y : Nat), .int .u64 (c : Nat)] m = if c ≤ 1 then some (pair64 ((x + 18446744073709551616 - y - c) % 18446744073709551616) (if x < y + c then 1 else 0), m) else none := by
  simp only [aext, Int.toNat_natCast]
theorem sub64O (x y : Nat) (m : Mem) : aext .sub64 [.int .u64 (x : Nat), .int .u64 (y : Nat), .int .u64 0] m = some (pair64 ((x + 18446744073709551616 - y) % 18446744073709551616) (if x < y then 1 else 0), m) := by
  rw [show (0 : Int) = ((0 : Nat) : Int) from rfl, sub64C, if_pos (by decide)]
  rfl
theorem subN {x y : Nat} (h : y ≤ x) (hx : x < 18446744073709551616) : abin .sub .u64 ((x : Nat) : Int) .u64 ((y : Nat) : Int) = some (.int .u64 ((x - y : Nat) : Int)) := by
  rw [subU, ← Int.natCast_sub h, wrapU, Nat.mod_eq_of_lt (by omega)]

theorem ite_le (p : Prop) [Decidable p] : (if p then 1 else 0) ≤ 1 := by split <;> omega

theorem neg_ok {X : Nat} (hX : X ≤ P25519) {b1 b2 b3 : Nat} (h1 : b1 = if 18446744073709551597 < wd 0 X then 1 else 0) (h2 : b2 = if 18446744073709551615 < wd 1 X + b1 then 1 else 0) (h3 : b3 = if 18446744073709551615 < wd 2 X + b2 then 1 else 0) :
    (18446744073709551597 + 18446744073709551616 - wd 0 X) % 18446744073709551616 = wd 0 (P25519 - X) ∧ (18446744073709551615 + 18446744073709551616 - wd 1 X - b1) % 18446744073709551616 = wd 1 (P25519 - X) ∧
    (18446744073709551615 + 18446744073709551616 - wd 2 X - b2) % 18446744073709551616 = wd 2 (P25519 - X) ∧ wd 3 X ≤ 9223372036854775807 ∧ b3 ≤ 9223372036854775807 - wd 3 X ∧ 9223372036854775807 - wd 3 X - b3 = wd 3 (P25519 - X) := by
  have hXb : X < 115792089237316195423570985008687907853269984665640564039457584007913129639936 := by have := p_lt; omega
  have hv := v4_wd hXb
  have l0 := wd_lt 0 X
  have l1 := wd_lt 1 X
  have l2 := wd_lt 2 X
  have l3 := wd_lt 3 X
  unfold v4 at hv
  generalize wd 0 X = x0 at *
  generalize wd 1 X = x1 at *
  generalize wd 2 X = x2 at *
  generalize wd 3 X = x3 at *
  subst hv
  have hP : P25519 = 57896044618658097711785492504343953926634992332820282019728792003956564819949 := rfl
  rw [hP] at hX ⊢
  have hb1 : b1 ≤ 1 := by rw [h1]; exact ite_le _
  have hb2 : b2 ≤ 1 := by rw [h2]; exact ite_le _
  have hb3 : b3 ≤ 1 := by rw [h3]; exact ite_le _
  have z2 : b1 = 0 → b2 = 0 := fun h => by rw [h2, h, if_neg (by omega)]
  have z2' : b2 = 1 → b1 = 1 ∧ x1 = 18446744073709551615 := fun h => by
    rw [h2] at h
    split at h
    · omega
    · omega
  have z2'' : b2 = 0 → x1 + b1 ≤ 18446744073709551615 := fun h => by
    rw [h2] at h
    split at h
    · omega
    · omega
  have z3' : b3 = 1 → 18446744073709551615 < x2 + b2 := fun h => by
    rw [h3] at h
    split at h
    · assumption
    · omega
  have z3'' : b3 = 0 → x2 + b2 ≤ 18446744073709551615 := fun h => by
    rw [h3] at h
    split at h
    · omega
    · omega
  have z1' : b1 = 1 → 18446744073709551597 < x0 := fun h => by
    rw [h1] at h
    split at h
    · assumption
    · omega
  have z1'' : b1 = 0 → x0 ≤ 18446744073709551597 := fun h => by
    rw [h1] at h
    split at h
    · omega
    · omega
  clear h1 h2 h3
  have hx3 : x3 ≤ 9223372036854775807 := by omega
  have hb : b3 ≤ 9223372036854775807 - x3 := by omega
  -- the words of the difference
  have e0 : ∃ r0, (18446744073709551597 + 18446744073709551616 - x0) % 18446744073709551616 = r0 ∧ r0 + x0 = 18446744073709551597 + b1 * 18446744073709551616 ∧ r0 < 18446744073709551616 := ⟨_, rfl, by omega, by omega⟩
  have e1 : ∃ r1, (18446744073709551615 + 18446744073709551616 - x1 - b1) % 18446744073709551616 = r1 ∧ r1 + x1 + b1 = 18446744073709551615 + b2 * 18446744073709551616 ∧ r1 < 18446744073709551616 := ⟨_, rfl, by omega, by omega⟩
  have e2 : ∃ r2, (18446744073709551615 + 18446744073709551616 - x2 - b2) % 18446744073709551616 = r2 ∧ r2 + x2 + b2 = 18446744073709551615 + b3 * 18446744073709551616 ∧ r2 < 18446744073709551616 := ⟨_, rfl, by omega, by omega⟩
  obtain ⟨r0, q0, t0, u0⟩ := e0
  obtain ⟨r1, q1, t1, u1⟩ := e1
  obtain ⟨r2, q2, t2, u2⟩ := e2
  rw [q0, q1, q2]
  clear q0 q1 q2
  obtain ⟨r3, hr3⟩ : ∃ r3, r3 = 9223372036854775807 - x3 - b3 := ⟨_, rfl⟩
  have hu3 : r3 < 18446744073709551616 := by omega
  have hdiff : 57896044618658097711785492504343953926634992332820282019728792003956564819949 - (x0 + x1 * 18446744073709551616 + x2 * 340282366920938463463374607431768211456 + x3 * 6277101735386680763835789423207666416102355444464034512896) = v4 r0 r1 r2 r3 := by
    unfold v4
    omega
  rw [hdiff, ← hr3]
  obtain ⟨k0, k1, k2, k3⟩ := wd_v4 u0 u1 u2 hu3
  exact ⟨k0.symm, k1.symm, k2.symm, hx3, hb, k3.symm⟩

section
variable {self : Self} {nf : Nat} {m : Mem} {X Y : Nat}
theorem ng_body (hX : X ≤ P25519) (hse : SettleOk self) (hT : TabP m) :
    ∃ m', abody E self nf 47 [el X] m = some (el ((P25519 - X) % P25519), m') := by
  rw [abody_eqF (by kernel_rfl) Tryd.func47 bodyng (by kernel_rfl) (Nat.le_of_ble_eq_true rfl)]
  rw [show Tryd.f47.ntmps = 44 from rfl]
  have hp := p_lt
  have b1 := box48 (wd 0 X) (wd 1 X) (wd 2 X) (wd 3 X) m
  have tA : TabP (m ++ [Blk.row false 58 (c4 (wd 0 X) (wd 1 X) (wd 2 X) (wd 3 X))]) := hT.app
  generalize hA : m ++ [Blk.row false 58 (c4 (wd 0 X) (wd 1 X) (wd 2 X) (wd 3 X))] = A at b1 tA
  have lA : A.length = m.length + 1 := by rw [← hA]; simp
  have b3 := alloc48 A
  rw [lA] at b3
  have tC : TabP (A ++ [Blk.row false 58 (c4 0 0 0 0)]) := tA.app
  generalize hC : A ++ [Blk.row false 58 (c4 0 0 0 0)] = C at b3 tC
  have gx : C[m.length]? = some (.row false 58 (c4 (wd 0 X) (wd 1 X) (wd 2 X) (wd 3 X))) := by
    rw [← hC, List.getElem?_append_left (by omega), ← hA]; simp
  have gr : C[m.length + 1]? = some (.row false 58 (c4 0 0 0 0)) := by
    rw [← hC, List.getElem?_append_right (by omega), lA]; simp
  obtain ⟨x0, x1, x2, x3⟩ := cell4 gx
  have i0 := ix24 (p := 1) (k := 0) (by omega)
  have i1 := ix24 (p := 1) (k := 1) (by omega)
  have i2 := ix24 (p := 1) (k := 2) (by omega)
  have i3 := ix24 (p := 1) (k := 3) (by omega)
  simp only [Int.cast_ofNat_Int, Int.natCast_zero, Int.natCast_one] at i0 i1 i2 i3
  have hlk : look C 1 = some (true, 24, int64s primeW) := by unfold look; rw [tC]; rfl
  have t0 : cellAt C 1 0 = some (.int .u64 ((18446744073709551597 : Nat) : Int)) := by unfold cellAt; rw [hlk]; rfl
  have t1 : cellAt C 1 1 = some (.int .u64 ((18446744073709551615 : Nat) : Int)) := by unfold cellAt; rw [hlk]; rfl
  have t2 : cellAt C 1 2 = some (.int .u64 ((18446744073709551615 : Nat) : Int)) := by unfold cellAt; rw [hlk]; rfl
  have t3 : cellAt C 1 3 = some (.int .u64 ((9223372036854775807 : Nat) : Int)) := by unfold cellAt; rw [hlk]; rfl
  obtain ⟨c1, hc1⟩ : ∃ c1, c1 = if 18446744073709551597 < wd 0 X then 1 else 0 := ⟨_, rfl⟩
  obtain ⟨c2, hc2⟩ : ∃ c2, c2 = if 18446744073709551615 < wd 1 X + c1 then 1 else 0 := ⟨_, rfl⟩
  obtain ⟨c3, hc3⟩ : ∃ c3, c3 = if 18446744073709551615 < wd 2 X + c2 then 1 else 0 := ⟨_, rfl⟩
  obtain ⟨a0, a1, a2, a3, a4, a5⟩ := neg_ok hX hc1 hc2 hc3
  have l1 : c1 ≤ 1 := by rw [hc1]; exact ite_le _
  have l2 : c2 ≤ 1 := by rw [hc2]; exact ite_le _
  have s1 := subN (x := 9223372036854775807) (y := wd 3 X) a3 (by decide)
  have s2 := subN (x := 9223372036854775807 - wd 3 X) (y := c3) a4 (by omega)
  have cs := hse (wd 0 (P25519 - X)) (wd 1 (P25519 - X)) (wd 2 (P25519 - X)) (wd 3 (P25519 - X)) 0 (wd_lt _ _) (wd_lt _ _) (wd_lt _ _) (wd_lt _ _) (by decide)
  rw [v4_wd (by omega), Nat.zero_mul, Nat.add_zero, ← a0, ← a1, ← a2, ← a5, show (((0 : Nat)) : Int) = 0 from rfl] at cs
  clear a0 a1 a2 a5
  obtain ⟨R, hR⟩ : ∃ R, R = (P25519 - X) % P25519 := ⟨_, rfl⟩
  rw [← hR] at cs ⊢
  have st2 := store48 (a := wd 0 R) (b := wd 1 R) (c := wd 2 R) (d := wd 3 R) gr rfl
  have ld2 := load48 (m := C.set (m.length + 1) (.row false 58 (c4 (wd 0 R) (wd 1 R) (wd 2 R) (wd 3 R)))) (p := m.length + 1) (a := wd 0 R) (b := wd 1 R) (c := wd 2 R) (d := wd 3 R) (by rw [List.getElem?_set_self (lt_of_at gr)])
  unfold Ans at cs
  rw [el_st X, el_st R]
  rw [el_st R] at cs
  have o1 := fun M => sub64O 18446744073709551597 (wd 0 X) M
  have o2 := fun M => sub64C 18446744073709551615 (wd 1 X) c1 M
  have o3 := fun M => sub64C 18446744073709551615 (wd 2 X) c2 M
  rw [← hc1] at o1
  rw [← hc2] at o2
  rw [← hc3] at o3
  clear hR hse hC hA gx gr hc1 hc2 hc3 hX
  generalize wd 0 R = R0 at *
  generalize wd 1 R = R1 at *
  generalize wd 2 R = R2 at *
  generalize wd 3 R = R3 at *
  generalize wd 0 X = X0 at *
  generalize wd 1 X = X1 at *
  generalize wd 2 X = X2 at *
  generalize wd 3 X = X3 at *
  simp only [eng_0, eng_1, eng_2, eng_3, eng_4, lng_0, lng_1, lng_2, lng_3, lng_4, agd_none, gdAt, gdV_bool, gdV_undef, Tryd.f47, List.append_eq, List.cons_append, List.nil_append, apure_call1, apure_call2, apure_call3, bft, btf, acodeN, List.getElem?_toArray, List.getElem?_cons_zero, List.getElem?_cons_succ, aopsN, adrawT, cls, astep, aop, afloat, ev, nth_lst, get_lst, aput, setAt_lst, upd_at, init_zero, init_succ, init_nil, Nat.reduceLT, Nat.reduceEqDiff, reduceIte, abuiltin, alen, Option.map_some, Option.map_none, orElse_some, apure_add, apure_eqlV, eqlVal_str, eqlVal_bool, eqlVal_ptr, eqlVal_slice, eqlVal_wide, eqlVal_int, allT, ↓aop_eqlV, apure_neq, List.map_cons, List.map_nil, List.all_cons, List.all_nil, lit2, lit1, lit0, List.isEmpty_nil, Bool.and_self, Bool.and_true, Bool.true_and, Bool.false_and, Bool.and_false, Bool.not_true, Bool.not_false, Bool.or_true, Bool.true_or, Bool.false_or, Bool.or_false, Bool.false_eq_true, if_true, if_false, List.length_map, beq_self_eq_true, und3, und4, und5, und9, b1, b3, fa48_0, fa48_1, fa48_2, fa48_3, load22, x0, x1, x2, x3, i0, i1, i2, i3, t0, t1, t2, t3, callSub, extSub, o1, o2, o3, l1, l2, ex0, ex1, s1, s2, callSe, cs, st2, ld2, finish, ares, aresL, ares1]
  exact ⟨_, rfl⟩

theorem ze_body (hX : X < 115792089237316195423570985008687907853269984665640564039457584007913129639936) : ∃ m', abody E self nf 52 [el X] m = some (.bool (decide (X = 0)), m') := by
  rw [abody_eqF (by kernel_rfl) Tryd.func52 bodyze (by kernel_rfl) (Nat.le_of_ble_eq_true rfl)]
  rw [show Tryd.f52.ntmps = 6 from rfl]
  have b1 := box48 (wd 0 X) (wd 1 X) (wd 2 X) (wd 3 X) m
  have gx : (m ++ [Blk.row false 58 (c4 (wd 0 X) (wd 1 X) (wd 2 X) (wd 3 X))])[m.length]? = some (.row false 58 (c4 (wd 0 X) (wd 1 X) (wd 2 X) (wd 3 X))) := by simp
  generalize hA : m ++ [Blk.row false 58 (c4 (wd 0 X) (wd 1 X) (wd 2 X) (wd 3 X))] = A at b1 gx
  have lx := load48 gx
  rw [← el_st] at b1 lx
  have bz : ∀ (T : List Value) (pos : String) (af : Array Edge) (g : Option (Nat × Bool)) (d : Option Tmp), apure E.P T { dst := d, op := .build 58 #[], type := 58, pos := pos, after := af, guard := g } = some (el 0) := fun _ _ _ _ _ => by kernel_rfl
  have hq := fun x y => eql48 (x := x) (y := y) hX (show (0 : Nat) < 115792089237316195423570985008687907853269984665640564039457584007913129639936 by decide)
  simp only [eze_0, eze_1, lze_0, lze_1, agd_none, gdAt, gdV_bool, gdV_undef, Tryd.f52, List.append_eq, List.cons_append, List.nil_append, apure_call1, apure_call2, apure_call3, bft, btf, acodeN, List.getElem?_toArray, List.getElem?_cons_zero, List.getElem?_cons_succ, aopsN, adrawT, cls, astep, aop, afloat, ev, nth_lst, get_lst, aput, setAt_lst, upd_at, init_zero, init_succ, init_nil, Nat.reduceLT, Nat.reduceEqDiff, reduceIte, abuiltin, alen, Option.map_some, Option.map_none, orElse_some, apure_add, apure_eqlV, eqlVal_str, eqlVal_bool, eqlVal_ptr, eqlVal_slice, eqlVal_wide, eqlVal_int, allT, ↓aop_eqlV, apure_neq, List.map_cons, List.map_nil, List.all_cons, List.all_nil, lit2, lit1, lit0, List.isEmpty_nil, Bool.and_self, Bool.and_true, Bool.true_and, Bool.false_and, Bool.and_false, Bool.not_true, Bool.not_false, Bool.or_true, Bool.true_or, Bool.false_or, Bool.or_false, Bool.false_eq_true, if_true, if_false, List.length_map, beq_self_eq_true, und3, und4, und5, und9, b1, lx, bz, hq, finish, ares, aresL, ares1]
  exact ⟨_, rfl⟩

theorem sm_body (hX : X < 115792089237316195423570985008687907853269984665640564039457584007913129639936) (hY : Y < 115792089237316195423570985008687907853269984665640564039457584007913129639936) : ∃ m', abody E self nf 53 [el X, el Y] m = some (.bool (decide (X = Y)), m') := by
  rw [abody_eqF (by kernel_rfl) Tryd.func53 bodysm (by kernel_rfl) (Nat.le_of_ble_eq_true rfl)]
  rw [show Tryd.f53.ntmps = 8 from rfl]
  have b1 := box48 (wd 0 X) (wd 1 X) (wd 2 X) (wd 3 X) m
  generalize hA : m ++ [Blk.row false 58 (c4 (wd 0 X) (wd 1 X) (wd 2 X) (wd 3 X))] = A at b1
  have lA : A.length = m.length + 1 := by rw [← hA]; simp
  have b2 := box48 (wd 0 Y) (wd 1 Y) (wd 2 Y) (wd 3 Y) A
  rw [lA] at b2
  generalize hB : A ++ [Blk.row false 58 (c4 (wd 0 Y) (wd 1 Y) (wd 2 Y) (wd 3 Y))] = B at b2
  have gx : B[m.length]? = some (.row false 58 (c4 (wd 0 X) (wd 1 X) (wd 2 X) (wd 3 X))) := by
    rw [← hB, List.getElem?_append_left (by omega), ← hA]; simp
  have gy : B[m.length + 1]? = some (.row false 58 (c4 (wd 0 Y) (wd 1 Y) (wd 2 Y) (wd 3 Y))) := by
    rw [← hB, List.getElem?_append_right (by omega), lA]; simp
  have lx := load48 gx
  have ly := load48 gy
  rw [← el_st] at b1 b2 lx ly
  have hq := fun x y => eql48 (x := x) (y := y) hX hY
  simp only [esm_0, esm_1, lsm_0, lsm_1, agd_none, gdAt, gdV_bool, gdV_undef, Tryd.f53, List.append_eq, List.cons_append, List.nil_append, apure_call1, apure_call2, apure_call3, bft, btf, acodeN, List.getElem?_toArray, List.getElem?_cons_zero, List.getElem?_cons_succ, aopsN, adrawT, cls, astep, aop, afloat, ev, nth_lst, get_lst, aput, setAt_lst, upd_at, init_zero, init_succ, init_nil, Nat.reduceLT, Nat.reduceEqDiff, reduceIte, abuiltin, alen, Option.map_some, Option.map_none, orElse_some, apure_add, apure_eqlV, eqlVal_str, eqlVal_bool, eqlVal_ptr, eqlVal_slice, eqlVal_wide, eqlVal_int, allT, ↓aop_eqlV, apure_neq, List.map_cons, List.map_nil, List.all_cons, List.all_nil, lit2, lit1, lit0, List.isEmpty_nil, Bool.and_self, Bool.and_true, Bool.true_and, Bool.false_and, Bool.and_false, Bool.not_true, Bool.not_false, Bool.or_true, Bool.true_or, Bool.false_or, Bool.or_false, Bool.false_eq_true, if_true, if_false, List.length_map, beq_self_eq_true, und3, und4, und5, und9, b1, b2, lx, ly, hq, finish, ares, aresL, ares1]
  exact ⟨_, rfl⟩

theorem callNeg1 : callableB E.P 50 = true := by kernel_rfl
theorem callNeg : callableB E.P 47 = true := by kernel_rfl
theorem callAddF : callableB E.P 40 = true := by kernel_rfl

/-- What Abs answers. -/
def absF (X : Nat) : Nat := if X % 2 = 1 then (P25519 - X) % P25519 else X

theorem ab_body (hn : Ans self 50 [el X] (.bool (decide (X % 2 = 1)))) (hng : AnsT self 47 [el X] (el ((P25519 - X) % P25519))) (hT : TabP m) :
    ∃ m', abody E self nf 48 [el X] m = some (el (absF X), m') := by
  rw [abody_eqF (by kernel_rfl) Tryd.func48 bodyab (by kernel_rfl) (Nat.le_of_ble_eq_true rfl)]
  rw [show Tryd.f48.ntmps = 8 from rfl]
  have b1 := box48 (wd 0 X) (wd 1 X) (wd 2 X) (wd 3 X) m
  have tA : TabP (m ++ [Blk.row false 58 (c4 (wd 0 X) (wd 1 X) (wd 2 X) (wd 3 X))]) := hT.app
  generalize hA : m ++ [Blk.row false 58 (c4 (wd 0 X) (wd 1 X) (wd 2 X) (wd 3 X))] = A at b1 tA
  have lA : A.length = m.length + 1 := by rw [← hA]; simp
  have b3 := alloc48 A
  rw [lA] at b3
  have tC : TabP (A ++ [Blk.row false 58 (c4 0 0 0 0)]) := tA.app
  generalize hC : A ++ [Blk.row false 58 (c4 0 0 0 0)] = C at b3 tC
  have gx : C[m.length]? = some (.row false 58 (c4 (wd 0 X) (wd 1 X) (wd 2 X) (wd 3 X))) := by
    rw [← hC, List.getElem?_append_left (by omega), ← hA]; simp
  have gr : C[m.length + 1]? = some (.row false 58 (c4 0 0 0 0)) := by
    rw [← hC, List.getElem?_append_right (by omega), lA]; simp
  have lx := load48 gx
  rw [← el_st] at b1 lx
  have st : ∀ Y, astore E.P 58 (.pointer (some ⟨m.length + 1, 0, none⟩)) (el Y) C = some (C.set (m.length + 1) (.row false 58 (c4 (wd 0 Y) (wd 1 Y) (wd 2 Y) (wd 3 Y)))) := fun Y => store48 gr rfl
  have ld : ∀ Y, aload E.P 58 (.pointer (some ⟨m.length + 1, 0, none⟩)) (C.set (m.length + 1) (.row false 58 (c4 (wd 0 Y) (wd 1 Y) (wd 2 Y) (wd 3 Y)))) = some (el Y) := fun Y => load48 (by rw [List.getElem?_set_self (lt_of_at gr)])
  have c1 := hng C tC
  unfold Ans at hn
  unfold absF
  by_cases h : X % 2 = 1
  · rw [decide_eq_true h] at hn
    rw [if_pos h]
    simp only [eab_0, eab_1, eab_2, eab_3, lab_0, lab_1, lab_2, lab_3, agd_none, gdAt, gdV_bool, gdV_undef, Tryd.f48, List.append_eq, List.cons_append, List.nil_append, apure_call1, apure_call2, apure_call3, bft, btf, acodeN, List.getElem?_toArray, List.getElem?_cons_zero, List.getElem?_cons_succ, aopsN, adrawT, cls, astep, aop, afloat, ev, nth_lst, get_lst, aput, setAt_lst, upd_at, init_zero, init_succ, init_nil, Nat.reduceLT, Nat.reduceEqDiff, reduceIte, abuiltin, alen, Option.map_some, Option.map_none, orElse_some, apure_add, apure_eqlV, eqlVal_str, eqlVal_bool, eqlVal_ptr, eqlVal_slice, eqlVal_wide, eqlVal_int, allT, ↓aop_eqlV, apure_neq, List.map_cons, List.map_nil, List.all_cons, List.all_nil, lit2, lit1, lit0, List.isEmpty_nil, Bool.and_self, Bool.and_true, Bool.true_and, Bool.false_and, Bool.and_false, Bool.not_true, Bool.not_false, Bool.or_true, Bool.true_or, Bool.false_or, Bool.or_false, Bool.false_eq_true, if_true, if_false, List.length_map, beq_self_eq_true, und3, und4, und5, und9, b1, b3, lx, callNeg1, hn, callNeg, c1, st, ld, finish, ares, aresL, ares1]
    exact ⟨_, rfl⟩
  · rw [decide_eq_false h] at hn
    rw [if_neg h]
    simp only [eab_0, eab_1, eab_2, eab_3, lab_0, lab_1, lab_2, lab_3, agd_none, gdAt, gdV_bool, gdV_undef, Tryd.f48, List.append_eq, List.cons_append, List.nil_append, apure_call1, apure_call2, apure_call3, bft, btf, acodeN, List.getElem?_toArray, List.getElem?_cons_zero, List.getElem?_cons_succ, aopsN, adrawT, cls, astep, aop, afloat, ev, nth_lst, get_lst, aput, setAt_lst, upd_at, init_zero, init_succ, init_nil, Nat.reduceLT, Nat.reduceEqDiff, reduceIte, abuiltin, alen, Option.map_some, Option.map_none, orElse_some, apure_add, apure_eqlV, eqlVal_str, eqlVal_bool, eqlVal_ptr, eqlVal_slice, eqlVal_wide, eqlVal_int, allT, ↓aop_eqlV, apure_neq, List.map_cons, List.map_nil, List.all_cons, List.all_nil, lit2, lit1, lit0, List.isEmpty_nil, Bool.and_self, Bool.and_true, Bool.true_and, Bool.false_and, Bool.and_false, Bool.not_true, Bool.not_false, Bool.or_true, Bool.true_or, Bool.false_or, Bool.or_false, Bool.false_eq_true, if_true, if_false, List.length_map, beq_self_eq_true, und3, und4, und5, und9, b1, b3, lx, callNeg1, hn, callNeg, c1, st, ld, finish, ares, aresL, ares1]
    exact ⟨_, rfl⟩

theorem wrNeg : E.wr 47 = false := by kernel_rfl
theorem wrAddF : E.wr 40 = false := by kernel_rfl
theorem addr48 : addrT E.P 4 58 = false := by kernel_rfl
theorem sb_body (hng : AnsT self 47 [el Y] (el ((P25519 - Y) % P25519))) {Z : Nat} (had : Ans self 40 [el X, el ((P25519 - Y) % P25519)] (el Z)) (hT : TabP m) :
    ∃ m', abody E self nf 42 [el X, el Y] m = some (el Z, m') := by
  rw [abody_eqF (by kernel_rfl) Tryd.func42 bodysb (by kernel_rfl) (Nat.le_of_ble_eq_true rfl)]
  rw [show Tryd.f42.ntmps = 9 from rfl]
  have b1 := box48 (wd 0 X) (wd 1 X) (wd 2 X) (wd 3 X) m
  have tA : TabP (m ++ [Blk.row false 58 (c4 (wd 0 X) (wd 1 X) (wd 2 X) (wd 3 X))]) := hT.app
  generalize hA : m ++ [Blk.row false 58 (c4 (wd 0 X) (wd 1 X) (wd 2 X) (wd 3 X))] = A at b1 tA
  have lA : A.length = m.length + 1 := by rw [← hA]; simp
  have b2 := box48 (wd 0 Y) (wd 1 Y) (wd 2 Y) (wd 3 Y) A
  rw [lA] at b2
  have tB : TabP (A ++ [Blk.row false 58 (c4 (wd 0 Y) (wd 1 Y) (wd 2 Y) (wd 3 Y))]) := tA.app
  generalize hB : A ++ [Blk.row false 58 (c4 (wd 0 Y) (wd 1 Y) (wd 2 Y) (wd 3 Y))] = B at b2 tB
  have lB : B.length = m.length + 2 := by rw [← hB]; simp [lA]
  have b3 := alloc48 B
  rw [lB] at b3
  have tC : TabP (B ++ [Blk.row false 58 (c4 0 0 0 0)]) := tB.app
  generalize hC : B ++ [Blk.row false 58 (c4 0 0 0 0)] = C at b3 tC
  have gx : C[m.length]? = some (.row false 58 (c4 (wd 0 X) (wd 1 X) (wd 2 X) (wd 3 X))) := by
    rw [← hC, List.getElem?_append_left (by omega), ← hB, List.getElem?_append_left (by omega), ← hA]; simp
  have gy : C[m.length + 1]? = some (.row false 58 (c4 (wd 0 Y) (wd 1 Y) (wd 2 Y) (wd 3 Y))) := by
    rw [← hC, List.getElem?_append_left (by omega), ← hB, List.getElem?_append_right (by omega), lA]; simp
  have gr : C[m.length + 2]? = some (.row false 58 (c4 0 0 0 0)) := by
    rw [← hC, List.getElem?_append_right (by omega), lB]; simp
  have lx : aload E.P 58 (.pointer (some ⟨m.length, 0, none⟩)) (C.map sealed) = some (st4 (wd 0 X) (wd 1 X) (wd 2 X) (wd 3 X)) := load48 (ro := true) (e := 58) (by rw [List.getElem?_map, gx]; rfl)
  have ly : aload E.P 58 (.pointer (some ⟨m.length + 1, 0, none⟩)) (C.map sealed) = some (st4 (wd 0 Y) (wd 1 Y) (wd 2 Y) (wd 3 Y)) := load48 (ro := true) (e := 58) (by rw [List.getElem?_map, gy]; rfl)
  have c1 := hng (C.map sealed) tC.sealed
  have c2 := had (C.map sealed)
  have st := store48 (a := wd 0 Z) (b := wd 1 Z) (c := wd 2 Z) (d := wd 3 Z) gr rfl
  have ld := load48 (m := C.set (m.length + 2) (.row false 58 (c4 (wd 0 Z) (wd 1 Z) (wd 2 Z) (wd 3 Z)))) (p := m.length + 2) (a := wd 0 Z) (b := wd 1 Z) (c := wd 2 Z) (d := wd 3 Z) (by rw [List.getElem?_set_self (lt_of_at gr)])
  rw [← el_st] at b1 b2 lx ly st ld
  simp only [↓dsb_1, ↓ssb_1, esb_0, esb_1, lsb_0, lsb_1, agd_none, gdAt, gdV_bool, gdV_undef, Tryd.f42, List.append_eq, List.cons_append, List.nil_append, apure_call1, apure_call2, apure_call3, bft, btf, acodeN, List.getElem?_toArray, List.getElem?_cons_zero, List.getElem?_cons_succ, aopsN, adrawT, cls, astep, aop, afloat, ev, nth_lst, get_lst, aput, setAt_lst, upd_at, init_zero, init_succ, init_nil, Nat.reduceLT, Nat.reduceEqDiff, reduceIte, abuiltin, alen, Option.map_some, Option.map_none, orElse_some, apure_add, apure_eqlV, eqlVal_str, eqlVal_bool, eqlVal_ptr, eqlVal_slice, eqlVal_wide, eqlVal_int, allT, ↓aop_eqlV, apure_neq, List.map_cons, List.map_nil, List.all_cons, List.all_nil, lit2, lit1, lit0, List.isEmpty_nil, Bool.and_self, Bool.and_true, Bool.true_and, Bool.false_and, Bool.and_false, Bool.not_true, Bool.not_false, Bool.or_true, Bool.true_or, Bool.false_or, Bool.or_false, Bool.false_eq_true, if_true, if_false, List.length_map, beq_self_eq_true, und3, und4, und5, und9, b1, b2, b3, lx, ly, wrNeg, wrAddF, addr48, callNeg, callAddF, c1, c2, st, ld, finish, ares, aresL, ares1]
  exact ⟨_, rfl⟩
end
end Go.Am.Seat

/-
  word, Loose, Bytes, Parse, Of on the abstract machine (own work).
-/
set_option linter.unusedSimpArgs false
set_option linter.unusedVariables false
namespace Go.Am.Seat
open Go.Proofs Go.Am Go.Am.Num
set_option maxRecDepth 100000
set_option maxHeartbeats 4000000

noncomputable def rwo_0 : Array Oper := match Tryd.f80.body with
  | some (.seq (.region _ o _) _) => o
  | _ => #[]
noncomputable def lwo_0 : List Oper := match Tryd.f80.body with
  | some (.seq (.region _ o _) _) => o.toList
  | _ => []
theorem ewo_0 : rwo_0.toList = lwo_0 := rfl
noncomputable def rwo_1 : Array Oper := match Tryd.f80.body with
  | some (.seq _ (.seq (.region _ o _) _)) => o
  | _ => #[]
noncomputable def lwo_1 : List Oper := match Tryd.f80.body with
  | some (.seq _ (.seq (.region _ o _) _)) => o.toList
  | _ => []
theorem ewo_1 : rwo_1.toList = lwo_1 := rfl
noncomputable def rwo_2 : Array Oper := match Tryd.f80.body with
  | some (.seq _ (.seq _ (.seq (.seq (.region _ o _) _) _))) => o
  | _ => #[]
noncomputable def lwo_2 : List Oper := match Tryd.f80.body with
  | some (.seq _ (.seq _ (.seq (.seq (.region _ o _) _) _))) => o.toList
  | _ => []
theorem ewo_2 : rwo_2.toList = lwo_2 := rfl
noncomputable def lpwo_0 : Code := match Tryd.f80.body with
  | some (.seq _ (.seq _ (.seq (.seq _ (.block _ (.loop c))) _))) => c
  | _ => .skip
noncomputable def rwo_3 : Array Oper := match Tryd.f80.body with
  | some (.seq _ (.seq _ (.seq (.seq _ (.block _ (.loop (.seq (.seq (.region _ o _) _) _)))) _))) => o
  | _ => #[]
noncomputable def lwo_3 : List Oper := match Tryd.f80.body with
  | some (.seq _ (.seq _ (.seq (.seq _ (.block _ (.loop (.seq (.seq (.region _ o _) _) _)))) _))) => o.toList
  | _ => []
theorem ewo_3 : rwo_3.toList = lwo_3 := rfl
noncomputable def rwo_5 : Array Oper := match Tryd.f80.body with
  | some (.seq _ (.seq _ (.seq (.seq _ (.block _ (.loop (.seq _ (.seq (.block _ (.region _ o _)) _))))) _))) => o
  | _ => #[]
noncomputable def lwo_5 : List Oper := match Tryd.f80.body with
  | some (.seq _ (.seq _ (.seq (.seq _ (.block _ (.loop (.seq _ (.seq (.block _ (.region _ o _)) _))))) _))) => o.toList
  | _ => []
theorem ewo_5 : rwo_5.toList = lwo_5 := rfl
noncomputable def rwo_4 : Array Oper := match Tryd.f80.body with
  | some (.seq _ (.seq _ (.seq (.seq _ (.block _ (.loop (.seq _ (.seq _ (.region _ o _)))))) _))) => o
  | _ => #[]
noncomputable def lwo_4 : List Oper := match Tryd.f80.body with
  | some (.seq _ (.seq _ (.seq (.seq _ (.block _ (.loop (.seq _ (.seq _ (.region _ o _)))))) _))) => o.toList
  | _ => []
theorem ewo_4 : rwo_4.toList = lwo_4 := rfl
theorem lpwo_0_eq : lpwo_0 = (.seq (.seq (.region 3 rwo_3 false) (.cond (.tmp 8) .skip (.exit 0))) (.seq (.block 1 (.region 5 rwo_5 false)) (.region 4 rwo_4 false))) := rfl
noncomputable def rwo_6 : Array Oper := match Tryd.f80.body with
  | some (.seq _ (.seq _ (.seq _ (.seq (.region _ o _) _)))) => o
  | _ => #[]
noncomputable def lwo_6 : List Oper := match Tryd.f80.body with
  | some (.seq _ (.seq _ (.seq _ (.seq (.region _ o _) _)))) => o.toList
  | _ => []
theorem ewo_6 : rwo_6.toList = lwo_6 := rfl
theorem bodywo : Tryd.f80.body = some (.seq (.region 0 rwo_0 false) (.seq (.region 1 rwo_1 false) (.seq (.seq (.region 2 rwo_2 false) (.block 0 (.loop lpwo_0))) (.seq (.region 6 rwo_6 false) .ret)))) := rfl
-- ntmps 22
noncomputable def rlo_0 : Array Oper := match Tryd.f36.body with
  | some (.seq (.region _ o _) _) => o
  | _ => #[]
noncomputable def llo_0 : List Oper := match Tryd.f36.body with
  | some (.seq (.region _ o _) _) => o.toList
  | _ => []
theorem elo_0 : rlo_0.toList = llo_0 := rfl
noncomputable def rlo_1 : Array Oper := match Tryd.f36.body with
  | some (.seq _ (.seq (.region _ o _) _)) => o
  | _ => #[]
noncomputable def llo_1 : List Oper := match Tryd.f36.body with
  | some (.seq _ (.seq (.region _ o _) _)) => o.toList
  | _ => []
theorem elo_1 : rlo_1.toList = llo_1 := rfl
theorem dlo_1 {self : Self} {B : Nat} {T : List Value} {m : Mem} {lb : List (Nat × Nat)} {ls : Bool} : adrawN E self rlo_1 B rlo_1.toList 0 T m lb ls = adrawT E self rlo_1 B rlo_1.toList [(false, false), (false, false), (false, false), (false, false), (false, false), (false, false), (false, false), (false, false), (false, false), (false, false), (false, false)] 0 T m lb ls := adraw_tab (by kernel_rfl)
theorem slo_1 : E.sr 1 rlo_1 = false := by kernel_rfl
theorem bodylo : Tryd.f36.body = some (.seq (.region 0 rlo_0 false) (.seq (.region 1 rlo_1 true) .ret)) := rfl
-- ntmps 13
noncomputable def rby_0 : Array Oper := match Tryd.f57.body with
  | some (.seq (.region _ o _) _) => o
  | _ => #[]
noncomputable def lby_0 : List Oper := match Tryd.f57.body with
  | some (.seq (.region _ o _) _) => o.toList
  | _ => []
theorem eby_0 : rby_0.toList = lby_0 := rfl
noncomputable def rby_1 : Array Oper := match Tryd.f57.body with
  | some (.seq _ (.seq (.region _ o _) _)) => o
  | _ => #[]
noncomputable def lby_1 : List Oper := match Tryd.f57.body with
  | some (.seq _ (.seq (.region _ o _) _)) => o.toList
  | _ => []
theorem eby_1 : rby_1.toList = lby_1 := rfl
noncomputable def rby_2 : Array Oper := match Tryd.f57.body with
  | some (.seq _ (.seq _ (.seq (.region _ o _) _))) => o
  | _ => #[]
noncomputable def lby_2 : List Oper := match Tryd.f57.body with
  | some (.seq _ (.seq _ (.seq (.region _ o _) _))) => o.toList
  | _ => []
theorem eby_2 : rby_2.toList = lby_2 := rfl
noncomputable def rby_3 : Array Oper := match Tryd.f57.body with
  | some (.seq _ (.seq _ (.seq _ (.seq (.seq (.region _ o _) _) _)))) => o
  | _ => #[]
noncomputable def lby_3 : List Oper := match Tryd.f57.body with
  | some (.seq _ (.seq _ (.seq _ (.seq (.seq (.region _ o _) _) _)))) => o.toList
  | _ => []
theorem eby_3 : rby_3.toList = lby_3 := rfl
noncomputable def lpby_0 : Code := match Tryd.f57.body with
  | some (.seq _ (.seq _ (.seq _ (.seq (.seq _ (.block _ (.loop c))) _)))) => c
  | _ => .skip
noncomputable def rby_4 : Array Oper := match Tryd.f57.body with
  | some (.seq _ (.seq _ (.seq _ (.seq (.seq _ (.block _ (.loop (.seq (.region _ o _) _)))) _)))) => o
  | _ => #[]
noncomputable def lby_4 : List Oper := match Tryd.f57.body with
  | some (.seq _ (.seq _ (.seq _ (.seq (.seq _ (.block _ (.loop (.seq (.region _ o _) _)))) _)))) => o.toList
  | _ => []
theorem eby_4 : rby_4.toList = lby_4 := rfl
noncomputable def rby_5 : Array Oper := match Tryd.f57.body with
  | some (.seq _ (.seq _ (.seq _ (.seq (.seq _ (.block _ (.loop (.seq _ (.seq _ (.seq (.block _ (.seq (.region _ o _) _)) _)))))) _)))) => o
  | _ => #[]
noncomputable def lby_5 : List Oper := match Tryd.f57.body with
  | some (.seq _ (.seq _ (.seq _ (.seq (.seq _ (.block _ (.loop (.seq _ (.seq _ (.seq (.block _ (.seq (.region _ o _) _)) _)))))) _)))) => o.toList
  | _ => []
theorem eby_5 : rby_5.toList = lby_5 := rfl
noncomputable def rby_6 : Array Oper := match Tryd.f57.body with
  | some (.seq _ (.seq _ (.seq _ (.seq (.seq _ (.block _ (.loop (.seq _ (.seq _ (.seq (.block _ (.seq _ (.region _ o _))) _)))))) _)))) => o
  | _ => #[]
noncomputable def lby_6 : List Oper := match Tryd.f57.body with
  | some (.seq _ (.seq _ (.seq _ (.seq (.seq _ (.block _ (.loop (.seq _ (.seq _ (.seq (.block _ (.seq _ (.region _ o _))) _)))))) _)))) => o.toList
  | _ => []
theorem eby_6 : rby_6.toList = lby_6 := rfl
noncomputable def rby_7 : Array Oper := match Tryd.f57.body with
  | some (.seq _ (.seq _ (.seq _ (.seq (.seq _ (.block _ (.loop (.seq _ (.seq _ (.seq _ (.region _ o _))))))) _)))) => o
  | _ => #[]
noncomputable def lby_7 : List Oper := match Tryd.f57.body with
  | some (.seq _ (.seq _ (.seq _ (.seq (.seq _ (.block _ (.loop (.seq _ (.seq _ (.seq _ (.region _ o _))))))) _)))) => o.toList
  | _ => []
theorem eby_7 : rby_7.toList = lby_7 := rfl
theorem lpby_0_eq : lpby_0 = (.seq (.region 4 rby_4 false) (.seq (.cond (.tmp 16) .skip (.exit 0)) (.seq (.block 1 (.seq (.region 5 rby_5 false) (.region 6 rby_6 false))) (.region 7 rby_7 false)))) := rfl
noncomputable def rby_8 : Array Oper := match Tryd.f57.body with
  | some (.seq _ (.seq _ (.seq _ (.seq _ (.seq (.region _ o _) _))))) => o
  | _ => #[]
noncomputable def lby_8 : List Oper := match Tryd.f57.body with
  | some (.seq _ (.seq _ (.seq _ (.seq _ (.seq (.region _ o _) _))))) => o.toList
  | _ => []
theorem eby_8 : rby_8.toList = lby_8 := rfl
theorem bodyby : Tryd.f57.body = some (.seq (.region 0 rby_0 false) (.seq (.region 1 rby_1 false) (.seq (.region 2 rby_2 false) (.seq (.seq (.region 3 rby_3 false) (.block 0 (.loop lpby_0))) (.seq (.region 8 rby_8 false) .ret))))) := rfl
-- ntmps 31
-- ntmps 13
noncomputable def rfo_0 : Array Oper := match Tryd.f39.body with
  | some (.seq (.region _ o _) _) => o
  | _ => #[]
noncomputable def lfo_0 : List Oper := match Tryd.f39.body with
  | some (.seq (.region _ o _) _) => o.toList
  | _ => []
theorem efo_0 : rfo_0.toList = lfo_0 := rfl
noncomputable def rfo_1 : Array Oper := match Tryd.f39.body with
  | some (.seq _ (.seq (.region _ o _) _)) => o
  | _ => #[]
noncomputable def lfo_1 : List Oper := match Tryd.f39.body with
  | some (.seq _ (.seq (.region _ o _) _)) => o.toList
  | _ => []
theorem efo_1 : rfo_1.toList = lfo_1 := rfl
theorem bodyfo : Tryd.f39.body = some (.seq (.region 0 rfo_0 false) (.seq (.region 1 rfo_1 false) .ret)) := rfl
-- ntmps 5

/-- A word of bytes, from its highest byte on: so many of them. -/
def accW (b : Nat → Nat) (at_ : Nat) : Nat → Nat
  | 0 => 0
  | n + 1 => accW b at_ n * 256 + b (8 * at_ + (7 - n))
theorem accW_lt {b : Nat → Nat} (hb : ∀ i, b i < 256) (at_ : Nat) : ∀ n, accW b at_ n < 256 ^ n
  | 0 => by simp [accW]
  | n + 1 => by
    have h1 := accW_lt hb at_ n
    have h2 := hb (8 * at_ + (7 - n))
    simp only [accW, Nat.pow_succ]
    omega

theorem shl8 (x : Nat) : abin .shl .u64 ((x : Nat) : Int) .u64 8 = some (.int .u64 ((x * 256 % 18446744073709551616 : Nat) : Int)) := shlU (n := 8) (by decide)
theorem or8W {x y : Nat} (hx : x * 256 < 18446744073709551616) (hy : y < 256) : abin .or .u64 ((x * 256 % 18446744073709551616 : Nat) : Int) .u64 ((y : Nat) : Int) = some (.int .u64 ((x * 256 + y : Nat) : Int)) := by
  rw [Nat.mod_eq_of_lt hx, orN hx (by omega), Nat.mul_comm x 256]
  have := Nat.two_pow_add_eq_or_of_lt (i := 8) (b := y) (by omega) x
  rw [show 2 ^ 8 = 256 from rfl] at this
  rw [← this]
theorem conv5_22b (x : Nat) : aconv E.P 5 22 (.int .u8 ((x : Nat) : Int)) = some (.int .u64 ((x % 18446744073709551616 : Nat) : Int)) := by
  have : aconv E.P 5 22 (.int .u8 ((x : Nat) : Int)) = some (.int .u64 (wrapF .u64 ((x : Nat) : Int))) := by kernel_rfl
  rw [this, wrapU]
theorem conv22_5b (x : Nat) : aconv E.P 22 5 (.int .u64 ((x : Nat) : Int)) = some (.int .u8 ((x % 256 : Nat) : Int)) := by
  have : aconv E.P 22 5 (.int .u64 ((x : Nat) : Int)) = some (.int .u8 (wrapF .u8 ((x : Nat) : Int))) := by kernel_rfl
  rw [this]
  simp only [wrapF]
  congr 2
theorem geq0 (a : Int) : abin .geq .i64 a .i64 0 = some (.bool (decide (a ≥ 0))) := by kernel_rfl
theorem mul8c (a : Int) : abin .mul .i64 8 .i64 a = some (.int .i64 (wrapF .i64 (8 * a))) := by kernel_rfl
theorem sub1c (a : Int) : abin .sub .i64 a .i64 1 = some (.int .i64 (wrapF .i64 (a - 1))) := by kernel_rfl
theorem wrap_neg1 : wrapF .i64 (-1) = -1 := by kernel_rfl

section
variable {self : Self} {nf : Nat} {M : Mem} {F : Nat → Value} {b : Nat → Nat} {k n p : Nat}
theorem iterWo (h1 : F 1 = .int .i64 (k : Nat)) (h2 : F 2 = .pointer (some ⟨p, 0, none⟩)) (h5 : F 5 = .int .u64 ((accW b k n : Nat) : Int)) (h6 : F 6 = .int .i64 (7 - ((n : Nat) : Int))) (hn : n < 8) (hk : k < 4) (hb : ∀ i, b i < 256) (hp : M[p]? = some (.row false 56 (rowK .u8 32 b))) :
    ∃ F', acodeN E self nf lpwo_0 (lst F 22) M = some (.normal, lst F' 22, M) ∧ F' 1 = F 1 ∧ F' 2 = F 2 ∧ F' 5 = .int .u64 ((accW b k (n + 1) : Nat) : Int) ∧ F' 6 = .int .i64 (7 - ((n + 1 : Nat) : Int)) := by
  have hg : decide ((7 - ((n : Nat) : Int)) ≥ 0) = true := decide_eq_true (by omega)
  have e1 : wrapF .i64 (8 * ((k : Nat) : Int)) = ((8 * k : Nat) : Int) := by rw [wrap_i64 (by omega) (by omega)]; omega
  have e2 : wrapF .i64 (((8 * k : Nat) : Int) + (7 - ((n : Nat) : Int))) = ((8 * k + (7 - n) : Nat) : Int) := by rw [wrap_i64 (by omega) (by omega)]; omega
  have e3 : wrapF .i64 (7 - ((n : Nat) : Int) - 1) = 7 - ((n + 1 : Nat) : Int) := by
    by_cases h : n = 7
    · subst h; exact wrap_neg1
    · rw [wrap_i64 (by omega) (by omega)]; omega
  have i1 := a46.ix (p := p) (j := 8 * k + (7 - n)) (by omega)
  have c1 := cellK hp (j := 8 * k + (7 - n)) (by omega)
  have hacc := accW_lt hb k n
  have h8 : accW b k n * 256 < 18446744073709551616 := by
    have : 256 ^ n ≤ 256 ^ 7 := Nat.pow_le_pow_right (by decide) (by omega)
    have e : (256 : Nat) ^ 7 = 72057594037927936 := by decide
    omega
  have hb1 := hb (8 * k + (7 - n))
  have hm : b (8 * k + (7 - n)) % 18446744073709551616 = b (8 * k + (7 - n)) := Nat.mod_eq_of_lt (by omega)
  have o1 := or8W h8 hb1
  have hst : accW b k n * 256 + b (8 * k + (7 - n)) = accW b k (n + 1) := rfl
  generalize accW b k n = A at *
  generalize b (8 * k + (7 - n)) = bb at *
  simp only [lpwo_0_eq, ewo_0, ewo_1, ewo_2, ewo_3, ewo_4, ewo_5, ewo_6, lwo_0, lwo_1, lwo_2, lwo_3, lwo_4, lwo_5, lwo_6, agd_none, gdAt, gdV_bool, gdV_undef, Tryd.f80, List.append_eq, List.cons_append, List.nil_append, apure_call1, apure_call2, apure_call3, bft, btf, acodeN, List.getElem?_toArray, List.getElem?_cons_zero, List.getElem?_cons_succ, aopsN, adrawT, cls, astep, aop, afloat, ev, nth_lst, get_lst, aput, setAt_lst, upd_at, init_zero, init_succ, init_nil, Nat.reduceLT, Nat.reduceEqDiff, reduceIte, abuiltin, alen, Option.map_some, Option.map_none, orElse_some, apure_add, apure_eqlV, eqlVal_str, eqlVal_bool, eqlVal_ptr, eqlVal_slice, eqlVal_wide, eqlVal_int, allT, ↓aop_eqlV, apure_neq, List.map_cons, List.map_nil, List.all_cons, List.all_nil, lit2, lit1, lit0, List.isEmpty_nil, Bool.and_self, Bool.and_true, Bool.true_and, Bool.false_and, Bool.and_false, Bool.not_true, Bool.not_false, Bool.or_true, Bool.true_or, Bool.false_or, Bool.or_false, Bool.false_eq_true, if_true, if_false, List.length_map, beq_self_eq_true, und3, und4, und5, und9, h1, h2, h5, h6, geq0, hg, shl8, mul8c, e1, add64', e2, i1, a46.loadE, c1, conv5_22b, hm, o1, sub1c, e3]
  exact ⟨_, rfl, by simp only [upd_at, Nat.reduceEqDiff, reduceIte, h1], by simp only [upd_at, Nat.reduceEqDiff, reduceIte, h2], by simp only [upd_at, Nat.reduceEqDiff, reduceIte, hst], by simp only [upd_at, Nat.reduceEqDiff, reduceIte]⟩

theorem lastWo (h6 : F 6 = .int .i64 (-1)) : ∃ F', acodeN E self nf lpwo_0 (lst F 22) M = some (.exit 0, lst F' 22, M) ∧ F' 5 = F 5 := by
  have hg : decide ((-1 : Int) ≥ 0) = false := rfl
  simp only [lpwo_0_eq, ewo_0, ewo_1, ewo_2, ewo_3, ewo_4, ewo_5, ewo_6, lwo_0, lwo_1, lwo_2, lwo_3, lwo_4, lwo_5, lwo_6, agd_none, gdAt, gdV_bool, gdV_undef, Tryd.f80, List.append_eq, List.cons_append, List.nil_append, apure_call1, apure_call2, apure_call3, bft, btf, acodeN, List.getElem?_toArray, List.getElem?_cons_zero, List.getElem?_cons_succ, aopsN, adrawT, cls, astep, aop, afloat, ev, nth_lst, get_lst, aput, setAt_lst, upd_at, init_zero, init_succ, init_nil, Nat.reduceLT, Nat.reduceEqDiff, reduceIte, abuiltin, alen, Option.map_some, Option.map_none, orElse_some, apure_add, apure_eqlV, eqlVal_str, eqlVal_bool, eqlVal_ptr, eqlVal_slice, eqlVal_wide, eqlVal_int, allT, ↓aop_eqlV, apure_neq, List.map_cons, List.map_nil, List.all_cons, List.all_nil, lit2, lit1, lit0, List.isEmpty_nil, Bool.and_self, Bool.and_true, Bool.true_and, Bool.false_and, Bool.and_false, Bool.not_true, Bool.not_false, Bool.or_true, Bool.true_or, Bool.false_or, Bool.or_false, Bool.false_eq_true, if_true, if_false, List.length_map, beq_self_eq_true, und3, und4, und5, und9, h6, geq0, hg]
  exact ⟨_, rfl, by simp only [upd_at, Nat.reduceEqDiff, reduceIte]⟩

theorem loopWo (h1 : F 1 = .int .i64 (k : Nat)) (h2 : F 2 = .pointer (some ⟨p, 0, none⟩)) (h5 : F 5 = .int .u64 0) (h6 : F 6 = .int .i64 7) (hk : k < 4) (hb : ∀ i, b i < 256) (hp : M[p]? = some (.row false 56 (rowK .u8 32 b))) (hf : 20 < nf) :
    ∃ F', aloop (acodeN E self nf lpwo_0) nf (lst F 22) M = some (.exit 0, lst F' 22, M) ∧ F' 5 = .int .u64 ((accW b k 8 : Nat) : Int) := by
  have hloop := aloop_inv (body := acodeN E self nf lpwo_0) (N := 8)
    (I := fun n T m' => m' = M ∧ ∃ G, T = lst G 22 ∧ G 1 = F 1 ∧ G 2 = F 2 ∧ G 5 = .int .u64 ((accW b k n : Nat) : Int) ∧ G 6 = .int .i64 (7 - ((n : Nat) : Int)))
    (Q := fun e T m' => e = .exit 0 ∧ m' = M ∧ ∃ G, T = lst G 22 ∧ G 5 = .int .u64 ((accW b k 8 : Nat) : Int)) (fun n T m' hi hI => by
      obtain ⟨rfl, G, rfl, g1, g2, g5, g6⟩ := hI
      by_cases hlt : n < 8
      · left
        obtain ⟨F', hr, f1, f2, f5, f6⟩ := iterWo (self := self) (nf := nf) (g1.trans h1) (g2.trans h2) g5 g6 hlt hk hb hp
        exact ⟨_, _, hr, hlt, rfl, F', rfl, f1.trans g1, f2.trans g2, f5, f6⟩
      · right
        have : n = 8 := by omega
        subst this
        obtain ⟨F', hr, f5⟩ := lastWo (self := self) (nf := nf) (M := m') (F := G) g6
        exact ⟨_, _, _, hr, by simp, rfl, rfl, F', rfl, f5.trans g5⟩)
  obtain ⟨e, T', M', hr, rfl, rfl, G, rfl, g5⟩ := hloop 8 0 nf (lst F 22) M (by omega) (by omega) ⟨rfl, F, rfl, rfl, rfl, h5, h6⟩
  exact ⟨G, hr, g5⟩

theorem wo_body {m : Mem} (hk : k < 4) (hb : ∀ i, b i < 256) (hf : 20 < nf) : ∃ m', abody E self nf 80 [arrK .u8 32 b, .int .i64 (k : Nat)] m = some (.int .u64 ((accW b k 8 : Nat) : Int), m') := by
  rw [abody_eqF (by kernel_rfl) Tryd.func80 bodywo (by kernel_rfl) (Nat.le_of_ble_eq_true rfl)]
  rw [show Tryd.f80.ntmps = 22 from rfl]
  have b1 := a46.box (w := b) (m := m)
  have gp : (m ++ [Blk.row false 56 (rowK .u8 32 b)])[m.length]? = some (.row false 56 (rowK .u8 32 b)) := by simp
  generalize hM : m ++ [Blk.row false 56 (rowK .u8 32 b)] = M at b1 gp
  obtain ⟨G, hl, g5⟩ := loopWo (self := self) (nf := nf) (M := M) (p := m.length) (k := k) (b := b) (F := upd (upd (upd (upd (init [arrK .u8 32 b, .int .i64 (k : Nat)]) 2 (.pointer (some ⟨m.length, 0, none⟩))) 4 (.int .u64 0)) 5 (.int .u64 0)) 6 (.int .i64 7)) rfl rfl rfl rfl hk hb gp hf
  generalize accW b k 8 = A at *
  simp only [ewo_0, ewo_1, ewo_2, ewo_3, ewo_4, ewo_5, ewo_6, lwo_0, lwo_1, lwo_2, lwo_3, lwo_4, lwo_5, lwo_6, agd_none, gdAt, gdV_bool, gdV_undef, Tryd.f80, List.append_eq, List.cons_append, List.nil_append, apure_call1, apure_call2, apure_call3, bft, btf, acodeN, List.getElem?_toArray, List.getElem?_cons_zero, List.getElem?_cons_succ, aopsN, adrawT, cls, astep, aop, afloat, ev, nth_lst, get_lst, aput, setAt_lst, upd_at, init_zero, init_succ, init_nil, Nat.reduceLT, Nat.reduceEqDiff, reduceIte, abuiltin, alen, Option.map_some, Option.map_none, orElse_some, apure_add, apure_eqlV, eqlVal_str, eqlVal_bool, eqlVal_ptr, eqlVal_slice, eqlVal_wide, eqlVal_int, allT, ↓aop_eqlV, apure_neq, List.map_cons, List.map_nil, List.all_cons, List.all_nil, lit2, lit1, lit0, List.isEmpty_nil, Bool.and_self, Bool.and_true, Bool.true_and, Bool.false_and, Bool.and_false, Bool.not_true, Bool.not_false, Bool.or_true, Bool.true_or, Bool.false_or, Bool.or_false, Bool.false_eq_true, if_true, if_false, List.length_map, beq_self_eq_true, und3, und4, und5, und9, b1, hl, g5, finish, ares, aresL, ares1]
  exact ⟨_, rfl⟩
end
end Go.Am.Seat

/-
  Loose, Bytes, Parse, Of on the abstract machine (own work).
-/
set_option linter.unusedSimpArgs false
set_option linter.unusedVariables false
namespace Go.Am.Seat
open Go.Proofs Go.Am Go.Am.Num
set_option maxRecDepth 100000
set_option maxHeartbeats 4000000

/-- The number of bytes, but for the highest bit, modulo p. -/
def looseF (b : Nat → Nat) : Nat := v4 (accW b 0 8) (accW b 1 8) (accW b 2 8) (accW b 3 8 % 9223372036854775808) % P25519

theorem callWo : callableB E.P 80 = true := by kernel_rfl
theorem wrWo : E.wr 80 = false := by kernel_rfl
theorem wrSe : E.wr 79 = false := by kernel_rfl
theorem addr22b : addrT E.P 4 22 = false := by kernel_rfl

section
variable {self : Self} {nf : Nat} {m : Mem} {b : Nat → Nat} {X : Nat}
theorem lo_body (hb : ∀ i, b i < 256) (hwo : ∀ k, k < 4 → Ans self 80 [arrK .u8 32 b, .int .i64 (k : Nat)] (.int .u64 ((accW b k 8 : Nat) : Int))) (hse : SettleOk self) :
    ∃ m', abody E self nf 36 [arrK .u8 32 b] m = some (el (looseF b), m') := by
  rw [abody_eqF (by kernel_rfl) Tryd.func36 bodylo (by kernel_rfl) (Nat.le_of_ble_eq_true rfl)]
  rw [show Tryd.f36.ntmps = 13 from rfl]
  have b1 := a46.box (w := b) (m := m)
  generalize hA : m ++ [Blk.row false 56 (rowK .u8 32 b)] = A at b1
  have lA : A.length = m.length + 1 := by rw [← hA]; simp
  have b3 := alloc48 A
  rw [lA] at b3
  generalize hC : A ++ [Blk.row false 58 (c4 0 0 0 0)] = C at b3
  have gx : C[m.length]? = some (.row false 56 (rowK .u8 32 b)) := by
    rw [← hC, List.getElem?_append_left (by omega), ← hA]; simp
  have gr : C[m.length + 1]? = some (.row false 58 (c4 0 0 0 0)) := by
    rw [← hC, List.getElem?_append_right (by omega), lA]; simp
  have lx : aload E.P 56 (.pointer (some ⟨m.length, 0, none⟩)) (C.map sealed) = some (arrK .u8 32 b) := a46.load (ro := true) (be := 56) (by rw [List.getElem?_map, gx]; rfl)
  have hlt : ∀ k, accW b k 8 < 18446744073709551616 := fun k => accW_lt hb k 8
  have w0 := hwo 0 (by omega)
  have w1 := hwo 1 (by omega)
  have w2 := hwo 2 (by omega)
  have w3 := hwo 3 (by omega)
  have a1 := and63 (hlt 3)
  have cs := hse (accW b 0 8) (accW b 1 8) (accW b 2 8) (accW b 3 8 % 9223372036854775808) 0 (hlt 0) (hlt 1) (hlt 2) (by have := hlt 3; omega) (by decide)
  rw [Nat.zero_mul, Nat.add_zero, show v4 (accW b 0 8) (accW b 1 8) (accW b 2 8) (accW b 3 8 % 9223372036854775808) % P25519 = looseF b from rfl, show (((0 : Nat)) : Int) = 0 from rfl] at cs
  unfold Ans at w0 w1 w2 w3 cs
  simp only [Int.cast_ofNat_Int, Int.natCast_zero, Int.natCast_one] at w0 w1 w2 w3
  generalize looseF b = R at *
  have st := store48 (a := wd 0 R) (b := wd 1 R) (c := wd 2 R) (d := wd 3 R) gr rfl
  have ld := load48 (m := C.set (m.length + 1) (.row false 58 (c4 (wd 0 R) (wd 1 R) (wd 2 R) (wd 3 R)))) (p := m.length + 1) (a := wd 0 R) (b := wd 1 R) (c := wd 2 R) (d := wd 3 R) (by rw [List.getElem?_set_self (lt_of_at gr)])
  rw [← el_st] at st ld
  generalize accW b 0 8 = A0 at *
  generalize accW b 1 8 = A1 at *
  generalize accW b 2 8 = A2 at *
  generalize accW b 3 8 = A3 at *
  simp only [↓dlo_1, ↓slo_1, elo_0, elo_1, llo_0, llo_1, agd_none, gdAt, gdV_bool, gdV_undef, Tryd.f36, List.append_eq, List.cons_append, List.nil_append, apure_call1, apure_call2, apure_call3, bft, btf, acodeN, List.getElem?_toArray, List.getElem?_cons_zero, List.getElem?_cons_succ, aopsN, adrawT, cls, astep, aop, afloat, ev, nth_lst, get_lst, aput, setAt_lst, upd_at, init_zero, init_succ, init_nil, Nat.reduceLT, Nat.reduceEqDiff, reduceIte, abuiltin, alen, Option.map_some, Option.map_none, orElse_some, apure_add, apure_eqlV, eqlVal_str, eqlVal_bool, eqlVal_ptr, eqlVal_slice, eqlVal_wide, eqlVal_int, allT, ↓aop_eqlV, apure_neq, List.map_cons, List.map_nil, List.all_cons, List.all_nil, lit2, lit1, lit0, List.isEmpty_nil, Bool.and_self, Bool.and_true, Bool.true_and, Bool.false_and, Bool.and_false, Bool.not_true, Bool.not_false, Bool.or_true, Bool.true_or, Bool.false_or, Bool.or_false, Bool.false_eq_true, if_true, if_false, List.length_map, beq_self_eq_true, und3, und4, und5, und9, b1, b3, lx, callWo, wrWo, addr22b, w0, w1, w2, w3, a1, callSe, wrSe, addr48, cs, st, ld, finish, ares, aresL, ares1]
  exact ⟨_, rfl⟩

/-- A byte of a number. -/
def byteX (X i : Nat) : Nat := wd (i / 8) X / 2 ^ (8 * (i % 8)) % 256
theorem a87 : ArrT 99 4 22 .u64 := ⟨Tryd.underlying99, und22, info_of (by kernel_rfl), info_of (by kernel_rfl)⟩
theorem alloc46 (m : Mem) : aalloc E.P 56 m = some (.pointer (some ⟨m.length, 0, none⟩), m ++ [.row false 56 (rowK .u8 32 fun _ => 0)]) := by kernel_rfl
theorem alloc87 (m : Mem) : aalloc E.P 99 m = some (.pointer (some ⟨m.length, 0, none⟩), m ++ [.row false 99 (rowK .u64 4 fun _ => 0)]) := by kernel_rfl

variable {M : Mem} {F : Nat → Value} {i p q : Nat} {w v : Nat → Nat}
theorem iterBy (h3 : F 3 = .pointer (some ⟨p, 0, none⟩)) (h4 : F 4 = .pointer (some ⟨q, 0, none⟩)) (h15 : F 15 = .int .i64 (i : Nat)) (hi : i < 32)
    (hp : M[p]? = some (.row false 99 (rowK .u64 4 w))) (hq : M[q]? = some (.row false 56 (rowK .u8 32 v))) :
    ∃ F', acodeN E self nf lpby_0 (lst F 31) M = some (.normal, lst F' 31, M.set q (.row false 56 (rowK .u8 32 fun j => if j = i then w (i / 8) / 2 ^ (8 * (i % 8)) % 256 else v j))) ∧ F' 2 = F 2 ∧ F' 3 = F 3 ∧ F' 4 = F 4 ∧ F' 15 = .int .i64 ((i + 1 : Nat) : Int) := by
  have hlt : decide (((i : Nat) : Int) < 32) = true := decide_eq_true (by omega)
  have e1 : wrapF .i64 (((i : Nat) : Int).tdiv 8) = ((i / 8 : Nat) : Int) := by
    rw [show ((i : Nat) : Int).tdiv 8 = ((i / 8 : Nat) : Int) from rfl, wrap_i64 (by omega) (by omega)]
  have e2 : ((i : Nat) : Int).tmod 8 = ((i % 8 : Nat) : Int) := rfl
  have e3 : wrapF .i64 (8 * ((i % 8 : Nat) : Int)) = ((8 * (i % 8) : Nat) : Int) := by rw [wrap_i64 (by omega) (by omega)]; omega
  have e4 := w1 (i := i) (by omega)
  have i1 := a87.ix (p := p) (j := i / 8) (by omega)
  have i2 := a46.ix (p := q) (j := i) hi
  have c1 := cellK hp (j := i / 8) (by omega)
  have s1 := shrN (x := w (i / 8)) (n := 8 * (i % 8)) (by omega)
  have st := a46.storeE (x := w (i / 8) / 2 ^ (8 * (i % 8)) % 256) hq hi
  generalize w (i / 8) / 2 ^ (8 * (i % 8)) = Q at *
  generalize w (i / 8) = W at *
  simp only [lpby_0_eq, eby_0, eby_1, eby_2, eby_3, eby_4, eby_5, eby_6, eby_7, eby_8, lby_0, lby_1, lby_2, lby_3, lby_4, lby_5, lby_6, lby_7, lby_8, agd_none, gdAt, gdV_bool, gdV_undef, Tryd.f57, List.append_eq, List.cons_append, List.nil_append, apure_call1, apure_call2, apure_call3, bft, btf, acodeN, List.getElem?_toArray, List.getElem?_cons_zero, List.getElem?_cons_succ, aopsN, adrawT, cls, astep, aop, afloat, ev, nth_lst, get_lst, aput, setAt_lst, upd_at, init_zero, init_succ, init_nil, Nat.reduceLT, Nat.reduceEqDiff, reduceIte, abuiltin, alen, Option.map_some, Option.map_none, orElse_some, apure_add, apure_eqlV, eqlVal_str, eqlVal_bool, eqlVal_ptr, eqlVal_slice, eqlVal_wide, eqlVal_int, allT, ↓aop_eqlV, apure_neq, List.map_cons, List.map_nil, List.all_cons, List.all_nil, lit2, lit1, lit0, List.isEmpty_nil, Bool.and_self, Bool.and_true, Bool.true_and, Bool.false_and, Bool.and_false, Bool.not_true, Bool.not_false, Bool.or_true, Bool.true_or, Bool.false_or, Bool.or_false, Bool.false_eq_true, if_true, if_false, List.length_map, beq_self_eq_true, und3, und4, und5, und9, h3, h4, h15, lss64, hlt, quo8, e1, i1, a87.loadE, c1, rem8, e2, mul8c, e3, s1, conv22_5b, i2, st, add64', e4]
  exact ⟨_, rfl, by simp only [upd_at, Nat.reduceEqDiff, reduceIte], by simp only [upd_at, Nat.reduceEqDiff, reduceIte, h3], by simp only [upd_at, Nat.reduceEqDiff, reduceIte, h4], by simp only [upd_at, Nat.reduceEqDiff, reduceIte]⟩

theorem lastBy (h15 : F 15 = .int .i64 (i : Nat)) (hi : 32 ≤ i) : ∃ F', acodeN E self nf lpby_0 (lst F 31) M = some (.exit 0, lst F' 31, M) ∧ F' 2 = F 2 ∧ F' 4 = F 4 := by
  have hlt : decide (((i : Nat) : Int) < 32) = false := decide_eq_false (by omega)
  simp only [lpby_0_eq, eby_0, eby_1, eby_2, eby_3, eby_4, eby_5, eby_6, eby_7, eby_8, lby_0, lby_1, lby_2, lby_3, lby_4, lby_5, lby_6, lby_7, lby_8, agd_none, gdAt, gdV_bool, gdV_undef, Tryd.f57, List.append_eq, List.cons_append, List.nil_append, apure_call1, apure_call2, apure_call3, bft, btf, acodeN, List.getElem?_toArray, List.getElem?_cons_zero, List.getElem?_cons_succ, aopsN, adrawT, cls, astep, aop, afloat, ev, nth_lst, get_lst, aput, setAt_lst, upd_at, init_zero, init_succ, init_nil, Nat.reduceLT, Nat.reduceEqDiff, reduceIte, abuiltin, alen, Option.map_some, Option.map_none, orElse_some, apure_add, apure_eqlV, eqlVal_str, eqlVal_bool, eqlVal_ptr, eqlVal_slice, eqlVal_wide, eqlVal_int, allT, ↓aop_eqlV, apure_neq, List.map_cons, List.map_nil, List.all_cons, List.all_nil, lit2, lit1, lit0, List.isEmpty_nil, Bool.and_self, Bool.and_true, Bool.true_and, Bool.false_and, Bool.and_false, Bool.not_true, Bool.not_false, Bool.or_true, Bool.true_or, Bool.false_or, Bool.or_false, Bool.false_eq_true, if_true, if_false, List.length_map, beq_self_eq_true, und3, und4, und5, und9, h15, lss64, hlt]
  exact ⟨_, rfl, by simp only [upd_at, Nat.reduceEqDiff, reduceIte], by simp only [upd_at, Nat.reduceEqDiff, reduceIte]⟩

theorem loopBy (h3 : F 3 = .pointer (some ⟨p, 0, none⟩)) (h4 : F 4 = .pointer (some ⟨q, 0, none⟩)) (h15 : F 15 = .int .i64 0) (hpq : p ≠ q)
    (hp : M[p]? = some (.row false 99 (rowK .u64 4 w))) (hq : M[q]? = some (.row false 56 (rowK .u8 32 fun _ => 0))) (hf : 40 < nf) :
    ∃ F' M', aloop (acodeN E self nf lpby_0) nf (lst F 31) M = some (.exit 0, lst F' 31, M') ∧ F' 2 = F 2 ∧ F' 4 = F 4 ∧ M'[q]? = some (.row false 56 (rowK .u8 32 fun i => w (i / 8) / 2 ^ (8 * (i % 8)) % 256)) ∧ (∀ b, b ≠ q → M'[b]? = M[b]?) := by
  have hloop := aloop_inv (body := acodeN E self nf lpby_0) (N := 32)
    (I := fun i T m' => m'[q]? = some (.row false 56 (rowK .u8 32 fun j => if j < i then w (j / 8) / 2 ^ (8 * (j % 8)) % 256 else 0)) ∧ (∀ b, b ≠ q → m'[b]? = M[b]?) ∧ ∃ G, T = lst G 31 ∧ G 2 = F 2 ∧ G 3 = F 3 ∧ G 4 = F 4 ∧ G 15 = .int .i64 (i : Nat))
    (Q := fun e T m' => e = .exit 0 ∧ m'[q]? = some (.row false 56 (rowK .u8 32 fun i => w (i / 8) / 2 ^ (8 * (i % 8)) % 256)) ∧ (∀ b, b ≠ q → m'[b]? = M[b]?) ∧ ∃ G, T = lst G 31 ∧ G 2 = F 2 ∧ G 4 = F 4) (fun i T m' hi hI => by
      obtain ⟨gq, ho, G, rfl, g2, g3, g4, g15⟩ := hI
      by_cases hlt : i < 32
      · left
        obtain ⟨F', hr, f2, f3, f4, f15⟩ := iterBy (self := self) (nf := nf) (w := w) (g3.trans h3) (g4.trans h4) g15 hlt (by rw [ho p hpq]; exact hp) gq
        refine ⟨_, _, hr, hlt, ?_, fun b hb => by rw [List.getElem?_set_ne (fun e => hb e.symm), ho b hb], F', rfl, f2.trans g2, f3.trans g3, f4.trans g4, f15⟩
        rw [List.getElem?_set_self (lt_of_at gq)]
        refine congrArg (fun l => some (Blk.row false 56 l)) (rowK_ext fun j _ => ?_)
        by_cases hj : j = i
        · subst hj
          rw [if_pos rfl, if_pos (by omega)]
        · rw [if_neg hj]
          by_cases hj2 : j < i
          · rw [if_pos hj2, if_pos (by omega)]
          · rw [if_neg hj2, if_neg (by omega)]
      · right
        obtain ⟨F', hr, f2, f4⟩ := lastBy (self := self) (nf := nf) (M := m') g15 (by omega)
        refine ⟨_, _, _, hr, by simp, rfl, ?_, ho, F', rfl, f2.trans g2, f4.trans g4⟩
        rw [gq]
        exact congrArg (fun l => some (Blk.row false 56 l)) (rowK_ext fun j hj => by rw [if_pos (by omega)]))
  obtain ⟨e, T', M', hr, rfl, gq, ho, G, rfl, g2, g4⟩ := hloop 32 0 nf (lst F 31) M (by omega) (by omega) ⟨by rw [hq]; exact congrArg (fun l => some (Blk.row false 56 l)) (rowK_ext fun j _ => by rw [if_neg (by omega)]), fun _ _ => rfl, F, rfl, rfl, rfl, rfl, h15⟩
  exact ⟨G, M', hr, g2, g4, gq, ho⟩

theorem by_body (hf : 40 < nf) : ∃ m', abody E self nf 57 [el X] m = some (arrK .u8 32 (byteX X), m') := by
  rw [abody_eqF (by kernel_rfl) Tryd.func57 bodyby (by kernel_rfl) (Nat.le_of_ble_eq_true rfl)]
  rw [show Tryd.f57.ntmps = 31 from rfl]
  have b1 := box48 (wd 0 X) (wd 1 X) (wd 2 X) (wd 3 X) m
  generalize hA : m ++ [Blk.row false 58 (c4 (wd 0 X) (wd 1 X) (wd 2 X) (wd 3 X))] = A at b1
  have lA : A.length = m.length + 1 := by rw [← hA]; simp
  have b2 := alloc46 A
  rw [lA] at b2
  generalize hB : A ++ [Blk.row false 56 (rowK .u8 32 fun _ => 0)] = B at b2
  have lB : B.length = m.length + 2 := by rw [← hB]; simp [lA]
  have gx : B[m.length]? = some (.row false 58 (c4 (wd 0 X) (wd 1 X) (wd 2 X) (wd 3 X))) := by
    rw [← hB, List.getElem?_append_left (by omega), ← hA]; simp
  have gr0 : B[m.length + 1]? = some (.row false 56 (rowK .u8 32 fun _ => 0)) := by
    rw [← hB, List.getElem?_append_right (by omega), lA]; simp
  obtain ⟨x0, x1, x2, x3⟩ := cell4 gx
  have b3 := alloc87 B
  rw [lB] at b3
  generalize hC : B ++ [Blk.row false 99 (rowK .u64 4 fun _ => 0)] = C at b3
  have lC : C.length = m.length + 3 := by rw [← hC]; simp [lB]
  have gc : C[m.length + 2]? = some (.row false 99 (rowK .u64 4 fun _ => 0)) := by
    rw [← hC, List.getElem?_append_right (by omega), lB]; simp
  have gr1 : C[m.length + 1]? = some (.row false 56 (rowK .u8 32 fun _ => 0)) := by
    rw [← hC, List.getElem?_append_left (by omega)]; exact gr0
  have st1 : astore E.P 99 (.pointer (some ⟨m.length + 2, 0, none⟩)) (st4 (wd 0 X) (wd 1 X) (wd 2 X) (wd 3 X)) C = some (C.set (m.length + 2) (.row false 99 (rowK .u64 4 fun j => wd j X))) := a87.store (w := fun j => wd j X) (by omega) gc (rowK_length _ _ _)
  obtain ⟨D, hD⟩ : ∃ D, D = C.set (m.length + 2) (.row false 99 (rowK .u64 4 fun j => wd j X)) := ⟨_, rfl⟩
  rw [← hD] at st1
  have lD : D.length = m.length + 3 := by rw [hD]; simp [lC]
  have b4 := alloc46 D
  rw [lD] at b4
  generalize hN : D ++ [Blk.row false 56 (rowK .u8 32 fun _ => 0)] = N at b4
  have gp : N[m.length + 2]? = some (.row false 99 (rowK .u64 4 fun j => wd j X)) := by
    rw [← hN, List.getElem?_append_left (by omega), hD, List.getElem?_set_self (by omega)]
  have gq : N[m.length + 3]? = some (.row false 56 (rowK .u8 32 fun _ => 0)) := by
    rw [← hN, List.getElem?_append_right (by omega), lD]; simp
  have gr : N[m.length + 1]? = some (.row false 56 (rowK .u8 32 fun _ => 0)) := by
    rw [← hN, List.getElem?_append_left (by omega), hD, List.getElem?_set_ne (by omega)]; exact gr1
  obtain ⟨G, M1, hl, g2, g4, kq, ko⟩ := loopBy (self := self) (nf := nf) (M := N) (p := m.length + 2) (q := m.length + 3) (w := fun j => wd j X) (F := upd (upd (upd (upd (upd (upd (upd (upd (upd (upd (upd (upd (upd (upd (init [el X]) 1 (.pointer (some ⟨m.length, 0, none⟩))) 2 (.pointer (some ⟨m.length + 1, 0, none⟩))) 6 (.pointer (some ⟨m.length, 0, none⟩))) 7 (.int .u64 (wd 0 X : Nat))) 8 (.pointer (some ⟨m.length, 1, none⟩))) 9 (.int .u64 (wd 1 X : Nat))) 10 (.pointer (some ⟨m.length, 2, none⟩))) 11 (.int .u64 (wd 2 X : Nat))) 12 (.pointer (some ⟨m.length, 3, none⟩))) 13 (.int .u64 (wd 3 X : Nat))) 14 (st4 (wd 0 X) (wd 1 X) (wd 2 X) (wd 3 X))) 3 (.pointer (some ⟨m.length + 2, 0, none⟩))) 4 (.pointer (some ⟨m.length + 3, 0, none⟩))) 15 (.int .i64 0)) rfl rfl rfl (by omega) gp gq hf
  have g2' : G 2 = .pointer (some ⟨m.length + 1, 0, none⟩) := g2
  have g4' : G 4 = .pointer (some ⟨m.length + 3, 0, none⟩) := g4
  have kq' : M1[m.length + 3]? = some (.row false 56 (rowK .u8 32 (byteX X))) := kq
  have kr : M1[m.length + 1]? = some (.row false 56 (rowK .u8 32 fun _ => 0)) := by rw [ko _ (by omega)]; exact gr
  have ld1 := a46.load kq'
  have st2 := a46.store (w := byteX X) (by omega) kr (rowK_length _ _ _)
  have ld2 : aload E.P 56 (.pointer (some ⟨m.length + 1, 0, none⟩)) (M1.set (m.length + 1) (.row false 56 (rowK .u8 32 (byteX X)))) = some (arrK .u8 32 (byteX X)) := a46.load (by rw [List.getElem?_set_self (lt_of_at kr)])
  generalize byteX X = R at *
  rw [el_st] at hl ⊢
  clear kq kq' kr ko gr gp gq hN hD hC hB hA gr0 gr1 gc gx
  generalize wd 0 X = X0 at *
  generalize wd 1 X = X1 at *
  generalize wd 2 X = X2 at *
  generalize wd 3 X = X3 at *
  simp only [eby_0, eby_1, eby_2, eby_3, eby_4, eby_5, eby_6, eby_7, eby_8, lby_0, lby_1, lby_2, lby_3, lby_4, lby_5, lby_6, lby_7, lby_8, agd_none, gdAt, gdV_bool, gdV_undef, Tryd.f57, List.append_eq, List.cons_append, List.nil_append, apure_call1, apure_call2, apure_call3, bft, btf, acodeN, List.getElem?_toArray, List.getElem?_cons_zero, List.getElem?_cons_succ, aopsN, adrawT, cls, astep, aop, afloat, ev, nth_lst, get_lst, aput, setAt_lst, upd_at, init_zero, init_succ, init_nil, Nat.reduceLT, Nat.reduceEqDiff, reduceIte, abuiltin, alen, Option.map_some, Option.map_none, orElse_some, apure_add, apure_eqlV, eqlVal_str, eqlVal_bool, eqlVal_ptr, eqlVal_slice, eqlVal_wide, eqlVal_int, allT, ↓aop_eqlV, apure_neq, List.map_cons, List.map_nil, List.all_cons, List.all_nil, lit2, lit1, lit0, List.isEmpty_nil, Bool.and_self, Bool.and_true, Bool.true_and, Bool.false_and, Bool.and_false, Bool.not_true, Bool.not_false, Bool.or_true, Bool.true_or, Bool.false_or, Bool.or_false, Bool.false_eq_true, if_true, if_false, List.length_map, beq_self_eq_true, und3, und4, und5, und9, b1, b2, fa48_0, fa48_1, fa48_2, fa48_3, load22, x0, x1, x2, x3, apure_build4, build87, b3, st1, b4, hl, g2', g4', ld1, st2, ld2, finish, ares, aresL, ares1]
  exact ⟨_, rfl⟩
end
end Go.Am.Seat
