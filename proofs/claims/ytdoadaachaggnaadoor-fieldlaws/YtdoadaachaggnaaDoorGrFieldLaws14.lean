/-
  Texts of my own, put together: E8, E9, E10, E11.
-/
import Derived.Test.YtdoadaachaggnaaDoorGrFieldLaws13
/-
  Neg, Zero, Same, Abs, Sub on the abstract machine (own work).
-/
set_option linter.unusedSimpArgs false
set_option linter.unusedVariables false
namespace Go.Am.Seat
open Go.Proofs Go.Am Go.Am.Num
set_option maxRecDepth 100000
set_option maxHeartbeats 4000000

/-- A call's answer where the table of p is laid. -/
def AnsT (self : Self) (f : FuncId) (args : List Value) (v : Value) : Prop := ∀ M : Mem, TabP M → ainv E self f args M = some (v, M)
theorem Ans.t {self : Self} {f : FuncId} {args : List Value} {v : Value} (h : Ans self f args v) : AnsT self f args v := fun M _ => h M
theorem TabP.app {m x : Mem} (h : TabP m) : TabP (m ++ x) := by
  unfold TabP at *
  rw [List.getElem?_append_left (List.getElem?_eq_some_iff.1 h).1]
  exact h
theorem TabP.sealed {m : Mem} (h : TabP m) : TabP (m.map sealed) := by
  unfold TabP at *
  rw [List.getElem?_map, h]
  rfl
theorem TabP.set {m : Mem} (h : TabP m) {k : Nat} (hk : k ≠ 0) (b : Blk) : TabP (m.set k b) := by
  unfold TabP at *
  rw [List.getElem?_set_ne hk]
  exact h
theorem TabP.only {m : Mem} (h : TabP m) : TabP ((m.take E.G).map onlyTab) := by
  unfold TabP at *
  have hG : E.G = 8 := rfl
  rw [List.getElem?_map, List.getElem?_take_of_lt (by rw [hG]; decide), h]
  rfl
theorem ans_ofT {self : Self} {f : FuncId} {args : List Value} {v : Value} (ha : args.all lit2 = true) (hf : E.fast f = none) (hv : lit2 v = true) (h : ∀ m, TabP m → ∃ m', self f args m = some (v, m')) : AnsT self f args v := by
  intro M hM
  obtain ⟨m', h'⟩ := h ((M.take E.G).map onlyTab) hM.only
  exact ainv_lit ha hf h' hv

theorem sub64C (x y c : Nat) (m : Mem) : aext .sub64 [.int .u64 (x : Nat), .int .u64 (y : Nat), .int .u64 (c : Nat)] m = if c ≤ 1 then some (pair64 ((x + 18446744073709551616 - y - c) % 18446744073709551616) (if x < y + c then 1 else 0), m) else none := by
  simp only [aext, Int.toNat_natCast]
theorem sub64O (x y : Nat) (m : Mem) : aext .sub64 [.int .u64 (x : Nat), .int .u64 (y : Nat), .int .u64 0] m = some (pair64 ((x + 18446744073709551616 - y) % 18446744073709551616) (if x < y then 1 else 0), m) := by
  rw [show (0 : Int) = ((0 : Nat) : Int) from rfl, sub64C, if_pos (by decide)]
  rfl
theorem subN {x y : Nat} (h : y ≤ x) (hx : x < 18446744073709551616) : abin .sub .u64 ((x : Nat) : Int) .u64 ((y : Nat) : Int) = some (.int .u64 ((x - y : Nat) : Int)) := by
  rw [subU, ← Int.natCast_sub h, wrapU, Nat.mod_eq_of_lt (by omega)]

theorem ite_le (p : Prop) [Decidable p] : (if p then 1 else 0) ≤ 1 := by split <;> omega

theorem neg_ok {X : Nat} (hX : X ≤ P25519) {b1 b2 b3 : Nat} (h1 : b1 = if 18446744073709551597 < wd 0 X then 1 else 0) (h2 : b2 = if 18446744073709551615 < wd 1 X + b1 then 1 else 0) (h3 : b3 = if 18446744073709551615 < wd 2 X + b2 then 1 else 0) :
    (18446744073709551597 + 18446744073709551616 - wd 0 X) % 18446744073709551616 = wd 0 (P25519 - X) ∧ (18446744073709551615 + 18446744073709551616 - wd 1 X - b1) % 18446744073709551616 = wd 1 (P25519 - X) ∧
    (18446744073709551615 + 18446744073709551616 - wd 2 X - b2) % 18446744073709551616 = wd 2 (P25519 - X) ∧ wd 3 X ≤ 9223372036854775807 ∧ b3 ≤ 9223372036854775807 - wd 3 X ∧ 9223372036854775807 - wd 3 X - b3 = wd 3 (P25519 - X) := by
  have hXb : X < 115792089237316195423570985008687907853269984665640564039457584007913129639936 := by have := p_lt; omega
  have hv := v4_wd hXb
  have l0 := wd_lt 0 X
  have l1 := wd_lt 1 X
  have l2 := wd_lt 2 X
  have l3 := wd_lt 3 X
  unfold v4 at hv
  generalize wd 0 X = x0 at *
  generalize wd 1 X = x1 at *
  generalize wd 2 X = x2 at *
  generalize wd 3 X = x3 at *
  subst hv
  have hP : P25519 = 57896044618658097711785492504343953926634992332820282019728792003956564819949 := rfl
  rw [hP] at hX ⊢
  have hb1 : b1 ≤ 1 := by rw [h1]; exact ite_le _
  have hb2 : b2 ≤ 1 := by rw [h2]; exact ite_le _
  have hb3 : b3 ≤ 1 := by rw [h3]; exact ite_le _
  have z2 : b1 = 0 → b2 = 0 := fun h => by rw [h2, h, if_neg (by omega)]
  have z2' : b2 = 1 → b1 = 1 ∧ x1 = 18446744073709551615 := fun h => by
    rw [h2] at h
    split at h
    · omega
    · omega
  have z2'' : b2 = 0 → x1 + b1 ≤ 18446744073709551615 := fun h => by
    rw [h2] at h
    split at h
    · omega
    · omega
  have z3' : b3 = 1 → 18446744073709551615 < x2 + b2 := fun h => by
    rw [h3] at h
    split at h
    · assumption
    · omega
  have z3'' : b3 = 0 → x2 + b2 ≤ 18446744073709551615 := fun h => by
    rw [h3] at h
    split at h
    · omega
    · omega
  have z1' : b1 = 1 → 18446744073709551597 < x0 := fun h => by
    rw [h1] at h
    split at h
    · assumption
    · omega
  have z1'' : b1 = 0 → x0 ≤ 18446744073709551597 := fun h => by
    rw [h1] at h
    split at h
    · omega
    · omega
  clear h1 h2 h3
  have hx3 : x3 ≤ 9223372036854775807 := by omega
  have hb : b3 ≤ 9223372036854775807 - x3 := by omega
  -- the words of the difference
  have e0 : ∃ r0, (18446744073709551597 + 18446744073709551616 - x0) % 18446744073709551616 = r0 ∧ r0 + x0 = 18446744073709551597 + b1 * 18446744073709551616 ∧ r0 < 18446744073709551616 := ⟨_, rfl, by omega, by omega⟩
  have e1 : ∃ r1, (18446744073709551615 + 18446744073709551616 - x1 - b1) % 18446744073709551616 = r1 ∧ r1 + x1 + b1 = 18446744073709551615 + b2 * 18446744073709551616 ∧ r1 < 18446744073709551616 := ⟨_, rfl, by omega, by omega⟩
  have e2 : ∃ r2, (18446744073709551615 + 18446744073709551616 - x2 - b2) % 18446744073709551616 = r2 ∧ r2 + x2 + b2 = 18446744073709551615 + b3 * 18446744073709551616 ∧ r2 < 18446744073709551616 := ⟨_, rfl, by omega, by omega⟩
  obtain ⟨r0, q0, t0, u0⟩ := e0
  obtain ⟨r1, q1, t1, u1⟩ := e1
  obtain ⟨r2, q2, t2, u2⟩ := e2
  rw [q0, q1, q2]
  clear q0 q1 q2
  obtain ⟨r3, hr3⟩ : ∃ r3, r3 = 9223372036854775807 - x3 - b3 := ⟨_, rfl⟩
  have hu3 : r3 < 18446744073709551616 := by omega
  have hdiff : 57896044618658097711785492504343953926634992332820282019728792003956564819949 - (x0 + x1 * 18446744073709551616 + x2 * 340282366920938463463374607431768211456 + x3 * 6277101735386680763835789423207666416102355444464034512896) = v4 r0 r1 r2 r3 := by
    unfold v4
    omega
  rw [hdiff, ← hr3]
  obtain ⟨k0, k1, k2, k3⟩ := wd_v4 u0 u1 u2 hu3
  exact ⟨k0.symm, k1.symm, k2.symm, hx3, hb, k3.symm⟩

section
variable {self : Self} {nf : Nat} {m : Mem} {X Y : Nat}
theorem ng_body (hX : X ≤ P25519) (hse : SettleOk self) (hT : TabP m) :
    ∃ m', abody E self nf 38 [el X] m = some (el ((P25519 - X) % P25519), m') := by
  rw [abody_eqF (by kernel_rfl) Tryd.func38 bodyng (by kernel_rfl) (Nat.le_of_ble_eq_true rfl)]
  rw [show Tryd.f38.ntmps = 44 from rfl]
  have hp := p_lt
  have b1 := box48 (wd 0 X) (wd 1 X) (wd 2 X) (wd 3 X) m
  have tA : TabP (m ++ [Blk.row false 48 (c4 (wd 0 X) (wd 1 X) (wd 2 X) (wd 3 X))]) := hT.app
  generalize hA : m ++ [Blk.row false 48 (c4 (wd 0 X) (wd 1 X) (wd 2 X) (wd 3 X))] = A at b1 tA
  have lA : A.length = m.length + 1 := by rw [← hA]; simp
  have b3 := alloc48 A
  rw [lA] at b3
  have tC : TabP (A ++ [Blk.row false 48 (c4 0 0 0 0)]) := tA.app
  generalize hC : A ++ [Blk.row false 48 (c4 0 0 0 0)] = C at b3 tC
  have gx : C[m.length]? = some (.row false 48 (c4 (wd 0 X) (wd 1 X) (wd 2 X) (wd 3 X))) := by
    rw [← hC, List.getElem?_append_left (by omega), ← hA]; simp
  have gr : C[m.length + 1]? = some (.row false 48 (c4 0 0 0 0)) := by
    rw [← hC, List.getElem?_append_right (by omega), lA]; simp
  obtain ⟨x0, x1, x2, x3⟩ := cell4 gx
  have i0 := ix24 (p := 0) (k := 0) (by omega)
  have i1 := ix24 (p := 0) (k := 1) (by omega)
  have i2 := ix24 (p := 0) (k := 2) (by omega)
  have i3 := ix24 (p := 0) (k := 3) (by omega)
  simp only [Int.cast_ofNat_Int, Int.natCast_zero, Int.natCast_one] at i0 i1 i2 i3
  have hlk : look C 0 = some (true, 24, int64s primeW) := by unfold look; rw [tC]; rfl
  have t0 : cellAt C 0 0 = some (.int .u64 ((18446744073709551597 : Nat) : Int)) := by unfold cellAt; rw [hlk]; rfl
  have t1 : cellAt C 0 1 = some (.int .u64 ((18446744073709551615 : Nat) : Int)) := by unfold cellAt; rw [hlk]; rfl
  have t2 : cellAt C 0 2 = some (.int .u64 ((18446744073709551615 : Nat) : Int)) := by unfold cellAt; rw [hlk]; rfl
  have t3 : cellAt C 0 3 = some (.int .u64 ((9223372036854775807 : Nat) : Int)) := by unfold cellAt; rw [hlk]; rfl
  obtain ⟨c1, hc1⟩ : ∃ c1, c1 = if 18446744073709551597 < wd 0 X then 1 else 0 := ⟨_, rfl⟩
  obtain ⟨c2, hc2⟩ : ∃ c2, c2 = if 18446744073709551615 < wd 1 X + c1 then 1 else 0 := ⟨_, rfl⟩
  obtain ⟨c3, hc3⟩ : ∃ c3, c3 = if 18446744073709551615 < wd 2 X + c2 then 1 else 0 := ⟨_, rfl⟩
  obtain ⟨a0, a1, a2, a3, a4, a5⟩ := neg_ok hX hc1 hc2 hc3
  have l1 : c1 ≤ 1 := by rw [hc1]; exact ite_le _
  have l2 : c2 ≤ 1 := by rw [hc2]; exact ite_le _
  have s1 := subN (x := 9223372036854775807) (y := wd 3 X) a3 (by decide)
  have s2 := subN (x := 9223372036854775807 - wd 3 X) (y := c3) a4 (by omega)
  have cs := hse (wd 0 (P25519 - X)) (wd 1 (P25519 - X)) (wd 2 (P25519 - X)) (wd 3 (P25519 - X)) 0 (wd_lt _ _) (wd_lt _ _) (wd_lt _ _) (wd_lt _ _) (by decide)
  rw [v4_wd (by omega), Nat.zero_mul, Nat.add_zero, ← a0, ← a1, ← a2, ← a5, show (((0 : Nat)) : Int) = 0 from rfl] at cs
  clear a0 a1 a2 a5
  obtain ⟨R, hR⟩ : ∃ R, R = (P25519 - X) % P25519 := ⟨_, rfl⟩
  rw [← hR] at cs ⊢
  have st2 := store48 (a := wd 0 R) (b := wd 1 R) (c := wd 2 R) (d := wd 3 R) gr rfl
  have ld2 := load48 (m := C.set (m.length + 1) (.row false 48 (c4 (wd 0 R) (wd 1 R) (wd 2 R) (wd 3 R)))) (p := m.length + 1) (a := wd 0 R) (b := wd 1 R) (c := wd 2 R) (d := wd 3 R) (by rw [List.getElem?_set_self (lt_of_at gr)])
  unfold Ans at cs
  rw [el_st X, el_st R]
  rw [el_st R] at cs
  have o1 := fun M => sub64O 18446744073709551597 (wd 0 X) M
  have o2 := fun M => sub64C 18446744073709551615 (wd 1 X) c1 M
  have o3 := fun M => sub64C 18446744073709551615 (wd 2 X) c2 M
  rw [← hc1] at o1
  rw [← hc2] at o2
  rw [← hc3] at o3
  clear hR hse hC hA gx gr hc1 hc2 hc3 hX
  generalize wd 0 R = R0 at *
  generalize wd 1 R = R1 at *
  generalize wd 2 R = R2 at *
  generalize wd 3 R = R3 at *
  generalize wd 0 X = X0 at *
  generalize wd 1 X = X1 at *
  generalize wd 2 X = X2 at *
  generalize wd 3 X = X3 at *
  simp only [eng_0, eng_1, eng_2, eng_3, eng_4, lng_0, lng_1, lng_2, lng_3, lng_4, agd_none, gdAt, gdV_bool, gdV_undef, Tryd.f38, List.append_eq, List.cons_append, List.nil_append, apure_call1, apure_call2, apure_call3, bft, btf, acodeN, List.getElem?_toArray, List.getElem?_cons_zero, List.getElem?_cons_succ, aopsN, adrawT, cls, astep, aop, afloat, ev, nth_lst, get_lst, aput, setAt_lst, upd_at, init_zero, init_succ, init_nil, Nat.reduceLT, Nat.reduceEqDiff, reduceIte, abuiltin, alen, Option.map_some, Option.map_none, orElse_some, apure_add, apure_eqlV, eqlVal_str, eqlVal_bool, eqlVal_ptr, eqlVal_slice, eqlVal_wide, eqlVal_int, allT, ↓aop_eqlV, apure_neq, List.map_cons, List.map_nil, List.all_cons, List.all_nil, lit2, lit1, lit0, List.isEmpty_nil, Bool.and_self, Bool.and_true, Bool.true_and, Bool.false_and, Bool.and_false, Bool.not_true, Bool.not_false, Bool.or_true, Bool.true_or, Bool.false_or, Bool.or_false, Bool.false_eq_true, if_true, if_false, List.length_map, beq_self_eq_true, und3, und4, und5, und9, b1, b3, fa48_0, fa48_1, fa48_2, fa48_3, load22, x0, x1, x2, x3, i0, i1, i2, i3, t0, t1, t2, t3, callSub, extSub, o1, o2, o3, l1, l2, ex0, ex1, s1, s2, callSe, cs, st2, ld2, finish, ares, aresL, ares1]
  exact ⟨_, rfl⟩

theorem ze_body (hX : X < 115792089237316195423570985008687907853269984665640564039457584007913129639936) : ∃ m', abody E self nf 43 [el X] m = some (.bool (decide (X = 0)), m') := by
  rw [abody_eqF (by kernel_rfl) Tryd.func43 bodyze (by kernel_rfl) (Nat.le_of_ble_eq_true rfl)]
  rw [show Tryd.f43.ntmps = 6 from rfl]
  have b1 := box48 (wd 0 X) (wd 1 X) (wd 2 X) (wd 3 X) m
  have gx : (m ++ [Blk.row false 48 (c4 (wd 0 X) (wd 1 X) (wd 2 X) (wd 3 X))])[m.length]? = some (.row false 48 (c4 (wd 0 X) (wd 1 X) (wd 2 X) (wd 3 X))) := by simp
  generalize hA : m ++ [Blk.row false 48 (c4 (wd 0 X) (wd 1 X) (wd 2 X) (wd 3 X))] = A at b1 gx
  have lx := load48 gx
  rw [← el_st] at b1 lx
  have bz : ∀ (T : List Value) (pos : String) (af : Array Edge) (g : Option (Nat × Bool)) (d : Option Tmp), apure E.P T { dst := d, op := .build 48 #[], type := 48, pos := pos, after := af, guard := g } = some (el 0) := fun _ _ _ _ _ => by kernel_rfl
  have hq := fun x y => eql48 (x := x) (y := y) hX (show (0 : Nat) < 115792089237316195423570985008687907853269984665640564039457584007913129639936 by decide)
  simp only [eze_0, eze_1, lze_0, lze_1, agd_none, gdAt, gdV_bool, gdV_undef, Tryd.f43, List.append_eq, List.cons_append, List.nil_append, apure_call1, apure_call2, apure_call3, bft, btf, acodeN, List.getElem?_toArray, List.getElem?_cons_zero, List.getElem?_cons_succ, aopsN, adrawT, cls, astep, aop, afloat, ev, nth_lst, get_lst, aput, setAt_lst, upd_at, init_zero, init_succ, init_nil, Nat.reduceLT, Nat.reduceEqDiff, reduceIte, abuiltin, alen, Option.map_some, Option.map_none, orElse_some, apure_add, apure_eqlV, eqlVal_str, eqlVal_bool, eqlVal_ptr, eqlVal_slice, eqlVal_wide, eqlVal_int, allT, ↓aop_eqlV, apure_neq, List.map_cons, List.map_nil, List.all_cons, List.all_nil, lit2, lit1, lit0, List.isEmpty_nil, Bool.and_self, Bool.and_true, Bool.true_and, Bool.false_and, Bool.and_false, Bool.not_true, Bool.not_false, Bool.or_true, Bool.true_or, Bool.false_or, Bool.or_false, Bool.false_eq_true, if_true, if_false, List.length_map, beq_self_eq_true, und3, und4, und5, und9, b1, lx, bz, hq, finish, ares, aresL, ares1]
  exact ⟨_, rfl⟩

theorem sm_body (hX : X < 115792089237316195423570985008687907853269984665640564039457584007913129639936) (hY : Y < 115792089237316195423570985008687907853269984665640564039457584007913129639936) : ∃ m', abody E self nf 44 [el X, el Y] m = some (.bool (decide (X = Y)), m') := by
  rw [abody_eqF (by kernel_rfl) Tryd.func44 bodysm (by kernel_rfl) (Nat.le_of_ble_eq_true rfl)]
  rw [show Tryd.f44.ntmps = 8 from rfl]
  have b1 := box48 (wd 0 X) (wd 1 X) (wd 2 X) (wd 3 X) m
  generalize hA : m ++ [Blk.row false 48 (c4 (wd 0 X) (wd 1 X) (wd 2 X) (wd 3 X))] = A at b1
  have lA : A.length = m.length + 1 := by rw [← hA]; simp
  have b2 := box48 (wd 0 Y) (wd 1 Y) (wd 2 Y) (wd 3 Y) A
  rw [lA] at b2
  generalize hB : A ++ [Blk.row false 48 (c4 (wd 0 Y) (wd 1 Y) (wd 2 Y) (wd 3 Y))] = B at b2
  have gx : B[m.length]? = some (.row false 48 (c4 (wd 0 X) (wd 1 X) (wd 2 X) (wd 3 X))) := by
    rw [← hB, List.getElem?_append_left (by omega), ← hA]; simp
  have gy : B[m.length + 1]? = some (.row false 48 (c4 (wd 0 Y) (wd 1 Y) (wd 2 Y) (wd 3 Y))) := by
    rw [← hB, List.getElem?_append_right (by omega), lA]; simp
  have lx := load48 gx
  have ly := load48 gy
  rw [← el_st] at b1 b2 lx ly
  have hq := fun x y => eql48 (x := x) (y := y) hX hY
  simp only [esm_0, esm_1, lsm_0, lsm_1, agd_none, gdAt, gdV_bool, gdV_undef, Tryd.f44, List.append_eq, List.cons_append, List.nil_append, apure_call1, apure_call2, apure_call3, bft, btf, acodeN, List.getElem?_toArray, List.getElem?_cons_zero, List.getElem?_cons_succ, aopsN, adrawT, cls, astep, aop, afloat, ev, nth_lst, get_lst, aput, setAt_lst, upd_at, init_zero, init_succ, init_nil, Nat.reduceLT, Nat.reduceEqDiff, reduceIte, abuiltin, alen, Option.map_some, Option.map_none, orElse_some, apure_add, apure_eqlV, eqlVal_str, eqlVal_bool, eqlVal_ptr, eqlVal_slice, eqlVal_wide, eqlVal_int, allT, ↓aop_eqlV, apure_neq, List.map_cons, List.map_nil, List.all_cons, List.all_nil, lit2, lit1, lit0, List.isEmpty_nil, Bool.and_self, Bool.and_true, Bool.true_and, Bool.false_and, Bool.and_false, Bool.not_true, Bool.not_false, Bool.or_true, Bool.true_or, Bool.false_or, Bool.or_false, Bool.false_eq_true, if_true, if_false, List.length_map, beq_self_eq_true, und3, und4, und5, und9, b1, b2, lx, ly, hq, finish, ares, aresL, ares1]
  exact ⟨_, rfl⟩

theorem callNeg1 : callableB E.P 41 = true := by kernel_rfl
theorem callNeg : callableB E.P 38 = true := by kernel_rfl
theorem callAddF : callableB E.P 31 = true := by kernel_rfl

/-- What Abs answers. -/
def absF (X : Nat) : Nat := if X % 2 = 1 then (P25519 - X) % P25519 else X

theorem ab_body (hn : Ans self 41 [el X] (.bool (decide (X % 2 = 1)))) (hng : AnsT self 38 [el X] (el ((P25519 - X) % P25519))) (hT : TabP m) :
    ∃ m', abody E self nf 39 [el X] m = some (el (absF X), m') := by
  rw [abody_eqF (by kernel_rfl) Tryd.func39 bodyab (by kernel_rfl) (Nat.le_of_ble_eq_true rfl)]
  rw [show Tryd.f39.ntmps = 8 from rfl]
  have b1 := box48 (wd 0 X) (wd 1 X) (wd 2 X) (wd 3 X) m
  have tA : TabP (m ++ [Blk.row false 48 (c4 (wd 0 X) (wd 1 X) (wd 2 X) (wd 3 X))]) := hT.app
  generalize hA : m ++ [Blk.row false 48 (c4 (wd 0 X) (wd 1 X) (wd 2 X) (wd 3 X))] = A at b1 tA
  have lA : A.length = m.length + 1 := by rw [← hA]; simp
  have b3 := alloc48 A
  rw [lA] at b3
  have tC : TabP (A ++ [Blk.row false 48 (c4 0 0 0 0)]) := tA.app
  generalize hC : A ++ [Blk.row false 48 (c4 0 0 0 0)] = C at b3 tC
  have gx : C[m.length]? = some (.row false 48 (c4 (wd 0 X) (wd 1 X) (wd 2 X) (wd 3 X))) := by
    rw [← hC, List.getElem?_append_left (by omega), ← hA]; simp
  have gr : C[m.length + 1]? = some (.row false 48 (c4 0 0 0 0)) := by
    rw [← hC, List.getElem?_append_right (by omega), lA]; simp
  have lx := load48 gx
  rw [← el_st] at b1 lx
  have st : ∀ Y, astore E.P 48 (.pointer (some ⟨m.length + 1, 0, none⟩)) (el Y) C = some (C.set (m.length + 1) (.row false 48 (c4 (wd 0 Y) (wd 1 Y) (wd 2 Y) (wd 3 Y)))) := fun Y => store48 gr rfl
  have ld : ∀ Y, aload E.P 48 (.pointer (some ⟨m.length + 1, 0, none⟩)) (C.set (m.length + 1) (.row false 48 (c4 (wd 0 Y) (wd 1 Y) (wd 2 Y) (wd 3 Y)))) = some (el Y) := fun Y => load48 (by rw [List.getElem?_set_self (lt_of_at gr)])
  have c1 := hng C tC
  unfold Ans at hn
  unfold absF
  by_cases h : X % 2 = 1
  · rw [decide_eq_true h] at hn
    rw [if_pos h]
    simp only [eab_0, eab_1, eab_2, eab_3, lab_0, lab_1, lab_2, lab_3, agd_none, gdAt, gdV_bool, gdV_undef, Tryd.f39, List.append_eq, List.cons_append, List.nil_append, apure_call1, apure_call2, apure_call3, bft, btf, acodeN, List.getElem?_toArray, List.getElem?_cons_zero, List.getElem?_cons_succ, aopsN, adrawT, cls, astep, aop, afloat, ev, nth_lst, get_lst, aput, setAt_lst, upd_at, init_zero, init_succ, init_nil, Nat.reduceLT, Nat.reduceEqDiff, reduceIte, abuiltin, alen, Option.map_some, Option.map_none, orElse_some, apure_add, apure_eqlV, eqlVal_str, eqlVal_bool, eqlVal_ptr, eqlVal_slice, eqlVal_wide, eqlVal_int, allT, ↓aop_eqlV, apure_neq, List.map_cons, List.map_nil, List.all_cons, List.all_nil, lit2, lit1, lit0, List.isEmpty_nil, Bool.and_self, Bool.and_true, Bool.true_and, Bool.false_and, Bool.and_false, Bool.not_true, Bool.not_false, Bool.or_true, Bool.true_or, Bool.false_or, Bool.or_false, Bool.false_eq_true, if_true, if_false, List.length_map, beq_self_eq_true, und3, und4, und5, und9, b1, b3, lx, callNeg1, hn, callNeg, c1, st, ld, finish, ares, aresL, ares1]
    exact ⟨_, rfl⟩
  · rw [decide_eq_false h] at hn
    rw [if_neg h]
    simp only [eab_0, eab_1, eab_2, eab_3, lab_0, lab_1, lab_2, lab_3, agd_none, gdAt, gdV_bool, gdV_undef, Tryd.f39, List.append_eq, List.cons_append, List.nil_append, apure_call1, apure_call2, apure_call3, bft, btf, acodeN, List.getElem?_toArray, List.getElem?_cons_zero, List.getElem?_cons_succ, aopsN, adrawT, cls, astep, aop, afloat, ev, nth_lst, get_lst, aput, setAt_lst, upd_at, init_zero, init_succ, init_nil, Nat.reduceLT, Nat.reduceEqDiff, reduceIte, abuiltin, alen, Option.map_some, Option.map_none, orElse_some, apure_add, apure_eqlV, eqlVal_str, eqlVal_bool, eqlVal_ptr, eqlVal_slice, eqlVal_wide, eqlVal_int, allT, ↓aop_eqlV, apure_neq, List.map_cons, List.map_nil, List.all_cons, List.all_nil, lit2, lit1, lit0, List.isEmpty_nil, Bool.and_self, Bool.and_true, Bool.true_and, Bool.false_and, Bool.and_false, Bool.not_true, Bool.not_false, Bool.or_true, Bool.true_or, Bool.false_or, Bool.or_false, Bool.false_eq_true, if_true, if_false, List.length_map, beq_self_eq_true, und3, und4, und5, und9, b1, b3, lx, callNeg1, hn, callNeg, c1, st, ld, finish, ares, aresL, ares1]
    exact ⟨_, rfl⟩

theorem wrNeg : E.wr 38 = false := by kernel_rfl
theorem wrAddF : E.wr 31 = false := by kernel_rfl
theorem addr48 : addrT E.P 4 48 = false := by kernel_rfl
theorem sb_body (hng : AnsT self 38 [el Y] (el ((P25519 - Y) % P25519))) {Z : Nat} (had : Ans self 31 [el X, el ((P25519 - Y) % P25519)] (el Z)) (hT : TabP m) :
    ∃ m', abody E self nf 33 [el X, el Y] m = some (el Z, m') := by
  rw [abody_eqF (by kernel_rfl) Tryd.func33 bodysb (by kernel_rfl) (Nat.le_of_ble_eq_true rfl)]
  rw [show Tryd.f33.ntmps = 9 from rfl]
  have b1 := box48 (wd 0 X) (wd 1 X) (wd 2 X) (wd 3 X) m
  have tA : TabP (m ++ [Blk.row false 48 (c4 (wd 0 X) (wd 1 X) (wd 2 X) (wd 3 X))]) := hT.app
  generalize hA : m ++ [Blk.row false 48 (c4 (wd 0 X) (wd 1 X) (wd 2 X) (wd 3 X))] = A at b1 tA
  have lA : A.length = m.length + 1 := by rw [← hA]; simp
  have b2 := box48 (wd 0 Y) (wd 1 Y) (wd 2 Y) (wd 3 Y) A
  rw [lA] at b2
  have tB : TabP (A ++ [Blk.row false 48 (c4 (wd 0 Y) (wd 1 Y) (wd 2 Y) (wd 3 Y))]) := tA.app
  generalize hB : A ++ [Blk.row false 48 (c4 (wd 0 Y) (wd 1 Y) (wd 2 Y) (wd 3 Y))] = B at b2 tB
  have lB : B.length = m.length + 2 := by rw [← hB]; simp [lA]
  have b3 := alloc48 B
  rw [lB] at b3
  have tC : TabP (B ++ [Blk.row false 48 (c4 0 0 0 0)]) := tB.app
  generalize hC : B ++ [Blk.row false 48 (c4 0 0 0 0)] = C at b3 tC
  have gx : C[m.length]? = some (.row false 48 (c4 (wd 0 X) (wd 1 X) (wd 2 X) (wd 3 X))) := by
    rw [← hC, List.getElem?_append_left (by omega), ← hB, List.getElem?_append_left (by omega), ← hA]; simp
  have gy : C[m.length + 1]? = some (.row false 48 (c4 (wd 0 Y) (wd 1 Y) (wd 2 Y) (wd 3 Y))) := by
    rw [← hC, List.getElem?_append_left (by omega), ← hB, List.getElem?_append_right (by omega), lA]; simp
  have gr : C[m.length + 2]? = some (.row false 48 (c4 0 0 0 0)) := by
    rw [← hC, List.getElem?_append_right (by omega), lB]; simp
  have lx : aload E.P 48 (.pointer (some ⟨m.length, 0, none⟩)) (C.map sealed) = some (st4 (wd 0 X) (wd 1 X) (wd 2 X) (wd 3 X)) := load48 (ro := true) (e := 48) (by rw [List.getElem?_map, gx]; rfl)
  have ly : aload E.P 48 (.pointer (some ⟨m.length + 1, 0, none⟩)) (C.map sealed) = some (st4 (wd 0 Y) (wd 1 Y) (wd 2 Y) (wd 3 Y)) := load48 (ro := true) (e := 48) (by rw [List.getElem?_map, gy]; rfl)
  have c1 := hng (C.map sealed) tC.sealed
  have c2 := had (C.map sealed)
  have st := store48 (a := wd 0 Z) (b := wd 1 Z) (c := wd 2 Z) (d := wd 3 Z) gr rfl
  have ld := load48 (m := C.set (m.length + 2) (.row false 48 (c4 (wd 0 Z) (wd 1 Z) (wd 2 Z) (wd 3 Z)))) (p := m.length + 2) (a := wd 0 Z) (b := wd 1 Z) (c := wd 2 Z) (d := wd 3 Z) (by rw [List.getElem?_set_self (lt_of_at gr)])
  rw [← el_st] at b1 b2 lx ly st ld
  simp only [↓dsb_1, ↓ssb_1, esb_0, esb_1, lsb_0, lsb_1, agd_none, gdAt, gdV_bool, gdV_undef, Tryd.f33, List.append_eq, List.cons_append, List.nil_append, apure_call1, apure_call2, apure_call3, bft, btf, acodeN, List.getElem?_toArray, List.getElem?_cons_zero, List.getElem?_cons_succ, aopsN, adrawT, cls, astep, aop, afloat, ev, nth_lst, get_lst, aput, setAt_lst, upd_at, init_zero, init_succ, init_nil, Nat.reduceLT, Nat.reduceEqDiff, reduceIte, abuiltin, alen, Option.map_some, Option.map_none, orElse_some, apure_add, apure_eqlV, eqlVal_str, eqlVal_bool, eqlVal_ptr, eqlVal_slice, eqlVal_wide, eqlVal_int, allT, ↓aop_eqlV, apure_neq, List.map_cons, List.map_nil, List.all_cons, List.all_nil, lit2, lit1, lit0, List.isEmpty_nil, Bool.and_self, Bool.and_true, Bool.true_and, Bool.false_and, Bool.and_false, Bool.not_true, Bool.not_false, Bool.or_true, Bool.true_or, Bool.false_or, Bool.or_false, Bool.false_eq_true, if_true, if_false, List.length_map, beq_self_eq_true, und3, und4, und5, und9, b1, b2, b3, lx, ly, wrNeg, wrAddF, addr48, callNeg, callAddF, c1, c2, st, ld, finish, ares, aresL, ares1]
  exact ⟨_, rfl⟩
end
end Go.Am.Seat

/-
  word, Loose, Bytes, Parse, Of on the abstract machine (own work).
-/
set_option linter.unusedSimpArgs false
set_option linter.unusedVariables false
namespace Go.Am.Seat
open Go.Proofs Go.Am Go.Am.Num
set_option maxRecDepth 100000
set_option maxHeartbeats 4000000

noncomputable def rwo_0 : Array Oper := match Tryd.f70.body with
  | some (.seq (.region _ o _) _) => o
  | _ => #[]
noncomputable def lwo_0 : List Oper := match Tryd.f70.body with
  | some (.seq (.region _ o _) _) => o.toList
  | _ => []
theorem ewo_0 : rwo_0.toList = lwo_0 := rfl
noncomputable def rwo_1 : Array Oper := match Tryd.f70.body with
  | some (.seq _ (.seq (.region _ o _) _)) => o
  | _ => #[]
noncomputable def lwo_1 : List Oper := match Tryd.f70.body with
  | some (.seq _ (.seq (.region _ o _) _)) => o.toList
  | _ => []
theorem ewo_1 : rwo_1.toList = lwo_1 := rfl
noncomputable def rwo_2 : Array Oper := match Tryd.f70.body with
  | some (.seq _ (.seq _ (.seq (.seq (.region _ o _) _) _))) => o
  | _ => #[]
noncomputable def lwo_2 : List Oper := match Tryd.f70.body with
  | some (.seq _ (.seq _ (.seq (.seq (.region _ o _) _) _))) => o.toList
  | _ => []
theorem ewo_2 : rwo_2.toList = lwo_2 := rfl
noncomputable def lpwo_0 : Code := match Tryd.f70.body with
  | some (.seq _ (.seq _ (.seq (.seq _ (.block _ (.loop c))) _))) => c
  | _ => .skip
noncomputable def rwo_3 : Array Oper := match Tryd.f70.body with
  | some (.seq _ (.seq _ (.seq (.seq _ (.block _ (.loop (.seq (.seq (.region _ o _) _) _)))) _))) => o
  | _ => #[]
noncomputable def lwo_3 : List Oper := match Tryd.f70.body with
  | some (.seq _ (.seq _ (.seq (.seq _ (.block _ (.loop (.seq (.seq (.region _ o _) _) _)))) _))) => o.toList
  | _ => []
theorem ewo_3 : rwo_3.toList = lwo_3 := rfl
noncomputable def rwo_5 : Array Oper := match Tryd.f70.body with
  | some (.seq _ (.seq _ (.seq (.seq _ (.block _ (.loop (.seq _ (.seq (.block _ (.region _ o _)) _))))) _))) => o
  | _ => #[]
noncomputable def lwo_5 : List Oper := match Tryd.f70.body with
  | some (.seq _ (.seq _ (.seq (.seq _ (.block _ (.loop (.seq _ (.seq (.block _ (.region _ o _)) _))))) _))) => o.toList
  | _ => []
theorem ewo_5 : rwo_5.toList = lwo_5 := rfl
noncomputable def rwo_4 : Array Oper := match Tryd.f70.body with
  | some (.seq _ (.seq _ (.seq (.seq _ (.block _ (.loop (.seq _ (.seq _ (.region _ o _)))))) _))) => o
  | _ => #[]
noncomputable def lwo_4 : List Oper := match Tryd.f70.body with
  | some (.seq _ (.seq _ (.seq (.seq _ (.block _ (.loop (.seq _ (.seq _ (.region _ o _)))))) _))) => o.toList
  | _ => []
theorem ewo_4 : rwo_4.toList = lwo_4 := rfl
theorem lpwo_0_eq : lpwo_0 = (.seq (.seq (.region 3 rwo_3 false) (.cond (.tmp 8) .skip (.exit 0))) (.seq (.block 1 (.region 5 rwo_5 false)) (.region 4 rwo_4 false))) := rfl
noncomputable def rwo_6 : Array Oper := match Tryd.f70.body with
  | some (.seq _ (.seq _ (.seq _ (.seq (.region _ o _) _)))) => o
  | _ => #[]
noncomputable def lwo_6 : List Oper := match Tryd.f70.body with
  | some (.seq _ (.seq _ (.seq _ (.seq (.region _ o _) _)))) => o.toList
  | _ => []
theorem ewo_6 : rwo_6.toList = lwo_6 := rfl
theorem bodywo : Tryd.f70.body = some (.seq (.region 0 rwo_0 false) (.seq (.region 1 rwo_1 false) (.seq (.seq (.region 2 rwo_2 false) (.block 0 (.loop lpwo_0))) (.seq (.region 6 rwo_6 false) .ret)))) := rfl
-- ntmps 22
noncomputable def rlo_0 : Array Oper := match Tryd.f26.body with
  | some (.seq (.region _ o _) _) => o
  | _ => #[]
noncomputable def llo_0 : List Oper := match Tryd.f26.body with
  | some (.seq (.region _ o _) _) => o.toList
  | _ => []
theorem elo_0 : rlo_0.toList = llo_0 := rfl
noncomputable def rlo_1 : Array Oper := match Tryd.f26.body with
  | some (.seq _ (.seq (.region _ o _) _)) => o
  | _ => #[]
noncomputable def llo_1 : List Oper := match Tryd.f26.body with
  | some (.seq _ (.seq (.region _ o _) _)) => o.toList
  | _ => []
theorem elo_1 : rlo_1.toList = llo_1 := rfl
theorem dlo_1 {self : Self} {B : Nat} {T : List Value} {m : Mem} {lb : List (Nat × Nat)} {ls : Bool} : adrawN E self rlo_1 B rlo_1.toList 0 T m lb ls = adrawT E self rlo_1 B rlo_1.toList [(false, false), (false, false), (false, false), (false, false), (false, false), (false, false), (false, false), (false, false), (false, false), (false, false), (false, false)] 0 T m lb ls := adraw_tab (by kernel_rfl)
theorem slo_1 : E.sr 1 rlo_1 = false := by kernel_rfl
theorem bodylo : Tryd.f26.body = some (.seq (.region 0 rlo_0 false) (.seq (.region 1 rlo_1 true) .ret)) := rfl
-- ntmps 13
noncomputable def rby_0 : Array Oper := match Tryd.f48.body with
  | some (.seq (.region _ o _) _) => o
  | _ => #[]
noncomputable def lby_0 : List Oper := match Tryd.f48.body with
  | some (.seq (.region _ o _) _) => o.toList
  | _ => []
theorem eby_0 : rby_0.toList = lby_0 := rfl
noncomputable def rby_1 : Array Oper := match Tryd.f48.body with
  | some (.seq _ (.seq (.region _ o _) _)) => o
  | _ => #[]
noncomputable def lby_1 : List Oper := match Tryd.f48.body with
  | some (.seq _ (.seq (.region _ o _) _)) => o.toList
  | _ => []
theorem eby_1 : rby_1.toList = lby_1 := rfl
noncomputable def rby_2 : Array Oper := match Tryd.f48.body with
  | some (.seq _ (.seq _ (.seq (.region _ o _) _))) => o
  | _ => #[]
noncomputable def lby_2 : List Oper := match Tryd.f48.body with
  | some (.seq _ (.seq _ (.seq (.region _ o _) _))) => o.toList
  | _ => []
theorem eby_2 : rby_2.toList = lby_2 := rfl
noncomputable def rby_3 : Array Oper := match Tryd.f48.body with
  | some (.seq _ (.seq _ (.seq _ (.seq (.seq (.region _ o _) _) _)))) => o
  | _ => #[]
noncomputable def lby_3 : List Oper := match Tryd.f48.body with
  | some (.seq _ (.seq _ (.seq _ (.seq (.seq (.region _ o _) _) _)))) => o.toList
  | _ => []
theorem eby_3 : rby_3.toList = lby_3 := rfl
noncomputable def lpby_0 : Code := match Tryd.f48.body with
  | some (.seq _ (.seq _ (.seq _ (.seq (.seq _ (.block _ (.loop c))) _)))) => c
  | _ => .skip
noncomputable def rby_4 : Array Oper := match Tryd.f48.body with
  | some (.seq _ (.seq _ (.seq _ (.seq (.seq _ (.block _ (.loop (.seq (.region _ o _) _)))) _)))) => o
  | _ => #[]
noncomputable def lby_4 : List Oper := match Tryd.f48.body with
  | some (.seq _ (.seq _ (.seq _ (.seq (.seq _ (.block _ (.loop (.seq (.region _ o _) _)))) _)))) => o.toList
  | _ => []
theorem eby_4 : rby_4.toList = lby_4 := rfl
noncomputable def rby_5 : Array Oper := match Tryd.f48.body with
  | some (.seq _ (.seq _ (.seq _ (.seq (.seq _ (.block _ (.loop (.seq _ (.seq _ (.seq (.block _ (.seq (.region _ o _) _)) _)))))) _)))) => o
  | _ => #[]
noncomputable def lby_5 : List Oper := match Tryd.f48.body with
  | some (.seq _ (.seq _ (.seq _ (.seq (.seq _ (.block _ (.loop (.seq _ (.seq _ (.seq (.block _ (.seq (.region _ o _) _)) _)))))) _)))) => o.toList
  | _ => []
theorem eby_5 : rby_5.toList = lby_5 := rfl
noncomputable def rby_6 : Array Oper := match Tryd.f48.body with
  | some (.seq _ (.seq _ (.seq _ (.seq (.seq _ (.block _ (.loop (.seq _ (.seq _ (.seq (.block _ (.seq _ (.region _ o _))) _)))))) _)))) => o
  | _ => #[]
noncomputable def lby_6 : List Oper := match Tryd.f48.body with
  | some (.seq _ (.seq _ (.seq _ (.seq (.seq _ (.block _ (.loop (.seq _ (.seq _ (.seq (.block _ (.seq _ (.region _ o _))) _)))))) _)))) => o.toList
  | _ => []
theorem eby_6 : rby_6.toList = lby_6 := rfl
noncomputable def rby_7 : Array Oper := match Tryd.f48.body with
  | some (.seq _ (.seq _ (.seq _ (.seq (.seq _ (.block _ (.loop (.seq _ (.seq _ (.seq _ (.region _ o _))))))) _)))) => o
  | _ => #[]
noncomputable def lby_7 : List Oper := match Tryd.f48.body with
  | some (.seq _ (.seq _ (.seq _ (.seq (.seq _ (.block _ (.loop (.seq _ (.seq _ (.seq _ (.region _ o _))))))) _)))) => o.toList
  | _ => []
theorem eby_7 : rby_7.toList = lby_7 := rfl
theorem lpby_0_eq : lpby_0 = (.seq (.region 4 rby_4 false) (.seq (.cond (.tmp 16) .skip (.exit 0)) (.seq (.block 1 (.seq (.region 5 rby_5 false) (.region 6 rby_6 false))) (.region 7 rby_7 false)))) := rfl
noncomputable def rby_8 : Array Oper := match Tryd.f48.body with
  | some (.seq _ (.seq _ (.seq _ (.seq _ (.seq (.region _ o _) _))))) => o
  | _ => #[]
noncomputable def lby_8 : List Oper := match Tryd.f48.body with
  | some (.seq _ (.seq _ (.seq _ (.seq _ (.seq (.region _ o _) _))))) => o.toList
  | _ => []
theorem eby_8 : rby_8.toList = lby_8 := rfl
theorem bodyby : Tryd.f48.body = some (.seq (.region 0 rby_0 false) (.seq (.region 1 rby_1 false) (.seq (.region 2 rby_2 false) (.seq (.seq (.region 3 rby_3 false) (.block 0 (.loop lpby_0))) (.seq (.region 8 rby_8 false) .ret))))) := rfl
-- ntmps 31
noncomputable def rpa_0 : Array Oper := match Tryd.f46.body with
  | some (.seq (.region _ o _) _) => o
  | _ => #[]
noncomputable def lpa_0 : List Oper := match Tryd.f46.body with
  | some (.seq (.region _ o _) _) => o.toList
  | _ => []
theorem epa_0 : rpa_0.toList = lpa_0 := rfl
noncomputable def rpa_1 : Array Oper := match Tryd.f46.body with
  | some (.seq _ (.seq (.region _ o _) _)) => o
  | _ => #[]
noncomputable def lpa_1 : List Oper := match Tryd.f46.body with
  | some (.seq _ (.seq (.region _ o _) _)) => o.toList
  | _ => []
theorem epa_1 : rpa_1.toList = lpa_1 := rfl
noncomputable def rpa_2 : Array Oper := match Tryd.f46.body with
  | some (.seq _ (.seq _ (.seq (.seq (.region _ o _) _) _))) => o
  | _ => #[]
noncomputable def lpa_2 : List Oper := match Tryd.f46.body with
  | some (.seq _ (.seq _ (.seq (.seq (.region _ o _) _) _))) => o.toList
  | _ => []
theorem epa_2 : rpa_2.toList = lpa_2 := rfl
theorem dpa_2 {self : Self} {B : Nat} {T : List Value} {m : Mem} {lb : List (Nat × Nat)} {ls : Bool} : adrawN E self rpa_2 B rpa_2.toList 0 T m lb ls = adrawT E self rpa_2 B rpa_2.toList [(false, false), (false, false), (false, false), (false, false)] 0 T m lb ls := adraw_tab (by kernel_rfl)
theorem spa_2 : E.sr 2 rpa_2 = false := by kernel_rfl
noncomputable def rpa_3 : Array Oper := match Tryd.f46.body with
  | some (.seq _ (.seq _ (.seq (.seq _ (.cond _ (.seq (.region _ o _) _) _)) _))) => o
  | _ => #[]
noncomputable def lpa_3 : List Oper := match Tryd.f46.body with
  | some (.seq _ (.seq _ (.seq (.seq _ (.cond _ (.seq (.region _ o _) _) _)) _))) => o.toList
  | _ => []
theorem epa_3 : rpa_3.toList = lpa_3 := rfl
noncomputable def rpa_4 : Array Oper := match Tryd.f46.body with
  | some (.seq _ (.seq _ (.seq _ (.seq (.region _ o _) _)))) => o
  | _ => #[]
noncomputable def lpa_4 : List Oper := match Tryd.f46.body with
  | some (.seq _ (.seq _ (.seq _ (.seq (.region _ o _) _)))) => o.toList
  | _ => []
theorem epa_4 : rpa_4.toList = lpa_4 := rfl
theorem bodypa : Tryd.f46.body = some (.seq (.region 0 rpa_0 false) (.seq (.region 1 rpa_1 false) (.seq (.seq (.region 2 rpa_2 true) (.cond (.tmp 10) (.seq (.region 3 rpa_3 false) .ret) .skip)) (.seq (.region 4 rpa_4 false) .ret)))) := rfl
-- ntmps 13
noncomputable def rfo_0 : Array Oper := match Tryd.f29.body with
  | some (.seq (.region _ o _) _) => o
  | _ => #[]
noncomputable def lfo_0 : List Oper := match Tryd.f29.body with
  | some (.seq (.region _ o _) _) => o.toList
  | _ => []
theorem efo_0 : rfo_0.toList = lfo_0 := rfl
noncomputable def rfo_1 : Array Oper := match Tryd.f29.body with
  | some (.seq _ (.seq (.region _ o _) _)) => o
  | _ => #[]
noncomputable def lfo_1 : List Oper := match Tryd.f29.body with
  | some (.seq _ (.seq (.region _ o _) _)) => o.toList
  | _ => []
theorem efo_1 : rfo_1.toList = lfo_1 := rfl
theorem bodyfo : Tryd.f29.body = some (.seq (.region 0 rfo_0 false) (.seq (.region 1 rfo_1 false) .ret)) := rfl
-- ntmps 5

/-- A word of bytes, from its highest byte on: so many of them. -/
def accW (b : Nat → Nat) (at_ : Nat) : Nat → Nat
  | 0 => 0
  | n + 1 => accW b at_ n * 256 + b (8 * at_ + (7 - n))
theorem accW_lt {b : Nat → Nat} (hb : ∀ i, b i < 256) (at_ : Nat) : ∀ n, accW b at_ n < 256 ^ n
  | 0 => by simp [accW]
  | n + 1 => by
    have h1 := accW_lt hb at_ n
    have h2 := hb (8 * at_ + (7 - n))
    simp only [accW, Nat.pow_succ]
    omega

theorem shl8 (x : Nat) : abin .shl .u64 ((x : Nat) : Int) .u64 8 = some (.int .u64 ((x * 256 % 18446744073709551616 : Nat) : Int)) := shlU (n := 8) (by decide)
theorem or8W {x y : Nat} (hx : x * 256 < 18446744073709551616) (hy : y < 256) : abin .or .u64 ((x * 256 % 18446744073709551616 : Nat) : Int) .u64 ((y : Nat) : Int) = some (.int .u64 ((x * 256 + y : Nat) : Int)) := by
  rw [Nat.mod_eq_of_lt hx, orN hx (by omega), Nat.mul_comm x 256]
  have := Nat.two_pow_add_eq_or_of_lt (i := 8) (b := y) (by omega) x
  rw [show 2 ^ 8 = 256 from rfl] at this
  rw [← this]
theorem conv5_22b (x : Nat) : aconv E.P 5 22 (.int .u8 ((x : Nat) : Int)) = some (.int .u64 ((x % 18446744073709551616 : Nat) : Int)) := by
  have : aconv E.P 5 22 (.int .u8 ((x : Nat) : Int)) = some (.int .u64 (wrapF .u64 ((x : Nat) : Int))) := by kernel_rfl
  rw [this, wrapU]
theorem conv22_5b (x : Nat) : aconv E.P 22 5 (.int .u64 ((x : Nat) : Int)) = some (.int .u8 ((x % 256 : Nat) : Int)) := by
  have : aconv E.P 22 5 (.int .u64 ((x : Nat) : Int)) = some (.int .u8 (wrapF .u8 ((x : Nat) : Int))) := by kernel_rfl
  rw [this]
  simp only [wrapF]
  congr 2
theorem geq0 (a : Int) : abin .geq .i64 a .i64 0 = some (.bool (decide (a ≥ 0))) := by kernel_rfl
theorem mul8c (a : Int) : abin .mul .i64 8 .i64 a = some (.int .i64 (wrapF .i64 (8 * a))) := by kernel_rfl
theorem sub1c (a : Int) : abin .sub .i64 a .i64 1 = some (.int .i64 (wrapF .i64 (a - 1))) := by kernel_rfl
theorem wrap_neg1 : wrapF .i64 (-1) = -1 := by kernel_rfl

section
variable {self : Self} {nf : Nat} {M : Mem} {F : Nat → Value} {b : Nat → Nat} {k n p : Nat}
theorem iterWo (h1 : F 1 = .int .i64 (k : Nat)) (h2 : F 2 = .pointer (some ⟨p, 0, none⟩)) (h5 : F 5 = .int .u64 ((accW b k n : Nat) : Int)) (h6 : F 6 = .int .i64 (7 - ((n : Nat) : Int))) (hn : n < 8) (hk : k < 4) (hb : ∀ i, b i < 256) (hp : M[p]? = some (.row false 46 (rowK .u8 32 b))) :
    ∃ F', acodeN E self nf lpwo_0 (lst F 22) M = some (.normal, lst F' 22, M) ∧ F' 1 = F 1 ∧ F' 2 = F 2 ∧ F' 5 = .int .u64 ((accW b k (n + 1) : Nat) : Int) ∧ F' 6 = .int .i64 (7 - ((n + 1 : Nat) : Int)) := by
  have hg : decide ((7 - ((n : Nat) : Int)) ≥ 0) = true := decide_eq_true (by omega)
  have e1 : wrapF .i64 (8 * ((k : Nat) : Int)) = ((8 * k : Nat) : Int) := by rw [wrap_i64 (by omega) (by omega)]; omega
  have e2 : wrapF .i64 (((8 * k : Nat) : Int) + (7 - ((n : Nat) : Int))) = ((8 * k + (7 - n) : Nat) : Int) := by rw [wrap_i64 (by omega) (by omega)]; omega
  have e3 : wrapF .i64 (7 - ((n : Nat) : Int) - 1) = 7 - ((n + 1 : Nat) : Int) := by
    by_cases h : n = 7
    · subst h; exact wrap_neg1
    · rw [wrap_i64 (by omega) (by omega)]; omega
  have i1 := a46.ix (p := p) (j := 8 * k + (7 - n)) (by omega)
  have c1 := cellK hp (j := 8 * k + (7 - n)) (by omega)
  have hacc := accW_lt hb k n
  have h8 : accW b k n * 256 < 18446744073709551616 := by
    have : 256 ^ n ≤ 256 ^ 7 := Nat.pow_le_pow_right (by decide) (by omega)
    have e : (256 : Nat) ^ 7 = 72057594037927936 := by decide
    omega
  have hb1 := hb (8 * k + (7 - n))
  have hm : b (8 * k + (7 - n)) % 18446744073709551616 = b (8 * k + (7 - n)) := Nat.mod_eq_of_lt (by omega)
  have o1 := or8W h8 hb1
  have hst : accW b k n * 256 + b (8 * k + (7 - n)) = accW b k (n + 1) := rfl
  generalize accW b k n = A at *
  generalize b (8 * k + (7 - n)) = bb at *
  simp only [lpwo_0_eq, ewo_0, ewo_1, ewo_2, ewo_3, ewo_4, ewo_5, ewo_6, lwo_0, lwo_1, lwo_2, lwo_3, lwo_4, lwo_5, lwo_6, agd_none, gdAt, gdV_bool, gdV_undef, Tryd.f70, List.append_eq, List.cons_append, List.nil_append, apure_call1, apure_call2, apure_call3, bft, btf, acodeN, List.getElem?_toArray, List.getElem?_cons_zero, List.getElem?_cons_succ, aopsN, adrawT, cls, astep, aop, afloat, ev, nth_lst, get_lst, aput, setAt_lst, upd_at, init_zero, init_succ, init_nil, Nat.reduceLT, Nat.reduceEqDiff, reduceIte, abuiltin, alen, Option.map_some, Option.map_none, orElse_some, apure_add, apure_eqlV, eqlVal_str, eqlVal_bool, eqlVal_ptr, eqlVal_slice, eqlVal_wide, eqlVal_int, allT, ↓aop_eqlV, apure_neq, List.map_cons, List.map_nil, List.all_cons, List.all_nil, lit2, lit1, lit0, List.isEmpty_nil, Bool.and_self, Bool.and_true, Bool.true_and, Bool.false_and, Bool.and_false, Bool.not_true, Bool.not_false, Bool.or_true, Bool.true_or, Bool.false_or, Bool.or_false, Bool.false_eq_true, if_true, if_false, List.length_map, beq_self_eq_true, und3, und4, und5, und9, h1, h2, h5, h6, geq0, hg, shl8, mul8c, e1, add64', e2, i1, a46.loadE, c1, conv5_22b, hm, o1, sub1c, e3]
  exact ⟨_, rfl, by simp only [upd_at, Nat.reduceEqDiff, reduceIte, h1], by simp only [upd_at, Nat.reduceEqDiff, reduceIte, h2], by simp only [upd_at, Nat.reduceEqDiff, reduceIte, hst], by simp only [upd_at, Nat.reduceEqDiff, reduceIte]⟩

theorem lastWo (h6 : F 6 = .int .i64 (-1)) : ∃ F', acodeN E self nf lpwo_0 (lst F 22) M = some (.exit 0, lst F' 22, M) ∧ F' 5 = F 5 := by
  have hg : decide ((-1 : Int) ≥ 0) = false := rfl
  simp only [lpwo_0_eq, ewo_0, ewo_1, ewo_2, ewo_3, ewo_4, ewo_5, ewo_6, lwo_0, lwo_1, lwo_2, lwo_3, lwo_4, lwo_5, lwo_6, agd_none, gdAt, gdV_bool, gdV_undef, Tryd.f70, List.append_eq, List.cons_append, List.nil_append, apure_call1, apure_call2, apure_call3, bft, btf, acodeN, List.getElem?_toArray, List.getElem?_cons_zero, List.getElem?_cons_succ, aopsN, adrawT, cls, astep, aop, afloat, ev, nth_lst, get_lst, aput, setAt_lst, upd_at, init_zero, init_succ, init_nil, Nat.reduceLT, Nat.reduceEqDiff, reduceIte, abuiltin, alen, Option.map_some, Option.map_none, orElse_some, apure_add, apure_eqlV, eqlVal_str, eqlVal_bool, eqlVal_ptr, eqlVal_slice, eqlVal_wide, eqlVal_int, allT, ↓aop_eqlV, apure_neq, List.map_cons, List.map_nil, List.all_cons, List.all_nil, lit2, lit1, lit0, List.isEmpty_nil, Bool.and_self, Bool.and_true, Bool.true_and, Bool.false_and, Bool.and_false, Bool.not_true, Bool.not_false, Bool.or_true, Bool.true_or, Bool.false_or, Bool.or_false, Bool.false_eq_true, if_true, if_false, List.length_map, beq_self_eq_true, und3, und4, und5, und9, h6, geq0, hg]
  exact ⟨_, rfl, by simp only [upd_at, Nat.reduceEqDiff, reduceIte]⟩

theorem loopWo (h1 : F 1 = .int .i64 (k : Nat)) (h2 : F 2 = .pointer (some ⟨p, 0, none⟩)) (h5 : F 5 = .int .u64 0) (h6 : F 6 = .int .i64 7) (hk : k < 4) (hb : ∀ i, b i < 256) (hp : M[p]? = some (.row false 46 (rowK .u8 32 b))) (hf : 20 < nf) :
    ∃ F', aloop (acodeN E self nf lpwo_0) nf (lst F 22) M = some (.exit 0, lst F' 22, M) ∧ F' 5 = .int .u64 ((accW b k 8 : Nat) : Int) := by
  have hloop := aloop_inv (body := acodeN E self nf lpwo_0) (N := 8)
    (I := fun n T m' => m' = M ∧ ∃ G, T = lst G 22 ∧ G 1 = F 1 ∧ G 2 = F 2 ∧ G 5 = .int .u64 ((accW b k n : Nat) : Int) ∧ G 6 = .int .i64 (7 - ((n : Nat) : Int)))
    (Q := fun e T m' => e = .exit 0 ∧ m' = M ∧ ∃ G, T = lst G 22 ∧ G 5 = .int .u64 ((accW b k 8 : Nat) : Int)) (fun n T m' hi hI => by
      obtain ⟨rfl, G, rfl, g1, g2, g5, g6⟩ := hI
      by_cases hlt : n < 8
      · left
        obtain ⟨F', hr, f1, f2, f5, f6⟩ := iterWo (self := self) (nf := nf) (g1.trans h1) (g2.trans h2) g5 g6 hlt hk hb hp
        exact ⟨_, _, hr, hlt, rfl, F', rfl, f1.trans g1, f2.trans g2, f5, f6⟩
      · right
        have : n = 8 := by omega
        subst this
        obtain ⟨F', hr, f5⟩ := lastWo (self := self) (nf := nf) (M := m') (F := G) g6
        exact ⟨_, _, _, hr, by simp, rfl, rfl, F', rfl, f5.trans g5⟩)
  obtain ⟨e, T', M', hr, rfl, rfl, G, rfl, g5⟩ := hloop 8 0 nf (lst F 22) M (by omega) (by omega) ⟨rfl, F, rfl, rfl, rfl, h5, h6⟩
  exact ⟨G, hr, g5⟩

theorem wo_body {m : Mem} (hk : k < 4) (hb : ∀ i, b i < 256) (hf : 20 < nf) : ∃ m', abody E self nf 70 [arrK .u8 32 b, .int .i64 (k : Nat)] m = some (.int .u64 ((accW b k 8 : Nat) : Int), m') := by
  rw [abody_eqF (by kernel_rfl) Tryd.func70 bodywo (by kernel_rfl) (Nat.le_of_ble_eq_true rfl)]
  rw [show Tryd.f70.ntmps = 22 from rfl]
  have b1 := a46.box (w := b) (m := m)
  have gp : (m ++ [Blk.row false 46 (rowK .u8 32 b)])[m.length]? = some (.row false 46 (rowK .u8 32 b)) := by simp
  generalize hM : m ++ [Blk.row false 46 (rowK .u8 32 b)] = M at b1 gp
  obtain ⟨G, hl, g5⟩ := loopWo (self := self) (nf := nf) (M := M) (p := m.length) (k := k) (b := b) (F := upd (upd (upd (upd (init [arrK .u8 32 b, .int .i64 (k : Nat)]) 2 (.pointer (some ⟨m.length, 0, none⟩))) 4 (.int .u64 0)) 5 (.int .u64 0)) 6 (.int .i64 7)) rfl rfl rfl rfl hk hb gp hf
  generalize accW b k 8 = A at *
  simp only [ewo_0, ewo_1, ewo_2, ewo_3, ewo_4, ewo_5, ewo_6, lwo_0, lwo_1, lwo_2, lwo_3, lwo_4, lwo_5, lwo_6, agd_none, gdAt, gdV_bool, gdV_undef, Tryd.f70, List.append_eq, List.cons_append, List.nil_append, apure_call1, apure_call2, apure_call3, bft, btf, acodeN, List.getElem?_toArray, List.getElem?_cons_zero, List.getElem?_cons_succ, aopsN, adrawT, cls, astep, aop, afloat, ev, nth_lst, get_lst, aput, setAt_lst, upd_at, init_zero, init_succ, init_nil, Nat.reduceLT, Nat.reduceEqDiff, reduceIte, abuiltin, alen, Option.map_some, Option.map_none, orElse_some, apure_add, apure_eqlV, eqlVal_str, eqlVal_bool, eqlVal_ptr, eqlVal_slice, eqlVal_wide, eqlVal_int, allT, ↓aop_eqlV, apure_neq, List.map_cons, List.map_nil, List.all_cons, List.all_nil, lit2, lit1, lit0, List.isEmpty_nil, Bool.and_self, Bool.and_true, Bool.true_and, Bool.false_and, Bool.and_false, Bool.not_true, Bool.not_false, Bool.or_true, Bool.true_or, Bool.false_or, Bool.or_false, Bool.false_eq_true, if_true, if_false, List.length_map, beq_self_eq_true, und3, und4, und5, und9, b1, hl, g5, finish, ares, aresL, ares1]
  exact ⟨_, rfl⟩
end
end Go.Am.Seat

/-
  Loose, Bytes, Parse, Of on the abstract machine (own work).
-/
set_option linter.unusedSimpArgs false
set_option linter.unusedVariables false
namespace Go.Am.Seat
open Go.Proofs Go.Am Go.Am.Num
set_option maxRecDepth 100000
set_option maxHeartbeats 4000000

/-- The number of bytes, but for the highest bit, modulo p. -/
def looseF (b : Nat → Nat) : Nat := v4 (accW b 0 8) (accW b 1 8) (accW b 2 8) (accW b 3 8 % 9223372036854775808) % P25519

theorem callWo : callableB E.P 70 = true := by kernel_rfl
theorem wrWo : E.wr 70 = false := by kernel_rfl
theorem wrSe : E.wr 69 = false := by kernel_rfl
theorem addr22b : addrT E.P 4 22 = false := by kernel_rfl

section
variable {self : Self} {nf : Nat} {m : Mem} {b : Nat → Nat} {X : Nat}
theorem lo_body (hb : ∀ i, b i < 256) (hwo : ∀ k, k < 4 → Ans self 70 [arrK .u8 32 b, .int .i64 (k : Nat)] (.int .u64 ((accW b k 8 : Nat) : Int))) (hse : SettleOk self) :
    ∃ m', abody E self nf 26 [arrK .u8 32 b] m = some (el (looseF b), m') := by
  rw [abody_eqF (by kernel_rfl) Tryd.func26 bodylo (by kernel_rfl) (Nat.le_of_ble_eq_true rfl)]
  rw [show Tryd.f26.ntmps = 13 from rfl]
  have b1 := a46.box (w := b) (m := m)
  generalize hA : m ++ [Blk.row false 46 (rowK .u8 32 b)] = A at b1
  have lA : A.length = m.length + 1 := by rw [← hA]; simp
  have b3 := alloc48 A
  rw [lA] at b3
  generalize hC : A ++ [Blk.row false 48 (c4 0 0 0 0)] = C at b3
  have gx : C[m.length]? = some (.row false 46 (rowK .u8 32 b)) := by
    rw [← hC, List.getElem?_append_left (by omega), ← hA]; simp
  have gr : C[m.length + 1]? = some (.row false 48 (c4 0 0 0 0)) := by
    rw [← hC, List.getElem?_append_right (by omega), lA]; simp
  have lx : aload E.P 46 (.pointer (some ⟨m.length, 0, none⟩)) (C.map sealed) = some (arrK .u8 32 b) := a46.load (ro := true) (be := 46) (by rw [List.getElem?_map, gx]; rfl)
  have hlt : ∀ k, accW b k 8 < 18446744073709551616 := fun k => accW_lt hb k 8
  have w0 := hwo 0 (by omega)
  have w1 := hwo 1 (by omega)
  have w2 := hwo 2 (by omega)
  have w3 := hwo 3 (by omega)
  have a1 := and63 (hlt 3)
  have cs := hse (accW b 0 8) (accW b 1 8) (accW b 2 8) (accW b 3 8 % 9223372036854775808) 0 (hlt 0) (hlt 1) (hlt 2) (by have := hlt 3; omega) (by decide)
  rw [Nat.zero_mul, Nat.add_zero, show v4 (accW b 0 8) (accW b 1 8) (accW b 2 8) (accW b 3 8 % 9223372036854775808) % P25519 = looseF b from rfl, show (((0 : Nat)) : Int) = 0 from rfl] at cs
  unfold Ans at w0 w1 w2 w3 cs
  simp only [Int.cast_ofNat_Int, Int.natCast_zero, Int.natCast_one] at w0 w1 w2 w3
  generalize looseF b = R at *
  have st := store48 (a := wd 0 R) (b := wd 1 R) (c := wd 2 R) (d := wd 3 R) gr rfl
  have ld := load48 (m := C.set (m.length + 1) (.row false 48 (c4 (wd 0 R) (wd 1 R) (wd 2 R) (wd 3 R)))) (p := m.length + 1) (a := wd 0 R) (b := wd 1 R) (c := wd 2 R) (d := wd 3 R) (by rw [List.getElem?_set_self (lt_of_at gr)])
  rw [← el_st] at st ld
  generalize accW b 0 8 = A0 at *
  generalize accW b 1 8 = A1 at *
  generalize accW b 2 8 = A2 at *
  generalize accW b 3 8 = A3 at *
  simp only [↓dlo_1, ↓slo_1, elo_0, elo_1, llo_0, llo_1, agd_none, gdAt, gdV_bool, gdV_undef, Tryd.f26, List.append_eq, List.cons_append, List.nil_append, apure_call1, apure_call2, apure_call3, bft, btf, acodeN, List.getElem?_toArray, List.getElem?_cons_zero, List.getElem?_cons_succ, aopsN, adrawT, cls, astep, aop, afloat, ev, nth_lst, get_lst, aput, setAt_lst, upd_at, init_zero, init_succ, init_nil, Nat.reduceLT, Nat.reduceEqDiff, reduceIte, abuiltin, alen, Option.map_some, Option.map_none, orElse_some, apure_add, apure_eqlV, eqlVal_str, eqlVal_bool, eqlVal_ptr, eqlVal_slice, eqlVal_wide, eqlVal_int, allT, ↓aop_eqlV, apure_neq, List.map_cons, List.map_nil, List.all_cons, List.all_nil, lit2, lit1, lit0, List.isEmpty_nil, Bool.and_self, Bool.and_true, Bool.true_and, Bool.false_and, Bool.and_false, Bool.not_true, Bool.not_false, Bool.or_true, Bool.true_or, Bool.false_or, Bool.or_false, Bool.false_eq_true, if_true, if_false, List.length_map, beq_self_eq_true, und3, und4, und5, und9, b1, b3, lx, callWo, wrWo, addr22b, w0, w1, w2, w3, a1, callSe, wrSe, addr48, cs, st, ld, finish, ares, aresL, ares1]
  exact ⟨_, rfl⟩

/-- A byte of a number. -/
def byteX (X i : Nat) : Nat := wd (i / 8) X / 2 ^ (8 * (i % 8)) % 256
theorem byteX_lt (X i : Nat) : byteX X i < 256 := Nat.mod_lt _ (by decide)

theorem a87 : ArrT 90 4 22 .u64 := ⟨Tryd.underlying90, und22, info_of (by kernel_rfl), info_of (by kernel_rfl)⟩
theorem alloc46 (m : Mem) : aalloc E.P 46 m = some (.pointer (some ⟨m.length, 0, none⟩), m ++ [.row false 46 (rowK .u8 32 fun _ => 0)]) := by kernel_rfl
theorem alloc87 (m : Mem) : aalloc E.P 90 m = some (.pointer (some ⟨m.length, 0, none⟩), m ++ [.row false 90 (rowK .u64 4 fun _ => 0)]) := by kernel_rfl

variable {M : Mem} {F : Nat → Value} {i p q : Nat} {w v : Nat → Nat}
theorem iterBy (h3 : F 3 = .pointer (some ⟨p, 0, none⟩)) (h4 : F 4 = .pointer (some ⟨q, 0, none⟩)) (h15 : F 15 = .int .i64 (i : Nat)) (hi : i < 32)
    (hp : M[p]? = some (.row false 90 (rowK .u64 4 w))) (hq : M[q]? = some (.row false 46 (rowK .u8 32 v))) :
    ∃ F', acodeN E self nf lpby_0 (lst F 31) M = some (.normal, lst F' 31, M.set q (.row false 46 (rowK .u8 32 fun j => if j = i then w (i / 8) / 2 ^ (8 * (i % 8)) % 256 else v j))) ∧ F' 2 = F 2 ∧ F' 3 = F 3 ∧ F' 4 = F 4 ∧ F' 15 = .int .i64 ((i + 1 : Nat) : Int) := by
  have hlt : decide (((i : Nat) : Int) < 32) = true := decide_eq_true (by omega)
  have e1 : wrapF .i64 (((i : Nat) : Int).tdiv 8) = ((i / 8 : Nat) : Int) := by
    rw [show ((i : Nat) : Int).tdiv 8 = ((i / 8 : Nat) : Int) from rfl, wrap_i64 (by omega) (by omega)]
  have e2 : ((i : Nat) : Int).tmod 8 = ((i % 8 : Nat) : Int) := rfl
  have e3 : wrapF .i64 (8 * ((i % 8 : Nat) : Int)) = ((8 * (i % 8) : Nat) : Int) := by rw [wrap_i64 (by omega) (by omega)]; omega
  have e4 := w1 (i := i) (by omega)
  have i1 := a87.ix (p := p) (j := i / 8) (by omega)
  have i2 := a46.ix (p := q) (j := i) hi
  have c1 := cellK hp (j := i / 8) (by omega)
  have s1 := shrN (x := w (i / 8)) (n := 8 * (i % 8)) (by omega)
  have st := a46.storeE (x := w (i / 8) / 2 ^ (8 * (i % 8)) % 256) hq hi
  generalize w (i / 8) / 2 ^ (8 * (i % 8)) = Q at *
  generalize w (i / 8) = W at *
  simp only [lpby_0_eq, eby_0, eby_1, eby_2, eby_3, eby_4, eby_5, eby_6, eby_7, eby_8, lby_0, lby_1, lby_2, lby_3, lby_4, lby_5, lby_6, lby_7, lby_8, agd_none, gdAt, gdV_bool, gdV_undef, Tryd.f48, List.append_eq, List.cons_append, List.nil_append, apure_call1, apure_call2, apure_call3, bft, btf, acodeN, List.getElem?_toArray, List.getElem?_cons_zero, List.getElem?_cons_succ, aopsN, adrawT, cls, astep, aop, afloat, ev, nth_lst, get_lst, aput, setAt_lst, upd_at, init_zero, init_succ, init_nil, Nat.reduceLT, Nat.reduceEqDiff, reduceIte, abuiltin, alen, Option.map_some, Option.map_none, orElse_some, apure_add, apure_eqlV, eqlVal_str, eqlVal_bool, eqlVal_ptr, eqlVal_slice, eqlVal_wide, eqlVal_int, allT, ↓aop_eqlV, apure_neq, List.map_cons, List.map_nil, List.all_cons, List.all_nil, lit2, lit1, lit0, List.isEmpty_nil, Bool.and_self, Bool.and_true, Bool.true_and, Bool.false_and, Bool.and_false, Bool.not_true, Bool.not_false, Bool.or_true, Bool.true_or, Bool.false_or, Bool.or_false, Bool.false_eq_true, if_true, if_false, List.length_map, beq_self_eq_true, und3, und4, und5, und9, h3, h4, h15, lss64, hlt, quo8, e1, i1, a87.loadE, c1, rem8, e2, mul8c, e3, s1, conv22_5b, i2, st, add64', e4]
  exact ⟨_, rfl, by simp only [upd_at, Nat.reduceEqDiff, reduceIte], by simp only [upd_at, Nat.reduceEqDiff, reduceIte, h3], by simp only [upd_at, Nat.reduceEqDiff, reduceIte, h4], by simp only [upd_at, Nat.reduceEqDiff, reduceIte]⟩

theorem lastBy (h15 : F 15 = .int .i64 (i : Nat)) (hi : 32 ≤ i) : ∃ F', acodeN E self nf lpby_0 (lst F 31) M = some (.exit 0, lst F' 31, M) ∧ F' 2 = F 2 ∧ F' 4 = F 4 := by
  have hlt : decide (((i : Nat) : Int) < 32) = false := decide_eq_false (by omega)
  simp only [lpby_0_eq, eby_0, eby_1, eby_2, eby_3, eby_4, eby_5, eby_6, eby_7, eby_8, lby_0, lby_1, lby_2, lby_3, lby_4, lby_5, lby_6, lby_7, lby_8, agd_none, gdAt, gdV_bool, gdV_undef, Tryd.f48, List.append_eq, List.cons_append, List.nil_append, apure_call1, apure_call2, apure_call3, bft, btf, acodeN, List.getElem?_toArray, List.getElem?_cons_zero, List.getElem?_cons_succ, aopsN, adrawT, cls, astep, aop, afloat, ev, nth_lst, get_lst, aput, setAt_lst, upd_at, init_zero, init_succ, init_nil, Nat.reduceLT, Nat.reduceEqDiff, reduceIte, abuiltin, alen, Option.map_some, Option.map_none, orElse_some, apure_add, apure_eqlV, eqlVal_str, eqlVal_bool, eqlVal_ptr, eqlVal_slice, eqlVal_wide, eqlVal_int, allT, ↓aop_eqlV, apure_neq, List.map_cons, List.map_nil, List.all_cons, List.all_nil, lit2, lit1, lit0, List.isEmpty_nil, Bool.and_self, Bool.and_true, Bool.true_and, Bool.false_and, Bool.and_false, Bool.not_true, Bool.not_false, Bool.or_true, Bool.true_or, Bool.false_or, Bool.or_false, Bool.false_eq_true, if_true, if_false, List.length_map, beq_self_eq_true, und3, und4, und5, und9, h15, lss64, hlt]
  exact ⟨_, rfl, by simp only [upd_at, Nat.reduceEqDiff, reduceIte], by simp only [upd_at, Nat.reduceEqDiff, reduceIte]⟩

theorem loopBy (h3 : F 3 = .pointer (some ⟨p, 0, none⟩)) (h4 : F 4 = .pointer (some ⟨q, 0, none⟩)) (h15 : F 15 = .int .i64 0) (hpq : p ≠ q)
    (hp : M[p]? = some (.row false 90 (rowK .u64 4 w))) (hq : M[q]? = some (.row false 46 (rowK .u8 32 fun _ => 0))) (hf : 40 < nf) :
    ∃ F' M', aloop (acodeN E self nf lpby_0) nf (lst F 31) M = some (.exit 0, lst F' 31, M') ∧ F' 2 = F 2 ∧ F' 4 = F 4 ∧ M'[q]? = some (.row false 46 (rowK .u8 32 fun i => w (i / 8) / 2 ^ (8 * (i % 8)) % 256)) ∧ (∀ b, b ≠ q → M'[b]? = M[b]?) := by
  have hloop := aloop_inv (body := acodeN E self nf lpby_0) (N := 32)
    (I := fun i T m' => m'[q]? = some (.row false 46 (rowK .u8 32 fun j => if j < i then w (j / 8) / 2 ^ (8 * (j % 8)) % 256 else 0)) ∧ (∀ b, b ≠ q → m'[b]? = M[b]?) ∧ ∃ G, T = lst G 31 ∧ G 2 = F 2 ∧ G 3 = F 3 ∧ G 4 = F 4 ∧ G 15 = .int .i64 (i : Nat))
    (Q := fun e T m' => e = .exit 0 ∧ m'[q]? = some (.row false 46 (rowK .u8 32 fun i => w (i / 8) / 2 ^ (8 * (i % 8)) % 256)) ∧ (∀ b, b ≠ q → m'[b]? = M[b]?) ∧ ∃ G, T = lst G 31 ∧ G 2 = F 2 ∧ G 4 = F 4) (fun i T m' hi hI => by
      obtain ⟨gq, ho, G, rfl, g2, g3, g4, g15⟩ := hI
      by_cases hlt : i < 32
      · left
        obtain ⟨F', hr, f2, f3, f4, f15⟩ := iterBy (self := self) (nf := nf) (w := w) (g3.trans h3) (g4.trans h4) g15 hlt (by rw [ho p hpq]; exact hp) gq
        refine ⟨_, _, hr, hlt, ?_, fun b hb => by rw [List.getElem?_set_ne (fun e => hb e.symm), ho b hb], F', rfl, f2.trans g2, f3.trans g3, f4.trans g4, f15⟩
        rw [List.getElem?_set_self (lt_of_at gq)]
        refine congrArg (fun l => some (Blk.row false 46 l)) (rowK_ext fun j _ => ?_)
        by_cases hj : j = i
        · subst hj
          rw [if_pos rfl, if_pos (by omega)]
        · rw [if_neg hj]
          by_cases hj2 : j < i
          · rw [if_pos hj2, if_pos (by omega)]
          · rw [if_neg hj2, if_neg (by omega)]
      · right
        obtain ⟨F', hr, f2, f4⟩ := lastBy (self := self) (nf := nf) (M := m') g15 (by omega)
        refine ⟨_, _, _, hr, by simp, rfl, ?_, ho, F', rfl, f2.trans g2, f4.trans g4⟩
        rw [gq]
        exact congrArg (fun l => some (Blk.row false 46 l)) (rowK_ext fun j hj => by rw [if_pos (by omega)]))
  obtain ⟨e, T', M', hr, rfl, gq, ho, G, rfl, g2, g4⟩ := hloop 32 0 nf (lst F 31) M (by omega) (by omega) ⟨by rw [hq]; exact congrArg (fun l => some (Blk.row false 46 l)) (rowK_ext fun j _ => by rw [if_neg (by omega)]), fun _ _ => rfl, F, rfl, rfl, rfl, rfl, h15⟩
  exact ⟨G, M', hr, g2, g4, gq, ho⟩

theorem by_body (hf : 40 < nf) : ∃ m', abody E self nf 48 [el X] m = some (arrK .u8 32 (byteX X), m') := by
  rw [abody_eqF (by kernel_rfl) Tryd.func48 bodyby (by kernel_rfl) (Nat.le_of_ble_eq_true rfl)]
  rw [show Tryd.f48.ntmps = 31 from rfl]
  have b1 := box48 (wd 0 X) (wd 1 X) (wd 2 X) (wd 3 X) m
  generalize hA : m ++ [Blk.row false 48 (c4 (wd 0 X) (wd 1 X) (wd 2 X) (wd 3 X))] = A at b1
  have lA : A.length = m.length + 1 := by rw [← hA]; simp
  have b2 := alloc46 A
  rw [lA] at b2
  generalize hB : A ++ [Blk.row false 46 (rowK .u8 32 fun _ => 0)] = B at b2
  have lB : B.length = m.length + 2 := by rw [← hB]; simp [lA]
  have gx : B[m.length]? = some (.row false 48 (c4 (wd 0 X) (wd 1 X) (wd 2 X) (wd 3 X))) := by
    rw [← hB, List.getElem?_append_left (by omega), ← hA]; simp
  have gr0 : B[m.length + 1]? = some (.row false 46 (rowK .u8 32 fun _ => 0)) := by
    rw [← hB, List.getElem?_append_right (by omega), lA]; simp
  obtain ⟨x0, x1, x2, x3⟩ := cell4 gx
  have b3 := alloc87 B
  rw [lB] at b3
  generalize hC : B ++ [Blk.row false 90 (rowK .u64 4 fun _ => 0)] = C at b3
  have lC : C.length = m.length + 3 := by rw [← hC]; simp [lB]
  have gc : C[m.length + 2]? = some (.row false 90 (rowK .u64 4 fun _ => 0)) := by
    rw [← hC, List.getElem?_append_right (by omega), lB]; simp
  have gr1 : C[m.length + 1]? = some (.row false 46 (rowK .u8 32 fun _ => 0)) := by
    rw [← hC, List.getElem?_append_left (by omega)]; exact gr0
  have st1 : astore E.P 90 (.pointer (some ⟨m.length + 2, 0, none⟩)) (st4 (wd 0 X) (wd 1 X) (wd 2 X) (wd 3 X)) C = some (C.set (m.length + 2) (.row false 90 (rowK .u64 4 fun j => wd j X))) := a87.store (w := fun j => wd j X) (by omega) gc (rowK_length _ _ _)
  obtain ⟨D, hD⟩ : ∃ D, D = C.set (m.length + 2) (.row false 90 (rowK .u64 4 fun j => wd j X)) := ⟨_, rfl⟩
  rw [← hD] at st1
  have lD : D.length = m.length + 3 := by rw [hD]; simp [lC]
  have b4 := alloc46 D
  rw [lD] at b4
  generalize hN : D ++ [Blk.row false 46 (rowK .u8 32 fun _ => 0)] = N at b4
  have gp : N[m.length + 2]? = some (.row false 90 (rowK .u64 4 fun j => wd j X)) := by
    rw [← hN, List.getElem?_append_left (by omega), hD, List.getElem?_set_self (by omega)]
  have gq : N[m.length + 3]? = some (.row false 46 (rowK .u8 32 fun _ => 0)) := by
    rw [← hN, List.getElem?_append_right (by omega), lD]; simp
  have gr : N[m.length + 1]? = some (.row false 46 (rowK .u8 32 fun _ => 0)) := by
    rw [← hN, List.getElem?_append_left (by omega), hD, List.getElem?_set_ne (by omega)]; exact gr1
  obtain ⟨G, M1, hl, g2, g4, kq, ko⟩ := loopBy (self := self) (nf := nf) (M := N) (p := m.length + 2) (q := m.length + 3) (w := fun j => wd j X) (F := upd (upd (upd (upd (upd (upd (upd (upd (upd (upd (upd (upd (upd (upd (init [el X]) 1 (.pointer (some ⟨m.length, 0, none⟩))) 2 (.pointer (some ⟨m.length + 1, 0, none⟩))) 6 (.pointer (some ⟨m.length, 0, none⟩))) 7 (.int .u64 (wd 0 X : Nat))) 8 (.pointer (some ⟨m.length, 1, none⟩))) 9 (.int .u64 (wd 1 X : Nat))) 10 (.pointer (some ⟨m.length, 2, none⟩))) 11 (.int .u64 (wd 2 X : Nat))) 12 (.pointer (some ⟨m.length, 3, none⟩))) 13 (.int .u64 (wd 3 X : Nat))) 14 (st4 (wd 0 X) (wd 1 X) (wd 2 X) (wd 3 X))) 3 (.pointer (some ⟨m.length + 2, 0, none⟩))) 4 (.pointer (some ⟨m.length + 3, 0, none⟩))) 15 (.int .i64 0)) rfl rfl rfl (by omega) gp gq hf
  have g2' : G 2 = .pointer (some ⟨m.length + 1, 0, none⟩) := g2
  have g4' : G 4 = .pointer (some ⟨m.length + 3, 0, none⟩) := g4
  have kq' : M1[m.length + 3]? = some (.row false 46 (rowK .u8 32 (byteX X))) := kq
  have kr : M1[m.length + 1]? = some (.row false 46 (rowK .u8 32 fun _ => 0)) := by rw [ko _ (by omega)]; exact gr
  have ld1 := a46.load kq'
  have st2 := a46.store (w := byteX X) (by omega) kr (rowK_length _ _ _)
  have ld2 : aload E.P 46 (.pointer (some ⟨m.length + 1, 0, none⟩)) (M1.set (m.length + 1) (.row false 46 (rowK .u8 32 (byteX X)))) = some (arrK .u8 32 (byteX X)) := a46.load (by rw [List.getElem?_set_self (lt_of_at kr)])
  generalize byteX X = R at *
  rw [el_st] at hl ⊢
  clear kq kq' kr ko gr gp gq hN hD hC hB hA gr0 gr1 gc gx
  generalize wd 0 X = X0 at *
  generalize wd 1 X = X1 at *
  generalize wd 2 X = X2 at *
  generalize wd 3 X = X3 at *
  simp only [eby_0, eby_1, eby_2, eby_3, eby_4, eby_5, eby_6, eby_7, eby_8, lby_0, lby_1, lby_2, lby_3, lby_4, lby_5, lby_6, lby_7, lby_8, agd_none, gdAt, gdV_bool, gdV_undef, Tryd.f48, List.append_eq, List.cons_append, List.nil_append, apure_call1, apure_call2, apure_call3, bft, btf, acodeN, List.getElem?_toArray, List.getElem?_cons_zero, List.getElem?_cons_succ, aopsN, adrawT, cls, astep, aop, afloat, ev, nth_lst, get_lst, aput, setAt_lst, upd_at, init_zero, init_succ, init_nil, Nat.reduceLT, Nat.reduceEqDiff, reduceIte, abuiltin, alen, Option.map_some, Option.map_none, orElse_some, apure_add, apure_eqlV, eqlVal_str, eqlVal_bool, eqlVal_ptr, eqlVal_slice, eqlVal_wide, eqlVal_int, allT, ↓aop_eqlV, apure_neq, List.map_cons, List.map_nil, List.all_cons, List.all_nil, lit2, lit1, lit0, List.isEmpty_nil, Bool.and_self, Bool.and_true, Bool.true_and, Bool.false_and, Bool.and_false, Bool.not_true, Bool.not_false, Bool.or_true, Bool.true_or, Bool.false_or, Bool.or_false, Bool.false_eq_true, if_true, if_false, List.length_map, beq_self_eq_true, und3, und4, und5, und9, b1, b2, fa48_0, fa48_1, fa48_2, fa48_3, load22, x0, x1, x2, x3, apure_build4, build87, b3, st1, b4, hl, g2', g4', ld1, st2, ld2, finish, ares, aresL, ares1]
  exact ⟨_, rfl⟩
end
end Go.Am.Seat

/-
  Parse of a number's own bytes, and Of, on the abstract machine (own work).
-/
set_option linter.unusedSimpArgs false
set_option linter.unusedVariables false
namespace Go.Am.Seat
open Go.Proofs Go.Am Go.Am.Num
set_option maxRecDepth 100000
set_option maxHeartbeats 4000000

theorem accW_ext {b b' : Nat → Nat} (k : Nat) (h : ∀ i, i < 8 → b (8 * k + i) = b' (8 * k + i)) : ∀ n, n ≤ 8 → accW b k n = accW b' k n
  | 0, _ => rfl
  | n + 1, hn => by
    simp only [accW]
    rw [accW_ext k h n (by omega), h (7 - n) (by omega)]

/-- A word of its own bytes is the word. -/
theorem acc_own {w : Nat} (hw : w < 18446744073709551616) {b : Nat → Nat} {k : Nat} (hb : ∀ i, i < 8 → b (8 * k + i) = w / 2 ^ (8 * i) % 256) : ∀ n, n ≤ 8 → accW b k n = w / 2 ^ (8 * (8 - n))
  | 0, _ => by
    simp only [accW]
    rw [Nat.div_eq_of_lt]
    exact hw
  | n + 1, hn => by
    simp only [accW]
    rw [acc_own hw hb n (by omega), hb (7 - n) (by omega)]
    have e : 8 * (8 - n) = 8 * (7 - n) + 8 := by omega
    rw [e, Nat.pow_add, ← Nat.div_div_eq_div_mul, show 8 - (n + 1) = 7 - n by omega]
    generalize w / 2 ^ (8 * (7 - n)) = q
    omega

theorem acc_byteX (X : Nat) {k : Nat} (hk : k < 4) : accW (byteX X) k 8 = wd k X := by
  have h := acc_own (w := wd k X) (wd_lt k X) (b := byteX X) (k := k) (fun i hi => by
    unfold byteX
    rw [show (8 * k + i) / 8 = k by omega, show (8 * k + i) % 8 = i by omega]) 8 (Nat.le_refl _)
  rw [h]
  simp

theorem loose_byteX {X : Nat} (hX : X < P25519) : looseF (byteX X) = X := by
  unfold looseF
  rw [acc_byteX X (by omega), acc_byteX X (by omega), acc_byteX X (by omega), acc_byteX X (by omega)]
  have hp := p_lt
  have h3 : wd 3 X % 9223372036854775808 = wd 3 X := by rw [wd_3]; omega
  rw [h3, v4_wd (by omega), Nat.mod_eq_of_lt hX]

theorem looseF_lt (b : Nat → Nat) : looseF b < P25519 := Nat.mod_lt _ (by decide)

theorem callLo : callableB E.P 26 = true := by kernel_rfl
theorem callBy : callableB E.P 48 = true := by kernel_rfl
theorem wrBy : E.wr 48 = false := by kernel_rfl
theorem addr46 : addrT E.P 4 46 = false := by kernel_rfl
theorem all_same (n : Nat) (u : Nat → Nat) : ((List.range n).all fun j => ((u j : Nat) : Int) == ((u j : Nat) : Int)) = true := by simp

section
variable {self : Self} {nf : Nat} {m : Mem} {X n : Nat}
theorem pa_body (hlo : Ans self 26 [arrK .u8 32 (byteX X)] (el X)) (hby : Ans self 48 [el X] (arrK .u8 32 (byteX X))) :
    ∃ m', abody E self nf 46 [arrK .u8 32 (byteX X)] m = some (.tuple ⟨[el X, .int .i64 0]⟩, m') := by
  rw [abody_eqF (by kernel_rfl) Tryd.func46 bodypa (by kernel_rfl) (Nat.le_of_ble_eq_true rfl)]
  rw [show Tryd.f46.ntmps = 13 from rfl]
  generalize hu : byteX X = u at *
  have b1 := a46.box (w := u) (m := m)
  generalize hA : m ++ [Blk.row false 46 (rowK .u8 32 u)] = A at b1
  have lA : A.length = m.length + 1 := by rw [← hA]; simp
  have b2 := alloc48 A
  rw [lA] at b2
  generalize hB : A ++ [Blk.row false 48 (c4 0 0 0 0)] = B at b2
  have lB : B.length = m.length + 2 := by rw [← hB]; simp [lA]
  have gx : B[m.length]? = some (.row false 46 (rowK .u8 32 u)) := by
    rw [← hB, List.getElem?_append_left (by omega), ← hA]; simp
  have gr : B[m.length + 1]? = some (.row false 48 (c4 0 0 0 0)) := by
    rw [← hB, List.getElem?_append_right (by omega), lA]; simp
  have l1 := a46.load gx
  have b3 := alloc48 B
  rw [lB] at b3
  generalize hC : B ++ [Blk.row false 48 (c4 0 0 0 0)] = C at b3
  have gc : C[m.length + 2]? = some (.row false 48 (c4 0 0 0 0)) := by
    rw [← hC, List.getElem?_append_right (by omega), lB]; simp
  have st1 := store48 (a := wd 0 X) (b := wd 1 X) (c := wd 2 X) (d := wd 3 X) gc rfl
  obtain ⟨D, hD⟩ : ∃ D, D = C.set (m.length + 2) (.row false 48 (c4 (wd 0 X) (wd 1 X) (wd 2 X) (wd 3 X))) := ⟨_, rfl⟩
  rw [← hD] at st1
  have dx : D[m.length]? = some (.row false 46 (rowK .u8 32 u)) := by
    rw [hD, List.getElem?_set_ne (by omega), ← hC, List.getElem?_append_left (by omega)]; exact gx
  have dr : D[m.length + 1]? = some (.row false 48 (c4 0 0 0 0)) := by
    rw [hD, List.getElem?_set_ne (by omega), ← hC, List.getElem?_append_left (by omega)]; exact gr
  have dc : D[m.length + 2]? = some (.row false 48 (c4 (wd 0 X) (wd 1 X) (wd 2 X) (wd 3 X))) := by
    rw [hD, List.getElem?_set_self (lt_of_at gc)]
  have l2 : aload E.P 48 (.pointer (some ⟨m.length + 2, 0, none⟩)) (D.map sealed) = some (st4 (wd 0 X) (wd 1 X) (wd 2 X) (wd 3 X)) := load48 (ro := true) (e := 48) (by rw [List.getElem?_map, dc]; rfl)
  have l3 : aload E.P 46 (.pointer (some ⟨m.length, 0, none⟩)) (D.map sealed) = some (arrK .u8 32 u) := a46.load (ro := true) (be := 46) (by rw [List.getElem?_map, dx]; rfl)
  have l4 := load48 dc
  have st2 := store48 (a := wd 0 X) (b := wd 1 X) (c := wd 2 X) (d := wd 3 X) dr rfl
  have l5 := load48 (m := D.set (m.length + 1) (.row false 48 (c4 (wd 0 X) (wd 1 X) (wd 2 X) (wd 3 X)))) (p := m.length + 1) (a := wd 0 X) (b := wd 1 X) (c := wd 2 X) (d := wd 3 X) (by rw [List.getElem?_set_self (lt_of_at dr)])
  rw [← el_st] at st1 l2 l4 st2 l5
  unfold Ans at hlo hby
  have hq := fun x y => neq46 (x := x) (y := y) u u
  rw [all_same] at hq
  simp only [↓dpa_2, ↓spa_2, epa_0, epa_1, epa_2, epa_3, epa_4, lpa_0, lpa_1, lpa_2, lpa_3, lpa_4, agd_none, gdAt, gdV_bool, gdV_undef, Tryd.f46, List.append_eq, List.cons_append, List.nil_append, apure_call1, apure_call2, apure_call3, bft, btf, acodeN, List.getElem?_toArray, List.getElem?_cons_zero, List.getElem?_cons_succ, aopsN, adrawT, cls, astep, aop, afloat, ev, nth_lst, get_lst, aput, setAt_lst, upd_at, init_zero, init_succ, init_nil, Nat.reduceLT, Nat.reduceEqDiff, reduceIte, abuiltin, alen, Option.map_some, Option.map_none, orElse_some, apure_add, apure_eqlV, eqlVal_str, eqlVal_bool, eqlVal_ptr, eqlVal_slice, eqlVal_wide, eqlVal_int, allT, ↓aop_eqlV, apure_neqV, List.map_cons, List.map_nil, List.all_cons, List.all_nil, lit2, lit1, lit0, List.isEmpty_nil, Bool.and_self, Bool.and_true, Bool.true_and, Bool.false_and, Bool.and_false, Bool.not_true, Bool.not_false, Bool.or_true, Bool.true_or, Bool.false_or, Bool.or_false, Bool.false_eq_true, if_true, if_false, List.length_map, beq_self_eq_true, und3, und4, und5, und9, b1, b2, l1, callLo, hlo, b3, st1, l2, l3, callBy, wrBy, addr46, hby, hq]
  simp only [arrK]
  simp only [↓dpa_2, ↓spa_2, epa_0, epa_1, epa_2, epa_3, epa_4, lpa_0, lpa_1, lpa_2, lpa_3, lpa_4, agd_none, gdAt, gdV_bool, gdV_undef, Tryd.f46, List.append_eq, List.cons_append, List.nil_append, apure_call1, apure_call2, apure_call3, bft, btf, acodeN, List.getElem?_toArray, List.getElem?_cons_zero, List.getElem?_cons_succ, aopsN, adrawT, cls, astep, aop, afloat, ev, nth_lst, get_lst, aput, setAt_lst, upd_at, init_zero, init_succ, init_nil, Nat.reduceLT, Nat.reduceEqDiff, reduceIte, abuiltin, alen, Option.map_some, Option.map_none, orElse_some, apure_add, apure_eqlV, eqlVal_str, eqlVal_bool, eqlVal_ptr, eqlVal_slice, eqlVal_wide, eqlVal_int, allT, ↓aop_eqlV, apure_neqV, List.map_cons, List.map_nil, List.all_cons, List.all_nil, lit2, lit1, lit0, List.isEmpty_nil, Bool.and_self, Bool.and_true, Bool.true_and, Bool.false_and, Bool.and_false, Bool.not_true, Bool.not_false, Bool.or_true, Bool.true_or, Bool.false_or, Bool.or_false, Bool.false_eq_true, if_true, if_false, List.length_map, beq_self_eq_true, und3, und4, und5, und9, l4, st2, l5, finish, ares, aresL, ares1]
  exact ⟨_, rfl⟩

theorem bld0 (n : Nat) : apure E.P [.int .u64 ((n : Nat) : Int)] { dst := none, op := .build 48 #[(0, .tmp 0)], type := 48, pos := "", after := #[], guard := none } = some (st4 n 0 0 0) := by kernel_rfl
theorem build48_0 (T : List Value) (pos : String) (af : Array Edge) (g : Option (Nat × Bool)) (d : Option Tmp) (k : Nat) (n : Nat) (h : nth T k = .int .u64 ((n : Nat) : Int)) : apure E.P T { dst := d, op := .build 48 #[(0, .tmp k)], type := 48, pos := pos, after := af, guard := g } = some (st4 n 0 0 0) := by
  have : apure E.P T { dst := d, op := .build 48 #[(0, .tmp k)], type := 48, pos := pos, after := af, guard := g } = apure E.P [nth T k] { dst := none, op := .build 48 #[(0, .tmp 0)], type := 48, pos := "", after := #[], guard := none } := by
    unfold apure
    simp [Op.operands, execOp, ev, nth_zero, nth_succ]
  rw [this, h]
  exact bld0 n

theorem fo_body (hn : n < 18446744073709551616) : ∃ m', abody E self nf 29 [.int .u64 (n : Nat)] m = some (el n, m') := by
  rw [abody_eqF (by kernel_rfl) Tryd.func29 bodyfo (by kernel_rfl) (Nat.le_of_ble_eq_true rfl)]
  rw [show Tryd.f29.ntmps = 5 from rfl]
  have hel : el n = st4 n 0 0 0 := by
    rw [el_st]
    have h0 : wd 0 n = n := by rw [wd_0]; omega
    have h1 : wd 1 n = 0 := by rw [wd_1]; omega
    have h2 : wd 2 n = 0 := by rw [wd_2]; omega
    have h3 : wd 3 n = 0 := by rw [wd_3]; omega
    rw [h0, h1, h2, h3]
  have b1 := alloc48 m
  have gr : (m ++ [Blk.row false 48 (c4 0 0 0 0)])[m.length]? = some (.row false 48 (c4 0 0 0 0)) := by simp
  generalize hA : m ++ [Blk.row false 48 (c4 0 0 0 0)] = A at b1 gr
  have st := store48 (a := n) (b := 0) (c := 0) (d := 0) gr rfl
  have ld := load48 (m := A.set m.length (.row false 48 (c4 n 0 0 0))) (p := m.length) (a := n) (b := 0) (c := 0) (d := 0) (by rw [List.getElem?_set_self (lt_of_at gr)])
  rw [hel]
  have bb := fun T pos af g d k h => build48_0 T pos af g d k n h
  simp only [efo_0, efo_1, lfo_0, lfo_1, agd_none, gdAt, gdV_bool, gdV_undef, Tryd.f29, List.append_eq, List.cons_append, List.nil_append, apure_call1, apure_call2, apure_call3, bft, btf, acodeN, List.getElem?_toArray, List.getElem?_cons_zero, List.getElem?_cons_succ, aopsN, adrawT, cls, astep, aop, afloat, ev, nth_lst, get_lst, aput, setAt_lst, upd_at, init_zero, init_succ, init_nil, Nat.reduceLT, Nat.reduceEqDiff, reduceIte, abuiltin, alen, Option.map_some, Option.map_none, orElse_some, apure_add, apure_eqlV, eqlVal_str, eqlVal_bool, eqlVal_ptr, eqlVal_slice, eqlVal_wide, eqlVal_int, allT, ↓aop_eqlV, apure_neq, List.map_cons, List.map_nil, List.all_cons, List.all_nil, lit2, lit1, lit0, List.isEmpty_nil, Bool.and_self, Bool.and_true, Bool.true_and, Bool.false_and, Bool.and_false, Bool.not_true, Bool.not_false, Bool.or_true, Bool.true_or, Bool.false_or, Bool.or_false, Bool.false_eq_true, if_true, if_false, List.length_map, beq_self_eq_true, und3, und4, und5, und9, b1]
  rw [bb _ _ _ _ _ _ (by simp only [nth_lst, upd_at, init_zero, Nat.reduceLT, Nat.reduceEqDiff, reduceIte])]
  simp only [List.append_eq, List.cons_append, List.nil_append, apure_call1, apure_call2, apure_call3, bft, btf, acodeN, List.getElem?_toArray, List.getElem?_cons_zero, List.getElem?_cons_succ, aopsN, adrawT, cls, astep, aop, afloat, ev, nth_lst, get_lst, aput, setAt_lst, upd_at, init_zero, init_succ, init_nil, Nat.reduceLT, Nat.reduceEqDiff, reduceIte, abuiltin, alen, Option.map_some, Option.map_none, orElse_some, apure_add, apure_eqlV, eqlVal_str, eqlVal_bool, eqlVal_ptr, eqlVal_slice, eqlVal_wide, eqlVal_int, allT, ↓aop_eqlV, apure_neq, List.map_cons, List.map_nil, List.all_cons, List.all_nil, lit2, lit1, lit0, List.isEmpty_nil, Bool.and_self, Bool.and_true, Bool.true_and, Bool.false_and, Bool.and_false, Bool.not_true, Bool.not_false, Bool.or_true, Bool.true_or, Bool.false_or, Bool.or_false, Bool.false_eq_true, if_true, if_false, List.length_map, beq_self_eq_true, und3, und4, und5, und9, st, ld, finish, ares, aresL, ares1]
  exact ⟨_, rfl⟩
end
end Go.Am.Seat
