/-
  The law LimbShifts on the abstract machine, as a whole (own work).
-/
import Derived.Test.YtmopnogcdjehmaaDoorAmM7
set_option linter.unusedSimpArgs false
set_option linter.unusedVariables false
namespace Go.Am.Seat
open Go.Proofs Go.Am
set_option maxRecDepth 100000
set_option maxHeartbeats 4000000

noncomputable def tailLS : Code := .seq (.seq (.region 7 rls_7 true) (.cond (.tmp 58) (.seq (.region 8 rls_8 false) .ret) .skip)) (.seq (.region 9 rls_9 false) .ret)
theorem bodyls' : Tryd.f5.body = some (.seq (.region 0 rls_0 false) (.seq (.seq (.region 1 rls_1 false) (.cond (.tmp 10) (.seq (.region 2 rls_2 false) .ret) .skip)) (.seq (.region 3 rls_3 false) (.seq (.region 4 rls_4 false) (.seq (.seq (.region 5 rls_5 false) (.cond (.tmp 27) (.region 6 rls_6 false) .skip)) tailLS))))) := rfl

section
variable {self : Self} {nf : Nat} {Z : Mem} {w : Nat → Nat} {n i : Int} {N : Nat} {L : List Value}

theorem ls_body (hw : ∀ j, w j < 18446744073709551616) (hn1 : -9223372036854775808 ≤ n) (hn2 : n < 9223372036854775808) (hi1 : -9223372036854775808 ≤ i) (hi2 : i < 9223372036854775808)
    (hA : ∀ x : Mem, ainv E self 12 [] (Z ++ x) = some (.bool true, Z ++ x))
    (hS : ∀ M : Mem, ainv E self 35 [wide w, .int .i64 n] M = some (wide (shW w n), M))
    (hb1 : ∀ (M : Mem) (u : Nat → Nat) (v : Int), (u = w ∨ u = shW w n) → ainv E self 37 [wide u, .int .i64 v] M = some (.int .u64 ((bitI u v : Nat) : Int), M))
    (hnum : ∀ M : Mem, ainv E self 13 [wide w] M = some (.slice (some ⟨M.length, 0, none⟩) N 64, M ++ [.row false 3 L]))
    (hrs : ∀ M : Mem, ainv E self 36 [.slice (some ⟨M.length, 0, none⟩) N 64, .int .i64 i] ((M ++ [Blk.row false 3 L]).map sealed) = some (.int .i64 ((bitI w i : Nat) : Int), (M ++ [Blk.row false 3 L]).map sealed))
    (hrb : ∀ (M : Mem) (v : Int), v < 9223372036854775808 → ainv E self 36 [.slice (some ⟨M.length, 0, none⟩) N 64, .int .i64 v] (M ++ [Blk.row false 3 L]) = some (.int .i64 ((bitI w v : Nat) : Int), M ++ [Blk.row false 3 L])) :
    ∃ m', abody E self nf 5 [wide w, .int .i64 n, .int .i64 i] Z = some (.bool true, m') := by
  rw [abody_eqF (by kernel_rfl) Tryd.func5 bodyls' (by kernel_rfl) (Nat.le_of_ble_eq_true rfl)]
  rw [show Tryd.f5.ntmps = 89 from rfl]
  have b1 := box24 w Z
  have a1 := hA [Blk.row false 24 (rowOf w)]
  have hp1 : (Z ++ [Blk.row false 24 (rowOf w)])[Z.length]? = some (.row false 24 (rowOf w)) := by simp
  have l1 := load24 hp1
  have s1 := hS (Z ++ [Blk.row false 24 (rowOf w)])
  have b2 := alloc24 (Z ++ [Blk.row false 24 (rowOf w)])
  have hq2 : (Z ++ [Blk.row false 24 (rowOf w)] ++ [Blk.row false 24 (rowOf fun _ => 0)])[(Z ++ [Blk.row false 24 (rowOf w)]).length]? = some (.row false 24 (rowOf fun _ => 0)) := by
    rw [List.getElem?_append_right (Nat.le_refl _)]; simp
  have st := store24 (w := shW w n) hq2 (rowOf_length _)
  have hq3 : ((Z ++ [Blk.row false 24 (rowOf w)] ++ [Blk.row false 24 (rowOf fun _ => 0)]).set (Z ++ [Blk.row false 24 (rowOf w)]).length (.row false 24 (rowOf (shW w n))))[(Z ++ [Blk.row false 24 (rowOf w)]).length]? = some (.row false 24 (rowOf (shW w n))) := by
    rw [List.getElem?_set_self (lt_of_at hq2)]
  have hp3 : ((Z ++ [Blk.row false 24 (rowOf w)] ++ [Blk.row false 24 (rowOf fun _ => 0)]).set (Z ++ [Blk.row false 24 (rowOf w)]).length (.row false 24 (rowOf (shW w n))))[Z.length]? = some (.row false 24 (rowOf w)) := by
    rw [List.getElem?_set_ne (by simp), List.getElem?_append_left (by simp)]; exact hp1
  generalize hM : (Z ++ [Blk.row false 24 (rowOf w)] ++ [Blk.row false 24 (rowOf fun _ => 0)]).set (Z ++ [Blk.row false 24 (rowOf w)]).length (.row false 24 (rowOf (shW w n))) = M at st hq3 hp3
  have l3 := load24 hp3
  have hz : (512 ≤ n ∨ n ≤ -512) → shW w n = fun _ => 0 := fun h => by unfold shW; rw [if_pos h]
  have h0 : n = 0 → shW w n = w := fun h => by rw [h]; exact shift_zero hw
  have tail : ∀ (F : Nat → Value) (M' : Mem), M'[Z.length]? = some (.row false 24 (rowOf w)) → M'[(Z ++ [Blk.row false 24 (rowOf w)]).length]? = some (.row false 24 (rowOf (shW w n))) → F 1 = .int .i64 n → F 2 = .int .i64 i → F 3 = .pointer (some ⟨Z.length, 0, none⟩) → F 7 = .pointer (some ⟨(Z ++ [Blk.row false 24 (rowOf w)]).length, 0, none⟩) → F 8 = .int .u64 ((bitI (shW w n) i : Nat) : Int) →
      ∃ m', finish E.P Tryd.f5 (acodeN E self nf tailLS (lst F 89) M') = some (.bool true, m') := by
    intro F M' gp gq f1 f2 f3 f7 f8
    obtain ⟨F', M2, hr, f6⟩ := tailB (self := self) (nf := nf) f1 f2 f3 f7 f8 gp gq hb1 hnum hrs hz h0
    unfold tailLS
    rw [hr]
    refine ⟨M2, ?_⟩
    simp only [finish, ares, show Tryd.f5.results = #[.tmp 6] from rfl, aresL, ares1, nth_lst, Nat.reduceLT, reduceIte, f6, Option.map_some]
  by_cases ca : 0 ≤ i
  · have da : decide (i ≥ 0) = true := decide_eq_true ca
    by_cases cb : i < 512
    · have db : decide (i < 512) = true := decide_eq_true cb
      have hsb := shift_bit (w := w) hw (v := n) ca cb
      by_cases cc : n > -1000
      · have dc : decide (n > -1000) = true := decide_eq_true cc
        by_cases cd : n < 1000
        · have dd : decide (n < 1000) = true := decide_eq_true cd
          have e1 : wrapF .i64 (i - n) = i - n := by
            by_cases hnn : 0 ≤ i - n
            · exact wrap_i64 hnn (by omega)
            · simp only [wrapF]
              rw [if_pos (by omega)]
              omega
          have n1 := hnum M
          have r1 := hrb M (i - n) (by omega)
          have hbw : bitI w (i - n) < 18446744073709551616 := by
            unfold bitI
            split
            · cases bitW w (i - n).toNat <;> simp
            · omega
          have cv := conv3_54 hbw
          rw [← hsb] at r1 cv
          have gp : (M ++ [Blk.row false 3 L])[Z.length]? = some (.row false 24 (rowOf w)) := by rw [List.getElem?_append_left (lt_of_at hp3)]; exact hp3
          have gq : (M ++ [Blk.row false 3 L])[(Z ++ [Blk.row false 24 (rowOf w)]).length]? = some (.row false 24 (rowOf (shW w n))) := by rw [List.getElem?_append_left (lt_of_at hq3)]; exact hq3
          simp only [↓dls_7, els_0, els_1, els_2, els_3, els_4, els_5, els_6, els_7, els_8, els_9, lls_0, lls_1, lls_2, lls_3, lls_4, lls_5, lls_6, lls_7, lls_8, lls_9, gls_5_10, gls_5_2, gls_5_6, gls_7_15, gls_7_19, gls_7_5, gls_9_11, gls_9_14, gls_9_2, gls_9_20, gls_9_25, gls_9_6, agd_none, gdAt, gdV_bool, gdV_undef, Tryd.f5, List.append_eq, List.cons_append, List.nil_append, apure_call1, apure_call2, apure_call3, bft, btf, acodeN, List.getElem?_toArray, List.getElem?_cons_zero, List.getElem?_cons_succ, aopsN, adrawT, cls, astep, aop, afloat, ev, nth_lst, get_lst, aput, setAt_lst, upd_at, init_zero, init_succ, init_nil, Nat.reduceLT, Nat.reduceEqDiff, reduceIte, abuiltin, alen, Option.map_some, Option.map_none, orElse_some, apure_add, apure_eqlV, eqlVal_str, eqlVal_bool, eqlVal_ptr, eqlVal_slice, eqlVal_wide, eqlVal_int, allT, ↓aop_eqlV, apure_neq, List.map_cons, List.map_nil, List.all_cons, List.all_nil, lit2, lit1, lit0, List.isEmpty_nil, Bool.and_self, Bool.and_true, Bool.true_and, Bool.false_and, Bool.and_false, Bool.not_true, Bool.not_false, Bool.or_true, Bool.true_or, Bool.false_or, Bool.or_false, Bool.false_eq_true, if_true, if_false, List.length_map, beq_self_eq_true, und3, und4, und5, und9, b1, callA1, a1, callShift, l1, s1, b2, st, geq64, lss64, gtr64', da, db, dc, dd, l3, callNum, n1, sub64', e1, callRbit, r1, cv]
          exact tail _ _ gp gq rfl rfl rfl rfl rfl
        · have dd : decide (n < 1000) = false := decide_eq_false cd
          have hb0 : bitI (shW w n) i = 0 := by rw [hz (.inl (by omega))]; unfold bitI bitW; split <;> simp
          simp only [↓dls_7, els_0, els_1, els_2, els_3, els_4, els_5, els_6, els_7, els_8, els_9, lls_0, lls_1, lls_2, lls_3, lls_4, lls_5, lls_6, lls_7, lls_8, lls_9, gls_5_10, gls_5_2, gls_5_6, gls_7_15, gls_7_19, gls_7_5, gls_9_11, gls_9_14, gls_9_2, gls_9_20, gls_9_25, gls_9_6, agd_none, gdAt, gdV_bool, gdV_undef, Tryd.f5, List.append_eq, List.cons_append, List.nil_append, apure_call1, apure_call2, apure_call3, bft, btf, acodeN, List.getElem?_toArray, List.getElem?_cons_zero, List.getElem?_cons_succ, aopsN, adrawT, cls, astep, aop, afloat, ev, nth_lst, get_lst, aput, setAt_lst, upd_at, init_zero, init_succ, init_nil, Nat.reduceLT, Nat.reduceEqDiff, reduceIte, abuiltin, alen, Option.map_some, Option.map_none, orElse_some, apure_add, apure_eqlV, eqlVal_str, eqlVal_bool, eqlVal_ptr, eqlVal_slice, eqlVal_wide, eqlVal_int, allT, ↓aop_eqlV, apure_neq, List.map_cons, List.map_nil, List.all_cons, List.all_nil, lit2, lit1, lit0, List.isEmpty_nil, Bool.and_self, Bool.and_true, Bool.true_and, Bool.false_and, Bool.and_false, Bool.not_true, Bool.not_false, Bool.or_true, Bool.true_or, Bool.false_or, Bool.or_false, Bool.false_eq_true, if_true, if_false, List.length_map, beq_self_eq_true, und3, und4, und5, und9, b1, callA1, a1, callShift, l1, s1, b2, st, geq64, lss64, gtr64', da, db, dc, dd]
          exact tail _ _ hp3 hq3 rfl rfl rfl rfl (by rw [hb0]; rfl)
      · have dc : decide (n > -1000) = false := decide_eq_false cc
        have hb0 : bitI (shW w n) i = 0 := by rw [hz (.inr (by omega))]; unfold bitI bitW; split <;> simp
        simp only [↓dls_7, els_0, els_1, els_2, els_3, els_4, els_5, els_6, els_7, els_8, els_9, lls_0, lls_1, lls_2, lls_3, lls_4, lls_5, lls_6, lls_7, lls_8, lls_9, gls_5_10, gls_5_2, gls_5_6, gls_7_15, gls_7_19, gls_7_5, gls_9_11, gls_9_14, gls_9_2, gls_9_20, gls_9_25, gls_9_6, agd_none, gdAt, gdV_bool, gdV_undef, Tryd.f5, List.append_eq, List.cons_append, List.nil_append, apure_call1, apure_call2, apure_call3, bft, btf, acodeN, List.getElem?_toArray, List.getElem?_cons_zero, List.getElem?_cons_succ, aopsN, adrawT, cls, astep, aop, afloat, ev, nth_lst, get_lst, aput, setAt_lst, upd_at, init_zero, init_succ, init_nil, Nat.reduceLT, Nat.reduceEqDiff, reduceIte, abuiltin, alen, Option.map_some, Option.map_none, orElse_some, apure_add, apure_eqlV, eqlVal_str, eqlVal_bool, eqlVal_ptr, eqlVal_slice, eqlVal_wide, eqlVal_int, allT, ↓aop_eqlV, apure_neq, List.map_cons, List.map_nil, List.all_cons, List.all_nil, lit2, lit1, lit0, List.isEmpty_nil, Bool.and_self, Bool.and_true, Bool.true_and, Bool.false_and, Bool.and_false, Bool.not_true, Bool.not_false, Bool.or_true, Bool.true_or, Bool.false_or, Bool.or_false, Bool.false_eq_true, if_true, if_false, List.length_map, beq_self_eq_true, und3, und4, und5, und9, b1, callA1, a1, callShift, l1, s1, b2, st, geq64, lss64, gtr64', da, db, dc]
        exact tail _ _ hp3 hq3 rfl rfl rfl rfl (by rw [hb0]; rfl)
    · have db : decide (i < 512) = false := decide_eq_false cb
      have hb0 : bitI (shW w n) i = 0 := by unfold bitI; rw [if_neg (by omega)]
      simp only [↓dls_7, els_0, els_1, els_2, els_3, els_4, els_5, els_6, els_7, els_8, els_9, lls_0, lls_1, lls_2, lls_3, lls_4, lls_5, lls_6, lls_7, lls_8, lls_9, gls_5_10, gls_5_2, gls_5_6, gls_7_15, gls_7_19, gls_7_5, gls_9_11, gls_9_14, gls_9_2, gls_9_20, gls_9_25, gls_9_6, agd_none, gdAt, gdV_bool, gdV_undef, Tryd.f5, List.append_eq, List.cons_append, List.nil_append, apure_call1, apure_call2, apure_call3, bft, btf, acodeN, List.getElem?_toArray, List.getElem?_cons_zero, List.getElem?_cons_succ, aopsN, adrawT, cls, astep, aop, afloat, ev, nth_lst, get_lst, aput, setAt_lst, upd_at, init_zero, init_succ, init_nil, Nat.reduceLT, Nat.reduceEqDiff, reduceIte, abuiltin, alen, Option.map_some, Option.map_none, orElse_some, apure_add, apure_eqlV, eqlVal_str, eqlVal_bool, eqlVal_ptr, eqlVal_slice, eqlVal_wide, eqlVal_int, allT, ↓aop_eqlV, apure_neq, List.map_cons, List.map_nil, List.all_cons, List.all_nil, lit2, lit1, lit0, List.isEmpty_nil, Bool.and_self, Bool.and_true, Bool.true_and, Bool.false_and, Bool.and_false, Bool.not_true, Bool.not_false, Bool.or_true, Bool.true_or, Bool.false_or, Bool.or_false, Bool.false_eq_true, if_true, if_false, List.length_map, beq_self_eq_true, und3, und4, und5, und9, b1, callA1, a1, callShift, l1, s1, b2, st, geq64, lss64, gtr64', da, db]
      exact tail _ _ hp3 hq3 rfl rfl rfl rfl (by rw [hb0]; rfl)
  · have da : decide (i ≥ 0) = false := decide_eq_false (by omega)
    have hb0 : bitI (shW w n) i = 0 := by unfold bitI; rw [if_neg (by omega)]
    simp only [↓dls_7, els_0, els_1, els_2, els_3, els_4, els_5, els_6, els_7, els_8, els_9, lls_0, lls_1, lls_2, lls_3, lls_4, lls_5, lls_6, lls_7, lls_8, lls_9, gls_5_10, gls_5_2, gls_5_6, gls_7_15, gls_7_19, gls_7_5, gls_9_11, gls_9_14, gls_9_2, gls_9_20, gls_9_25, gls_9_6, agd_none, gdAt, gdV_bool, gdV_undef, Tryd.f5, List.append_eq, List.cons_append, List.nil_append, apure_call1, apure_call2, apure_call3, bft, btf, acodeN, List.getElem?_toArray, List.getElem?_cons_zero, List.getElem?_cons_succ, aopsN, adrawT, cls, astep, aop, afloat, ev, nth_lst, get_lst, aput, setAt_lst, upd_at, init_zero, init_succ, init_nil, Nat.reduceLT, Nat.reduceEqDiff, reduceIte, abuiltin, alen, Option.map_some, Option.map_none, orElse_some, apure_add, apure_eqlV, eqlVal_str, eqlVal_bool, eqlVal_ptr, eqlVal_slice, eqlVal_wide, eqlVal_int, allT, ↓aop_eqlV, apure_neq, List.map_cons, List.map_nil, List.all_cons, List.all_nil, lit2, lit1, lit0, List.isEmpty_nil, Bool.and_self, Bool.and_true, Bool.true_and, Bool.false_and, Bool.and_false, Bool.not_true, Bool.not_false, Bool.or_true, Bool.true_or, Bool.false_or, Bool.or_false, Bool.false_eq_true, if_true, if_false, List.length_map, beq_self_eq_true, und3, und4, und5, und9, b1, callA1, a1, callShift, l1, s1, b2, st, geq64, lss64, gtr64', da]
    exact tail _ _ hp3 hq3 rfl rfl rfl rfl (by rw [hb0]; rfl)
end

abbrev K1 : List Fact := [awakeF1]
theorem K1_hold (F : Fact) (h : F ∈ K1) : F.holds E.P mem1 := by
  simp only [List.mem_cons, List.not_mem_nil, or_false] at h
  subst h
  exact awake01
theorem awake1_call (x : Mem) : ainv E (runK E mem1 K1 2000) 12 [] (mem1 ++ x) = some (.bool true, mem1 ++ x) := by
  have h : runK E mem1 K1 2000 12 [] mem1 = some (.bool true, mem1) := by kernel_rfl
  exact ainv_lit rfl (by kernel_rfl) (by rw [show ((mem1 ++ x).take E.G).map onlyTab = mem1 from rfl]; exact h) rfl

/-- The law, at any number and any two others. -/
theorem law5 (w : Nat → Nat) (hw : ∀ j, w j < 18446744073709551616) (n i : Int) (hn1 : -9223372036854775808 ≤ n) (hn2 : n < 9223372036854775808) (hi1 : -9223372036854775808 ≤ i) (hi2 : i < 9223372036854775808) :
    ∃ m', runK E mem1 K1 2001 5 [wide w, .int .i64 n, .int .i64 i] mem1 = some (.bool true, m') := by
  rw [runK_other (rfl : hasF K1 5 = false)]
  have hl : (natsOf (byS w)).length = 64 := by rw [natsOf_byS]; simp
  obtain ⟨N, hN⟩ := trimAt_exists (l := natsOf (byS w)) (by omega) (by omega)
  have hx : ∀ x, x ∈ natsOf (byS w) → x < 256 := by
    rw [natsOf_byS]
    intro x hx
    obtain ⟨t, _, rfl⟩ := List.mem_map.1 hx
    exact byW_lt w t
  refine ls_body (N := N) (L := cellsN (natsOf (byS w))) hw hn1 hn2 hi1 hi2 awake1_call (fun M => shift_call (k := 1998) rfl rfl rfl hn1 hn2 hw (by omega)) (fun M u v hu => ?_) (fun M => num_call (k := 1997) rfl rfl rfl hN (by omega)) (fun M => ?_) (fun M v hv => ?_)
  · rcases hu with rfl | rfl
    · exact bit_call (k := 1999) rfl hw
    · exact bit_call (k := 1999) rfl (shift_lt hw n)
  · have := rbit_call (k := 1999) (K := K1) (Z := mem1) (M := (M ++ [Blk.row false 3 (cellsN (natsOf (byS w)))]).map sealed) (b := M.length) (n := N) (c := 64) (ro := true) (l := natsOf (byS w)) (iv := i) rfl (by rw [List.getElem?_map, List.getElem?_append_right (Nat.le_refl _)]; simp [sealed]) hN.1 (by omega) hx hi2 (by omega)
    rw [rbit_is hw hN] at this
    exact this
  · have := rbit_call (k := 1999) (K := K1) (Z := mem1) (M := M ++ [Blk.row false 3 (cellsN (natsOf (byS w)))]) (b := M.length) (n := N) (c := 64) (ro := false) (l := natsOf (byS w)) (iv := v) rfl (by simp) hN.1 (by omega) hx hv (by omega)
    rw [rbit_is hw hN] at this
    exact this
end Go.Am.Seat
