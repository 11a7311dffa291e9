/-
  Texts of my own, put together: G7, E11, E12, E13, E14, E16.
-/
import Derived.Test.YtplgffkmpdnfdaaDoorGrFieldReckons18
import Derived.Test.YtplgffkmpdnfdaaDoorGrFieldReckons21
/-
  The document's bytes of a number (own work).
-/
set_option linter.unusedSimpArgs false
set_option linter.unusedVariables false
namespace Go.Am.Seat
open Go.Proofs Go.Am Go.Am.Num
set_option maxRecDepth 100000

noncomputable def rrby5_0 : Array Oper := match Tryd.f81.body with
  | some (.seq (.region _ o _) _) => o
  | _ => #[]
noncomputable def lrby5_0 : List Oper := match Tryd.f81.body with
  | some (.seq (.region _ o _) _) => o.toList
  | _ => []
theorem erby5_0 : rrby5_0.toList = lrby5_0 := rfl
noncomputable def rrby5_1 : Array Oper := match Tryd.f81.body with
  | some (.seq _ (.seq (.region _ o _) _)) => o
  | _ => #[]
noncomputable def lrby5_1 : List Oper := match Tryd.f81.body with
  | some (.seq _ (.seq (.region _ o _) _)) => o.toList
  | _ => []
theorem erby5_1 : rrby5_1.toList = lrby5_1 := rfl
noncomputable def rrby5_2 : Array Oper := match Tryd.f81.body with
  | some (.seq _ (.seq _ (.seq (.seq (.region _ o _) _) _))) => o
  | _ => #[]
noncomputable def lrby5_2 : List Oper := match Tryd.f81.body with
  | some (.seq _ (.seq _ (.seq (.seq (.region _ o _) _) _))) => o.toList
  | _ => []
theorem erby5_2 : rrby5_2.toList = lrby5_2 := rfl
noncomputable def lprby5_0 : Code := match Tryd.f81.body with
  | some (.seq _ (.seq _ (.seq (.seq _ (.block _ (.loop c))) _))) => c
  | _ => .skip
noncomputable def rrby5_3 : Array Oper := match Tryd.f81.body with
  | some (.seq _ (.seq _ (.seq (.seq _ (.block _ (.loop (.seq (.seq (.region _ o _) _) _)))) _))) => o
  | _ => #[]
noncomputable def lrby5_3 : List Oper := match Tryd.f81.body with
  | some (.seq _ (.seq _ (.seq (.seq _ (.block _ (.loop (.seq (.seq (.region _ o _) _) _)))) _))) => o.toList
  | _ => []
theorem erby5_3 : rrby5_3.toList = lrby5_3 := rfl
theorem grby5_3_4 {T : List Value} {dd : Option Tmp} {op : Op} {ty : TypeId} {pos : String} {af : Array Edge} {want : Bool} : agd rrby5_3 T { dst := dd, op := op, type := ty, pos := pos, after := af, guard := some (4, want) } = gdAt T 9 want := agd_at (by kernel_rfl)
noncomputable def rrby5_5 : Array Oper := match Tryd.f81.body with
  | some (.seq _ (.seq _ (.seq (.seq _ (.block _ (.loop (.seq _ (.seq (.block _ (.region _ o _)) _))))) _))) => o
  | _ => #[]
noncomputable def lrby5_5 : List Oper := match Tryd.f81.body with
  | some (.seq _ (.seq _ (.seq (.seq _ (.block _ (.loop (.seq _ (.seq (.block _ (.region _ o _)) _))))) _))) => o.toList
  | _ => []
theorem erby5_5 : rrby5_5.toList = lrby5_5 := rfl
noncomputable def rrby5_4 : Array Oper := match Tryd.f81.body with
  | some (.seq _ (.seq _ (.seq (.seq _ (.block _ (.loop (.seq _ (.seq _ (.region _ o _)))))) _))) => o
  | _ => #[]
noncomputable def lrby5_4 : List Oper := match Tryd.f81.body with
  | some (.seq _ (.seq _ (.seq (.seq _ (.block _ (.loop (.seq _ (.seq _ (.region _ o _)))))) _))) => o.toList
  | _ => []
theorem erby5_4 : rrby5_4.toList = lrby5_4 := rfl
theorem lprby5_0_eq : lprby5_0 = (.seq (.seq (.region 3 rrby5_3 false) (.cond (.tmp 12) .skip (.exit 0))) (.seq (.block 1 (.region 5 rrby5_5 false)) (.region 4 rrby5_4 false))) := rfl
noncomputable def rrby5_6 : Array Oper := match Tryd.f81.body with
  | some (.seq _ (.seq _ (.seq _ (.seq (.region _ o _) _)))) => o
  | _ => #[]
noncomputable def lrby5_6 : List Oper := match Tryd.f81.body with
  | some (.seq _ (.seq _ (.seq _ (.seq (.region _ o _) _)))) => o.toList
  | _ => []
theorem erby5_6 : rrby5_6.toList = lrby5_6 := rfl
theorem bodyrby5 : Tryd.f81.body = some (.seq (.region 0 rrby5_0 false) (.seq (.region 1 rrby5_1 false) (.seq (.seq (.region 2 rrby5_2 false) (.block 0 (.loop lprby5_0))) (.seq (.region 6 rrby5_6 false) .ret)))) := rfl
-- ntmps 23

theorem dig_at : ∀ (i x : Nat), i < (dig x).length → (dig x)[i]? = some (x / 256 ^ i % 256)
  | 0, x, h => by
    have hx : x ≠ 0 := by intro h0; subst h0; rw [dig_zero] at h; simp at h
    rw [dig_pos hx]
    simp
  | i + 1, x, h => by
    have hx : x ≠ 0 := by intro h0; subst h0; rw [dig_zero] at h; simp at h
    rw [dig_pos hx] at h ⊢
    rw [List.getElem?_cons_succ, dig_at i (x / 256) (by simpa using h), Nat.div_div_eq_div_mul, Nat.pow_succ, Nat.mul_comm 256]
theorem dig_past {i x : Nat} (h : (dig x).length ≤ i) : x / 256 ^ i % 256 = 0 := by
  have h1 := lt_dig_len x
  have h2 : 256 ^ (dig x).length ≤ 256 ^ i := Nat.pow_le_pow_right (by omega) h
  rw [Nat.div_eq_of_lt (by omega)]
theorem low_part (Y : Nat) : ∀ r, r < 8 → Y % 18446744073709551616 / 2 ^ (8 * r) % 256 = Y / 2 ^ (8 * r) % 256
  | 0, _ => by simp only [Nat.mul_zero, Nat.pow_zero, Nat.div_one]; omega
  | 1, _ => by simp only [Nat.reduceMul, Nat.reducePow]; omega
  | 2, _ => by simp only [Nat.reduceMul, Nat.reducePow]; omega
  | 3, _ => by simp only [Nat.reduceMul, Nat.reducePow]; omega
  | 4, _ => by simp only [Nat.reduceMul, Nat.reducePow]; omega
  | 5, _ => by simp only [Nat.reduceMul, Nat.reducePow]; omega
  | 6, _ => by simp only [Nat.reduceMul, Nat.reducePow]; omega
  | 7, _ => by simp only [Nat.reduceMul, Nat.reducePow]; omega
  | r + 8, h => by omega
theorem byteX_dig (X i : Nat) : byteX X i = X / 256 ^ i % 256 := by
  unfold byteX wd
  rw [low_part _ _ (Nat.mod_lt _ (by omega)), Nat.div_div_eq_div_mul]
  have e1 : (18446744073709551616 : Nat) = 256 ^ 8 := by decide
  have e2 : (2 : Nat) ^ (8 * (i % 8)) = 256 ^ (i % 8) := by rw [Nat.pow_mul]
  rw [e1, e2, ← Nat.pow_mul, ← Nat.pow_add, Nat.div_add_mod]

theorem conv3_5n {x : Nat} (h : x < 256) : aconv E.P 3 5 (.int .i64 ((x : Nat) : Int)) = some (.int .u8 ((x : Nat) : Int)) := by
  rw [conv3_5]
  congr 2
  omega
section
variable {self : Self} {nf : Nat} {m M : Mem} {F : Nat → Value} {a : Value} {x i q : Nat} {v : Nat → Nat}
theorem rby_it (h0 : F 0 = a) (h3 : F 3 = .pointer (some ⟨q, 0, none⟩)) (h4 : F 4 = .int .i64 (i : Nat)) (hN : NumA M a (dig x)) (hi : i < (dig x).length) (hi9 : i < 32) (hq : M[q]? = some (.row false 56 (rowK .u8 32 v))) :
    ∃ F', acodeN E self nf lprby5_0 (lst F 23) M = some (.normal, lst F' 23, M.set q (.row false 56 (rowK .u8 32 fun j => if j = i then x / 256 ^ i % 256 else v j))) ∧ F' 0 = F 0 ∧ F' 2 = F 2 ∧ F' 3 = F 3 ∧ F' 4 = .int .i64 ((i + 1 : Nat) : Int) := by
  have q1 : decide (((i : Nat) : Int) < (((dig x).length : Nat) : Int)) = true := decide_eq_true (by omega)
  have q2 : decide (((i : Nat) : Int) < 32) = true := decide_eq_true (by omega)
  have la := hN.1
  obtain ⟨b, o, i1, c1⟩ := hN.2 i _ (dig_at i x hi)
  have hd : x / 256 ^ i % 256 < 256 := Nat.mod_lt _ (by omega)
  generalize x / 256 ^ i % 256 = d at *
  have i2 := a46.ix (p := q) (j := i) hi9
  have st := a46.storeE (x := d) hq hi9
  have e4 := w1 (i := i) (by omega)
  simp only [lprby5_0_eq, erby5_0, erby5_1, erby5_2, erby5_3, erby5_4, erby5_5, erby5_6, lrby5_0, lrby5_1, lrby5_2, lrby5_3, lrby5_4, lrby5_5, lrby5_6, grby5_3_4, agd_none, gdAt, gdV_bool, gdV_undef, Tryd.f81, List.append_eq, List.cons_append, List.nil_append, apure_call1, apure_call2, apure_call3, bft, btf, acodeN, List.getElem?_toArray, List.getElem?_cons_zero, List.getElem?_cons_succ, aopsN, adrawT, cls, astep, aop, afloat, ev, nth_lst, get_lst, aput, setAt_lst, upd_at, init_zero, init_succ, init_nil, Nat.reduceLT, Nat.reduceEqDiff, reduceIte, len_N, abuiltin_app, Option.map_some, Option.map_none, orElse_some, apure_add, apure_eqlV, eqlVal_str, eqlVal_bool, eqlVal_ptr, eqlVal_slice, eqlVal_wide, eqlVal_int, allT, ↓aop_eqlV, apure_neq, List.map_cons, List.map_nil, List.all_cons, List.all_nil, lit2, lit1, lit0, List.isEmpty_nil, Bool.and_self, Bool.and_true, Bool.true_and, Bool.false_and, Bool.and_false, Bool.not_true, Bool.not_false, Bool.or_true, Bool.true_or, Bool.false_or, Bool.or_false, Bool.false_eq_true, if_true, if_false, List.length_map, beq_self_eq_true, und3, und4, und5, und9, h0, h3, h4, la, lss64, q1, q2, i1, load3, c1, conv3_5n hd, i2, st, add64', e4]
  exact ⟨_, rfl, by simp only [upd_at, Nat.reduceEqDiff, reduceIte, h0], by simp only [upd_at, Nat.reduceEqDiff, reduceIte], by simp only [upd_at, Nat.reduceEqDiff, reduceIte, h3], by simp only [upd_at, Nat.reduceEqDiff, reduceIte]⟩
theorem rby_ex (h0 : F 0 = a) (h4 : F 4 = .int .i64 (i : Nat)) (hN : NumA M a (dig x)) (hi : (dig x).length ≤ i) :
    ∃ F', acodeN E self nf lprby5_0 (lst F 23) M = some (.exit 0, lst F' 23, M) ∧ F' 2 = F 2 ∧ F' 3 = F 3 := by
  have q1 : decide (((i : Nat) : Int) < (((dig x).length : Nat) : Int)) = false := decide_eq_false (by omega)
  have la := hN.1
  simp only [lprby5_0_eq, erby5_0, erby5_1, erby5_2, erby5_3, erby5_4, erby5_5, erby5_6, lrby5_0, lrby5_1, lrby5_2, lrby5_3, lrby5_4, lrby5_5, lrby5_6, grby5_3_4, agd_none, gdAt, gdV_bool, gdV_undef, Tryd.f81, List.append_eq, List.cons_append, List.nil_append, apure_call1, apure_call2, apure_call3, bft, btf, acodeN, List.getElem?_toArray, List.getElem?_cons_zero, List.getElem?_cons_succ, aopsN, adrawT, cls, astep, aop, afloat, ev, nth_lst, get_lst, aput, setAt_lst, upd_at, init_zero, init_succ, init_nil, Nat.reduceLT, Nat.reduceEqDiff, reduceIte, len_N, abuiltin_app, Option.map_some, Option.map_none, orElse_some, apure_add, apure_eqlV, eqlVal_str, eqlVal_bool, eqlVal_ptr, eqlVal_slice, eqlVal_wide, eqlVal_int, allT, ↓aop_eqlV, apure_neq, List.map_cons, List.map_nil, List.all_cons, List.all_nil, lit2, lit1, lit0, List.isEmpty_nil, Bool.and_self, Bool.and_true, Bool.true_and, Bool.false_and, Bool.and_false, Bool.not_true, Bool.not_false, Bool.or_true, Bool.true_or, Bool.false_or, Bool.or_false, Bool.false_eq_true, if_true, if_false, List.length_map, beq_self_eq_true, und3, und4, und5, und9, h0, h4, la, lss64, q1]
  exact ⟨_, rfl, by simp only [upd_at, Nat.reduceEqDiff, reduceIte], by simp only [upd_at, Nat.reduceEqDiff, reduceIte]⟩
theorem rby5_body (hN : NumA m a (dig x)) (hx : x < 256 ^ 32) (hnf : 1000 < nf) : ∃ m', abody E self nf 81 [a] m = some (arrK .u8 32 (byteX x), m') := by
  rw [abody_eqF (by kernel_rfl) Tryd.func81 bodyrby5 (by kernel_rfl) (Nat.le_of_ble_eq_true rfl)]
  rw [show Tryd.f81.ntmps = 23 from rfl]
  have hlen := dig_len_le hx
  have b1 := alloc46 m
  obtain ⟨A, hA⟩ : ∃ A, A = m ++ [Blk.row false 56 (rowK .u8 32 fun _ => 0)] := ⟨_, rfl⟩
  rw [← hA] at b1
  have b2 := alloc46 A
  have lA : A.length = m.length + 1 := by rw [hA]; simp
  rw [lA] at b2
  obtain ⟨N, hN9⟩ : ∃ N, N = A ++ [Blk.row false 56 (rowK .u8 32 fun _ => 0)] := ⟨_, rfl⟩
  rw [← hN9] at b2
  have gq : N[m.length + 1]? = some (.row false 56 (rowK .u8 32 fun _ => 0)) := by rw [hN9, ← lA]; simp
  have gr : N[m.length]? = some (.row false 56 (rowK .u8 32 fun _ => 0)) := by rw [hN9, List.getElem?_append_left (by omega), hA]; simp
  have gk : ∀ k, k < m.length → N[k]? = m[k]? := fun k hk => by rw [hN9, List.getElem?_append_left (by omega), hA, List.getElem?_append_left hk]
  have hl := aloop_inv (body := acodeN E self nf lprby5_0) (N := 32)
    (I := fun i T M => ∃ G, T = lst G 23 ∧ G 0 = a ∧ G 2 = .pointer (some ⟨m.length, 0, none⟩) ∧ G 3 = .pointer (some ⟨m.length + 1, 0, none⟩) ∧ G 4 = .int .i64 (i : Nat) ∧ i ≤ (dig x).length ∧ M[m.length + 1]? = some (.row false 56 (rowK .u8 32 fun j => if j < i then x / 256 ^ j % 256 else 0)) ∧ (∀ k, k ≠ m.length + 1 → M[k]? = N[k]?))
    (Q := fun e T M => e = .exit 0 ∧ ∃ G, T = lst G 23 ∧ G 2 = .pointer (some ⟨m.length, 0, none⟩) ∧ G 3 = .pointer (some ⟨m.length + 1, 0, none⟩) ∧ M[m.length + 1]? = some (.row false 56 (rowK .u8 32 (byteX x))) ∧ (∀ k, k ≠ m.length + 1 → M[k]? = N[k]?)) (fun i T M hi hI => by
      obtain ⟨G, rfl, g0, g2, g3, g4, gi, gr, gk9⟩ := hI
      have hNM : NumA M a (dig x) := hN.keep fun k hk => (gk9 k (by omega)).trans (gk k hk)
      by_cases hlt : i < (dig x).length
      · left
        obtain ⟨F', hr, f0, f2, f3, f4⟩ := rby_it (self := self) (nf := nf) g0 g3 g4 hNM hlt (by omega) gr
        refine ⟨_, _, hr, by omega, F', rfl, f0.trans g0, f2.trans g2, f3.trans g3, f4, hlt, ?_, fun k hk => by rw [List.getElem?_set_ne (fun e => hk e.symm), gk9 k hk]⟩
        rw [List.getElem?_set_self (lt_of_at gr)]
        refine congrArg (fun l => some (Blk.row false 56 l)) (rowK_ext fun j _ => ?_)
        by_cases hj : j = i
        · subst hj
          rw [if_pos rfl, if_pos (by omega)]
        · rw [if_neg hj]
          by_cases hj2 : j < i
          · rw [if_pos hj2, if_pos (by omega)]
          · rw [if_neg hj2, if_neg (by omega)]
      · right
        obtain ⟨F', hr, f2, f3⟩ := rby_ex (self := self) (nf := nf) (i := i) g0 g4 hNM (by omega)
        refine ⟨_, _, _, hr, by simp, rfl, F', rfl, f2.trans g2, f3.trans g3, ?_, gk9⟩
        rw [gr]
        refine congrArg (fun l => some (Blk.row false 56 l)) (rowK_ext fun j _ => ?_)
        rw [byteX_dig]
        by_cases hj : j < i
        · rw [if_pos hj]
        · rw [if_neg hj, dig_past (by omega)])
  obtain ⟨e, T', M1, hr, rfl, G, rfl, g2, g3, kq, ko⟩ := hl 32 0 nf (lst (upd (upd (upd (init [a]) 2 (.pointer (some ⟨m.length, 0, none⟩))) 3 (.pointer (some ⟨m.length + 1, 0, none⟩))) 4 (.int .i64 0)) 23) N (by omega) (by omega) ⟨_, rfl, rfl, rfl, rfl, rfl, by omega, by rw [gq]; simp, fun _ _ => rfl⟩
  have kr : M1[m.length]? = some (.row false 56 (rowK .u8 32 fun _ => 0)) := by rw [ko _ (by omega)]; exact gr
  have ld1 := a46.load kq
  have st2 := a46.store (w := byteX x) (by omega) kr (rowK_length _ _ _)
  have ld2 : aload E.P 56 (.pointer (some ⟨m.length, 0, none⟩)) (M1.set m.length (.row false 56 (rowK .u8 32 (byteX x)))) = some (arrK .u8 32 (byteX x)) := a46.load (by rw [List.getElem?_set_self (lt_of_at kr)])
  generalize byteX x = R at *
  clear kq kr ko gr gk gq hN9 hA hl
  simp only [erby5_0, erby5_1, erby5_2, erby5_3, erby5_4, erby5_5, erby5_6, lrby5_0, lrby5_1, lrby5_2, lrby5_3, lrby5_4, lrby5_5, lrby5_6, grby5_3_4, agd_none, gdAt, gdV_bool, gdV_undef, Tryd.f81, List.append_eq, List.cons_append, List.nil_append, apure_call1, apure_call2, apure_call3, bft, btf, acodeN, List.getElem?_toArray, List.getElem?_cons_zero, List.getElem?_cons_succ, aopsN, adrawT, cls, astep, aop, afloat, ev, nth_lst, get_lst, aput, setAt_lst, upd_at, init_zero, init_succ, init_nil, Nat.reduceLT, Nat.reduceEqDiff, reduceIte, len_N, abuiltin_app, Option.map_some, Option.map_none, orElse_some, apure_add, apure_eqlV, eqlVal_str, eqlVal_bool, eqlVal_ptr, eqlVal_slice, eqlVal_wide, eqlVal_int, allT, ↓aop_eqlV, apure_neq, List.map_cons, List.map_nil, List.all_cons, List.all_nil, lit2, lit1, lit0, List.isEmpty_nil, Bool.and_self, Bool.and_true, Bool.true_and, Bool.false_and, Bool.and_false, Bool.not_true, Bool.not_false, Bool.or_true, Bool.true_or, Bool.false_or, Bool.or_false, Bool.false_eq_true, if_true, if_false, List.length_map, beq_self_eq_true, und3, und4, und5, und9, b1, b2, hr, g2, g3, ld1, st2, ld2, finish, ares, aresL, ares1]
  exact ⟨_, rfl⟩
end
/-- What Bytes answers. -/
def CByt5 (self : Self) : Prop := ∀ (m : Mem) (a : Value) (x : Nat), NumA m a (dig x) → x < 256 ^ 32 → ainv E self 81 [a] m = some (arrK .u8 32 (byteX x), m)
theorem cbyt5 {R : Nat → Self} {K : List Fact} (hR : Runs R K) {n : Nat} (hK : hasF K 81 = false) (hn : 1000 ≤ n) : CByt5 (R (n + 1)) := by
  intro m a x ha hx
  by_cases hl : ([a].all lit2) = true
  · have hl9 := hl
    simp only [List.all_cons, List.all_nil, Bool.and_true] at hl9
    obtain ⟨rfl, h1⟩ := ha.lit hl9
    obtain ⟨m', hb⟩ := rby5_body (self := R n) (nf := n + 1) (m := (m.take E.G).map onlyTab) (a := .slice none 0 0) (x := x) (by rw [h1]; exact NumA.nil _) hx (by omega)
    exact ainv_lit hl (by kernel_rfl) (hR.b hK hb) (arrK_lit _ _ _)
  · obtain ⟨m', hb⟩ := rby5_body (self := R n) (nf := n + 1) ha.sealed hx (by omega)
    exact ainv_look (by simpa using hl) (by kernel_rfl) (hR.b hK hb) (arrK_lit _ _ _)
end Go.Am.Seat

/-
  Parse of a number's own bytes, and Of, on the abstract machine (own work).
-/
set_option linter.unusedSimpArgs false
set_option linter.unusedVariables false
namespace Go.Am.Seat
open Go.Proofs Go.Am Go.Am.Num
set_option maxRecDepth 100000
set_option maxHeartbeats 4000000

theorem accW_ext {b b' : Nat → Nat} (k : Nat) (h : ∀ i, i < 8 → b (8 * k + i) = b' (8 * k + i)) : ∀ n, n ≤ 8 → accW b k n = accW b' k n
  | 0, _ => rfl
  | n + 1, hn => by
    simp only [accW]
    rw [accW_ext k h n (by omega), h (7 - n) (by omega)]

/-- A word of its own bytes is the word. -/
theorem acc_own {w : Nat} (hw : w < 18446744073709551616) {b : Nat → Nat} {k : Nat} (hb : ∀ i, i < 8 → b (8 * k + i) = w / 2 ^ (8 * i) % 256) : ∀ n, n ≤ 8 → accW b k n = w / 2 ^ (8 * (8 - n))
  | 0, _ => by
    simp only [accW]
    rw [Nat.div_eq_of_lt]
    exact hw
  | n + 1, hn => by
    simp only [accW]
    rw [acc_own hw hb n (by omega), hb (7 - n) (by omega)]
    have e : 8 * (8 - n) = 8 * (7 - n) + 8 := by omega
    rw [e, Nat.pow_add, ← Nat.div_div_eq_div_mul, show 8 - (n + 1) = 7 - n by omega]
    generalize w / 2 ^ (8 * (7 - n)) = q
    omega

theorem acc_byteX (X : Nat) {k : Nat} (hk : k < 4) : accW (byteX X) k 8 = wd k X := by
  have h := acc_own (w := wd k X) (wd_lt k X) (b := byteX X) (k := k) (fun i hi => by
    unfold byteX
    rw [show (8 * k + i) / 8 = k by omega, show (8 * k + i) % 8 = i by omega]) 8 (Nat.le_refl _)
  rw [h]
  simp

theorem loose_byteX {X : Nat} (hX : X < P25519) : looseF (byteX X) = X := by
  unfold looseF
  rw [acc_byteX X (by omega), acc_byteX X (by omega), acc_byteX X (by omega), acc_byteX X (by omega)]
  have hp := p_lt
  have h3 : wd 3 X % 9223372036854775808 = wd 3 X := by rw [wd_3]; omega
  rw [h3, v4_wd (by omega), Nat.mod_eq_of_lt hX]

theorem looseF_lt (b : Nat → Nat) : looseF b < P25519 := Nat.mod_lt _ (by decide)

theorem callLo : callableB E.P 36 = true := by kernel_rfl
theorem callBy : callableB E.P 57 = true := by kernel_rfl
theorem addr46 : addrT E.P 4 56 = false := by kernel_rfl
section
variable {self : Self} {nf : Nat} {m : Mem} {X n : Nat}
theorem bld0 (n : Nat) : apure E.P [.int .u64 ((n : Nat) : Int)] { dst := none, op := .build 58 #[(0, .tmp 0)], type := 58, pos := "", after := #[], guard := none } = some (st4 n 0 0 0) := by kernel_rfl
theorem build48_0 (T : List Value) (pos : String) (af : Array Edge) (g : Option (Nat × Bool)) (d : Option Tmp) (k : Nat) (n : Nat) (h : nth T k = .int .u64 ((n : Nat) : Int)) : apure E.P T { dst := d, op := .build 58 #[(0, .tmp k)], type := 58, pos := pos, after := af, guard := g } = some (st4 n 0 0 0) := by
  have : apure E.P T { dst := d, op := .build 58 #[(0, .tmp k)], type := 58, pos := pos, after := af, guard := g } = apure E.P [nth T k] { dst := none, op := .build 58 #[(0, .tmp 0)], type := 58, pos := "", after := #[], guard := none } := by
    unfold apure
    simp [Op.operands, execOp, ev, nth_zero, nth_succ]
  rw [this, h]
  exact bld0 n

theorem fo_body (hn : n < 18446744073709551616) : ∃ m', abody E self nf 39 [.int .u64 (n : Nat)] m = some (el n, m') := by
  rw [abody_eqF (by kernel_rfl) Tryd.func39 bodyfo (by kernel_rfl) (Nat.le_of_ble_eq_true rfl)]
  rw [show Tryd.f39.ntmps = 5 from rfl]
  have hel : el n = st4 n 0 0 0 := by
    rw [el_st]
    have h0 : wd 0 n = n := by rw [wd_0]; omega
    have h1 : wd 1 n = 0 := by rw [wd_1]; omega
    have h2 : wd 2 n = 0 := by rw [wd_2]; omega
    have h3 : wd 3 n = 0 := by rw [wd_3]; omega
    rw [h0, h1, h2, h3]
  have b1 := alloc48 m
  have gr : (m ++ [Blk.row false 58 (c4 0 0 0 0)])[m.length]? = some (.row false 58 (c4 0 0 0 0)) := by simp
  generalize hA : m ++ [Blk.row false 58 (c4 0 0 0 0)] = A at b1 gr
  have st := store48 (a := n) (b := 0) (c := 0) (d := 0) gr rfl
  have ld := load48 (m := A.set m.length (.row false 58 (c4 n 0 0 0))) (p := m.length) (a := n) (b := 0) (c := 0) (d := 0) (by rw [List.getElem?_set_self (lt_of_at gr)])
  rw [hel]
  have bb := fun T pos af g d k h => build48_0 T pos af g d k n h
  simp only [efo_0, efo_1, lfo_0, lfo_1, agd_none, gdAt, gdV_bool, gdV_undef, Tryd.f39, List.append_eq, List.cons_append, List.nil_append, apure_call1, apure_call2, apure_call3, bft, btf, acodeN, List.getElem?_toArray, List.getElem?_cons_zero, List.getElem?_cons_succ, aopsN, adrawT, cls, astep, aop, afloat, ev, nth_lst, get_lst, aput, setAt_lst, upd_at, init_zero, init_succ, init_nil, Nat.reduceLT, Nat.reduceEqDiff, reduceIte, abuiltin, alen, Option.map_some, Option.map_none, orElse_some, apure_add, apure_eqlV, eqlVal_str, eqlVal_bool, eqlVal_ptr, eqlVal_slice, eqlVal_wide, eqlVal_int, allT, ↓aop_eqlV, apure_neq, List.map_cons, List.map_nil, List.all_cons, List.all_nil, lit2, lit1, lit0, List.isEmpty_nil, Bool.and_self, Bool.and_true, Bool.true_and, Bool.false_and, Bool.and_false, Bool.not_true, Bool.not_false, Bool.or_true, Bool.true_or, Bool.false_or, Bool.or_false, Bool.false_eq_true, if_true, if_false, List.length_map, beq_self_eq_true, und3, und4, und5, und9, b1]
  rw [bb _ _ _ _ _ _ (by simp only [nth_lst, upd_at, init_zero, Nat.reduceLT, Nat.reduceEqDiff, reduceIte])]
  simp only [List.append_eq, List.cons_append, List.nil_append, apure_call1, apure_call2, apure_call3, bft, btf, acodeN, List.getElem?_toArray, List.getElem?_cons_zero, List.getElem?_cons_succ, aopsN, adrawT, cls, astep, aop, afloat, ev, nth_lst, get_lst, aput, setAt_lst, upd_at, init_zero, init_succ, init_nil, Nat.reduceLT, Nat.reduceEqDiff, reduceIte, abuiltin, alen, Option.map_some, Option.map_none, orElse_some, apure_add, apure_eqlV, eqlVal_str, eqlVal_bool, eqlVal_ptr, eqlVal_slice, eqlVal_wide, eqlVal_int, allT, ↓aop_eqlV, apure_neq, List.map_cons, List.map_nil, List.all_cons, List.all_nil, lit2, lit1, lit0, List.isEmpty_nil, Bool.and_self, Bool.and_true, Bool.true_and, Bool.false_and, Bool.and_false, Bool.not_true, Bool.not_false, Bool.or_true, Bool.true_or, Bool.false_or, Bool.or_false, Bool.false_eq_true, if_true, if_false, List.length_map, beq_self_eq_true, und3, und4, und5, und9, st, ld, finish, ares, aresL, ares1]
  exact ⟨_, rfl⟩
end
end Go.Am.Seat

/-
  squares on the abstract machine; powers modulo p (own work).
-/
set_option linter.unusedSimpArgs false
set_option linter.unusedVariables false
namespace Go.Am.Seat
open Go.Proofs Go.Am Go.Am.Num
set_option maxRecDepth 100000
set_option maxHeartbeats 4000000

noncomputable def rss_0 : Array Oper := match Tryd.f103.body with
  | some (.seq (.region _ o _) _) => o
  | _ => #[]
noncomputable def lss_0 : List Oper := match Tryd.f103.body with
  | some (.seq (.region _ o _) _) => o.toList
  | _ => []
theorem ess_0 : rss_0.toList = lss_0 := rfl
noncomputable def rss_1 : Array Oper := match Tryd.f103.body with
  | some (.seq _ (.seq (.seq (.region _ o _) _) _)) => o
  | _ => #[]
noncomputable def lss_1 : List Oper := match Tryd.f103.body with
  | some (.seq _ (.seq (.seq (.region _ o _) _) _)) => o.toList
  | _ => []
theorem ess_1 : rss_1.toList = lss_1 := rfl
noncomputable def lpss_0 : Code := match Tryd.f103.body with
  | some (.seq _ (.seq (.seq _ (.block _ (.loop c))) _)) => c
  | _ => .skip
noncomputable def rss_2 : Array Oper := match Tryd.f103.body with
  | some (.seq _ (.seq (.seq _ (.block _ (.loop (.seq (.region _ o _) _)))) _)) => o
  | _ => #[]
noncomputable def lss_2 : List Oper := match Tryd.f103.body with
  | some (.seq _ (.seq (.seq _ (.block _ (.loop (.seq (.region _ o _) _)))) _)) => o.toList
  | _ => []
theorem ess_2 : rss_2.toList = lss_2 := rfl
noncomputable def rss_3 : Array Oper := match Tryd.f103.body with
  | some (.seq _ (.seq (.seq _ (.block _ (.loop (.seq _ (.seq _ (.seq (.block _ (.region _ o _)) _)))))) _)) => o
  | _ => #[]
noncomputable def lss_3 : List Oper := match Tryd.f103.body with
  | some (.seq _ (.seq (.seq _ (.block _ (.loop (.seq _ (.seq _ (.seq (.block _ (.region _ o _)) _)))))) _)) => o.toList
  | _ => []
theorem ess_3 : rss_3.toList = lss_3 := rfl
noncomputable def rss_4 : Array Oper := match Tryd.f103.body with
  | some (.seq _ (.seq (.seq _ (.block _ (.loop (.seq _ (.seq _ (.seq _ (.region _ o _))))))) _)) => o
  | _ => #[]
noncomputable def lss_4 : List Oper := match Tryd.f103.body with
  | some (.seq _ (.seq (.seq _ (.block _ (.loop (.seq _ (.seq _ (.seq _ (.region _ o _))))))) _)) => o.toList
  | _ => []
theorem ess_4 : rss_4.toList = lss_4 := rfl
theorem lpss_0_eq : lpss_0 = (.seq (.region 2 rss_2 false) (.seq (.cond (.tmp 7) .skip (.exit 0)) (.seq (.block 1 (.region 3 rss_3 false)) (.region 4 rss_4 false)))) := rfl
noncomputable def rss_5 : Array Oper := match Tryd.f103.body with
  | some (.seq _ (.seq _ (.seq (.region _ o _) _))) => o
  | _ => #[]
noncomputable def lss_5 : List Oper := match Tryd.f103.body with
  | some (.seq _ (.seq _ (.seq (.region _ o _) _))) => o.toList
  | _ => []
theorem ess_5 : rss_5.toList = lss_5 := rfl
theorem bodyss : Tryd.f103.body = some (.seq (.region 0 rss_0 false) (.seq (.seq (.region 1 rss_1 false) (.block 0 (.loop lpss_0))) (.seq (.region 5 rss_5 false) .ret))) := rfl
-- ntmps 12
noncomputable def ron_0 : Array Oper := match Tryd.f104.body with
  | some (.seq (.region _ o _) _) => o
  | _ => #[]
noncomputable def lon_0 : List Oper := match Tryd.f104.body with
  | some (.seq (.region _ o _) _) => o.toList
  | _ => []
theorem eon_0 : ron_0.toList = lon_0 := rfl
noncomputable def ron_1 : Array Oper := match Tryd.f104.body with
  | some (.seq _ (.seq (.region _ o _) _)) => o
  | _ => #[]
noncomputable def lon_1 : List Oper := match Tryd.f104.body with
  | some (.seq _ (.seq (.region _ o _) _)) => o.toList
  | _ => []
theorem eon_1 : ron_1.toList = lon_1 := rfl
noncomputable def ron_2 : Array Oper := match Tryd.f104.body with
  | some (.seq _ (.seq _ (.seq (.seq (.region _ o _) _) _))) => o
  | _ => #[]
noncomputable def lon_2 : List Oper := match Tryd.f104.body with
  | some (.seq _ (.seq _ (.seq (.seq (.region _ o _) _) _))) => o.toList
  | _ => []
theorem eon_2 : ron_2.toList = lon_2 := rfl
noncomputable def lpon_0 : Code := match Tryd.f104.body with
  | some (.seq _ (.seq _ (.seq (.seq _ (.block _ (.loop c))) _))) => c
  | _ => .skip
noncomputable def ron_3 : Array Oper := match Tryd.f104.body with
  | some (.seq _ (.seq _ (.seq (.seq _ (.block _ (.loop (.seq (.seq (.region _ o _) _) _)))) _))) => o
  | _ => #[]
noncomputable def lon_3 : List Oper := match Tryd.f104.body with
  | some (.seq _ (.seq _ (.seq (.seq _ (.block _ (.loop (.seq (.seq (.region _ o _) _) _)))) _))) => o.toList
  | _ => []
theorem eon_3 : ron_3.toList = lon_3 := rfl
noncomputable def ron_5 : Array Oper := match Tryd.f104.body with
  | some (.seq _ (.seq _ (.seq (.seq _ (.block _ (.loop (.seq _ (.seq (.block _ (.seq (.region _ o _) _)) _))))) _))) => o
  | _ => #[]
noncomputable def lon_5 : List Oper := match Tryd.f104.body with
  | some (.seq _ (.seq _ (.seq (.seq _ (.block _ (.loop (.seq _ (.seq (.block _ (.seq (.region _ o _) _)) _))))) _))) => o.toList
  | _ => []
theorem eon_5 : ron_5.toList = lon_5 := rfl
theorem don_5 {self : Self} {B : Nat} {T : List Value} {m : Mem} {lb : List (Nat × Nat)} {ls : Bool} : adrawN E self ron_5 B ron_5.toList 0 T m lb ls = adrawT E self ron_5 B ron_5.toList [(false, false), (false, false), (false, false), (false, false), (false, false), (false, false), (false, false), (false, false), (false, false)] 0 T m lb ls := adraw_tab (by kernel_rfl)
theorem son_5 : E.sr 5 ron_5 = false := by kernel_rfl
noncomputable def ron_6 : Array Oper := match Tryd.f104.body with
  | some (.seq _ (.seq _ (.seq (.seq _ (.block _ (.loop (.seq _ (.seq (.block _ (.seq _ (.seq (.region _ o _) _))) _))))) _))) => o
  | _ => #[]
noncomputable def lon_6 : List Oper := match Tryd.f104.body with
  | some (.seq _ (.seq _ (.seq (.seq _ (.block _ (.loop (.seq _ (.seq (.block _ (.seq _ (.seq (.region _ o _) _))) _))))) _))) => o.toList
  | _ => []
theorem eon_6 : ron_6.toList = lon_6 := rfl
noncomputable def ron_7 : Array Oper := match Tryd.f104.body with
  | some (.seq _ (.seq _ (.seq (.seq _ (.block _ (.loop (.seq _ (.seq (.block _ (.seq _ (.seq _ (.cond _ (.region _ o _) _)))) _))))) _))) => o
  | _ => #[]
noncomputable def lon_7 : List Oper := match Tryd.f104.body with
  | some (.seq _ (.seq _ (.seq (.seq _ (.block _ (.loop (.seq _ (.seq (.block _ (.seq _ (.seq _ (.cond _ (.region _ o _) _)))) _))))) _))) => o.toList
  | _ => []
theorem eon_7 : ron_7.toList = lon_7 := rfl
theorem don_7 {self : Self} {B : Nat} {T : List Value} {m : Mem} {lb : List (Nat × Nat)} {ls : Bool} : adrawN E self ron_7 B ron_7.toList 0 T m lb ls = adrawT E self ron_7 B ron_7.toList [(false, false), (false, false), (false, false), (false, false), (false, false), (false, false), (false, false), (false, false)] 0 T m lb ls := adraw_tab (by kernel_rfl)
theorem son_7 : E.sr 7 ron_7 = false := by kernel_rfl
noncomputable def ron_4 : Array Oper := match Tryd.f104.body with
  | some (.seq _ (.seq _ (.seq (.seq _ (.block _ (.loop (.seq _ (.seq _ (.region _ o _)))))) _))) => o
  | _ => #[]
noncomputable def lon_4 : List Oper := match Tryd.f104.body with
  | some (.seq _ (.seq _ (.seq (.seq _ (.block _ (.loop (.seq _ (.seq _ (.region _ o _)))))) _))) => o.toList
  | _ => []
theorem eon_4 : ron_4.toList = lon_4 := rfl
theorem lpon_0_eq : lpon_0 = (.seq (.seq (.region 3 ron_3 false) (.cond (.tmp 10) .skip (.exit 0))) (.seq (.block 1 (.seq (.region 5 ron_5 true) (.seq (.region 6 ron_6 false) (.cond (.tmp 23) (.region 7 ron_7 true) .skip)))) (.region 4 ron_4 false))) := rfl
noncomputable def ron_8 : Array Oper := match Tryd.f104.body with
  | some (.seq _ (.seq _ (.seq _ (.seq (.region _ o _) _)))) => o
  | _ => #[]
noncomputable def lon_8 : List Oper := match Tryd.f104.body with
  | some (.seq _ (.seq _ (.seq _ (.seq (.region _ o _) _)))) => o.toList
  | _ => []
theorem eon_8 : ron_8.toList = lon_8 := rfl
theorem bodyon : Tryd.f104.body = some (.seq (.region 0 ron_0 false) (.seq (.region 1 ron_1 false) (.seq (.seq (.region 2 ron_2 false) (.block 0 (.loop lpon_0))) (.seq (.region 8 ron_8 false) .ret)))) := rfl
-- ntmps 31
noncomputable def riv_0 : Array Oper := match Tryd.f77.body with
  | some (.seq (.region _ o _) _) => o
  | _ => #[]
noncomputable def liv_0 : List Oper := match Tryd.f77.body with
  | some (.seq (.region _ o _) _) => o.toList
  | _ => []
theorem eiv_0 : riv_0.toList = liv_0 := rfl
noncomputable def riv_1 : Array Oper := match Tryd.f77.body with
  | some (.seq _ (.seq (.region _ o _) _)) => o
  | _ => #[]
noncomputable def liv_1 : List Oper := match Tryd.f77.body with
  | some (.seq _ (.seq (.region _ o _) _)) => o.toList
  | _ => []
theorem eiv_1 : riv_1.toList = liv_1 := rfl
theorem capsLit0 (f : Fn) : capsLit (.func f #[] #[]) = true := rfl
theorem qiv_1 : E.sr 1 riv_1 = true := by kernel_rfl
theorem ziv_1 : E.mkr 1 riv_1 = false := by kernel_rfl
theorem qiv_101 : srTab riv_1 = [(58, some (58, .tmp 10))] := by kernel_rfl
noncomputable def riv_2 : Array Oper := match Tryd.f77.body with
  | some (.seq _ (.seq _ (.seq (.region _ o _) _))) => o
  | _ => #[]
noncomputable def liv_2 : List Oper := match Tryd.f77.body with
  | some (.seq _ (.seq _ (.seq (.region _ o _) _))) => o.toList
  | _ => []
theorem eiv_2 : riv_2.toList = liv_2 := rfl
theorem div_2 {self : Self} {B : Nat} {T : List Value} {m : Mem} {lb : List (Nat × Nat)} {ls : Bool} : adrawN E self riv_2 B riv_2.toList 0 T m lb ls = adrawT E self riv_2 B riv_2.toList [(false, false), (false, false), (false, false), (false, false), (false, false), (false, false)] 0 T m lb ls := adraw_tab (by kernel_rfl)
theorem siv_2 : E.sr 2 riv_2 = false := by kernel_rfl
theorem bodyiv : Tryd.f77.body = some (.seq (.region 0 riv_0 false) (.seq (.region 1 riv_1 true) (.seq (.region 2 riv_2 true) .ret))) := rfl
-- ntmps 16

/-- A power modulo p. -/
def pw (X e : Nat) : Nat := X ^ e % P25519
theorem pw_lt (X e : Nat) : pw X e < P25519 := Nat.mod_lt _ (by decide)
theorem pw_mul (X a b : Nat) : pw X a * pw X b % P25519 = pw X (a + b) := by unfold pw; rw [← Nat.mul_mod, ← Nat.pow_add]
theorem pw_sq (X a : Nat) : pw X a * pw X a % P25519 = pw X (2 * a) := by rw [pw_mul, Nat.two_mul]
theorem pw_pow (X a b : Nat) : pw (pw X a) b = pw X (a * b) := by unfold pw; rw [← Nat.pow_mod, ← Nat.pow_mul]
theorem pw_one {X : Nat} (h : X < P25519) : pw X 1 = X := by unfold pw; rw [Nat.pow_one, Nat.mod_eq_of_lt h]
theorem p_lt4 {X : Nat} (h : X < P25519) : X < 115792089237316195423570985008687907853269984665640564039457584007913129639936 := by have := p_lt; omega

/-- What Mul and Square answer. -/
def MulOk (self : Self) : Prop := ∀ A B : Nat, A < P25519 → B < P25519 → Ans self 44 [el A, el B] (el (A * B % P25519))
def SquareOk (self : Self) : Prop := ∀ A : Nat, A < P25519 → Ans self 46 [el A] (el (A * A % P25519))
theorem callSq : callableB E.P 46 = true := by kernel_rfl

section
variable {self : Self} {nf : Nat} {M : Mem} {F : Nat → Value} {A i n p : Nat}
theorem iterSs (h2 : F 2 = .pointer (some ⟨p, 0, none⟩)) (h5 : F 5 = .int .i64 (n : Nat)) (h6 : F 6 = .int .i64 (i : Nat)) (hi : i < n) (hn : n < 1000)
    (hp : M[p]? = some (.row false 58 (c4 (wd 0 A) (wd 1 A) (wd 2 A) (wd 3 A)))) (hA : A < P25519) (hsq : SquareOk self) :
    ∃ F' B, acodeN E self nf lpss_0 (lst F 12) M = some (.normal, lst F' 12, M.set p (.row false 58 (c4 (wd 0 B) (wd 1 B) (wd 2 B) (wd 3 B)))) ∧ B = A * A % P25519 ∧ F' 2 = F 2 ∧ F' 4 = F 4 ∧ F' 5 = F 5 ∧ F' 6 = .int .i64 ((i + 1 : Nat) : Int) := by
  have hlt : decide (((i : Nat) : Int) < ((n : Nat) : Int)) = true := decide_eq_true (by omega)
  have e1 := w1 (i := i) (by omega)
  have lx := load48 hp
  have cs := hsq A hA
  obtain ⟨B, hB⟩ : ∃ B, B = A * A % P25519 := ⟨_, rfl⟩
  rw [← hB] at cs
  have st := store48 (a := wd 0 B) (b := wd 1 B) (c := wd 2 B) (d := wd 3 B) hp rfl
  rw [← el_st] at lx st
  unfold Ans at cs
  simp only [lpss_0_eq, ess_0, ess_1, ess_2, ess_3, ess_4, ess_5, lss_0, lss_1, lss_2, lss_3, lss_4, lss_5, agd_none, gdAt, gdV_bool, gdV_undef, Tryd.f103, List.append_eq, List.cons_append, List.nil_append, apure_call1, apure_call2, apure_call3, bft, btf, acodeN, List.getElem?_toArray, List.getElem?_cons_zero, List.getElem?_cons_succ, aopsN, adrawT, cls, astep, aop, afloat, ev, nth_lst, get_lst, aput, setAt_lst, upd_at, init_zero, init_succ, init_nil, Nat.reduceLT, Nat.reduceEqDiff, reduceIte, abuiltin, alen, Option.map_some, Option.map_none, orElse_some, apure_add, apure_eqlV, eqlVal_str, eqlVal_bool, eqlVal_ptr, eqlVal_slice, eqlVal_wide, eqlVal_int, allT, ↓aop_eqlV, apure_neq, List.map_cons, List.map_nil, List.all_cons, List.all_nil, lit2, lit1, lit0, List.isEmpty_nil, Bool.and_self, Bool.and_true, Bool.true_and, Bool.false_and, Bool.and_false, Bool.not_true, Bool.not_false, Bool.or_true, Bool.true_or, Bool.false_or, Bool.or_false, Bool.false_eq_true, if_true, if_false, List.length_map, beq_self_eq_true, und3, und4, und5, und9, h2, h5, h6, lss64, hlt, lx, callSq, cs, st, add64', e1]
  exact ⟨_, B, rfl, hB, by simp only [upd_at, Nat.reduceEqDiff, reduceIte, h2], by simp only [upd_at, Nat.reduceEqDiff, reduceIte], by simp only [upd_at, Nat.reduceEqDiff, reduceIte, h5], by simp only [upd_at, Nat.reduceEqDiff, reduceIte]⟩

theorem lastSs (h5 : F 5 = .int .i64 (n : Nat)) (h6 : F 6 = .int .i64 (i : Nat)) (hi : n ≤ i) : ∃ F', acodeN E self nf lpss_0 (lst F 12) M = some (.exit 0, lst F' 12, M) ∧ F' 2 = F 2 ∧ F' 4 = F 4 := by
  have hlt : decide (((i : Nat) : Int) < ((n : Nat) : Int)) = false := decide_eq_false (by omega)
  simp only [lpss_0_eq, ess_0, ess_1, ess_2, ess_3, ess_4, ess_5, lss_0, lss_1, lss_2, lss_3, lss_4, lss_5, agd_none, gdAt, gdV_bool, gdV_undef, Tryd.f103, List.append_eq, List.cons_append, List.nil_append, apure_call1, apure_call2, apure_call3, bft, btf, acodeN, List.getElem?_toArray, List.getElem?_cons_zero, List.getElem?_cons_succ, aopsN, adrawT, cls, astep, aop, afloat, ev, nth_lst, get_lst, aput, setAt_lst, upd_at, init_zero, init_succ, init_nil, Nat.reduceLT, Nat.reduceEqDiff, reduceIte, abuiltin, alen, Option.map_some, Option.map_none, orElse_some, apure_add, apure_eqlV, eqlVal_str, eqlVal_bool, eqlVal_ptr, eqlVal_slice, eqlVal_wide, eqlVal_int, allT, ↓aop_eqlV, apure_neq, List.map_cons, List.map_nil, List.all_cons, List.all_nil, lit2, lit1, lit0, List.isEmpty_nil, Bool.and_self, Bool.and_true, Bool.true_and, Bool.false_and, Bool.and_false, Bool.not_true, Bool.not_false, Bool.or_true, Bool.true_or, Bool.false_or, Bool.or_false, Bool.false_eq_true, if_true, if_false, List.length_map, beq_self_eq_true, und3, und4, und5, und9, h5, h6, lss64, hlt]
  exact ⟨_, rfl, by simp only [upd_at, Nat.reduceEqDiff, reduceIte], by simp only [upd_at, Nat.reduceEqDiff, reduceIte]⟩

theorem loopSs (h2 : F 2 = .pointer (some ⟨p, 0, none⟩)) (h5 : F 5 = .int .i64 (n : Nat)) (h6 : F 6 = .int .i64 0) (hn : n < 1000)
    (hp : M[p]? = some (.row false 58 (c4 (wd 0 A) (wd 1 A) (wd 2 A) (wd 3 A)))) (hA : A < P25519) (hsq : SquareOk self) (hf : 1000 < nf) :
    ∃ F' M', aloop (acodeN E self nf lpss_0) nf (lst F 12) M = some (.exit 0, lst F' 12, M') ∧ F' 2 = F 2 ∧ F' 4 = F 4 ∧ (∃ B, B = pw A (2 ^ n) ∧ M'[p]? = some (.row false 58 (c4 (wd 0 B) (wd 1 B) (wd 2 B) (wd 3 B)))) ∧ (∀ b, b ≠ p → M'[b]? = M[b]?) := by
  have hloop := aloop_inv (body := acodeN E self nf lpss_0) (N := n)
    (I := fun i T m' => (∃ B, B = pw A (2 ^ i) ∧ m'[p]? = some (.row false 58 (c4 (wd 0 B) (wd 1 B) (wd 2 B) (wd 3 B)))) ∧ (∀ b, b ≠ p → m'[b]? = M[b]?) ∧ ∃ G, T = lst G 12 ∧ G 2 = F 2 ∧ G 4 = F 4 ∧ G 5 = F 5 ∧ G 6 = .int .i64 (i : Nat))
    (Q := fun e T m' => e = .exit 0 ∧ (∃ B, B = pw A (2 ^ n) ∧ m'[p]? = some (.row false 58 (c4 (wd 0 B) (wd 1 B) (wd 2 B) (wd 3 B)))) ∧ (∀ b, b ≠ p → m'[b]? = M[b]?) ∧ ∃ G, T = lst G 12 ∧ G 2 = F 2 ∧ G 4 = F 4) (fun i T m' hi hI => by
      obtain ⟨⟨B, hB, gp⟩, ho, G, rfl, g2, g4, g5, g6⟩ := hI
      by_cases hlt : i < n
      · left
        obtain ⟨F', B', hr, hB', f2, f4, f5, f6⟩ := iterSs (self := self) (nf := nf) (g2.trans h2) (g5.trans h5) g6 hlt hn gp (hB ▸ pw_lt _ _) hsq
        refine ⟨_, _, hr, hlt, ⟨B', ?_, by rw [List.getElem?_set_self (lt_of_at gp)]⟩, fun b hb => by rw [List.getElem?_set_ne (fun e => hb e.symm), ho b hb], F', rfl, f2.trans g2, f4.trans g4, f5.trans g5, f6⟩
        rw [hB', hB, pw_sq, Nat.pow_succ, Nat.mul_comm]
      · right
        have : i = n := by omega
        subst this
        obtain ⟨F', hr, f2, f4⟩ := lastSs (self := self) (nf := nf) (M := m') (g5.trans h5) g6 (Nat.le_refl _)
        exact ⟨_, _, _, hr, by simp, rfl, ⟨B, hB, gp⟩, ho, F', rfl, f2.trans g2, f4.trans g4⟩)
  obtain ⟨e, T', M', hr, rfl, gp, ho, G, rfl, g2, g4⟩ := hloop n 0 nf (lst F 12) M (by omega) (by omega) ⟨⟨A, by rw [Nat.pow_zero, pw_one hA], hp⟩, fun _ _ => rfl, F, rfl, rfl, rfl, rfl, h6⟩
  exact ⟨G, M', hr, g2, g4, gp, ho⟩

theorem ss_body {m : Mem} (hA : A < P25519) (hn : n < 1000) (hsq : SquareOk self) (hf : 1000 < nf) : ∃ m', abody E self nf 103 [el A, .int .i64 (n : Nat)] m = some (el (pw A (2 ^ n)), m') := by
  rw [abody_eqF (by kernel_rfl) Tryd.func103 bodyss (by kernel_rfl) (Nat.le_of_ble_eq_true rfl)]
  rw [show Tryd.f103.ntmps = 12 from rfl]
  have b1 := box48 (wd 0 A) (wd 1 A) (wd 2 A) (wd 3 A) m
  generalize hX : m ++ [Blk.row false 58 (c4 (wd 0 A) (wd 1 A) (wd 2 A) (wd 3 A))] = X at b1
  have lX : X.length = m.length + 1 := by rw [← hX]; simp
  have b3 := alloc48 X
  rw [lX] at b3
  generalize hC : X ++ [Blk.row false 58 (c4 0 0 0 0)] = C at b3
  have gx : C[m.length]? = some (.row false 58 (c4 (wd 0 A) (wd 1 A) (wd 2 A) (wd 3 A))) := by
    rw [← hC, List.getElem?_append_left (by omega), ← hX]; simp
  have gr : C[m.length + 1]? = some (.row false 58 (c4 0 0 0 0)) := by
    rw [← hC, List.getElem?_append_right (by omega), lX]; simp
  obtain ⟨G, M1, hl, g2, g4, ⟨B, hB, gp⟩, ho⟩ := loopSs (self := self) (nf := nf) (M := C) (p := m.length) (n := n) (F := upd (upd (upd (upd (init [el A, .int .i64 (n : Nat)]) 2 (.pointer (some ⟨m.length, 0, none⟩))) 4 (.pointer (some ⟨m.length + 1, 0, none⟩))) 5 (.int .i64 (n : Nat))) 6 (.int .i64 0)) rfl rfl rfl hn gx hA hsq hf
  have g2' : G 2 = .pointer (some ⟨m.length, 0, none⟩) := g2
  have g4' : G 4 = .pointer (some ⟨m.length + 1, 0, none⟩) := g4
  have kr : M1[m.length + 1]? = some (.row false 58 (c4 0 0 0 0)) := by rw [ho _ (by omega)]; exact gr
  have ld := load48 gp
  have st := store48 (a := wd 0 B) (b := wd 1 B) (c := wd 2 B) (d := wd 3 B) kr rfl
  have ld2 := load48 (m := M1.set (m.length + 1) (.row false 58 (c4 (wd 0 B) (wd 1 B) (wd 2 B) (wd 3 B)))) (p := m.length + 1) (a := wd 0 B) (b := wd 1 B) (c := wd 2 B) (d := wd 3 B) (by rw [List.getElem?_set_self (lt_of_at kr)])
  rw [← el_st] at b1 ld st ld2
  rw [← hB]
  simp only [ess_0, ess_1, ess_2, ess_3, ess_4, ess_5, lss_0, lss_1, lss_2, lss_3, lss_4, lss_5, agd_none, gdAt, gdV_bool, gdV_undef, Tryd.f103, List.append_eq, List.cons_append, List.nil_append, apure_call1, apure_call2, apure_call3, bft, btf, acodeN, List.getElem?_toArray, List.getElem?_cons_zero, List.getElem?_cons_succ, aopsN, adrawT, cls, astep, aop, afloat, ev, nth_lst, get_lst, aput, setAt_lst, upd_at, init_zero, init_succ, init_nil, Nat.reduceLT, Nat.reduceEqDiff, reduceIte, abuiltin, alen, Option.map_some, Option.map_none, orElse_some, apure_add, apure_eqlV, eqlVal_str, eqlVal_bool, eqlVal_ptr, eqlVal_slice, eqlVal_wide, eqlVal_int, allT, ↓aop_eqlV, apure_neq, List.map_cons, List.map_nil, List.all_cons, List.all_nil, lit2, lit1, lit0, List.isEmpty_nil, Bool.and_self, Bool.and_true, Bool.true_and, Bool.false_and, Bool.and_false, Bool.not_true, Bool.not_false, Bool.or_true, Bool.true_or, Bool.false_or, Bool.or_false, Bool.false_eq_true, if_true, if_false, List.length_map, beq_self_eq_true, und3, und4, und5, und9, b1, b3, hl, g2', g4', ld, st, ld2, finish, ares, aresL, ares1]
  exact ⟨_, rfl⟩
end
end Go.Am.Seat

/-
  ones and Invert on the abstract machine (own work).
-/
set_option linter.unusedSimpArgs false
set_option linter.unusedVariables false
namespace Go.Am.Seat
open Go.Proofs Go.Am Go.Am.Num
set_option maxRecDepth 100000
set_option maxHeartbeats 4000000

theorem callSs : callableB E.P 103 = true := by kernel_rfl
theorem wrSs : E.wr 103 = false := by kernel_rfl
theorem wrSq : E.wr 46 = false := by kernel_rfl
theorem wrMul : E.wr 44 = false := by kernel_rfl
theorem callOn : callableB E.P 104 = true := by kernel_rfl
theorem wrOn : E.wr 104 = false := by kernel_rfl
theorem callLen : callableB E.P 121 = true := by kernel_rfl
def SquaresOk (self : Self) : Prop := ∀ A n : Nat, A < P25519 → n < 1000 → Ans self 103 [el A, .int .i64 (n : Nat)] (el (pw A (2 ^ n)))
theorem mul2c (a : Int) : abin .mul .i64 2 .i64 a = some (.int .i64 (wrapF .i64 (2 * a))) := by kernel_rfl
theorem shr250 {n : Nat} (hn : n ≤ 64) : abin .shr .i64 250 .i64 ((n : Nat) : Int) = some (.int .i64 ((250 / 2 ^ n : Nat) : Int)) := by
  unfold abin
  simp only
  rw [if_neg (by omega), Int.toNat_natCast, show IntKind.i64.bits = 64 from rfl, Nat.min_eq_left hn, Int.fdiv_eq_ediv_of_nonneg _ (by exact Int.natCast_nonneg _)]
  first
    | rfl
    | (congr 2)
/-- How many ones there are behind so many rounds. -/
def hv : Nat → Nat
  | 0 => 1
  | r + 1 => if 2 * hv r < 250 / 2 ^ (6 - r) then 2 * hv r + 1 else 2 * hv r

section
variable {self : Self} {nf : Nat} {M : Mem} {F : Nat → Value} {X h r p q : Nat}
theorem iterOn (h1 : F 1 = .pointer (some ⟨p, 0, none⟩)) (h3 : F 3 = .pointer (some ⟨q, 0, none⟩)) (h4 : F 4 = .int .i64 (h : Nat)) (h5 : F 5 = .int .i64 (6 - ((r : Nat) : Int))) (hr : r < 7) (hh : h < 400) (hh0 : 0 < h) (hpq : p ≠ q) (hX : X < P25519)
    (hp : M[p]? = some (.row false 58 (c4 (wd 0 X) (wd 1 X) (wd 2 X) (wd 3 X)))) {A : Nat} (hA : A = pw X (2 ^ h - 1)) (hq : M[q]? = some (.row false 58 (c4 (wd 0 A) (wd 1 A) (wd 2 A) (wd 3 A))))
    (hsq : SquareOk self) (hmu : MulOk self) (hss : SquaresOk self) :
    ∃ F' M' h' B, acodeN E self nf lpon_0 (lst F 31) M = some (.normal, lst F' 31, M') ∧ h' = (if 2 * h < 250 / 2 ^ (6 - r) then 2 * h + 1 else 2 * h) ∧ B = pw X (2 ^ h' - 1) ∧ F' 1 = F 1 ∧ F' 2 = F 2 ∧ F' 3 = F 3 ∧ F' 4 = .int .i64 (h' : Nat) ∧ F' 5 = .int .i64 (6 - ((r + 1 : Nat) : Int)) ∧
      M'[q]? = some (.row false 58 (c4 (wd 0 B) (wd 1 B) (wd 2 B) (wd 3 B))) ∧ (∀ b, b ≠ q → M'[b]? = M[b]?) := by
  have hg : decide ((6 - ((r : Nat) : Int)) ≥ 0) = true := decide_eq_true (by omega)
  have e5 : (6 - ((r : Nat) : Int)) = ((6 - r : Nat) : Int) := by omega
  have e6 : wrapF .i64 (((6 - r : Nat) : Int) - 1) = 6 - ((r + 1 : Nat) : Int) := by
    by_cases hr6 : r = 6
    · subst hr6; exact wrap_neg1
    · rw [wrap_i64 (by omega) (by omega)]; omega
  rw [e5] at h5 hg
  have e2 : wrapF .i64 (2 * ((h : Nat) : Int)) = ((2 * h : Nat) : Int) := by rw [wrap_i64 (by omega) (by omega)]; omega
  have e1 : wrapF .i64 (((2 * h : Nat) : Int) + 1) = ((2 * h + 1 : Nat) : Int) := by rw [wrap_i64 (by omega) (by omega)]; omega
  have hAl : A < P25519 := by rw [hA]; exact pw_lt _ _
  have lq : aload E.P 58 (.pointer (some ⟨q, 0, none⟩)) (M.map sealed) = some (st4 (wd 0 A) (wd 1 A) (wd 2 A) (wd 3 A)) := load48 (ro := true) (e := 58) (by rw [List.getElem?_map, hq]; rfl)
  have cs := hss A h hAl (by omega)
  obtain ⟨S, hS⟩ : ∃ S, S = pw A (2 ^ h) := ⟨_, rfl⟩
  rw [← hS] at cs
  have cm := hmu S A (by rw [hS]; exact pw_lt _ _) hAl
  obtain ⟨N, hN⟩ : ∃ N, N = S * A % P25519 := ⟨_, rfl⟩
  rw [← hN] at cm
  have hN2 : N = pw X (2 ^ (2 * h) - 1) := by
    rw [hN, hS, hA, pw_pow, pw_mul]
    congr 1
    have hpos : 1 ≤ 2 ^ h := Nat.one_le_two_pow
    rw [Nat.two_mul, Nat.pow_add, Nat.sub_mul, Nat.one_mul]
    have : 2 ^ h ≤ 2 ^ h * 2 ^ h := Nat.le_mul_of_pos_right _ hpos
    omega
  have st1 := store48 (a := wd 0 N) (b := wd 1 N) (c := wd 2 N) (d := wd 3 N) hq rfl
  obtain ⟨M1, hM1⟩ : ∃ M1, M1 = M.set q (.row false 58 (c4 (wd 0 N) (wd 1 N) (wd 2 N) (wd 3 N))) := ⟨_, rfl⟩
  rw [← hM1] at st1
  have gq1 : M1[q]? = some (.row false 58 (c4 (wd 0 N) (wd 1 N) (wd 2 N) (wd 3 N))) := by rw [hM1, List.getElem?_set_self (lt_of_at hq)]
  have gp1 : M1[p]? = some (.row false 58 (c4 (wd 0 X) (wd 1 X) (wd 2 X) (wd 3 X))) := by rw [hM1, List.getElem?_set_ne (fun e => hpq e.symm)]; exact hp
  have ho1 : ∀ b, b ≠ q → M1[b]? = M[b]? := fun b hb => by rw [hM1, List.getElem?_set_ne (fun e => hb e.symm)]
  have s250 := shr250 (n := 6 - r) (by omega)
  unfold Ans at cs cm
  by_cases hc : 2 * h < 250 / 2 ^ (6 - r)
  · have hlt : decide (((2 * h : Nat) : Int) < ((250 / 2 ^ (6 - r) : Nat) : Int)) = true := decide_eq_true (by omega)
    have lq1 : aload E.P 58 (.pointer (some ⟨q, 0, none⟩)) (M1.map sealed) = some (st4 (wd 0 N) (wd 1 N) (wd 2 N) (wd 3 N)) := load48 (ro := true) (e := 58) (by rw [List.getElem?_map, gq1]; rfl)
    have lp1 : aload E.P 58 (.pointer (some ⟨p, 0, none⟩)) (M1.map sealed) = some (st4 (wd 0 X) (wd 1 X) (wd 2 X) (wd 3 X)) := load48 (ro := true) (e := 58) (by rw [List.getElem?_map, gp1]; rfl)
    have hNl : N < P25519 := by rw [hN2]; exact pw_lt _ _
    have cq := hsq N hNl
    obtain ⟨Y, hY⟩ : ∃ Y, Y = N * N % P25519 := ⟨_, rfl⟩
    rw [← hY] at cq
    have cm2 := hmu Y X (by rw [hY]; exact Nat.mod_lt _ (by decide)) hX
    obtain ⟨Z, hZ⟩ : ∃ Z, Z = Y * X % P25519 := ⟨_, rfl⟩
    rw [← hZ] at cm2
    have hZ2 : Z = pw X (2 ^ (2 * h + 1) - 1) := by
      have hx : Y * X % P25519 = Y * pw X 1 % P25519 := by rw [pw_one hX]
      rw [hZ, hx, hY, hN2, pw_sq, pw_mul]
      congr 1
      have : 1 ≤ 2 ^ (2 * h) := Nat.one_le_two_pow
      rw [Nat.pow_succ]
      omega
    have st2 := store48 (a := wd 0 Z) (b := wd 1 Z) (c := wd 2 Z) (d := wd 3 Z) gq1 rfl
    rw [← el_st] at lq st1 lq1 lp1 st2
    unfold Ans at cq cm2
    clear hS hN hN2 hY hZ hM1
    simp only [lpon_0_eq, ↓don_5, ↓don_7, ↓son_5, ↓son_7, eon_0, eon_1, eon_2, eon_3, eon_4, eon_5, eon_6, eon_7, eon_8, lon_0, lon_1, lon_2, lon_3, lon_4, lon_5, lon_6, lon_7, lon_8, agd_none, gdAt, gdV_bool, gdV_undef, Tryd.f104, List.append_eq, List.cons_append, List.nil_append, apure_call1, apure_call2, apure_call3, bft, btf, acodeN, List.getElem?_toArray, List.getElem?_cons_zero, List.getElem?_cons_succ, aopsN, adrawT, cls, astep, aop, afloat, ev, nth_lst, get_lst, aput, setAt_lst, upd_at, init_zero, init_succ, init_nil, Nat.reduceLT, Nat.reduceEqDiff, reduceIte, abuiltin, alen, Option.map_some, Option.map_none, orElse_some, apure_add, apure_eqlV, eqlVal_str, eqlVal_bool, eqlVal_ptr, eqlVal_slice, eqlVal_wide, eqlVal_int, allT, ↓aop_eqlV, apure_neq, List.map_cons, List.map_nil, List.all_cons, List.all_nil, lit2, lit1, lit0, List.isEmpty_nil, Bool.and_self, Bool.and_true, Bool.true_and, Bool.false_and, Bool.and_false, Bool.not_true, Bool.not_false, Bool.or_true, Bool.true_or, Bool.false_or, Bool.or_false, Bool.false_eq_true, if_true, if_false, List.length_map, beq_self_eq_true, und3, und4, und5, und9, h1, h3, h4, h5, geq0, hg, lq, callSs, wrSs, addr48, cs, callMul, wrMul, cm, mul2c, e2, st1, s250, lss64, hlt, lq1, lp1, callSq, wrSq, cq, cm2, add64', e1, st2, sub1c, e6]
    refine ⟨_, _, 2 * h + 1, Z, rfl, by rw [if_pos hc], hZ2, by simp only [upd_at, Nat.reduceEqDiff, reduceIte, h1], by simp only [upd_at, Nat.reduceEqDiff, reduceIte], by simp only [upd_at, Nat.reduceEqDiff, reduceIte, h3], by simp only [upd_at, Nat.reduceEqDiff, reduceIte], by simp only [upd_at, Nat.reduceEqDiff, reduceIte], by rw [List.getElem?_set_self (lt_of_at gq1)], fun b hb => by rw [List.getElem?_set_ne (fun e => hb e.symm), ho1 b hb]⟩
  · have hlt : decide (((2 * h : Nat) : Int) < ((250 / 2 ^ (6 - r) : Nat) : Int)) = false := decide_eq_false (by omega)
    rw [← el_st] at lq st1
    clear hS hN hM1
    simp only [lpon_0_eq, ↓don_5, ↓don_7, ↓son_5, ↓son_7, eon_0, eon_1, eon_2, eon_3, eon_4, eon_5, eon_6, eon_7, eon_8, lon_0, lon_1, lon_2, lon_3, lon_4, lon_5, lon_6, lon_7, lon_8, agd_none, gdAt, gdV_bool, gdV_undef, Tryd.f104, List.append_eq, List.cons_append, List.nil_append, apure_call1, apure_call2, apure_call3, bft, btf, acodeN, List.getElem?_toArray, List.getElem?_cons_zero, List.getElem?_cons_succ, aopsN, adrawT, cls, astep, aop, afloat, ev, nth_lst, get_lst, aput, setAt_lst, upd_at, init_zero, init_succ, init_nil, Nat.reduceLT, Nat.reduceEqDiff, reduceIte, abuiltin, alen, Option.map_some, Option.map_none, orElse_some, apure_add, apure_eqlV, eqlVal_str, eqlVal_bool, eqlVal_ptr, eqlVal_slice, eqlVal_wide, eqlVal_int, allT, ↓aop_eqlV, apure_neq, List.map_cons, List.map_nil, List.all_cons, List.all_nil, lit2, lit1, lit0, List.isEmpty_nil, Bool.and_self, Bool.and_true, Bool.true_and, Bool.false_and, Bool.and_false, Bool.not_true, Bool.not_false, Bool.or_true, Bool.true_or, Bool.false_or, Bool.or_false, Bool.false_eq_true, if_true, if_false, List.length_map, beq_self_eq_true, und3, und4, und5, und9, h1, h3, h4, h5, geq0, hg, lq, callSs, wrSs, addr48, cs, callMul, wrMul, cm, mul2c, e2, st1, s250, lss64, hlt, sub1c, e6]
    refine ⟨_, _, 2 * h, N, rfl, by rw [if_neg hc], hN2, by simp only [upd_at, Nat.reduceEqDiff, reduceIte, h1], by simp only [upd_at, Nat.reduceEqDiff, reduceIte], by simp only [upd_at, Nat.reduceEqDiff, reduceIte, h3], by simp only [upd_at, Nat.reduceEqDiff, reduceIte], by simp only [upd_at, Nat.reduceEqDiff, reduceIte], gq1, ho1⟩

theorem lastOn (h5 : F 5 = .int .i64 (-1)) : ∃ F', acodeN E self nf lpon_0 (lst F 31) M = some (.exit 0, lst F' 31, M) ∧ F' 2 = F 2 ∧ F' 3 = F 3 := by
  have hg : decide ((-1 : Int) ≥ 0) = false := rfl
  simp only [lpon_0_eq, ↓don_5, ↓don_7, ↓son_5, ↓son_7, eon_0, eon_1, eon_2, eon_3, eon_4, eon_5, eon_6, eon_7, eon_8, lon_0, lon_1, lon_2, lon_3, lon_4, lon_5, lon_6, lon_7, lon_8, agd_none, gdAt, gdV_bool, gdV_undef, Tryd.f104, List.append_eq, List.cons_append, List.nil_append, apure_call1, apure_call2, apure_call3, bft, btf, acodeN, List.getElem?_toArray, List.getElem?_cons_zero, List.getElem?_cons_succ, aopsN, adrawT, cls, astep, aop, afloat, ev, nth_lst, get_lst, aput, setAt_lst, upd_at, init_zero, init_succ, init_nil, Nat.reduceLT, Nat.reduceEqDiff, reduceIte, abuiltin, alen, Option.map_some, Option.map_none, orElse_some, apure_add, apure_eqlV, eqlVal_str, eqlVal_bool, eqlVal_ptr, eqlVal_slice, eqlVal_wide, eqlVal_int, allT, ↓aop_eqlV, apure_neq, List.map_cons, List.map_nil, List.all_cons, List.all_nil, lit2, lit1, lit0, List.isEmpty_nil, Bool.and_self, Bool.and_true, Bool.true_and, Bool.false_and, Bool.and_false, Bool.not_true, Bool.not_false, Bool.or_true, Bool.true_or, Bool.false_or, Bool.or_false, Bool.false_eq_true, if_true, if_false, List.length_map, beq_self_eq_true, und3, und4, und5, und9, h5, geq0, hg]
  exact ⟨_, rfl, by simp only [upd_at, Nat.reduceEqDiff, reduceIte], by simp only [upd_at, Nat.reduceEqDiff, reduceIte]⟩

theorem hv_le : ∀ r, r ≤ 7 → hv r < 400 ∧ 0 < hv r := by decide
theorem hv7 : hv 7 = 250 := by decide

theorem loopOn (h1 : F 1 = .pointer (some ⟨p, 0, none⟩)) (h3 : F 3 = .pointer (some ⟨q, 0, none⟩)) (h4 : F 4 = .int .i64 1) (h5 : F 5 = .int .i64 6) (hpq : p ≠ q) (hX : X < P25519)
    (hp : M[p]? = some (.row false 58 (c4 (wd 0 X) (wd 1 X) (wd 2 X) (wd 3 X)))) (hq : M[q]? = some (.row false 58 (c4 (wd 0 X) (wd 1 X) (wd 2 X) (wd 3 X))))
    (hsq : SquareOk self) (hmu : MulOk self) (hss : SquaresOk self) (hf : 20 < nf) :
    ∃ F' M', aloop (acodeN E self nf lpon_0) nf (lst F 31) M = some (.exit 0, lst F' 31, M') ∧ F' 2 = F 2 ∧ F' 3 = F 3 ∧ (∃ B, B = pw X (2 ^ 250 - 1) ∧ M'[q]? = some (.row false 58 (c4 (wd 0 B) (wd 1 B) (wd 2 B) (wd 3 B)))) ∧ (∀ b, b ≠ q → M'[b]? = M[b]?) := by
  have hloop := aloop_inv (body := acodeN E self nf lpon_0) (N := 7)
    (I := fun r T m' => (∃ B, B = pw X (2 ^ hv r - 1) ∧ m'[q]? = some (.row false 58 (c4 (wd 0 B) (wd 1 B) (wd 2 B) (wd 3 B)))) ∧ (∀ b, b ≠ q → m'[b]? = M[b]?) ∧ ∃ G, T = lst G 31 ∧ G 1 = F 1 ∧ G 2 = F 2 ∧ G 3 = F 3 ∧ G 4 = .int .i64 (hv r : Nat) ∧ G 5 = .int .i64 (6 - ((r : Nat) : Int)))
    (Q := fun e T m' => e = .exit 0 ∧ (∃ B, B = pw X (2 ^ 250 - 1) ∧ m'[q]? = some (.row false 58 (c4 (wd 0 B) (wd 1 B) (wd 2 B) (wd 3 B)))) ∧ (∀ b, b ≠ q → m'[b]? = M[b]?) ∧ ∃ G, T = lst G 31 ∧ G 2 = F 2 ∧ G 3 = F 3) (fun r T m' hi hI => by
      obtain ⟨⟨B, hB, gq⟩, ho, G, rfl, g1, g2, g3, g4, g5⟩ := hI
      by_cases hlt : r < 7
      · left
        obtain ⟨F', M', h', B', hr, hh', hB', f1, f2, f3, f4, f5, k1, k2⟩ := iterOn (self := self) (nf := nf) (g1.trans h1) (g3.trans h3) g4 g5 hlt (hv_le r hi).1 (hv_le r hi).2 hpq hX (by rw [ho p hpq]; exact hp) hB gq hsq hmu hss
        have hhv : h' = hv (r + 1) := hh'
        rw [hhv] at hB' f4
        exact ⟨_, _, hr, hlt, ⟨B', hB', k1⟩, fun b hb => by rw [k2 b hb, ho b hb], F', rfl, f1.trans g1, f2.trans g2, f3.trans g3, f4, f5⟩
      · right
        have : r = 7 := by omega
        subst this
        rw [hv7] at hB
        obtain ⟨F', hr, f2, f3⟩ := lastOn (self := self) (nf := nf) (M := m') (F := G) g5
        exact ⟨_, _, _, hr, by simp, rfl, ⟨B, hB, gq⟩, ho, F', rfl, f2.trans g2, f3.trans g3⟩)
  obtain ⟨e, T', M', hr, rfl, gq, ho, G, rfl, g2, g3⟩ := hloop 7 0 nf (lst F 31) M (by omega) (by omega) ⟨⟨X, by rw [show 2 ^ hv 0 - 1 = 1 from rfl, pw_one hX], hq⟩, fun _ _ => rfl, F, rfl, rfl, rfl, rfl, h4, h5⟩
  exact ⟨G, M', hr, g2, g3, gq, ho⟩

theorem sub2c : abin .sub .i64 8 .i64 2 = some (.int .i64 6) := by kernel_rfl
theorem on_body {m : Mem} (hX : X < P25519) (hsq : SquareOk self) (hmu : MulOk self) (hss : SquaresOk self) (hlen : Ans self 121 [.int .u64 250] (.int .i64 8)) (hf : 20 < nf) :
    ∃ m', abody E self nf 104 [el X] m = some (el (pw X (2 ^ 250 - 1)), m') := by
  rw [abody_eqF (by kernel_rfl) Tryd.func104 bodyon (by kernel_rfl) (Nat.le_of_ble_eq_true rfl)]
  rw [show Tryd.f104.ntmps = 31 from rfl]
  have b1 := box48 (wd 0 X) (wd 1 X) (wd 2 X) (wd 3 X) m
  generalize hA : m ++ [Blk.row false 58 (c4 (wd 0 X) (wd 1 X) (wd 2 X) (wd 3 X))] = A at b1
  have lA : A.length = m.length + 1 := by rw [← hA]; simp
  have b2 := alloc48 A
  rw [lA] at b2
  generalize hB : A ++ [Blk.row false 58 (c4 0 0 0 0)] = B at b2
  have lB : B.length = m.length + 2 := by rw [← hB]; simp [lA]
  have gx : B[m.length]? = some (.row false 58 (c4 (wd 0 X) (wd 1 X) (wd 2 X) (wd 3 X))) := by
    rw [← hB, List.getElem?_append_left (by omega), ← hA]; simp
  have gr : B[m.length + 1]? = some (.row false 58 (c4 0 0 0 0)) := by
    rw [← hB, List.getElem?_append_right (by omega), lA]; simp
  have lx := load48 gx
  have b3 := alloc48 B
  rw [lB] at b3
  generalize hC : B ++ [Blk.row false 58 (c4 0 0 0 0)] = C at b3
  have gc : C[m.length + 2]? = some (.row false 58 (c4 0 0 0 0)) := by
    rw [← hC, List.getElem?_append_right (by omega), lB]; simp
  have st1 := store48 (a := wd 0 X) (b := wd 1 X) (c := wd 2 X) (d := wd 3 X) gc rfl
  obtain ⟨D, hD⟩ : ∃ D, D = C.set (m.length + 2) (.row false 58 (c4 (wd 0 X) (wd 1 X) (wd 2 X) (wd 3 X))) := ⟨_, rfl⟩
  rw [← hD] at st1
  have dx : D[m.length]? = some (.row false 58 (c4 (wd 0 X) (wd 1 X) (wd 2 X) (wd 3 X))) := by
    rw [hD, List.getElem?_set_ne (by omega), ← hC, List.getElem?_append_left (by omega)]; exact gx
  have dr : D[m.length + 1]? = some (.row false 58 (c4 0 0 0 0)) := by
    rw [hD, List.getElem?_set_ne (by omega), ← hC, List.getElem?_append_left (by omega)]; exact gr
  have dc : D[m.length + 2]? = some (.row false 58 (c4 (wd 0 X) (wd 1 X) (wd 2 X) (wd 3 X))) := by
    rw [hD, List.getElem?_set_self (lt_of_at gc)]
  obtain ⟨G, M1, hl, g2, g3, ⟨Z, hZ, gq⟩, ho⟩ := loopOn (self := self) (nf := nf) (M := D) (p := m.length) (q := m.length + 2) (F := upd (upd (upd (upd (upd (upd (upd (upd (init [el X]) 1 (.pointer (some ⟨m.length, 0, none⟩))) 2 (.pointer (some ⟨m.length + 1, 0, none⟩))) 6 (el X)) 3 (.pointer (some ⟨m.length + 2, 0, none⟩))) 4 (.int .i64 1)) 7 (.int .i64 8)) 8 (.int .i64 6)) 5 (.int .i64 6)) rfl rfl rfl rfl (by omega) hX dx dc hsq hmu hss hf
  have g2' : G 2 = .pointer (some ⟨m.length + 1, 0, none⟩) := g2
  have g3' : G 3 = .pointer (some ⟨m.length + 2, 0, none⟩) := g3
  have kr : M1[m.length + 1]? = some (.row false 58 (c4 0 0 0 0)) := by rw [ho _ (by omega)]; exact dr
  have ld := load48 gq
  have st := store48 (a := wd 0 Z) (b := wd 1 Z) (c := wd 2 Z) (d := wd 3 Z) kr rfl
  have ld2 := load48 (m := M1.set (m.length + 1) (.row false 58 (c4 (wd 0 Z) (wd 1 Z) (wd 2 Z) (wd 3 Z)))) (p := m.length + 1) (a := wd 0 Z) (b := wd 1 Z) (c := wd 2 Z) (d := wd 3 Z) (by rw [List.getElem?_set_self (lt_of_at kr)])
  rw [← el_st] at b1 lx st1 ld st ld2
  rw [← hZ]
  unfold Ans at hlen
  simp only [↓don_5, ↓don_7, ↓son_5, ↓son_7, eon_0, eon_1, eon_2, eon_3, eon_4, eon_5, eon_6, eon_7, eon_8, lon_0, lon_1, lon_2, lon_3, lon_4, lon_5, lon_6, lon_7, lon_8, agd_none, gdAt, gdV_bool, gdV_undef, Tryd.f104, List.append_eq, List.cons_append, List.nil_append, apure_call1, apure_call2, apure_call3, bft, btf, acodeN, List.getElem?_toArray, List.getElem?_cons_zero, List.getElem?_cons_succ, aopsN, adrawT, cls, astep, aop, afloat, ev, nth_lst, get_lst, aput, setAt_lst, upd_at, init_zero, init_succ, init_nil, Nat.reduceLT, Nat.reduceEqDiff, reduceIte, abuiltin, alen, Option.map_some, Option.map_none, orElse_some, apure_add, apure_eqlV, eqlVal_str, eqlVal_bool, eqlVal_ptr, eqlVal_slice, eqlVal_wide, eqlVal_int, allT, ↓aop_eqlV, apure_neq, List.map_cons, List.map_nil, List.all_cons, List.all_nil, lit2, lit1, lit0, List.isEmpty_nil, Bool.and_self, Bool.and_true, Bool.true_and, Bool.false_and, Bool.and_false, Bool.not_true, Bool.not_false, Bool.or_true, Bool.true_or, Bool.false_or, Bool.or_false, Bool.false_eq_true, if_true, if_false, List.length_map, beq_self_eq_true, und3, und4, und5, und9, b1, b2, lx, b3, st1, callLen, hlen, sub2c, hl, g2', g3', ld, st, ld2, finish, ares, aresL, ares1]
  exact ⟨_, rfl⟩

theorem len64_body {m : Mem} : abody E self nf 66 [.int .u64 250] m = some (.int .i64 8, m) := by kernel_rfl

/-- What stands in a memory whose length reaches the globals. -/
theorem z48 : zeroB E.P 58 = some (.row false 58 (c4 0 0 0 0)) := by kernel_rfl
theorem el_lit (V : Nat) : lit2 (el V) = true := rfl
theorem lay48 (V : Nat) : astore E.P 58 (.pointer (some ⟨0, 0, none⟩)) (el V) [.row false 58 (c4 0 0 0 0)] = some [.row false 58 (c4 (wd 0 V) (wd 1 V) (wd 2 V) (wd 3 V))] := store48 rfl rfl

theorem iv_body {m : Mem} (hX : X < P25519) (hG : E.G ≤ m.length) (hsq : SquareOk self) (hmu : MulOk self) (hss : SquaresOk self) (hon : Ans self 104 [el X] (el (pw X (2 ^ 250 - 1)))) :
    ∃ m', abody E self nf 77 [el X] m = some (el (pw X (P25519 - 2)), m') := by
  rw [abody_eqF (by kernel_rfl) Tryd.func77 bodyiv (by kernel_rfl) (Nat.le_of_ble_eq_true rfl)]
  rw [show Tryd.f77.ntmps = 16 from rfl]
  have b1 := box48 (wd 0 X) (wd 1 X) (wd 2 X) (wd 3 X) m
  generalize hA : m ++ [Blk.row false 58 (c4 (wd 0 X) (wd 1 X) (wd 2 X) (wd 3 X))] = A at b1
  have lA : A.length = m.length + 1 := by rw [← hA]; simp
  have b2 := alloc48 A
  rw [lA] at b2
  generalize hB : A ++ [Blk.row false 58 (c4 0 0 0 0)] = B at b2
  have lB : B.length = m.length + 2 := by rw [← hB]; simp [lA]
  have gx : B[m.length]? = some (.row false 58 (c4 (wd 0 X) (wd 1 X) (wd 2 X) (wd 3 X))) := by
    rw [← hB, List.getElem?_append_left (by omega), ← hA]; simp
  have gr : B[m.length + 1]? = some (.row false 58 (c4 0 0 0 0)) := by
    rw [← hB, List.getElem?_append_right (by omega), lA]; simp
  have lx : aload E.P 58 (.pointer (some ⟨m.length, 0, none⟩)) (B.map sealed) = some (st4 (wd 0 X) (wd 1 X) (wd 2 X) (wd 3 X)) := load48 (ro := true) (e := 58) (by rw [List.getElem?_map, gx]; rfl)
  have db : decide (m.length < B.length) = true := decide_eq_true (by omega)
  have dG : decide (E.G ≤ B.length) = true := decide_eq_true (by omega)
  have c1 := hss X 3 hX (by omega)
  have c2 := hsq X hX
  rw [show X * X % P25519 = pw X 2 by unfold pw; rw [Nat.pow_two]] at c2
  have c3 := hmu (pw X (2 ^ 3)) (pw X 2) (pw_lt _ _) (pw_lt _ _)
  rw [pw_mul] at c3
  have c4' := hmu (pw X (2 ^ 3 + 2)) X (pw_lt _ _) hX
  rw [show pw X (2 ^ 3 + 2) * X % P25519 = pw X (2 ^ 3 + 2 + 1) by have := pw_mul X (2 ^ 3 + 2) 1; rw [pw_one hX] at this; exact this] at c4'
  have c5 := hss (pw X (2 ^ 250 - 1)) 5 (pw_lt _ _) (by omega)
  rw [pw_pow] at c5
  have c6 := hmu (pw X ((2 ^ 250 - 1) * 2 ^ 5)) (pw X (2 ^ 3 + 2 + 1)) (pw_lt _ _) (pw_lt _ _)
  rw [pw_mul, show (2 ^ 250 - 1) * 2 ^ 5 + (2 ^ 3 + 2 + 1) = P25519 - 2 by decide] at c6
  unfold Ans at c1 c2 c3 c4' c5 c6 hon
  rw [show (((3 : Nat)) : Int) = 3 from rfl] at c1
  rw [show (((5 : Nat)) : Int) = 5 from rfl] at c5
  generalize pw X (2 ^ 3) = Y1 at *
  generalize pw X 2 = Y2 at *
  generalize pw X (2 ^ 3 + 2) = Y3 at *
  generalize pw X (2 ^ 3 + 2 + 1) = Y4 at *
  generalize pw X (2 ^ 250 - 1) = Y5 at *
  generalize pw X ((2 ^ 250 - 1) * 2 ^ 5) = Y6 at *
  generalize pw X (P25519 - 2) = Z at *
  obtain ⟨D, hD⟩ : ∃ D, D = B ++ [Blk.row false 58 (c4 (wd 0 Y4) (wd 1 Y4) (wd 2 Y4) (wd 3 Y4))] := ⟨_, rfl⟩
  have dx : D[m.length]? = some (.row false 58 (c4 (wd 0 X) (wd 1 X) (wd 2 X) (wd 3 X))) := by
    rw [hD, List.getElem?_append_left (by omega)]; exact gx
  have dr : D[m.length + 1]? = some (.row false 58 (c4 0 0 0 0)) := by
    rw [hD, List.getElem?_append_left (by omega)]; exact gr
  have dy : D[m.length + 2]? = some (.row false 58 (c4 (wd 0 Y4) (wd 1 Y4) (wd 2 Y4) (wd 3 Y4))) := by
    rw [hD, List.getElem?_append_right (by omega), lB]; simp
  have l2 : aload E.P 58 (.pointer (some ⟨m.length, 0, none⟩)) (D.map sealed) = some (st4 (wd 0 X) (wd 1 X) (wd 2 X) (wd 3 X)) := load48 (ro := true) (e := 58) (by rw [List.getElem?_map, dx]; rfl)
  have l3 : aload E.P 58 (.pointer (some ⟨m.length + 2, 0, none⟩)) (D.map sealed) = some (st4 (wd 0 Y4) (wd 1 Y4) (wd 2 Y4) (wd 3 Y4)) := load48 (ro := true) (e := 58) (by rw [List.getElem?_map, dy]; rfl)
  have st := store48 (a := wd 0 Z) (b := wd 1 Z) (c := wd 2 Z) (d := wd 3 Z) dr rfl
  have ld2 := load48 (m := D.set (m.length + 1) (.row false 58 (c4 (wd 0 Z) (wd 1 Z) (wd 2 Z) (wd 3 Z)))) (p := m.length + 1) (a := wd 0 Z) (b := wd 1 Z) (c := wd 2 Z) (d := wd 3 Z) (by rw [List.getElem?_set_self (lt_of_at dr)])
  rw [← el_st] at b1 lx l2 l3 st ld2
  rw [← lB] at l3
  simp only [↓div_2, ↓siv_2, ↓ziv_1, qiv_1, qiv_101, eiv_0, eiv_1, eiv_2, liv_0, liv_1, liv_2, agd_none, gdAt, gdV_bool, gdV_undef, Tryd.f77, List.append_eq, List.cons_append, List.nil_append, apure_call1, apure_call2, apure_call3, bft, btf, acodeN, List.getElem?_toArray, List.getElem?_cons_zero, List.getElem?_cons_succ, aopsN, adrawT, cls, astep, aop, afloat, ev, nth_lst, get_lst, aput, setAt_lst, upd_at, init_zero, init_succ, init_nil, Nat.reduceLT, Nat.reduceEqDiff, reduceIte, abuiltin, alen, Option.map_some, Option.map_none, orElse_some, apure_add, apure_eqlV, eqlVal_str, eqlVal_bool, eqlVal_ptr, eqlVal_slice, eqlVal_wide, eqlVal_int, allT, ↓aop_eqlV, apure_neq, List.map_cons, List.map_nil, List.all_cons, List.all_nil, lit2, lit1, lit0, List.isEmpty_nil, Bool.and_self, Bool.and_true, Bool.true_and, Bool.false_and, Bool.and_false, Bool.not_true, Bool.not_false, Bool.or_true, Bool.true_or, Bool.false_or, Bool.or_false, Bool.false_eq_true, if_true, if_false, List.length_map, beq_self_eq_true, und3, und4, und5, und9, capsLit0, asr, asrT, contents, content, belowB, isCall, laterOk, eq_self, decide_true, Bool.and_self, b1, b2, lx, db, dG, callSs, wrSs, addr48, c1, callSq, wrSq, c2, callMul, wrMul, c3, c4', ↓el_lit, z48, lay48, Nat.add_zero, ← hD, l2, l3, callOn, wrOn, hon, c5, c6, st, ld2, finish, ares, aresL, ares1]
  exact ⟨_, rfl⟩
end
end Go.Am.Seat

/-
  What the field's functions answer, call by call (own work).
-/
set_option linter.unusedSimpArgs false
set_option linter.unusedVariables false
namespace Go.Am.Seat
open Go.Proofs Go.Am Go.Am.Num
set_option maxRecDepth 100000
set_option maxHeartbeats 4000000

noncomputable def rle_0 : Array Oper := match Tryd.f121.body with
  | some (.seq (.region _ o _) _) => o
  | _ => #[]
noncomputable def lle_0 : List Oper := match Tryd.f121.body with
  | some (.seq (.region _ o _) _) => o.toList
  | _ => []
theorem ele_0 : rle_0.toList = lle_0 := rfl
noncomputable def rle_1 : Array Oper := match Tryd.f121.body with
  | some (.seq _ (.seq (.cond _ (.seq (.region _ o _) _) _) _)) => o
  | _ => #[]
noncomputable def lle_1 : List Oper := match Tryd.f121.body with
  | some (.seq _ (.seq (.cond _ (.seq (.region _ o _) _) _) _)) => o.toList
  | _ => []
theorem ele_1 : rle_1.toList = lle_1 := rfl
noncomputable def rle_2 : Array Oper := match Tryd.f121.body with
  | some (.seq _ (.seq _ (.seq (.region _ o _) _))) => o
  | _ => #[]
noncomputable def lle_2 : List Oper := match Tryd.f121.body with
  | some (.seq _ (.seq _ (.seq (.region _ o _) _))) => o.toList
  | _ => []
theorem ele_2 : rle_2.toList = lle_2 := rfl
theorem bodyle : Tryd.f121.body = some (.seq (.region 0 rle_0 false) (.seq (.cond (.const (.bool false)) (.seq (.region 1 rle_1 false) .ret) .skip) (.seq (.region 2 rle_2 false) .ret))) := rfl
-- ntmps 8

theorem callLen64 : callableB E.P 66 = true := by kernel_rfl
theorem len_body {self : Self} {nf : Nat} {m : Mem} (h : Ans self 66 [.int .u64 250] (.int .i64 8)) : ∃ m', abody E self nf 121 [.int .u64 250] m = some (.int .i64 8, m') := by
  rw [abody_eqF (by kernel_rfl) Tryd.func121 bodyle (by kernel_rfl) (Nat.le_of_ble_eq_true rfl)]
  rw [show Tryd.f121.ntmps = 8 from rfl]
  unfold Ans at h
  simp only [ele_0, ele_1, ele_2, lle_0, lle_1, lle_2, agd_none, gdAt, gdV_bool, gdV_undef, Tryd.f121, List.append_eq, List.cons_append, List.nil_append, apure_call1, apure_call2, apure_call3, bft, btf, acodeN, List.getElem?_toArray, List.getElem?_cons_zero, List.getElem?_cons_succ, aopsN, adrawT, cls, astep, aop, afloat, ev, nth_lst, get_lst, aput, setAt_lst, upd_at, init_zero, init_succ, init_nil, Nat.reduceLT, Nat.reduceEqDiff, reduceIte, abuiltin, alen, Option.map_some, Option.map_none, orElse_some, apure_add, apure_eqlV, eqlVal_str, eqlVal_bool, eqlVal_ptr, eqlVal_slice, eqlVal_wide, eqlVal_int, allT, ↓aop_eqlV, apure_neq, List.map_cons, List.map_nil, List.all_cons, List.all_nil, lit2, lit1, lit0, List.isEmpty_nil, Bool.and_self, Bool.and_true, Bool.true_and, Bool.false_and, Bool.and_false, Bool.not_true, Bool.not_false, Bool.or_true, Bool.true_or, Bool.false_or, Bool.or_false, Bool.false_eq_true, if_true, if_false, List.length_map, beq_self_eq_true, und3, und4, und5, und9, callLen64, h, finish, ares, aresL, ares1]
  exact ⟨_, rfl⟩

/-- A call's answer where the memory reaches the globals. -/
def AnsG (self : Self) (f : FuncId) (args : List Value) (v : Value) : Prop := ∀ M : Mem, E.G ≤ M.length → ainv E self f args M = some (v, M)
theorem Ans.g {self : Self} {f : FuncId} {args : List Value} {v : Value} (h : Ans self f args v) : AnsG self f args v := fun M _ => h M
def fieldFs : List FuncId := [106, 105, 79, 83, 44, 46, 103, 121, 66, 104, 77, 80, 36, 57, 55, 40, 47, 50, 48, 42, 52, 53, 39]
/-- None of the field's functions is among the facts. -/
def NoF (K : List Fact) : Prop := ∀ f ∈ fieldFs, hasF K f = false

section
variable {MM : Mem} {K : List Fact} (hK : NoF K) {n : Nat}
include hK
theorem rk {f : FuncId} (hf : f ∈ fieldFs) {args : List Value} {m : Mem} : runK E MM K (n + 1) f args m = abody E (runK E MM K n) (n + 1) f args m := by
  rw [runK]
  simp only [hK f hf]

theorem L_ml (x y : Nat) (hx : x < 18446744073709551616) (hy : y < 18446744073709551616) : Ans (runK E MM K (n + 1)) 106 [.int .u64 (x : Nat), .int .u64 (y : Nat)] (pair64 (x * y / 18446744073709551616) (x * y % 18446744073709551616)) :=
  ans_of rfl (by kernel_rfl) rfl fun m => ⟨_, by rw [rk hK (by decide)]; exact ml_body hx hy⟩
theorem L_pl (V k : Nat) (hk : k < 18446744073709551616) : Ans (runK E MM K (n + 1)) 105 [.int .u64 (wd 0 V : Nat), .int .u64 (wd 1 V : Nat), .int .u64 (wd 2 V : Nat), .int .u64 (wd 3 V : Nat), .int .u64 (k : Nat)] (tup4 (wd 0 (V + k)) (wd 1 (V + k)) (wd 2 (V + k)) (wd 3 (V + k))) :=
  ans_of rfl (by kernel_rfl) rfl fun m => ⟨_, by rw [rk hK (by decide)]; exact pl_body hk⟩
theorem L_se : SettleOk (runK E MM K (n + 2)) := fun a b c d more ha hb hc hd hm => ans_of rfl (by kernel_rfl) rfl fun m => by
  rw [rk hK (by decide)]; exact se_body ha hb hc hd hm (fun V k hk => L_pl hK V k hk)
theorem L_tm : TimesOk (runK E MM K (n + 2)) := fun x0 x1 x2 x3 k a b c d V h0 h1 h2 h3 hk ha hb hc hd hV => ans_of rfl (by kernel_rfl) rfl fun m => by
  rw [rk hK (by decide)]; exact tm_body h0 h1 h2 h3 hk ha hb hc hd (fun x y hx hy => L_ml hK x y hx hy) hV
theorem L_mul (h : 10 ≤ n) : MulOk (runK E MM K (n + 3)) := fun A B hA hB => ans_of rfl (by kernel_rfl) rfl fun m => by
  rw [rk hK (by decide)]; exact fm_body (p_lt4 hA) (p_lt4 hB) (L_tm hK) (L_se hK) (by omega)
theorem L_sq (h : 10 ≤ n) : SquareOk (runK E MM K (n + 4)) := fun A hA => ans_of rfl (by kernel_rfl) rfl fun m => by
  rw [rk hK (by decide)]; exact sq_body (L_mul hK h A A hA hA)
theorem L_ss (h : 1000 ≤ n) : SquaresOk (runK E MM K (n + 5)) := fun A k hA hk => ans_of rfl (by kernel_rfl) rfl fun m => by
  rw [rk hK (by decide)]; exact ss_body hA hk (L_sq hK (by omega)) (by omega)
theorem L_len64 : Ans (runK E MM K (n + 1)) 66 [.int .u64 250] (.int .i64 8) := ans_of rfl (by kernel_rfl) rfl fun m => ⟨_, by rw [rk hK (by decide)]; exact len64_body⟩
theorem L_len : Ans (runK E MM K (n + 2)) 121 [.int .u64 250] (.int .i64 8) := ans_of rfl (by kernel_rfl) rfl fun m => by
  rw [rk hK (by decide)]; exact len_body (L_len64 hK)
theorem L_on (h : 1000 ≤ n) (A : Nat) (hA : A < P25519) : Ans (runK E MM K (n + 6)) 104 [el A] (el (pw A (2 ^ 250 - 1))) := ans_of rfl (by kernel_rfl) rfl fun m => by
  rw [rk hK (by decide)]; exact on_body hA (L_sq hK (by omega)) (L_mul hK (by omega)) (L_ss hK h) (L_len hK) (by omega)
theorem L_wo (h : 20 ≤ n) (b : Nat → Nat) (hb : ∀ i, b i < 256) (k : Nat) (hk : k < 4) : Ans (runK E MM K (n + 1)) 80 [arrK .u8 32 b, .int .i64 (k : Nat)] (.int .u64 ((accW b k 8 : Nat) : Int)) := ans_of (by simp only [List.all_cons, arrK_lit]; rfl) (by kernel_rfl) rfl fun m => by
  rw [rk hK (by decide)]; exact wo_body hk hb (by omega)
theorem L_lo (h : 20 ≤ n) (b : Nat → Nat) (hb : ∀ i, b i < 256) : Ans (runK E MM K (n + 3)) 36 [arrK .u8 32 b] (el (looseF b)) := ans_of (by simp only [List.all_cons, arrK_lit]; rfl) (by kernel_rfl) rfl fun m => by
  rw [rk hK (by decide)]; exact lo_body hb (fun k hk => L_wo hK (by omega) b hb k hk) (L_se hK)
theorem L_by (h : 40 ≤ n) (X : Nat) : Ans (runK E MM K (n + 1)) 57 [el X] (arrK .u8 32 (byteX X)) := ans_of rfl (by kernel_rfl) (arrK_lit _ _ _) fun m => by
  rw [rk hK (by decide)]; exact by_body (by omega)
theorem L_ad (X Y : Nat) (hX : X < P25519) (hY : Y < P25519) : Ans (runK E MM K (n + 3)) 40 [el X, el Y] (el ((X + Y) % P25519)) := ans_of rfl (by kernel_rfl) rfl fun m => by
  rw [rk hK (by decide)]; exact ad_body hX hY (L_se hK)
theorem L_ng (X : Nat) (hX : X < P25519) : AnsT (runK E MM K (n + 3)) 47 [el X] (el ((P25519 - X) % P25519)) := ans_ofT rfl (by kernel_rfl) rfl fun m hm => by
  rw [rk hK (by decide)]; exact ng_body (Nat.le_of_lt hX) (L_se hK) hm
theorem L_ng1 (X : Nat) (hX : X < P25519) : Ans (runK E MM K (n + 1)) 50 [el X] (.bool (decide (X % 2 = 1))) := ans_of rfl (by kernel_rfl) rfl fun m => by
  rw [rk hK (by decide)]; exact ng1_body (p_lt4 hX)
theorem L_ab (X : Nat) (hX : X < P25519) : AnsT (runK E MM K (n + 4)) 48 [el X] (el (absF X)) := ans_ofT rfl (by kernel_rfl) rfl fun m hm => by
  rw [rk hK (by decide)]; exact ab_body (L_ng1 hK X hX) (L_ng hK X hX) hm
theorem L_sb (X Y : Nat) (hX : X < P25519) (hY : Y < P25519) : AnsT (runK E MM K (n + 4)) 42 [el X, el Y] (el ((X + (P25519 - Y) % P25519) % P25519)) := ans_ofT rfl (by kernel_rfl) rfl fun m hm => by
  rw [rk hK (by decide)]; exact sb_body (L_ng hK Y hY) (L_ad hK X _ hX (Nat.mod_lt _ (by decide))) hm
theorem L_ze (X : Nat) (hX : X < P25519) : Ans (runK E MM K (n + 1)) 52 [el X] (.bool (decide (X = 0))) := ans_of rfl (by kernel_rfl) rfl fun m => by
  rw [rk hK (by decide)]; exact ze_body (p_lt4 hX)
theorem L_sm (X Y : Nat) (hX : X < P25519) (hY : Y < P25519) : Ans (runK E MM K (n + 1)) 53 [el X, el Y] (.bool (decide (X = Y))) := ans_of rfl (by kernel_rfl) rfl fun m => by
  rw [rk hK (by decide)]; exact sm_body (p_lt4 hX) (p_lt4 hY)
theorem L_fo (k : Nat) (hk : k < 18446744073709551616) : Ans (runK E MM K (n + 1)) 39 [.int .u64 (k : Nat)] (el k) := ans_of rfl (by kernel_rfl) rfl fun m => by
  rw [rk hK (by decide)]; exact fo_body hk
end
end Go.Am.Seat

/-
  FieldBytes on the abstract machine (own work).
-/
set_option linter.unusedSimpArgs false
set_option linter.unusedVariables false
namespace Go.Am.Seat
open Go.Proofs Go.Am Go.Am.Num
set_option maxRecDepth 100000
set_option maxHeartbeats 4000000

-- ntmps 80

theorem bytes_same {X Y : Nat} (hX : X < P25519) (hY : Y < P25519) : ((List.range 32).all fun j => ((byteX X j : Nat) : Int) == ((byteX Y j : Nat) : Int)) = decide (X = Y) := by
  by_cases h : X = Y
  · subst h; simp
  · rw [decide_eq_false h]
    cases hq : (List.range 32).all (fun j => ((byteX X j : Nat) : Int) == ((byteX Y j : Nat) : Int)) with
    | false => rfl
    | true =>
      exfalso
      apply h
      rw [List.all_eq_true] at hq
      have hb : ∀ j, j < 32 → byteX X j = byteX Y j := fun j hj => by
        have := hq j (List.mem_range.2 hj)
        exact Int.ofNat.inj (by simpa using this)
      rw [← loose_byteX hX, ← loose_byteX hY]
      unfold looseF
      have ha : ∀ k, k < 4 → accW (byteX X) k 8 = accW (byteX Y) k 8 := fun k hk => accW_ext k (fun i hi => hb (8 * k + i) (by omega)) 8 (Nat.le_refl _)
      rw [ha 0 (by omega), ha 1 (by omega), ha 2 (by omega), ha 3 (by omega)]

theorem callSm : callableB E.P 53 = true := by kernel_rfl
theorem callAb : callableB E.P 48 = true := by kernel_rfl
theorem wrLo : E.wr 36 = false := by kernel_rfl
theorem callAw5 : callableB E.P 35 = true := by kernel_rfl
section
variable {self : Self} {nf : Nat} {F : Nat → Value} {B D N N2 : Mem} {va vb vP vQ vX vY bX bY vN vA : Value} {pa pb px py pu pv pn : Nat} {rX rY : Blk}
end

section
variable {self : Self} {nf : Nat} {m : Mem} {a b : Nat → Nat}
end
end Go.Am.Seat
