/-
  The Builder with room, and Hex on the abstract machine (own work).
-/
import Derived.Test.YtmopnogcdjehmaaDoorAmO3
set_option linter.unusedSimpArgs false
set_option linter.unusedVariables false
namespace Go.Am.Seat
open Go.Proofs Go.Am
set_option maxRecDepth 100000

noncomputable def rhex_0 : Array Oper := match Tryd.f40.body with
  | some (.seq (.region _ o _) _) => o
  | _ => #[]
noncomputable def rhex_1 : Array Oper := match Tryd.f40.body with
  | some (.seq _ (.seq (.region _ o _) _)) => o
  | _ => #[]
noncomputable def rhex_2 : Array Oper := match Tryd.f40.body with
  | some (.seq _ (.seq _ (.seq (.region _ o _) _))) => o
  | _ => #[]
noncomputable def rhex_3 : Array Oper := match Tryd.f40.body with
  | some (.seq _ (.seq _ (.seq _ (.seq (.seq (.region _ o _) _) _)))) => o
  | _ => #[]
noncomputable def lphex_0 : Code := match Tryd.f40.body with
  | some (.seq _ (.seq _ (.seq _ (.seq (.seq _ (.block _ (.loop c))) _)))) => c
  | _ => .skip
noncomputable def rhex_4 : Array Oper := match Tryd.f40.body with
  | some (.seq _ (.seq _ (.seq _ (.seq (.seq _ (.block _ (.loop (.seq (.region _ o _) _)))) _)))) => o
  | _ => #[]
noncomputable def rhex_5 : Array Oper := match Tryd.f40.body with
  | some (.seq _ (.seq _ (.seq _ (.seq (.seq _ (.block _ (.loop (.seq _ (.seq _ (.seq (.block _ (.seq (.region _ o _) _)) _)))))) _)))) => o
  | _ => #[]
noncomputable def rhex_6 : Array Oper := match Tryd.f40.body with
  | some (.seq _ (.seq _ (.seq _ (.seq (.seq _ (.block _ (.loop (.seq _ (.seq _ (.seq (.block _ (.seq _ (.seq (.region _ o _) _))) _)))))) _)))) => o
  | _ => #[]
noncomputable def rhex_7 : Array Oper := match Tryd.f40.body with
  | some (.seq _ (.seq _ (.seq _ (.seq (.seq _ (.block _ (.loop (.seq _ (.seq _ (.seq (.block _ (.seq _ (.seq _ (.region _ o _)))) _)))))) _)))) => o
  | _ => #[]
noncomputable def rhex_8 : Array Oper := match Tryd.f40.body with
  | some (.seq _ (.seq _ (.seq _ (.seq (.seq _ (.block _ (.loop (.seq _ (.seq _ (.seq _ (.region _ o _))))))) _)))) => o
  | _ => #[]
theorem lphex_0_eq : lphex_0 = (.seq (.region 4 rhex_4 false) (.seq (.cond (.tmp 12) .skip (.exit 0)) (.seq (.block 1 (.seq (.region 5 rhex_5 false) (.seq (.region 6 rhex_6 false) (.region 7 rhex_7 false)))) (.region 8 rhex_8 false)))) := rfl
noncomputable def rhex_9 : Array Oper := match Tryd.f40.body with
  | some (.seq _ (.seq _ (.seq _ (.seq _ (.seq (.region _ o _) _))))) => o
  | _ => #[]
theorem bodyhex : Tryd.f40.body = some (.seq (.region 0 rhex_0 false) (.seq (.region 1 rhex_1 false) (.seq (.region 2 rhex_2 false) (.seq (.seq (.region 3 rhex_3 false) (.block 0 (.loop lphex_0))) (.seq (.region 9 rhex_9 false) .ret))))) := rfl
-- ntmps 28
noncomputable def rbGrow_0 : Array Oper := match Tryd.f67.body with
  | some (.seq (.region _ o _) _) => o
  | _ => #[]
noncomputable def rbGrow_1 : Array Oper := match Tryd.f67.body with
  | some (.seq _ (.seq (.seq (.region _ o _) _) _)) => o
  | _ => #[]
noncomputable def rbGrow_2 : Array Oper := match Tryd.f67.body with
  | some (.seq _ (.seq (.seq _ (.cond _ (.region _ o _) _)) _)) => o
  | _ => #[]
noncomputable def rbGrow_3 : Array Oper := match Tryd.f67.body with
  | some (.seq _ (.seq _ (.seq (.region _ o _) _))) => o
  | _ => #[]
theorem dbGrow_3 {self : Self} {B : Nat} {T : List Value} {m : Mem} {lb : List (Nat × Nat)} {ls : Bool} : adrawN E self rbGrow_3 B rbGrow_3.toList 0 T m lb ls = adrawT E self rbGrow_3 B rbGrow_3.toList [(false, false), (false, false), (false, false), (false, false), (false, false), (false, false), (false, false), (false, false), (false, false), (false, false), (false, false), (false, false), (false, false)] 0 T m lb ls := adraw_tab (by kernel_rfl)
noncomputable def rbGrow_4 : Array Oper := match Tryd.f67.body with
  | some (.seq _ (.seq _ (.seq _ (.cond _ (.region _ o _) _)))) => o
  | _ => #[]
theorem bodybGrow : Tryd.f67.body = some (.seq (.region 0 rbGrow_0 false) (.seq (.seq (.region 1 rbGrow_1 false) (.cond (.tmp 7) (.region 2 rbGrow_2 false) .skip)) (.seq (.region 3 rbGrow_3 true) (.cond (.tmp 21) (.region 4 rbGrow_4 false) .skip)))) := rfl
-- ntmps 25
noncomputable def rbgrow_0 : Array Oper := match Tryd.f92.body with
  | some (.seq (.region _ o _) _) => o
  | _ => #[]
theorem dbgrow_0 {self : Self} {B : Nat} {T : List Value} {m : Mem} {lb : List (Nat × Nat)} {ls : Bool} : adrawN E self rbgrow_0 B rbgrow_0.toList 0 T m lb ls = adrawT E self rbgrow_0 B rbgrow_0.toList [(false, false), (false, false), (false, false), (false, false), (false, false), (false, false), (false, false), (false, false), (false, false), (false, false), (false, false), (false, false), (true, false), (false, false), (false, false), (false, false)] 0 T m lb ls := adraw_tab (by kernel_rfl)
noncomputable def rbgrow_1 : Array Oper := match Tryd.f92.body with
  | some (.seq _ (.seq (.region _ o _) _)) => o
  | _ => #[]
noncomputable def rbgrow_2 : Array Oper := match Tryd.f92.body with
  | some (.seq _ (.seq _ (.region _ o _))) => o
  | _ => #[]
theorem bodybgrow : Tryd.f92.body = some (.seq (.region 0 rbgrow_0 true) (.seq (.region 1 rbgrow_1 false) (.region 2 rbgrow_2 false))) := rfl
-- ntmps 30

/-- A Builder with room. -/
def BufC (m : Mem) (q : Nat) (l : List Int) (c : Nat) : Prop :=
  ∃ b cs, q < b ∧ m[q]? = some (.row false 91 [.pointer (some ⟨q, 0, none⟩), .slice (some ⟨b, 0, none⟩) l.length c]) ∧ m[b]? = some (.row false 5 cs) ∧ cs.length = c ∧ cs.take l.length = l.map (.int .u8) ∧ l.length ≤ c

theorem ainv_wr {self : Self} {g : FuncId} {args : List Value} {m : Mem} (hw : E.wr g = true) (ha : args.all lit2 = false) : ainv E self g args m = self g args m := by
  unfold ainv
  rw [ha]
  simp only [Bool.false_eq_true, if_false, hw, if_true]

section
variable {K : List Fact} {n q c : Nat} {m : Mem} {l : List Int}

theorem writeByteC (hK : hasF K 91 = false) (hK' : hasF K 68 = false) (x : Int) (hb : BufC m q l c) (hl : l.length < c) :
    ∃ m', runK E mem2 K (n + 2) 68 [.pointer (some ⟨q, 0, none⟩), .int .u8 x] m = some (.nilIface, m') ∧ BufC m' q (l ++ [x]) c := by
  rw [runK_other hK']
  obtain ⟨b, cs, hqb, hq, hbb, hc, htk, hlc⟩ := hb
  have hqm := lt_of_at hq
  have hbm := lt_of_at hbb
  have hcc := copy_used (n := n) hK hq
  have happ := app_inplace (c := x) hbb hl hc
  have h2 : ((m ++ [Blk.row false 5 [.int .u8 x]]).set b (.row false 5 (cs.set l.length (.int .u8 x))))[q]? = some (Blk.row false 91 [.pointer (some ⟨q, 0, none⟩), .slice (some ⟨b, 0, none⟩) l.length c]) := by
    rw [List.getElem?_set_ne (by omega), List.getElem?_append_left (by omega)]
    exact hq
  have hst := store35 h2 (o := 1) (show 1 < 2 by omega) (some ⟨b, 0, none⟩) (l.length + 1) c
  refine ⟨_, body63 hcc (cellAt_row hq 1) happ hst, b, cs.set l.length (.int .u8 x), hqb, ?_, ?_, by simp [hc], ?_, by simp; omega⟩
  · rw [List.getElem?_set_self (by simp; omega)]
    simp
  · rw [List.getElem?_set_ne (by omega), List.getElem?_set_self (by simp; omega)]
  · rw [List.map_append, ← htk, List.length_append, List.length_singleton, List.take_add_one, List.take_set_of_le (by omega), List.getElem?_set_self (by omega)]
    rfl
end

theorem shr4 (a : Int) : abin .shr .u8 a .u64 4 = some (.int .u8 (a.fdiv 16)) := by kernel_rfl
theorem and8 (a b : Int) : abin .and .u8 a .u8 b = some (.int .u8 (wrapF .u8 (((a % 256).toNat &&& (b % 256).toNat : Nat) : Int))) := by kernel_rfl
theorem index9k {kd : IntKind} {s : ByteArray} {i : Nat} {b : UInt8} (h : s.data.toList[i]? = some b) : aindex E.P 9 (.string s) (.int kd (i : Nat)) = some (.int .u8 (b.toNat : Int)) := by
  unfold aindex
  simp only [und9]
  rw [if_pos (by omega), Int.toNat_natCast, h]
theorem dig_get : ∀ k : Nat, k < 16 → digitsS.data.toList[k]? = some (hexd k)
  | 0, _ => by rfl
  | 1, _ => by rfl
  | 2, _ => by rfl
  | 3, _ => by rfl
  | 4, _ => by rfl
  | 5, _ => by rfl
  | 6, _ => by rfl
  | 7, _ => by rfl
  | 8, _ => by rfl
  | 9, _ => by rfl
  | 10, _ => by rfl
  | 11, _ => by rfl
  | 12, _ => by rfl
  | 13, _ => by rfl
  | 14, _ => by rfl
  | 15, _ => by rfl
  | k + 16, h => absurd h (by omega)
theorem bh (b : UInt8) : ((b.toNat : Nat) : Int).fdiv 16 = ((b.toNat / 16 : Nat) : Int) := by
  rw [Int.fdiv_eq_ediv_of_nonneg _ (by omega)]
  omega
theorem bl (b : UInt8) : wrapF .u8 ((((((b.toNat : Nat) : Int) % 256).toNat &&& ((15 : Int) % 256).toNat : Nat)) : Int) = ((b.toNat % 16 : Nat) : Int) := by
  have h := b.toNat_lt
  have e1 : (((b.toNat : Nat) : Int) % 256).toNat = b.toNat := by omega
  have e2 : ((15 : Int) % 256).toNat = 2 ^ 4 - 1 := rfl
  rw [e1, e2, Nat.and_two_pow_sub_one_eq_mod]
  simp only [wrapF]
  omega
theorem callWB : callableB E.P 68 = true := by kernel_rfl
theorem callGrow : callableB E.P 67 = true := by kernel_rfl
theorem callgrow : callableB E.P 92 = true := by kernel_rfl
theorem callString : callableB E.P 69 = true := by kernel_rfl
theorem callcc : callableB E.P 91 = true := by kernel_rfl

section
variable {self : Self} {nf q c : Nat} {m : Mem} {F : Nat → Value} {s : ByteArray} {i : Nat}

theorem iterHex (h0 : F 0 = .string s) (h3 : F 3 = .pointer (some ⟨q, 0, none⟩)) (h10 : F 10 = .int .i64 ((s.data.toList.length : Nat) : Int)) (h11 : F 11 = .int .i64 (i : Nat)) {b : UInt8} (hb : s.data.toList[i]? = some b) (hi : s.data.toList.length ≤ 100000) {m1 m2 : Mem}
    (w1' : ainv E self 68 [.pointer (some ⟨q, 0, none⟩), .int .u8 (((hexd (b.toNat / 16)).toNat : Nat) : Int)] m = some (.nilIface, m1))
    (w2' : ainv E self 68 [.pointer (some ⟨q, 0, none⟩), .int .u8 (((hexd (b.toNat % 16)).toNat : Nat) : Int)] m1 = some (.nilIface, m2)) :
    ∃ F', acodeN E self nf lphex_0 (lst F 28) m = some (.normal, lst F' 28, m2) ∧ F' 0 = .string s ∧ F' 3 = .pointer (some ⟨q, 0, none⟩) ∧ F' 10 = .int .i64 ((s.data.toList.length : Nat) : Int) ∧ F' 11 = .int .i64 ((i + 1 : Nat) : Int) := by
  have hil := (List.getElem?_eq_some_iff.1 hb).1
  have hlt : decide (((i : Nat) : Int) < ((s.data.toList.length : Nat) : Int)) = true := decide_eq_true (by omega)
  have hbt := b.toNat_lt
  have d1 := index9k (kd := .u8) (dig_get (b.toNat / 16) (by omega))
  have d2 := index9k (kd := .u8) (dig_get (b.toNat % 16) (by omega))
  have hi1 := w1 (i := i) (by omega)
  simp only [lphex_0_eq, rhex_0, rhex_1, rhex_2, rhex_3, rhex_4, rhex_5, rhex_6, rhex_7, rhex_8, rhex_9, Tryd.f40, List.append_eq, List.cons_append, List.nil_append, apure_call1, apure_call2, apure_call3, bft, btf, acodeN, List.getElem?_toArray, List.getElem?_cons_zero, List.getElem?_cons_succ, aopsN, adrawT, agd, cls, astep, aop, afloat, ev, nth_lst, get_lst, aput, setAt_lst, upd_at, init_zero, init_succ, init_nil, Nat.reduceLT, Nat.reduceEqDiff, reduceIte, abuiltin, alen, Option.map_some, Option.map_none, orElse_some, apure_add, apure_eql, apure_neq, List.map_cons, List.map_nil, List.all_cons, List.all_nil, lit2, lit1, lit0, List.isEmpty_nil, Bool.and_self, Bool.and_true, Bool.true_and, Bool.false_and, Bool.and_false, Bool.not_true, Bool.not_false, Bool.or_true, Bool.true_or, Bool.false_or, Bool.or_false, Bool.false_eq_true, if_true, if_false, List.length_map, beq_self_eq_true, und3, und4, und5, und9, h0, h3, h10, h11, lss64, hlt, index9 hb, shr4, and8, bh, bl, d1, d2, callWB, w1', w2', add64', hi1]
  exact ⟨_, rfl, by simp only [upd_at, Nat.reduceEqDiff, reduceIte, h0], by simp only [upd_at, Nat.reduceEqDiff, reduceIte, h3], by simp only [upd_at, Nat.reduceEqDiff, reduceIte, h10], by simp only [upd_at, Nat.reduceEqDiff, reduceIte]⟩

theorem lastHex (h10 : F 10 = .int .i64 ((s.data.toList.length : Nat) : Int)) (h11 : F 11 = .int .i64 (i : Nat)) (hi : s.data.toList.length ≤ i) :
    ∃ F', acodeN E self nf lphex_0 (lst F 28) m = some (.exit 0, lst F' 28, m) ∧ F' 3 = F 3 := by
  have hlt : decide (((i : Nat) : Int) < ((s.data.toList.length : Nat) : Int)) = false := decide_eq_false (by omega)
  simp only [lphex_0_eq, rhex_0, rhex_1, rhex_2, rhex_3, rhex_4, rhex_5, rhex_6, rhex_7, rhex_8, rhex_9, Tryd.f40, List.append_eq, List.cons_append, List.nil_append, apure_call1, apure_call2, apure_call3, bft, btf, acodeN, List.getElem?_toArray, List.getElem?_cons_zero, List.getElem?_cons_succ, aopsN, adrawT, agd, cls, astep, aop, afloat, ev, nth_lst, get_lst, aput, setAt_lst, upd_at, init_zero, init_succ, init_nil, Nat.reduceLT, Nat.reduceEqDiff, reduceIte, abuiltin, alen, Option.map_some, Option.map_none, orElse_some, apure_add, apure_eql, apure_neq, List.map_cons, List.map_nil, List.all_cons, List.all_nil, lit2, lit1, lit0, List.isEmpty_nil, Bool.and_self, Bool.and_true, Bool.true_and, Bool.false_and, Bool.and_false, Bool.not_true, Bool.not_false, Bool.or_true, Bool.true_or, Bool.false_or, Bool.or_false, Bool.false_eq_true, if_true, if_false, List.length_map, beq_self_eq_true, und3, und4, und5, und9, h10, h11, lss64, hlt]
  exact ⟨_, rfl, by simp only [upd_at, Nat.reduceEqDiff, reduceIte]⟩
end
theorem cap_nil : apC1 E.P .cap #[35] 3 (.slice none 0 0) = some (.int .i64 0) := by kernel_rfl
theorem len_nil : apC1 E.P .len #[35] 3 (.slice none 0 0) = some (.int .i64 0) := by kernel_rfl
theorem sub64' (a b : Int) : abin .sub .i64 a .i64 b = some (.int .i64 (wrapF .i64 (a - b))) := by kernel_rfl
theorem mul64' (a b : Int) : abin .mul .i64 a .i64 b = some (.int .i64 (wrapF .i64 (a * b))) := by kernel_rfl
theorem sub00 : wrapF .i64 ((0 : Int) - 0) = 0 := rfl
theorem mul20 : wrapF .i64 ((2 : Int) * 0) = 0 := rfl
theorem call109 : callableB E.P 109 = false := by kernel_rfl
theorem ext109 : E.ext 109 = some (.noZero 5) := by kernel_rfl
theorem und35 : E.P.underlying 35 = some (.slice 5) := Tryd.underlying35
theorem addrT35 : addrT E.P 4 35 = true := by kernel_rfl
theorem wr109 : E.wr 109 = false := by kernel_rfl
theorem slice35 {m : Mem} {b n : Nat} {ro : Bool} {cs : List Value} (h : m[b]? = some (.row ro 5 cs)) (hn : 0 < n) : aslice E.P 35 (.slice (some ⟨b, 0, none⟩) n n) none (some (.int .i64 0)) m = some (.slice (some ⟨b, 0, none⟩) 0 n) := by
  obtain ⟨i, z, h1, h2, h3, h4, h5⟩ := info5
  unfold aslice
  simp only [und35, h1, lookRow h]
  unfold abounds abound
  simp only
  rw [if_pos (by omega)]
  simp only
  rw [if_neg (by omega)]
  simp
theorem copy_none {m : Mem} {b n : Nat} {cs : List Value} (h : m[b]? = some (.row false 5 cs)) : acopy E.P 35 (.slice (some ⟨b, 0, none⟩) 0 n) (.slice none 0 0) m = some (.int .i64 0, m) := by
  obtain ⟨i, z, h1, h2, h3, h4, h5⟩ := info5
  unfold acopy
  simp only [und35, h1, asrc, h, if_true]
  rw [if_pos (by simp)]
  simp only [Nat.min_self, Nat.zero_mul, List.take_nil, List.take_zero, Nat.min_zero]
  have hl : lay cs 0 [] = cs := by simp [lay]
  rw [hl]
  have hs : m.set b (.row false 5 cs) = m := by
    apply List.ext_getElem?
    intro j
    rw [List.getElem?_set]
    split
    · rename_i hj
      subst hj
      split
      · exact h.symm
      · rename_i hno
        exact absurd (List.getElem?_eq_some_iff.1 h).1 hno
    · rfl
  rw [hs]
  rfl

section
variable {self : Self} {nf q n : Nat} {m : Mem}

theorem grow_body (hq : m[q]? = some (.row false 91 [.pointer (some ⟨q, 0, none⟩), .slice none 0 0])) (hn : 0 < n) (hn' : n ≤ 1000000) :
    ∃ m', abody E self nf 92 [.pointer (some ⟨q, 0, none⟩), .int .i64 (n : Nat)] m = some (.tuple ⟨[]⟩, m') ∧ BufC m' q [] n := by
  rw [abody_eqF (by kernel_rfl) Tryd.func92 bodybgrow (by kernel_rfl) (Nat.le_of_ble_eq_true rfl)]
  rw [show Tryd.f92.ntmps = 30 from rfl]
  have hqm := lt_of_at hq
  have hqs : (m.map sealed)[q]? = some (.row true 91 [.pointer (some ⟨q, 0, none⟩), .slice none 0 0]) := by
    rw [List.getElem?_map, hq]
    rfl
  have hc : cellAt (m.map sealed) q 1 = some (.slice none 0 0) := cellAt_row hqs 1
  have hw0 : wrapF .i64 ((0 : Int) + ((n : Nat) : Int)) = ((n : Nat) : Int) := by rw [wrap_i64 (by omega) (by omega)]; omega
  have hx : aext (.noZero 5) [.int .i64 (n : Nat)] m = some (.slice (some ⟨m.length, 0, none⟩) n n, m ++ [.row false 5 (List.replicate n junk)]) := by
    unfold aext
    simp only
    rw [if_pos (by omega)]
    simp
  have hq2 : ((m ++ [Blk.row false 5 (List.replicate n junk)]).map sealed)[q]? = some (.row true 91 [.pointer (some ⟨q, 0, none⟩), .slice none 0 0]) := by
    rw [List.getElem?_map, List.getElem?_append_left hqm, hq]
    rfl
  have hc2 : cellAt ((m ++ [Blk.row false 5 (List.replicate n junk)]).map sealed) q 1 = some (.slice none 0 0) := cellAt_row hq2 1
  have hb2 : ((m ++ [Blk.row false 5 (List.replicate n junk)]).map sealed)[m.length]? = some (.row true 5 (List.replicate n junk)) := by
    rw [List.getElem?_map, List.getElem?_append_right (Nat.le_refl _)]
    simp [sealed]
  have hsl := slice35 hb2 hn
  have hb3 : (m ++ [Blk.row false 5 (List.replicate n junk)])[m.length]? = some (.row false 5 (List.replicate n junk)) := by simp
  have hq3 : (m ++ [Blk.row false 5 (List.replicate n junk)])[q]? = some (.row false 91 [.pointer (some ⟨q, 0, none⟩), .slice none 0 0]) := by
    rw [List.getElem?_append_left hqm]; exact hq
  have hc3 : cellAt (m ++ [Blk.row false 5 (List.replicate n junk)]) q 1 = some (.slice none 0 0) := cellAt_row hq3 1
  have hcp := copy_none (n := n) hb3
  have hst := store35 hq3 (o := 1) (show 1 < 2 by omega) (some ⟨m.length, 0, none⟩) 0 n
  have hdq : decide (q < m.length) = true := decide_eq_true hqm
  have hdbgrow_0 := @dbgrow_0
  simp only [rbgrow_0, Tryd.f92] at hdbgrow_0
  simp only [hdbgrow_0, rbgrow_0, rbgrow_1, rbgrow_2, Tryd.f92, List.append_eq, List.cons_append, List.nil_append, apure_call1, apure_call2, apure_call3, bft, btf, acodeN, List.getElem?_toArray, List.getElem?_cons_zero, List.getElem?_cons_succ, aopsN, adrawT, agd, cls, astep, aop, afloat, ev, nth_lst, get_lst, aput, setAt_lst, upd_at, init_zero, init_succ, init_nil, Nat.reduceLT, Nat.reduceEqDiff, reduceIte, abuiltin, alen, Option.map_some, Option.map_none, orElse_some, apure_add, apure_eql, apure_neq, List.map_cons, List.map_nil, List.all_cons, List.all_nil, lit2, lit1, lit0, List.isEmpty_nil, Bool.and_self, Bool.and_true, Bool.true_and, Bool.false_and, Bool.and_false, Bool.not_true, Bool.not_false, Bool.or_true, Bool.true_or, Bool.false_or, Bool.or_false, Bool.false_eq_true, if_true, if_false, List.length_map, beq_self_eq_true, und3, und4, und5, und9, fa86_1, load35, hc, hc2, hc3, cap_nil, len_nil, und35, mul64', mul20, add64', hw0, addrT35, wr109, call109, ext109, hx, earlyOk, belowB, hdq, hsl, hcp, hst, Nat.zero_add, finish, ares, aresL, ares1]
  refine ⟨_, rfl, m.length, List.replicate n junk, hqm, ?_, ?_, by simp, rfl, by simp⟩
  · rw [List.getElem?_set_self (by simp; omega)]
    rfl
  · rw [List.getElem?_set_ne (by omega)]
    exact hb3
end
end Go.Am.Seat
