/-
  Texts of my own, put together: Y6, Y7, Y8, Y9, Y10, K6, Y11.
-/
import Derived.Test.YtfgincdpgdlfnaaDoorGrLimbTexts18
import Derived.Test.YtfgincdpgdlfnaaDoorGrLimbTexts8
set_option linter.unusedSimpArgs false
set_option linter.unusedVariables false
set_option maxRecDepth 100000
namespace Go.Am.Seat
open Go.Proofs Go.Am
noncomputable def rrcmp_0 : Array Oper := match Tryd.f6.body with
  | some (.seq (.region _ o _) _) => o
  | _ => #[]
noncomputable def lrcmp_0 : List Oper := match Tryd.f6.body with
  | some (.seq (.region _ o _) _) => o.toList
  | _ => []
theorem ercmp_0 : rrcmp_0.toList = lrcmp_0 := rfl
noncomputable def rrcmp_1 : Array Oper := match Tryd.f6.body with
  | some (.seq _ (.seq (.seq (.region _ o _) _) _)) => o
  | _ => #[]
noncomputable def lrcmp_1 : List Oper := match Tryd.f6.body with
  | some (.seq _ (.seq (.seq (.region _ o _) _) _)) => o.toList
  | _ => []
theorem ercmp_1 : rrcmp_1.toList = lrcmp_1 := rfl
noncomputable def rrcmp_2 : Array Oper := match Tryd.f6.body with
  | some (.seq _ (.seq (.seq _ (.cond _ (.seq (.seq (.region _ o _) _) _) _)) _)) => o
  | _ => #[]
noncomputable def lrcmp_2 : List Oper := match Tryd.f6.body with
  | some (.seq _ (.seq (.seq _ (.cond _ (.seq (.seq (.region _ o _) _) _) _)) _)) => o.toList
  | _ => []
theorem ercmp_2 : rrcmp_2.toList = lrcmp_2 := rfl
noncomputable def rrcmp_3 : Array Oper := match Tryd.f6.body with
  | some (.seq _ (.seq (.seq _ (.cond _ (.seq (.seq _ (.cond _ (.seq (.region _ o _) _) _)) _) _)) _)) => o
  | _ => #[]
noncomputable def lrcmp_3 : List Oper := match Tryd.f6.body with
  | some (.seq _ (.seq (.seq _ (.cond _ (.seq (.seq _ (.cond _ (.seq (.region _ o _) _) _)) _) _)) _)) => o.toList
  | _ => []
theorem ercmp_3 : rrcmp_3.toList = lrcmp_3 := rfl
noncomputable def rrcmp_4 : Array Oper := match Tryd.f6.body with
  | some (.seq _ (.seq (.seq _ (.cond _ (.seq _ (.seq (.region _ o _) _)) _)) _)) => o
  | _ => #[]
noncomputable def lrcmp_4 : List Oper := match Tryd.f6.body with
  | some (.seq _ (.seq (.seq _ (.cond _ (.seq _ (.seq (.region _ o _) _)) _)) _)) => o.toList
  | _ => []
theorem ercmp_4 : rrcmp_4.toList = lrcmp_4 := rfl
noncomputable def rrcmp_5 : Array Oper := match Tryd.f6.body with
  | some (.seq _ (.seq _ (.seq (.seq (.region _ o _) _) _))) => o
  | _ => #[]
noncomputable def lrcmp_5 : List Oper := match Tryd.f6.body with
  | some (.seq _ (.seq _ (.seq (.seq (.region _ o _) _) _))) => o.toList
  | _ => []
theorem ercmp_5 : rrcmp_5.toList = lrcmp_5 := rfl
noncomputable def lprcmp_0 : Code := match Tryd.f6.body with
  | some (.seq _ (.seq _ (.seq (.seq _ (.block _ (.loop c))) _))) => c
  | _ => .skip
noncomputable def rrcmp_6 : Array Oper := match Tryd.f6.body with
  | some (.seq _ (.seq _ (.seq (.seq _ (.block _ (.loop (.seq (.seq (.region _ o _) _) _)))) _))) => o
  | _ => #[]
noncomputable def lrcmp_6 : List Oper := match Tryd.f6.body with
  | some (.seq _ (.seq _ (.seq (.seq _ (.block _ (.loop (.seq (.seq (.region _ o _) _) _)))) _))) => o.toList
  | _ => []
theorem ercmp_6 : rrcmp_6.toList = lrcmp_6 := rfl
noncomputable def rrcmp_8 : Array Oper := match Tryd.f6.body with
  | some (.seq _ (.seq _ (.seq (.seq _ (.block _ (.loop (.seq _ (.seq (.block _ (.seq (.seq (.region _ o _) _) _)) _))))) _))) => o
  | _ => #[]
noncomputable def lrcmp_8 : List Oper := match Tryd.f6.body with
  | some (.seq _ (.seq _ (.seq (.seq _ (.block _ (.loop (.seq _ (.seq (.block _ (.seq (.seq (.region _ o _) _) _)) _))))) _))) => o.toList
  | _ => []
theorem ercmp_8 : rrcmp_8.toList = lrcmp_8 := rfl
theorem drcmp_8 {self : Self} {B : Nat} {T : List Value} {m : Mem} {lb : List (Nat × Nat)} {ls : Bool} : adrawN E self rrcmp_8 B rrcmp_8.toList 0 T m lb ls = adrawT E self rrcmp_8 B rrcmp_8.toList [(false, false), (false, false), (false, false), (false, false), (false, false), (false, false), (false, false), (false, false), (false, false)] 0 T m lb ls := adraw_tab (by kernel_rfl)
theorem srcmp_8 : E.sr 8 rrcmp_8 = false := by kernel_rfl
noncomputable def rrcmp_9 : Array Oper := match Tryd.f6.body with
  | some (.seq _ (.seq _ (.seq (.seq _ (.block _ (.loop (.seq _ (.seq (.block _ (.seq (.seq _ (.cond _ (.seq (.region _ o _) _) _)) _)) _))))) _))) => o
  | _ => #[]
noncomputable def lrcmp_9 : List Oper := match Tryd.f6.body with
  | some (.seq _ (.seq _ (.seq (.seq _ (.block _ (.loop (.seq _ (.seq (.block _ (.seq (.seq _ (.cond _ (.seq (.region _ o _) _) _)) _)) _))))) _))) => o.toList
  | _ => []
theorem ercmp_9 : rrcmp_9.toList = lrcmp_9 := rfl
noncomputable def rrcmp_10 : Array Oper := match Tryd.f6.body with
  | some (.seq _ (.seq _ (.seq (.seq _ (.block _ (.loop (.seq _ (.seq (.block _ (.seq _ (.seq (.region _ o _) _))) _))))) _))) => o
  | _ => #[]
noncomputable def lrcmp_10 : List Oper := match Tryd.f6.body with
  | some (.seq _ (.seq _ (.seq (.seq _ (.block _ (.loop (.seq _ (.seq (.block _ (.seq _ (.seq (.region _ o _) _))) _))))) _))) => o.toList
  | _ => []
theorem ercmp_10 : rrcmp_10.toList = lrcmp_10 := rfl
theorem drcmp_10 {self : Self} {B : Nat} {T : List Value} {m : Mem} {lb : List (Nat × Nat)} {ls : Bool} : adrawN E self rrcmp_10 B rrcmp_10.toList 0 T m lb ls = adrawT E self rrcmp_10 B rrcmp_10.toList [(false, false), (false, false), (false, false), (false, false), (false, false), (false, false), (false, false), (false, false), (false, false)] 0 T m lb ls := adraw_tab (by kernel_rfl)
theorem srcmp_10 : E.sr 10 rrcmp_10 = false := by kernel_rfl
noncomputable def rrcmp_11 : Array Oper := match Tryd.f6.body with
  | some (.seq _ (.seq _ (.seq (.seq _ (.block _ (.loop (.seq _ (.seq (.block _ (.seq _ (.seq _ (.cond _ (.seq (.region _ o _) _) _)))) _))))) _))) => o
  | _ => #[]
noncomputable def lrcmp_11 : List Oper := match Tryd.f6.body with
  | some (.seq _ (.seq _ (.seq (.seq _ (.block _ (.loop (.seq _ (.seq (.block _ (.seq _ (.seq _ (.cond _ (.seq (.region _ o _) _) _)))) _))))) _))) => o.toList
  | _ => []
theorem ercmp_11 : rrcmp_11.toList = lrcmp_11 := rfl
noncomputable def rrcmp_7 : Array Oper := match Tryd.f6.body with
  | some (.seq _ (.seq _ (.seq (.seq _ (.block _ (.loop (.seq _ (.seq _ (.region _ o _)))))) _))) => o
  | _ => #[]
noncomputable def lrcmp_7 : List Oper := match Tryd.f6.body with
  | some (.seq _ (.seq _ (.seq (.seq _ (.block _ (.loop (.seq _ (.seq _ (.region _ o _)))))) _))) => o.toList
  | _ => []
theorem ercmp_7 : rrcmp_7.toList = lrcmp_7 := rfl
theorem lprcmp_0_eq : lprcmp_0 = (.seq (.seq (.region 6 rrcmp_6 false) (.cond (.tmp 20) .skip (.exit 0))) (.seq (.block 1 (.seq (.seq (.region 8 rrcmp_8 true) (.cond (.tmp 31) (.seq (.region 9 rrcmp_9 false) .ret) .skip)) (.seq (.region 10 rrcmp_10 true) (.cond (.tmp 40) (.seq (.region 11 rrcmp_11 false) .ret) .skip)))) (.region 7 rrcmp_7 false))) := rfl
noncomputable def rrcmp_12 : Array Oper := match Tryd.f6.body with
  | some (.seq _ (.seq _ (.seq _ (.seq (.region _ o _) _)))) => o
  | _ => #[]
noncomputable def lrcmp_12 : List Oper := match Tryd.f6.body with
  | some (.seq _ (.seq _ (.seq _ (.seq (.region _ o _) _)))) => o.toList
  | _ => []
theorem ercmp_12 : rrcmp_12.toList = lrcmp_12 := rfl
theorem bodyrcmp : Tryd.f6.body = some (.seq (.region 0 rrcmp_0 false) (.seq (.seq (.region 1 rrcmp_1 false) (.cond (.tmp 10) (.seq (.seq (.region 2 rrcmp_2 false) (.cond (.tmp 15) (.seq (.region 3 rrcmp_3 false) .ret) .skip)) (.seq (.region 4 rrcmp_4 false) .ret)) .skip)) (.seq (.seq (.region 5 rrcmp_5 false) (.block 0 (.loop lprcmp_0))) (.seq (.region 12 rrcmp_12 false) .ret)))) := rfl
-- ntmps 41
def cmpN (x y : Nat) : Int := if x < y then -1 else if y < x then 1 else 0
section
variable {self : Self} {nf : Nat} {m : Mem} {F : Nat → Value} {a b : Value} {la lb : List Nat} {i x y : Nat}
theorem rcmp_same (h0 : F 0 = a) (h1 : F 1 = b) (h5 : F 5 = .int .i64 (i : Nat)) (hi9 : i < 100000) (ha : NumA m a la) (hb : NumA m b lb) (hx : la[i]? = some x) (hy : lb[i]? = some x) :
    ∃ F', acodeN E self nf lprcmp_0 (lst F 41) m = some (.normal, lst F' 41, m) ∧ F' 0 = a ∧ F' 1 = b ∧ F' 5 = .int .i64 (((i : Nat) : Int) - 1) := by
  obtain ⟨ba, oa, ia, ca⟩ := ha.sealed.2 i x hx
  obtain ⟨bb, ob, ib, cb⟩ := hb.sealed.2 i x hy
  have q0 : decide (((i : Nat) : Int) ≥ 0) = true := decide_eq_true (by omega)
  have q1 : decide (((x : Nat) : Int) < ((x : Nat) : Int)) = false := decide_eq_false (by omega)
  have q2 : decide (((x : Nat) : Int) > ((x : Nat) : Int)) = false := decide_eq_false (by omega)
  have e1 : wrapF .i64 (((i : Nat) : Int) - 1) = ((i : Nat) : Int) - 1 := by
    simp only [wrapF]
    omega
  simp only [lprcmp_0_eq, ↓drcmp_8, ↓drcmp_10, ↓srcmp_8, ↓srcmp_10, ercmp_0, ercmp_1, ercmp_10, ercmp_11, ercmp_12, ercmp_2, ercmp_3, ercmp_4, ercmp_5, ercmp_6, ercmp_7, ercmp_8, ercmp_9, lrcmp_0, lrcmp_1, lrcmp_2, lrcmp_3, lrcmp_4, lrcmp_5, lrcmp_6, lrcmp_7, lrcmp_8, lrcmp_9, lrcmp_10, lrcmp_11, lrcmp_12, agd_none, gdAt, gdV_bool, gdV_undef, Tryd.f6, List.append_eq, List.cons_append, List.nil_append, apure_call1, apure_call2, apure_call3, bft, btf, acodeN, List.getElem?_toArray, List.getElem?_cons_zero, List.getElem?_cons_succ, aopsN, adrawT, cls, astep, aop, afloat, ev, nth_lst, get_lst, aput, setAt_lst, upd_at, init_zero, init_succ, init_nil, Nat.reduceLT, Nat.reduceEqDiff, reduceIte, len_N, abuiltin_app, Option.map_some, Option.map_none, orElse_some, apure_add, apure_eqlV, eqlVal_str, eqlVal_bool, eqlVal_ptr, eqlVal_slice, eqlVal_wide, eqlVal_int, allT, ↓aop_eqlV, apure_neq, List.map_cons, List.map_nil, List.all_cons, List.all_nil, lit2, lit1, lit0, List.isEmpty_nil, bls, Bool.false_eq_true, if_true, if_false, List.length_map, beq_self_eq_true, uns, h0, h1, h5, geq64, q0, ia, ib, load3, ca, cb, lss64, q1, gtr64', q2, sub64', e1]
  exact ⟨_, rfl, by simp only [upd_at, Nat.reduceEqDiff, reduceIte, h0], by simp only [upd_at, Nat.reduceEqDiff, reduceIte, h1], by simp only [upd_at, Nat.reduceEqDiff, reduceIte]⟩
theorem rcmp_less (h0 : F 0 = a) (h1 : F 1 = b) (h5 : F 5 = .int .i64 (i : Nat)) (ha : NumA m a la) (hb : NumA m b lb) (hx : la[i]? = some x) (hy : lb[i]? = some y) (hlt : x < y) :
    ∃ F', acodeN E self nf lprcmp_0 (lst F 41) m = some (.ret, lst F' 41, m) ∧ F' 4 = .int .i64 (-1) := by
  obtain ⟨ba, oa, ia, ca⟩ := ha.sealed.2 i x hx
  obtain ⟨bb, ob, ib, cb⟩ := hb.sealed.2 i y hy
  have q0 : decide (((i : Nat) : Int) ≥ 0) = true := decide_eq_true (by omega)
  have q1 : decide (((x : Nat) : Int) < ((y : Nat) : Int)) = true := decide_eq_true (by omega)
  simp only [lprcmp_0_eq, ↓drcmp_8, ↓drcmp_10, ↓srcmp_8, ↓srcmp_10, ercmp_0, ercmp_1, ercmp_10, ercmp_11, ercmp_12, ercmp_2, ercmp_3, ercmp_4, ercmp_5, ercmp_6, ercmp_7, ercmp_8, ercmp_9, lrcmp_0, lrcmp_1, lrcmp_2, lrcmp_3, lrcmp_4, lrcmp_5, lrcmp_6, lrcmp_7, lrcmp_8, lrcmp_9, lrcmp_10, lrcmp_11, lrcmp_12, agd_none, gdAt, gdV_bool, gdV_undef, Tryd.f6, List.append_eq, List.cons_append, List.nil_append, apure_call1, apure_call2, apure_call3, bft, btf, acodeN, List.getElem?_toArray, List.getElem?_cons_zero, List.getElem?_cons_succ, aopsN, adrawT, cls, astep, aop, afloat, ev, nth_lst, get_lst, aput, setAt_lst, upd_at, init_zero, init_succ, init_nil, Nat.reduceLT, Nat.reduceEqDiff, reduceIte, len_N, abuiltin_app, Option.map_some, Option.map_none, orElse_some, apure_add, apure_eqlV, eqlVal_str, eqlVal_bool, eqlVal_ptr, eqlVal_slice, eqlVal_wide, eqlVal_int, allT, ↓aop_eqlV, apure_neq, List.map_cons, List.map_nil, List.all_cons, List.all_nil, lit2, lit1, lit0, List.isEmpty_nil, bls, Bool.false_eq_true, if_true, if_false, List.length_map, beq_self_eq_true, uns, h0, h1, h5, geq64, q0, ia, ib, load3, ca, cb, lss64, q1]
  exact ⟨_, rfl, by simp only [upd_at, Nat.reduceEqDiff, reduceIte]⟩
theorem rcmp_more (h0 : F 0 = a) (h1 : F 1 = b) (h5 : F 5 = .int .i64 (i : Nat)) (ha : NumA m a la) (hb : NumA m b lb) (hx : la[i]? = some x) (hy : lb[i]? = some y) (hlt : y < x) :
    ∃ F', acodeN E self nf lprcmp_0 (lst F 41) m = some (.ret, lst F' 41, m) ∧ F' 4 = .int .i64 1 := by
  obtain ⟨ba, oa, ia, ca⟩ := ha.sealed.2 i x hx
  obtain ⟨bb, ob, ib, cb⟩ := hb.sealed.2 i y hy
  have q0 : decide (((i : Nat) : Int) ≥ 0) = true := decide_eq_true (by omega)
  have q1 : decide (((x : Nat) : Int) < ((y : Nat) : Int)) = false := decide_eq_false (by omega)
  have q2 : decide (((x : Nat) : Int) > ((y : Nat) : Int)) = true := decide_eq_true (by omega)
  simp only [lprcmp_0_eq, ↓drcmp_8, ↓drcmp_10, ↓srcmp_8, ↓srcmp_10, ercmp_0, ercmp_1, ercmp_10, ercmp_11, ercmp_12, ercmp_2, ercmp_3, ercmp_4, ercmp_5, ercmp_6, ercmp_7, ercmp_8, ercmp_9, lrcmp_0, lrcmp_1, lrcmp_2, lrcmp_3, lrcmp_4, lrcmp_5, lrcmp_6, lrcmp_7, lrcmp_8, lrcmp_9, lrcmp_10, lrcmp_11, lrcmp_12, agd_none, gdAt, gdV_bool, gdV_undef, Tryd.f6, List.append_eq, List.cons_append, List.nil_append, apure_call1, apure_call2, apure_call3, bft, btf, acodeN, List.getElem?_toArray, List.getElem?_cons_zero, List.getElem?_cons_succ, aopsN, adrawT, cls, astep, aop, afloat, ev, nth_lst, get_lst, aput, setAt_lst, upd_at, init_zero, init_succ, init_nil, Nat.reduceLT, Nat.reduceEqDiff, reduceIte, len_N, abuiltin_app, Option.map_some, Option.map_none, orElse_some, apure_add, apure_eqlV, eqlVal_str, eqlVal_bool, eqlVal_ptr, eqlVal_slice, eqlVal_wide, eqlVal_int, allT, ↓aop_eqlV, apure_neq, List.map_cons, List.map_nil, List.all_cons, List.all_nil, lit2, lit1, lit0, List.isEmpty_nil, bls, Bool.false_eq_true, if_true, if_false, List.length_map, beq_self_eq_true, uns, h0, h1, h5, geq64, q0, ia, ib, load3, ca, cb, lss64, q1, gtr64', q2]
  exact ⟨_, rfl, by simp only [upd_at, Nat.reduceEqDiff, reduceIte]⟩
theorem rcmp_last (h5 : F 5 = .int .i64 (-1)) : ∃ F', acodeN E self nf lprcmp_0 (lst F 41) m = some (.exit 0, lst F' 41, m) := by
  have q0 : decide ((-1 : Int) ≥ 0) = false := rfl
  simp only [lprcmp_0_eq, ↓drcmp_8, ↓drcmp_10, ↓srcmp_8, ↓srcmp_10, ercmp_0, ercmp_1, ercmp_10, ercmp_11, ercmp_12, ercmp_2, ercmp_3, ercmp_4, ercmp_5, ercmp_6, ercmp_7, ercmp_8, ercmp_9, lrcmp_0, lrcmp_1, lrcmp_2, lrcmp_3, lrcmp_4, lrcmp_5, lrcmp_6, lrcmp_7, lrcmp_8, lrcmp_9, lrcmp_10, lrcmp_11, lrcmp_12, agd_none, gdAt, gdV_bool, gdV_undef, Tryd.f6, List.append_eq, List.cons_append, List.nil_append, apure_call1, apure_call2, apure_call3, bft, btf, acodeN, List.getElem?_toArray, List.getElem?_cons_zero, List.getElem?_cons_succ, aopsN, adrawT, cls, astep, aop, afloat, ev, nth_lst, get_lst, aput, setAt_lst, upd_at, init_zero, init_succ, init_nil, Nat.reduceLT, Nat.reduceEqDiff, reduceIte, len_N, abuiltin_app, Option.map_some, Option.map_none, orElse_some, apure_add, apure_eqlV, eqlVal_str, eqlVal_bool, eqlVal_ptr, eqlVal_slice, eqlVal_wide, eqlVal_int, allT, ↓aop_eqlV, apure_neq, List.map_cons, List.map_nil, List.all_cons, List.all_nil, lit2, lit1, lit0, List.isEmpty_nil, bls, Bool.false_eq_true, if_true, if_false, List.length_map, beq_self_eq_true, uns, h5, geq64, q0]
  exact ⟨_, rfl⟩
end
theorem val_less {la lb : List Nat} {i x y : Nat} (hl : la.length = lb.length) (da : ∀ x ∈ la, x < 256) (hd : la.drop (i + 1) = lb.drop (i + 1)) (hx : la[i]? = some x) (hy : lb[i]? = some y) (h : x < y) : val la < val lb := by
  have hi := (List.getElem?_eq_some_iff.1 hx).1
  have hj := (List.getElem?_eq_some_iff.1 hy).1
  have e1 : val la = val (la.take (i + 1)) + 256 ^ (i + 1) * val (la.drop (i + 1)) := by
    conv => lhs; rw [← List.take_append_drop (i + 1) la]
    rw [val_append, List.length_take, Nat.min_eq_left (by omega)]
  have e2 : val lb = val (lb.take (i + 1)) + 256 ^ (i + 1) * val (lb.drop (i + 1)) := by
    conv => lhs; rw [← List.take_append_drop (i + 1) lb]
    rw [val_append, List.length_take, Nat.min_eq_left (by omega)]
  have s1 := val_step hx
  have s2 := val_step hy
  have b1 := val_lt (l := la.take i) fun x hx => da x (List.mem_of_mem_take hx)
  rw [List.length_take, Nat.min_eq_left (by omega)] at b1
  have h9 : 256 ^ i * (x + 1) ≤ 256 ^ i * y := Nat.mul_le_mul_left _ (by omega)
  rw [Nat.mul_add, Nat.mul_one] at h9
  rw [e1, e2, hd, s1, s2]
  omega
theorem rcmp_body {self : Self} {nf : Nat} {m : Mem} {a b : Value} {x y : Nat} (ha : NumA m a (dig x)) (hb : NumA m b (dig y)) (hlx : (dig x).length ≤ 800) (hly : (dig y).length ≤ 800) (hnf : 1000 < nf) :
    abody E self nf 6 [a, b] m = some (.int .i64 (cmpN x y), m) := by
  rw [abody_eqF (by kernel_rfl) Tryd.func6 bodyrcmp (by kernel_rfl) (Nat.le_of_ble_eq_true rfl)]
  rw [show Tryd.f6.ntmps = 41 from rfl]
  have px := lt_dig_len x
  have py := lt_dig_len y
  have gx : ∀ k, k < (dig x).length → 256 ^ k ≤ x := by
    intro k hk
    by_cases h : 256 ^ k ≤ x
    · exact h
    · have := dig_len_le (n := x) (k := k) (by omega); omega
  have gy : ∀ k, k < (dig y).length → 256 ^ k ≤ y := by
    intro k hk
    by_cases h : 256 ^ k ≤ y
    · exact h
    · have := dig_len_le (n := y) (k := k) (by omega); omega
  have vx := val_dig x
  have vy := val_dig y
  have dx := dig_lt x
  have dy := dig_lt y
  have la9 := ha.1
  have lb9 := hb.1
  by_cases hl : (dig x).length = (dig y).length
  · have q1 : (((((dig y).length : Nat) : Int)) != (((dig y).length : Nat) : Int)) = false := by simp
    have hloop := aloop_inv (body := acodeN E self nf lprcmp_0) (N := (dig x).length)
      (I := fun k T m' => ∃ G, T = lst G 41 ∧ m' = m ∧ G 0 = a ∧ G 1 = b ∧ G 5 = .int .i64 ((((dig x).length : Nat) : Int) - 1 - (k : Nat)) ∧ (dig x).drop ((dig x).length - k) = (dig y).drop ((dig x).length - k))
      (Q := fun e T m' => ∃ F', T = lst F' 41 ∧ m' = m ∧ ((e = .ret ∧ F' 4 = .int .i64 (cmpN x y)) ∨ (e = .exit 0 ∧ x = y))) (fun k T m' hk hI => by
        obtain ⟨G, rfl, rfl, g0, g1, g5, gd⟩ := hI
        by_cases hlt : k < (dig x).length
        · obtain ⟨i, hi⟩ : ∃ i, (dig x).length = i + 1 + k := ⟨(dig x).length - 1 - k, by omega⟩
          have h5 : G 5 = .int .i64 (i : Nat) := by rw [g5]; congr 1; omega
          have hxi : (dig x)[i]? = some ((dig x)[i]'(by omega)) := by simp [show i < (dig x).length by omega]
          have hyi : (dig y)[i]? = some ((dig y)[i]'(by omega)) := by simp [show i < (dig y).length by omega]
          rw [show (dig x).length - k = i + 1 by omega] at gd
          generalize (dig x)[i]'(by omega) = xi at hxi
          generalize (dig y)[i]'(by omega) = yi at hyi
          by_cases h1 : xi < yi
          · right
            obtain ⟨F', hr, f4⟩ := rcmp_less (self := self) (nf := nf) g0 g1 h5 ha hb hxi hyi h1
            have h2 := val_less hl dx gd hxi hyi h1
            rw [vx, vy] at h2
            exact ⟨_, _, _, hr, by simp, F', rfl, rfl, .inl ⟨rfl, by rw [f4]; unfold cmpN; rw [if_pos h2]⟩⟩
          · by_cases h3 : yi < xi
            · right
              obtain ⟨F', hr, f4⟩ := rcmp_more (self := self) (nf := nf) g0 g1 h5 ha hb hxi hyi h3
              have h2 := val_less hl.symm dy gd.symm hyi hxi h3
              rw [vx, vy] at h2
              exact ⟨_, _, _, hr, by simp, F', rfl, rfl, .inl ⟨rfl, by rw [f4]; unfold cmpN; rw [if_neg (by omega), if_pos h2]⟩⟩
            · left
              have h4 : yi = xi := by omega
              subst h4
              obtain ⟨F', hr, f0, f1, f5⟩ := rcmp_same (self := self) (nf := nf) g0 g1 h5 (by omega) ha hb hxi hyi
              refine ⟨_, _, hr, hlt, F', rfl, rfl, f0, f1, by rw [f5]; congr 1; omega, ?_⟩
              rw [show (dig x).length - (k + 1) = i by omega]
              have e1 : (dig x).drop i = yi :: (dig x).drop (i + 1) := by
                rw [List.drop_eq_getElem_cons (by omega)]
                rw [List.getElem?_eq_getElem (by omega)] at hxi
                rw [Option.some.inj hxi]
              have e2 : (dig y).drop i = yi :: (dig y).drop (i + 1) := by
                rw [List.drop_eq_getElem_cons (by omega)]
                rw [List.getElem?_eq_getElem (by omega)] at hyi
                rw [Option.some.inj hyi]
              rw [e1, e2, gd]
        · right
          have hk9 : k = (dig x).length := by omega
          subst hk9
          have h5 : G 5 = .int .i64 (-1) := by rw [g5]; congr 1; omega
          obtain ⟨F', hr⟩ := rcmp_last (self := self) (nf := nf) (m := m') h5
          rw [Nat.sub_self, List.drop_zero, List.drop_zero] at gd
          exact ⟨_, _, _, hr, by simp, F', rfl, rfl, .inr ⟨rfl, dig_inj gd⟩⟩)
    rw [hl] at la9
    have e1 : wrapF .i64 ((((dig y).length : Nat) : Int) - 1) = (((dig y).length : Nat) : Int) - 1 := by
      simp only [wrapF]
      omega
    obtain ⟨e, T', m', hr, F', rfl, rfl, hq⟩ := hloop (dig x).length 0 nf (lst (upd (upd (upd (upd (upd (upd (upd (upd (upd (upd (init [a, b]) 4 (.int .i64 0)) 6 a) 7 (.int .i64 (((dig y).length : Nat) : Int))) 8 b) 9 (.int .i64 (((dig y).length : Nat) : Int))) 10 (.bool false)) 16 a) 17 (.int .i64 (((dig y).length : Nat) : Int))) 18 (.int .i64 ((((dig y).length : Nat) : Int) - 1))) 5 (.int .i64 ((((dig y).length : Nat) : Int) - 1))) 41) m (by omega) (by omega) ⟨_, rfl, rfl, rfl, rfl, by rw [hl]; show Value.int .i64 _ = _; congr 1; omega, by rw [Nat.sub_zero, List.drop_of_length_le (Nat.le_refl _), List.drop_of_length_le (by omega)]⟩
    rcases hq with ⟨rfl, f4⟩ | ⟨rfl, hxy⟩
    · simp only [↓drcmp_8, ↓drcmp_10, ↓srcmp_8, ↓srcmp_10, ercmp_0, ercmp_1, ercmp_10, ercmp_11, ercmp_12, ercmp_2, ercmp_3, ercmp_4, ercmp_5, ercmp_6, ercmp_7, ercmp_8, ercmp_9, lrcmp_0, lrcmp_1, lrcmp_2, lrcmp_3, lrcmp_4, lrcmp_5, lrcmp_6, lrcmp_7, lrcmp_8, lrcmp_9, lrcmp_10, lrcmp_11, lrcmp_12, agd_none, gdAt, gdV_bool, gdV_undef, Tryd.f6, List.append_eq, List.cons_append, List.nil_append, apure_call1, apure_call2, apure_call3, bft, btf, acodeN, List.getElem?_toArray, List.getElem?_cons_zero, List.getElem?_cons_succ, aopsN, adrawT, cls, astep, aop, afloat, ev, nth_lst, get_lst, aput, setAt_lst, upd_at, init_zero, init_succ, init_nil, Nat.reduceLT, Nat.reduceEqDiff, reduceIte, len_N, abuiltin_app, Option.map_some, Option.map_none, orElse_some, apure_add, apure_eqlV, eqlVal_str, eqlVal_bool, eqlVal_ptr, eqlVal_slice, eqlVal_wide, eqlVal_int, allT, ↓aop_eqlV, apure_neq, List.map_cons, List.map_nil, List.all_cons, List.all_nil, lit2, lit1, lit0, List.isEmpty_nil, bls, Bool.false_eq_true, if_true, if_false, List.length_map, beq_self_eq_true, uns, la9, lb9, neq64, q1, sub64', e1, hr, f4, finish, ares, aresL, ares1]
    · subst hxy
      have hc : cmpN x x = 0 := by unfold cmpN; simp
      simp only [↓drcmp_8, ↓drcmp_10, ↓srcmp_8, ↓srcmp_10, ercmp_0, ercmp_1, ercmp_10, ercmp_11, ercmp_12, ercmp_2, ercmp_3, ercmp_4, ercmp_5, ercmp_6, ercmp_7, ercmp_8, ercmp_9, lrcmp_0, lrcmp_1, lrcmp_2, lrcmp_3, lrcmp_4, lrcmp_5, lrcmp_6, lrcmp_7, lrcmp_8, lrcmp_9, lrcmp_10, lrcmp_11, lrcmp_12, agd_none, gdAt, gdV_bool, gdV_undef, Tryd.f6, List.append_eq, List.cons_append, List.nil_append, apure_call1, apure_call2, apure_call3, bft, btf, acodeN, List.getElem?_toArray, List.getElem?_cons_zero, List.getElem?_cons_succ, aopsN, adrawT, cls, astep, aop, afloat, ev, nth_lst, get_lst, aput, setAt_lst, upd_at, init_zero, init_succ, init_nil, Nat.reduceLT, Nat.reduceEqDiff, reduceIte, len_N, abuiltin_app, Option.map_some, Option.map_none, orElse_some, apure_add, apure_eqlV, eqlVal_str, eqlVal_bool, eqlVal_ptr, eqlVal_slice, eqlVal_wide, eqlVal_int, allT, ↓aop_eqlV, apure_neq, List.map_cons, List.map_nil, List.all_cons, List.all_nil, lit2, lit1, lit0, List.isEmpty_nil, bls, Bool.false_eq_true, if_true, if_false, List.length_map, beq_self_eq_true, uns, la9, lb9, neq64, q1, sub64', e1, hr, finish, ares, aresL, ares1, hc]
  · have q1 : (((((dig x).length : Nat) : Int)) != (((dig y).length : Nat) : Int)) = true := by
      have : ((((dig x).length : Nat) : Int)) ≠ (((dig y).length : Nat) : Int) := by omega
      simpa using this
    by_cases h2 : (dig x).length < (dig y).length
    · have q2 : decide ((((dig x).length : Nat) : Int) < (((dig y).length : Nat) : Int)) = true := decide_eq_true (by omega)
      have h3 := gy _ h2
      have hc : cmpN x y = -1 := by unfold cmpN; rw [if_pos (by omega)]
      simp only [↓drcmp_8, ↓drcmp_10, ↓srcmp_8, ↓srcmp_10, ercmp_0, ercmp_1, ercmp_10, ercmp_11, ercmp_12, ercmp_2, ercmp_3, ercmp_4, ercmp_5, ercmp_6, ercmp_7, ercmp_8, ercmp_9, lrcmp_0, lrcmp_1, lrcmp_2, lrcmp_3, lrcmp_4, lrcmp_5, lrcmp_6, lrcmp_7, lrcmp_8, lrcmp_9, lrcmp_10, lrcmp_11, lrcmp_12, agd_none, gdAt, gdV_bool, gdV_undef, Tryd.f6, List.append_eq, List.cons_append, List.nil_append, apure_call1, apure_call2, apure_call3, bft, btf, acodeN, List.getElem?_toArray, List.getElem?_cons_zero, List.getElem?_cons_succ, aopsN, adrawT, cls, astep, aop, afloat, ev, nth_lst, get_lst, aput, setAt_lst, upd_at, init_zero, init_succ, init_nil, Nat.reduceLT, Nat.reduceEqDiff, reduceIte, len_N, abuiltin_app, Option.map_some, Option.map_none, orElse_some, apure_add, apure_eqlV, eqlVal_str, eqlVal_bool, eqlVal_ptr, eqlVal_slice, eqlVal_wide, eqlVal_int, allT, ↓aop_eqlV, apure_neq, List.map_cons, List.map_nil, List.all_cons, List.all_nil, lit2, lit1, lit0, List.isEmpty_nil, bls, Bool.false_eq_true, if_true, if_false, List.length_map, beq_self_eq_true, uns, la9, lb9, neq64, q1, lss64, q2, finish, ares, aresL, ares1, hc]
    · have q2 : decide ((((dig x).length : Nat) : Int) < (((dig y).length : Nat) : Int)) = false := decide_eq_false (by omega)
      have h3 := gx (dig y).length (by omega)
      have hc : cmpN x y = 1 := by unfold cmpN; rw [if_neg (by omega), if_pos (by omega)]
      simp only [↓drcmp_8, ↓drcmp_10, ↓srcmp_8, ↓srcmp_10, ercmp_0, ercmp_1, ercmp_10, ercmp_11, ercmp_12, ercmp_2, ercmp_3, ercmp_4, ercmp_5, ercmp_6, ercmp_7, ercmp_8, ercmp_9, lrcmp_0, lrcmp_1, lrcmp_2, lrcmp_3, lrcmp_4, lrcmp_5, lrcmp_6, lrcmp_7, lrcmp_8, lrcmp_9, lrcmp_10, lrcmp_11, lrcmp_12, agd_none, gdAt, gdV_bool, gdV_undef, Tryd.f6, List.append_eq, List.cons_append, List.nil_append, apure_call1, apure_call2, apure_call3, bft, btf, acodeN, List.getElem?_toArray, List.getElem?_cons_zero, List.getElem?_cons_succ, aopsN, adrawT, cls, astep, aop, afloat, ev, nth_lst, get_lst, aput, setAt_lst, upd_at, init_zero, init_succ, init_nil, Nat.reduceLT, Nat.reduceEqDiff, reduceIte, len_N, abuiltin_app, Option.map_some, Option.map_none, orElse_some, apure_add, apure_eqlV, eqlVal_str, eqlVal_bool, eqlVal_ptr, eqlVal_slice, eqlVal_wide, eqlVal_int, allT, ↓aop_eqlV, apure_neq, List.map_cons, List.map_nil, List.all_cons, List.all_nil, lit2, lit1, lit0, List.isEmpty_nil, bls, Bool.false_eq_true, if_true, if_false, List.length_map, beq_self_eq_true, uns, la9, lb9, neq64, q1, lss64, q2, finish, ares, aresL, ares1, hc]
def CCmp (self : Self) : Prop := ∀ (m : Mem) (a b : Value) (x y : Nat), NumA m a (dig x) → NumA m b (dig y) → (dig x).length ≤ 800 → (dig y).length ≤ 800 → ainv E self 6 [a, b] m = some (.int .i64 (cmpN x y), m)
theorem ccmp {R : Nat → Self} {K : List Fact} (hR : Runs R K) {n : Nat} (hK : hasF K 6 = false) (hn : 1000 ≤ n) : CCmp (R (n + 1)) := by
  intro m a b x y ha hb hlx hly
  by_cases hl : ([a, b].all lit2) = true
  · have hl9 := hl
    simp only [List.all_cons, List.all_nil, Bool.and_true, Bool.and_eq_true] at hl9
    obtain ⟨rfl, h1⟩ := ha.lit hl9.1
    obtain ⟨rfl, h2⟩ := hb.lit hl9.2
    have hb := rcmp_body (self := (R n)) (nf := n + 1) (m := (m.take E.G).map onlyTab) (a := .slice none 0 0) (b := .slice none 0 0) (x := x) (y := y) (by rw [h1]; exact NumA.nil _) (by rw [h2]; exact NumA.nil _) hlx hly (by omega)
    exact ainv_lit hl (by kernel_rfl) (hR.b hK hb) rfl
  · have hb := rcmp_body (self := (R n)) (nf := n + 1) ha.sealed hb.sealed hlx hly (by omega)
    exact ainv_look (by simpa using hl) (by kernel_rfl) (hR.b hK hb) rfl
end Go.Am.Seat
namespace Go.Am.Seat
open Go.Proofs Go.Am
noncomputable def rrmul_0 : Array Oper := match Tryd.f20.body with
  | some (.seq (.region _ o _) _) => o
  | _ => #[]
noncomputable def lrmul_0 : List Oper := match Tryd.f20.body with
  | some (.seq (.region _ o _) _) => o.toList
  | _ => []
theorem ermul_0 : rrmul_0.toList = lrmul_0 := rfl
noncomputable def rrmul_1 : Array Oper := match Tryd.f20.body with
  | some (.seq _ (.seq (.region _ o _) _)) => o
  | _ => #[]
noncomputable def lrmul_1 : List Oper := match Tryd.f20.body with
  | some (.seq _ (.seq (.region _ o _) _)) => o.toList
  | _ => []
theorem ermul_1 : rrmul_1.toList = lrmul_1 := rfl
noncomputable def rrmul_2 : Array Oper := match Tryd.f20.body with
  | some (.seq _ (.seq _ (.seq (.seq (.region _ o _) _) _))) => o
  | _ => #[]
noncomputable def lrmul_2 : List Oper := match Tryd.f20.body with
  | some (.seq _ (.seq _ (.seq (.seq (.region _ o _) _) _))) => o.toList
  | _ => []
theorem ermul_2 : rrmul_2.toList = lrmul_2 := rfl
noncomputable def lprmul_0 : Code := match Tryd.f20.body with
  | some (.seq _ (.seq _ (.seq (.seq _ (.block _ (.loop c))) _))) => c
  | _ => .skip
noncomputable def rrmul_3 : Array Oper := match Tryd.f20.body with
  | some (.seq _ (.seq _ (.seq (.seq _ (.block _ (.loop (.seq (.seq (.region _ o _) _) _)))) _))) => o
  | _ => #[]
noncomputable def lrmul_3 : List Oper := match Tryd.f20.body with
  | some (.seq _ (.seq _ (.seq (.seq _ (.block _ (.loop (.seq (.seq (.region _ o _) _) _)))) _))) => o.toList
  | _ => []
theorem ermul_3 : rrmul_3.toList = lrmul_3 := rfl
noncomputable def rrmul_5 : Array Oper := match Tryd.f20.body with
  | some (.seq _ (.seq _ (.seq (.seq _ (.block _ (.loop (.seq _ (.seq (.block _ (.seq (.region _ o _) _)) _))))) _))) => o
  | _ => #[]
noncomputable def lrmul_5 : List Oper := match Tryd.f20.body with
  | some (.seq _ (.seq _ (.seq (.seq _ (.block _ (.loop (.seq _ (.seq (.block _ (.seq (.region _ o _) _)) _))))) _))) => o.toList
  | _ => []
theorem ermul_5 : rrmul_5.toList = lrmul_5 := rfl
noncomputable def rrmul_6 : Array Oper := match Tryd.f20.body with
  | some (.seq _ (.seq _ (.seq (.seq _ (.block _ (.loop (.seq _ (.seq (.block _ (.seq _ (.seq (.region _ o _) _))) _))))) _))) => o
  | _ => #[]
noncomputable def lrmul_6 : List Oper := match Tryd.f20.body with
  | some (.seq _ (.seq _ (.seq (.seq _ (.block _ (.loop (.seq _ (.seq (.block _ (.seq _ (.seq (.region _ o _) _))) _))))) _))) => o.toList
  | _ => []
theorem ermul_6 : rrmul_6.toList = lrmul_6 := rfl
noncomputable def lprmul_1 : Code := match Tryd.f20.body with
  | some (.seq _ (.seq _ (.seq (.seq _ (.block _ (.loop (.seq _ (.seq (.block _ (.seq _ (.seq _ (.block _ (.loop c))))) _))))) _))) => c
  | _ => .skip
noncomputable def rrmul_7 : Array Oper := match Tryd.f20.body with
  | some (.seq _ (.seq _ (.seq (.seq _ (.block _ (.loop (.seq _ (.seq (.block _ (.seq _ (.seq _ (.block _ (.loop (.seq (.seq (.region _ o _) _) _)))))) _))))) _))) => o
  | _ => #[]
noncomputable def lrmul_7 : List Oper := match Tryd.f20.body with
  | some (.seq _ (.seq _ (.seq (.seq _ (.block _ (.loop (.seq _ (.seq (.block _ (.seq _ (.seq _ (.block _ (.loop (.seq (.seq (.region _ o _) _) _)))))) _))))) _))) => o.toList
  | _ => []
theorem ermul_7 : rrmul_7.toList = lrmul_7 := rfl
theorem grmul_7_4 {T : List Value} {dd : Option Tmp} {op : Op} {ty : TypeId} {pos : String} {af : Array Edge} {want : Bool} : agd rrmul_7 T { dst := dd, op := op, type := ty, pos := pos, after := af, guard := some (4, want) } = gdAt T 27 want := agd_at (by kernel_rfl)
noncomputable def rrmul_9 : Array Oper := match Tryd.f20.body with
  | some (.seq _ (.seq _ (.seq (.seq _ (.block _ (.loop (.seq _ (.seq (.block _ (.seq _ (.seq _ (.block _ (.loop (.seq _ (.seq (.block _ (.seq (.region _ o _) _)) _))))))) _))))) _))) => o
  | _ => #[]
noncomputable def lrmul_9 : List Oper := match Tryd.f20.body with
  | some (.seq _ (.seq _ (.seq (.seq _ (.block _ (.loop (.seq _ (.seq (.block _ (.seq _ (.seq _ (.block _ (.loop (.seq _ (.seq (.block _ (.seq (.region _ o _) _)) _))))))) _))))) _))) => o.toList
  | _ => []
theorem ermul_9 : rrmul_9.toList = lrmul_9 := rfl
noncomputable def rrmul_10 : Array Oper := match Tryd.f20.body with
  | some (.seq _ (.seq _ (.seq (.seq _ (.block _ (.loop (.seq _ (.seq (.block _ (.seq _ (.seq _ (.block _ (.loop (.seq _ (.seq (.block _ (.seq _ (.seq (.seq (.region _ o _) _) _))) _))))))) _))))) _))) => o
  | _ => #[]
noncomputable def lrmul_10 : List Oper := match Tryd.f20.body with
  | some (.seq _ (.seq _ (.seq (.seq _ (.block _ (.loop (.seq _ (.seq (.block _ (.seq _ (.seq _ (.block _ (.loop (.seq _ (.seq (.block _ (.seq _ (.seq (.seq (.region _ o _) _) _))) _))))))) _))))) _))) => o.toList
  | _ => []
theorem ermul_10 : rrmul_10.toList = lrmul_10 := rfl
noncomputable def rrmul_11 : Array Oper := match Tryd.f20.body with
  | some (.seq _ (.seq _ (.seq (.seq _ (.block _ (.loop (.seq _ (.seq (.block _ (.seq _ (.seq _ (.block _ (.loop (.seq _ (.seq (.block _ (.seq _ (.seq (.seq _ (.cond _ (.region _ o _) _)) _))) _))))))) _))))) _))) => o
  | _ => #[]
noncomputable def lrmul_11 : List Oper := match Tryd.f20.body with
  | some (.seq _ (.seq _ (.seq (.seq _ (.block _ (.loop (.seq _ (.seq (.block _ (.seq _ (.seq _ (.block _ (.loop (.seq _ (.seq (.block _ (.seq _ (.seq (.seq _ (.cond _ (.region _ o _) _)) _))) _))))))) _))))) _))) => o.toList
  | _ => []
theorem ermul_11 : rrmul_11.toList = lrmul_11 := rfl
theorem drmul_11 {self : Self} {B : Nat} {T : List Value} {m : Mem} {lb : List (Nat × Nat)} {ls : Bool} : adrawN E self rrmul_11 B rrmul_11.toList 0 T m lb ls = adrawT E self rrmul_11 B rrmul_11.toList [(false, false), (false, false), (false, false), (false, false), (false, false), (false, false), (false, false), (false, false), (false, false), (false, false), (false, false), (false, false)] 0 T m lb ls := adraw_tab (by kernel_rfl)
theorem srmul_11 : E.sr 11 rrmul_11 = false := by kernel_rfl
noncomputable def rrmul_12 : Array Oper := match Tryd.f20.body with
  | some (.seq _ (.seq _ (.seq (.seq _ (.block _ (.loop (.seq _ (.seq (.block _ (.seq _ (.seq _ (.block _ (.loop (.seq _ (.seq (.block _ (.seq _ (.seq _ (.seq (.region _ o _) _)))) _))))))) _))))) _))) => o
  | _ => #[]
noncomputable def lrmul_12 : List Oper := match Tryd.f20.body with
  | some (.seq _ (.seq _ (.seq (.seq _ (.block _ (.loop (.seq _ (.seq (.block _ (.seq _ (.seq _ (.block _ (.loop (.seq _ (.seq (.block _ (.seq _ (.seq _ (.seq (.region _ o _) _)))) _))))))) _))))) _))) => o.toList
  | _ => []
theorem ermul_12 : rrmul_12.toList = lrmul_12 := rfl
noncomputable def rrmul_13 : Array Oper := match Tryd.f20.body with
  | some (.seq _ (.seq _ (.seq (.seq _ (.block _ (.loop (.seq _ (.seq (.block _ (.seq _ (.seq _ (.block _ (.loop (.seq _ (.seq (.block _ (.seq _ (.seq _ (.seq _ (.region _ o _))))) _))))))) _))))) _))) => o
  | _ => #[]
noncomputable def lrmul_13 : List Oper := match Tryd.f20.body with
  | some (.seq _ (.seq _ (.seq (.seq _ (.block _ (.loop (.seq _ (.seq (.block _ (.seq _ (.seq _ (.block _ (.loop (.seq _ (.seq (.block _ (.seq _ (.seq _ (.seq _ (.region _ o _))))) _))))))) _))))) _))) => o.toList
  | _ => []
theorem ermul_13 : rrmul_13.toList = lrmul_13 := rfl
noncomputable def rrmul_8 : Array Oper := match Tryd.f20.body with
  | some (.seq _ (.seq _ (.seq (.seq _ (.block _ (.loop (.seq _ (.seq (.block _ (.seq _ (.seq _ (.block _ (.loop (.seq _ (.seq _ (.region _ o _)))))))) _))))) _))) => o
  | _ => #[]
noncomputable def lrmul_8 : List Oper := match Tryd.f20.body with
  | some (.seq _ (.seq _ (.seq (.seq _ (.block _ (.loop (.seq _ (.seq (.block _ (.seq _ (.seq _ (.block _ (.loop (.seq _ (.seq _ (.region _ o _)))))))) _))))) _))) => o.toList
  | _ => []
theorem ermul_8 : rrmul_8.toList = lrmul_8 := rfl
theorem lprmul_1_eq : lprmul_1 = (.seq (.seq (.region 7 rrmul_7 false) (.cond (.tmp 30) .skip (.exit 2))) (.seq (.block 3 (.seq (.region 9 rrmul_9 false) (.seq (.seq (.region 10 rrmul_10 false) (.cond (.tmp 44) (.region 11 rrmul_11 true) .skip)) (.seq (.region 12 rrmul_12 false) (.region 13 rrmul_13 false))))) (.region 8 rrmul_8 false))) := rfl
noncomputable def rrmul_4 : Array Oper := match Tryd.f20.body with
  | some (.seq _ (.seq _ (.seq (.seq _ (.block _ (.loop (.seq _ (.seq _ (.region _ o _)))))) _))) => o
  | _ => #[]
noncomputable def lrmul_4 : List Oper := match Tryd.f20.body with
  | some (.seq _ (.seq _ (.seq (.seq _ (.block _ (.loop (.seq _ (.seq _ (.region _ o _)))))) _))) => o.toList
  | _ => []
theorem ermul_4 : rrmul_4.toList = lrmul_4 := rfl
theorem lprmul_0_eq : lprmul_0 = (.seq (.seq (.region 3 rrmul_3 false) (.cond (.tmp 20) .skip (.exit 0))) (.seq (.block 1 (.seq (.region 5 rrmul_5 false) (.seq (.region 6 rrmul_6 false) (.block 2 (.loop lprmul_1))))) (.region 4 rrmul_4 false))) := rfl
noncomputable def rrmul_14 : Array Oper := match Tryd.f20.body with
  | some (.seq _ (.seq _ (.seq _ (.seq (.region _ o _) _)))) => o
  | _ => #[]
noncomputable def lrmul_14 : List Oper := match Tryd.f20.body with
  | some (.seq _ (.seq _ (.seq _ (.seq (.region _ o _) _)))) => o.toList
  | _ => []
theorem ermul_14 : rrmul_14.toList = lrmul_14 := rfl
theorem bodyrmul : Tryd.f20.body = some (.seq (.region 0 rrmul_0 false) (.seq (.region 1 rrmul_1 false) (.seq (.seq (.region 2 rrmul_2 false) (.block 0 (.loop lprmul_0))) (.seq (.region 14 rrmul_14 false) .ret)))) := rfl
-- ntmps 67
theorem makeN (c : Nat) (hc : c < 1000000) (m : Mem) : amakeSlice E.P 31 (.int .i64 (c : Nat)) (.int .i64 (c : Nat)) m = some (.slice (some ⟨m.length, 0, none⟩) c c, m ++ [.row false 3 (cellsN (List.replicate c 0))]) := by
  have hz : zero1 E.P 3 = some (.int .i64 0) := by kernel_rfl
  have h9 : (E.P.info? 3).map (·.bytes) = some 8 := by kernel_rfl
  obtain ⟨i, h1, h2⟩ := Option.map_eq_some_iff.1 h9
  have e1 : wrapF .i64 ((c : Nat) : Int) = ((c : Nat) : Int) := wrap_i64 (by omega) (by omega)
  unfold amakeSlice
  simp only [und27, hz, h1, e1]
  rw [if_pos ⟨by omega, by omega, by rw [h2]; omega⟩]
  simp [cellsN]
theorem storeN {m : Mem} {q k y : Nat} {O : List Nat} (h : m[q]? = some (.row false 3 (cellsN O))) (hk : k < O.length) : astore E.P 3 (.pointer (some ⟨q, k, none⟩)) (.int .i64 (y : Nat)) m = some (m.set q (.row false 3 (cellsN (O.set k y)))) := by
  obtain ⟨i, h1, h2⟩ := info3
  unfold astore
  simp only [h, vcells, h1, h2]
  rw [if_pos ⟨rfl, by rw [cellsN_length]; simp; omega⟩]
  simp [lay, cellsN, List.map_set]
theorem mulNN {a b : Nat} (h : a * b < 1000000000) : wrapF .i64 (((a : Nat) : Int) * ((b : Nat) : Int)) = ((a * b : Nat) : Int) := by
  rw [← Int.natCast_mul, wrap_i64 (by omega) (by omega)]
theorem cellN {m : Mem} {q k d : Nat} {ro : Bool} {O : List Nat} (h : m[q]? = some (.row ro 3 (cellsN O))) (hk : O[k]? = some d) : cellAt m q k = some (.int .i64 (d : Nat)) := by rw [cellAt_row h, cellsN_get hk]
section
variable {self : Self} {nf q : Nat} {m : Mem} {F : Nat → Value} {a b : Value} {la lb O : List Nat} {i j c d x y n : Nat}
theorem rmul_A (h0 : F 0 = a) (h1 : F 1 = b) (h5 : F 5 = .slice (some ⟨q, 0, none⟩) n n) (h6 : F 6 = .int .i64 (i : Nat)) (h7 : F 7 = .int .i64 (c : Nat)) (h8 : F 8 = .int .i64 (j : Nat)) (hi9 : i + j < 100000) (ha : NumA m a la) (hb : NumA m b lb) (hx : la[i]? = some x) (hy : lb[j]? = some y)
    (hq : m[q]? = some (.row false 3 (cellsN O))) (hn : O.length = n) (ho : O[i + j]? = some d) (hxy : x * y < 100000) (hs : d + c + x * y < 1000000) :
    ∃ F', acodeN E self nf lprmul_1 (lst F 67) m = some (.normal, lst F' 67, m.set q (.row false 3 (cellsN (O.set (i + j) ((d + c + x * y) % 256))))) ∧ F' 0 = a ∧ F' 1 = b ∧ F' 5 = F 5 ∧ F' 6 = F 6 ∧ F' 7 = .int .i64 (((d + c + x * y) / 256 : Nat) : Int) ∧ F' 8 = .int .i64 ((j + 1 : Nat) : Int) := by
  have hk : i + j < O.length := (List.getElem?_eq_some_iff.1 ho).1
  have hjl := (List.getElem?_eq_some_iff.1 hy).1
  obtain ⟨ba, oa, ia, ca⟩ := ha.sealed.2 i x hx
  obtain ⟨bb, ob, ib, cb⟩ := hb.sealed.2 j y hy
  have lb9 := hb.1
  have q1 : decide (((j : Nat) : Int) < ((lb.length : Nat) : Int)) = true := decide_eq_true (by omega)
  have e1 := addNN (a := i) (b := j) (by omega)
  have i1 := ix27 (b := q) (c := n) (show i + j < n by omega)
  have c1 := cellN hq ho
  have e2 := addNN (a := d) (b := c) (by omega)
  have e3 := mulNN (a := x) (b := y) (by omega)
  have e4 := addNN (a := d + c) (b := x * y) (by omega)
  have e5 := w1 (i := j) (by omega)
  have r1 := rem256 (d + c + x * y)
  have r2 := quo256i (s := d + c + x * y) (by omega)
  have st := storeN (y := (d + c + x * y) % 256) hq hk
  generalize hsum : d + c + x * y = s at *
  simp only [lprmul_1_eq, ↓drmul_11, ↓srmul_11, ermul_0, ermul_1, ermul_10, ermul_11, ermul_12, ermul_13, ermul_14, ermul_2, ermul_3, ermul_4, ermul_5, ermul_6, ermul_7, ermul_8, ermul_9, lrmul_0, lrmul_1, lrmul_2, lrmul_3, lrmul_4, lrmul_5, lrmul_6, lrmul_7, lrmul_8, lrmul_9, lrmul_10, lrmul_11, lrmul_12, lrmul_13, lrmul_14, grmul_7_4, agd_none, gdAt, gdV_bool, gdV_undef, Tryd.f20, List.append_eq, List.cons_append, List.nil_append, apure_call1, apure_call2, apure_call3, bft, btf, acodeN, List.getElem?_toArray, List.getElem?_cons_zero, List.getElem?_cons_succ, aopsN, adrawT, cls, astep, aop, afloat, ev, nth_lst, get_lst, aput, setAt_lst, upd_at, init_zero, init_succ, init_nil, Nat.reduceLT, Nat.reduceEqDiff, reduceIte, len_N, abuiltin_app, Option.map_some, Option.map_none, orElse_some, apure_add, apure_eqlV, eqlVal_str, eqlVal_bool, eqlVal_ptr, eqlVal_slice, eqlVal_wide, eqlVal_int, allT, ↓aop_eqlV, apure_neq, List.map_cons, List.map_nil, List.all_cons, List.all_nil, lit2, lit1, lit0, List.isEmpty_nil, bls, Bool.false_eq_true, if_true, if_false, List.length_map, beq_self_eq_true, uns, h0, h1, h5, h6, h7, h8, lb9, lss64, q1, add64', e1, i1, load3, c1, e2, ia, ib, ca, cb, mul64', e3, e4, r1, r2, st, e5]
  exact ⟨_, rfl, by simp only [upd_at, Nat.reduceEqDiff, reduceIte, h0], by simp only [upd_at, Nat.reduceEqDiff, reduceIte, h1], by simp only [upd_at, Nat.reduceEqDiff, reduceIte, h5], by simp only [upd_at, Nat.reduceEqDiff, reduceIte, h6], by simp only [upd_at, Nat.reduceEqDiff, reduceIte], by simp only [upd_at, Nat.reduceEqDiff, reduceIte]⟩
theorem rmul_B (h0 : F 0 = a) (h1 : F 1 = b) (h5 : F 5 = .slice (some ⟨q, 0, none⟩) n n) (h6 : F 6 = .int .i64 (i : Nat)) (h7 : F 7 = .int .i64 (c : Nat)) (h8 : F 8 = .int .i64 (j : Nat)) (hi9 : i + j < 100000) (hb : NumA m b lb) (hj : lb.length ≤ j) (hc : 0 < c)
    (hq : m[q]? = some (.row false 3 (cellsN O))) (hn : O.length = n) (ho : O[i + j]? = some d) (hs : d + c < 1000000) :
    ∃ F', acodeN E self nf lprmul_1 (lst F 67) m = some (.normal, lst F' 67, m.set q (.row false 3 (cellsN (O.set (i + j) ((d + c) % 256))))) ∧ F' 0 = a ∧ F' 1 = b ∧ F' 5 = F 5 ∧ F' 6 = F 6 ∧ F' 7 = .int .i64 (((d + c) / 256 : Nat) : Int) ∧ F' 8 = .int .i64 ((j + 1 : Nat) : Int) := by
  have hk : i + j < O.length := (List.getElem?_eq_some_iff.1 ho).1
  have lb9 := hb.1
  have q1 : decide (((j : Nat) : Int) < ((lb.length : Nat) : Int)) = false := decide_eq_false (by omega)
  have q2 : decide (((c : Nat) : Int) > 0) = true := decide_eq_true (by omega)
  have e1 := addNN (a := i) (b := j) (by omega)
  have i1 := ix27 (b := q) (c := n) (show i + j < n by omega)
  have c1 := cellN hq ho
  have e2 := addNN (a := d) (b := c) (by omega)
  have e5 := w1 (i := j) (by omega)
  have r1 := rem256 (d + c)
  have r2 := quo256i (s := d + c) (by omega)
  have st := storeN (y := (d + c) % 256) hq hk
  generalize hsum : d + c = s at *
  simp only [lprmul_1_eq, ↓drmul_11, ↓srmul_11, ermul_0, ermul_1, ermul_10, ermul_11, ermul_12, ermul_13, ermul_14, ermul_2, ermul_3, ermul_4, ermul_5, ermul_6, ermul_7, ermul_8, ermul_9, lrmul_0, lrmul_1, lrmul_2, lrmul_3, lrmul_4, lrmul_5, lrmul_6, lrmul_7, lrmul_8, lrmul_9, lrmul_10, lrmul_11, lrmul_12, lrmul_13, lrmul_14, grmul_7_4, agd_none, gdAt, gdV_bool, gdV_undef, Tryd.f20, List.append_eq, List.cons_append, List.nil_append, apure_call1, apure_call2, apure_call3, bft, btf, acodeN, List.getElem?_toArray, List.getElem?_cons_zero, List.getElem?_cons_succ, aopsN, adrawT, cls, astep, aop, afloat, ev, nth_lst, get_lst, aput, setAt_lst, upd_at, init_zero, init_succ, init_nil, Nat.reduceLT, Nat.reduceEqDiff, reduceIte, len_N, abuiltin_app, Option.map_some, Option.map_none, orElse_some, apure_add, apure_eqlV, eqlVal_str, eqlVal_bool, eqlVal_ptr, eqlVal_slice, eqlVal_wide, eqlVal_int, allT, ↓aop_eqlV, apure_neq, List.map_cons, List.map_nil, List.all_cons, List.all_nil, lit2, lit1, lit0, List.isEmpty_nil, bls, Bool.false_eq_true, if_true, if_false, List.length_map, beq_self_eq_true, uns, h0, h1, h5, h6, h7, h8, lb9, lss64, q1, gtr64', q2, add64', e1, i1, load3, c1, e2, r1, r2, st, e5]
  exact ⟨_, rfl, by simp only [upd_at, Nat.reduceEqDiff, reduceIte, h0], by simp only [upd_at, Nat.reduceEqDiff, reduceIte, h1], by simp only [upd_at, Nat.reduceEqDiff, reduceIte, h5], by simp only [upd_at, Nat.reduceEqDiff, reduceIte, h6], by simp only [upd_at, Nat.reduceEqDiff, reduceIte], by simp only [upd_at, Nat.reduceEqDiff, reduceIte]⟩
theorem rmul_E (h1 : F 1 = b) (h7 : F 7 = .int .i64 0) (h8 : F 8 = .int .i64 (j : Nat)) (hb : NumA m b lb) (hj : lb.length ≤ j) :
    ∃ F', acodeN E self nf lprmul_1 (lst F 67) m = some (.exit 2, lst F' 67, m) ∧ F' 0 = F 0 ∧ F' 1 = b ∧ F' 5 = F 5 ∧ F' 6 = F 6 := by
  have lb9 := hb.1
  have q1 : decide (((j : Nat) : Int) < ((lb.length : Nat) : Int)) = false := decide_eq_false (by omega)
  have q2 : decide ((0 : Int) > 0) = false := rfl
  simp only [lprmul_1_eq, ↓drmul_11, ↓srmul_11, ermul_0, ermul_1, ermul_10, ermul_11, ermul_12, ermul_13, ermul_14, ermul_2, ermul_3, ermul_4, ermul_5, ermul_6, ermul_7, ermul_8, ermul_9, lrmul_0, lrmul_1, lrmul_2, lrmul_3, lrmul_4, lrmul_5, lrmul_6, lrmul_7, lrmul_8, lrmul_9, lrmul_10, lrmul_11, lrmul_12, lrmul_13, lrmul_14, grmul_7_4, agd_none, gdAt, gdV_bool, gdV_undef, Tryd.f20, List.append_eq, List.cons_append, List.nil_append, apure_call1, apure_call2, apure_call3, bft, btf, acodeN, List.getElem?_toArray, List.getElem?_cons_zero, List.getElem?_cons_succ, aopsN, adrawT, cls, astep, aop, afloat, ev, nth_lst, get_lst, aput, setAt_lst, upd_at, init_zero, init_succ, init_nil, Nat.reduceLT, Nat.reduceEqDiff, reduceIte, len_N, abuiltin_app, Option.map_some, Option.map_none, orElse_some, apure_add, apure_eqlV, eqlVal_str, eqlVal_bool, eqlVal_ptr, eqlVal_slice, eqlVal_wide, eqlVal_int, allT, ↓aop_eqlV, apure_neq, List.map_cons, List.map_nil, List.all_cons, List.all_nil, lit2, lit1, lit0, List.isEmpty_nil, bls, Bool.false_eq_true, if_true, if_false, List.length_map, beq_self_eq_true, uns, h1, h7, h8, lb9, lss64, q1, gtr64', q2]
  exact ⟨_, rfl, by simp only [upd_at, Nat.reduceEqDiff, reduceIte], by simp only [upd_at, Nat.reduceEqDiff, reduceIte, h1], by simp only [upd_at, Nat.reduceEqDiff, reduceIte], by simp only [upd_at, Nat.reduceEqDiff, reduceIte]⟩
end
theorem val_set {O : List Nat} {k d y : Nat} (h : O[k]? = some d) : val (O.set k y) + 256 ^ k * d = val O + 256 ^ k * y := by
  induction O generalizing k with
  | nil => simp at h
  | cons z O ih =>
    cases k with
    | zero =>
      simp only [List.getElem?_cons_zero, Option.some.injEq] at h
      subst h
      simp only [List.set_cons_zero, val, Nat.pow_zero]
      omega
    | succ k =>
      simp only [List.getElem?_cons_succ] at h
      have := ih h
      simp only [List.set_cons_succ, val, Nat.pow_succ]
      have e1 : 256 ^ k * 256 * d = 256 * (256 ^ k * d) := by rw [Nat.mul_comm (256 ^ k) 256, Nat.mul_assoc]
      have e2 : 256 ^ k * 256 * y = 256 * (256 ^ k * y) := by rw [Nat.mul_comm (256 ^ k) 256, Nat.mul_assoc]
      omega
theorem set_digits {O : List Nat} {k s : Nat} (h : ∀ x ∈ O, x < 256) : ∀ x ∈ O.set k (s % 256), x < 256 := by
  intro x hx
  rcases List.mem_or_eq_of_mem_set hx with h1 | h1
  · exact h x h1
  · omega
end Go.Am.Seat
namespace Go.Am.Seat
open Go.Proofs Go.Am
theorem mul_stepA {A V P Pi d c x y v w O' O s : Nat} (hs : s = d + c + x * y) (h1 : O' + P * d = O + P * (s % 256)) (h2 : O + P * c = V + Pi * (x * v)) (h3 : Pi * (x * w) = Pi * (x * v) + P * (x * y)) :
    O' + P * 256 * (s / 256) = V + Pi * (x * w) := by
  have h4 := digit_step 0 P s
  have h5 : P * s = P * d + P * c + P * (x * y) := by rw [hs, Nat.mul_add, Nat.mul_add]
  omega
theorem rmul_inner {self : Self} {nf n : Nat} {m m0 : Mem} {a b : Value} {la lb O0 : List Nat} {i x y V : Nat} (hnf : 1000 < nf) (ha : NumA m a la) (hb : NumA m b lb) (dx : ∀ x ∈ la, x < 256) (dy : ∀ x ∈ lb, x < 256) (vy : val lb = y) (hla : la.length ≤ 400) (hlb : lb.length ≤ 400)
    (hx : la[i]? = some x) (hn : n = la.length + lb.length + 1) (hV : V = val (la.take i) * y)
    (hfr : ∀ k, k < m.length → m0[k]? = m[k]?) (hq : m0[m.length]? = some (.row false 3 (cellsN O0))) (hl : O0.length = n) (hd : ∀ x ∈ O0, x < 256) (hv : val O0 = V)
    {F : Nat → Value} (h0 : F 0 = a) (h1 : F 1 = b) (h5 : F 5 = .slice (some ⟨m.length, 0, none⟩) n n) (h6 : F 6 = .int .i64 (i : Nat)) (h7 : F 7 = .int .i64 (0 : Nat)) (h8 : F 8 = .int .i64 (0 : Nat)) :
    ∃ F' m' O, aloop (acodeN E self nf lprmul_1) nf (lst F 67) m0 = some (.exit 2, lst F' 67, m') ∧ F' 0 = a ∧ F' 1 = b ∧ F' 5 = F 5 ∧ F' 6 = F 6 ∧ (∀ k, k < m.length → m'[k]? = m[k]?) ∧ m'[m.length]? = some (.row false 3 (cellsN O)) ∧ O.length = n ∧ (∀ x ∈ O, x < 256) ∧ val O = val (la.take (i + 1)) * y := by
  have hi : i < la.length := (List.getElem?_eq_some_iff.1 hx).1
  have hx9 := dx _ (List.mem_of_getElem? hx)
  have tot : V + 256 ^ i * (x * y) = val (la.take (i + 1)) * y := by
    rw [val_step hx, Nat.add_mul, hV, Nat.mul_assoc]
  have tlt : V + 256 ^ i * (x * y) < 256 ^ (i + 1 + lb.length) := by
    rw [tot, Nat.pow_add]
    have h1 := val_lt (l := la.take (i + 1)) fun x hx => dx x (List.mem_of_mem_take hx)
    rw [List.length_take, Nat.min_eq_left (by omega)] at h1
    have h2 := val_lt dy
    rw [vy] at h2
    exact Nat.mul_lt_mul_of_lt_of_le h1 (Nat.le_of_lt h2) (Nat.lt_of_le_of_lt (Nat.zero_le _) h2)
  have hloop := aloop_inv (body := acodeN E self nf lprmul_1) (N := lb.length + 1)
    (I := fun j T m' => ∃ G O c, T = lst G 67 ∧ (∀ k, k < m.length → m'[k]? = m[k]?) ∧ m'[m.length]? = some (.row false 3 (cellsN O)) ∧ O.length = n ∧ (∀ x ∈ O, x < 256) ∧ G 0 = a ∧ G 1 = b ∧ G 5 = F 5 ∧ G 6 = F 6 ∧ G 7 = .int .i64 (c : Nat) ∧ G 8 = .int .i64 (j : Nat) ∧ c ≤ 255 ∧
      val O + 256 ^ (i + j) * c = V + 256 ^ i * (x * val (lb.take j)))
    (Q := fun e T m' => e = .exit 2 ∧ ∃ F' O, T = lst F' 67 ∧ F' 0 = a ∧ F' 1 = b ∧ F' 5 = F 5 ∧ F' 6 = F 6 ∧ (∀ k, k < m.length → m'[k]? = m[k]?) ∧ m'[m.length]? = some (.row false 3 (cellsN O)) ∧ O.length = n ∧ (∀ x ∈ O, x < 256) ∧ val O = val (la.take (i + 1)) * y) (fun j T m' hj hI => by
      obtain ⟨G, O, c, rfl, gfr, gq, gl, gd, g0, g1, g5, g6, g7, g8, gc, gv⟩ := hI
      have ha' := ha.keep gfr
      have hb' := hb.keep gfr
      have hpow : 256 ^ (i + (j + 1)) = 256 ^ (i + j) * 256 := by rw [← Nat.add_assoc]; exact Nat.pow_succ ..
      have hmq := lt_of_at gq
      have hset : ∀ (O' : List Nat), (∀ k, k < m.length → (m'.set m.length (.row false 3 (cellsN O')))[k]? = m[k]?) ∧ (m'.set m.length (.row false 3 (cellsN O')))[m.length]? = some (.row false 3 (cellsN O')) := by
        intro O'
        exact ⟨fun k hk => by rw [List.getElem?_set_ne (by omega)]; exact gfr k hk, by rw [List.getElem?_set_self hmq]⟩
      by_cases h2 : j < lb.length
      · left
        have hy : lb[j]? = some lb[j] := by simp [h2]
        have hy9 := dy _ (List.mem_of_getElem? hy)
        have sy := val_step hy
        generalize lb[j] = yj at *
        have ho : O[i + j]? = some (O[i + j]'(by omega)) := by simp [show i + j < O.length by omega]
        have ho9 := gd _ (List.mem_of_getElem? ho)
        generalize O[i + j]'(by omega) = d at *
        have hxy : x * yj ≤ 255 * 255 := Nat.mul_le_mul (by omega) (by omega)
        obtain ⟨F', hr, f0, f1, f5, f6, f7, f8⟩ := rmul_A (self := self) (nf := nf) g0 g1 (g5.trans h5) (g6.trans h6) g7 g8 (by omega) ha' hb' hx hy gq gl ho (by omega) (by omega)
        have hs := hset (O.set (i + j) ((d + c + x * yj) % 256))
        refine ⟨_, _, hr, by omega, F', _, _, rfl, hs.1, hs.2, by simp [gl], set_digits gd, f0, f1, f5.trans g5, f6.trans g6, f7, f8, by omega, ?_⟩
        rw [hpow]
        refine mul_stepA (A := 0) (d := d) (c := c) (y := yj) (O := val O) rfl (val_set ho) gv ?_
        rw [sy, Nat.mul_add, Nat.mul_add, Nat.pow_add]
        congr 1
        rw [Nat.mul_assoc]
        congr 1
        rw [Nat.mul_left_comm]
      · have sy := val_same (l := lb) (i := j) (by omega)
        have ty : val (lb.take j) = y := by rw [List.take_of_length_le (by omega)]; exact vy
        by_cases h3 : 0 < c
        · left
          have hjn : j < lb.length + 1 := by
            by_cases hjn : j < lb.length + 1
            · exact hjn
            · exfalso
              have hjj : j = lb.length + 1 := by omega
              rw [ty] at gv
              have h9 : 256 ^ (i + j) * 1 ≤ 256 ^ (i + j) * c := Nat.mul_le_mul_left _ h3
              have h10 : i + j = i + 1 + lb.length := by omega
              rw [h10] at gv h9
              omega
          have ho : O[i + j]? = some (O[i + j]'(by omega)) := by simp [show i + j < O.length by omega]
          have ho9 := gd _ (List.mem_of_getElem? ho)
          generalize O[i + j]'(by omega) = d at *
          obtain ⟨F', hr, f0, f1, f5, f6, f7, f8⟩ := rmul_B (self := self) (nf := nf) g0 g1 (g5.trans h5) (g6.trans h6) g7 g8 (by omega) hb' (by omega) h3 gq gl ho (by omega)
          have hs := hset (O.set (i + j) ((d + c) % 256))
          refine ⟨_, _, hr, hjn, F', _, _, rfl, hs.1, hs.2, by simp [gl], set_digits gd, f0, f1, f5.trans g5, f6.trans g6, f7, f8, by omega, ?_⟩
          rw [hpow, sy]
          have h4 := digit_step 0 (256 ^ (i + j)) (d + c)
          have h5 : 256 ^ (i + j) * (d + c) = 256 ^ (i + j) * d + 256 ^ (i + j) * c := Nat.mul_add ..
          have h6 := val_set (y := (d + c) % 256) ho
          omega
        · right
          have hc0 : c = 0 := by omega
          subst hc0
          obtain ⟨F', hr, f0, f1, f5, f6⟩ := rmul_E (self := self) (nf := nf) (m := m') g1 g7 g8 hb' (by omega)
          refine ⟨_, _, _, hr, by simp, rfl, F', O, rfl, f0.trans g0, f1, f5.trans g5, f6.trans g6, gfr, gq, gl, gd, ?_⟩
          rw [ty, Nat.mul_zero, Nat.add_zero] at gv
          rw [gv, tot])
  obtain ⟨e, T', m', hr, rfl, F', O, rfl, hq⟩ := hloop (lb.length + 1) 0 nf (lst F 67) m0 (by omega) (by omega) ⟨F, O0, 0, rfl, hfr, hq, hl, hd, h0, h1, rfl, rfl, h7, h8, by omega, by simp [val, hv]⟩
  exact ⟨F', m', O, hr, hq⟩
theorem rmul_iter {self : Self} {nf n : Nat} {m m0 : Mem} {a b : Value} {la lb O0 : List Nat} {i y : Nat} (hnf : 1000 < nf) (ha : NumA m a la) (hb : NumA m b lb) (dx : ∀ x ∈ la, x < 256) (dy : ∀ x ∈ lb, x < 256) (vy : val lb = y) (hla : la.length ≤ 400) (hlb : lb.length ≤ 400)
    (hi : i < la.length) (hn : n = la.length + lb.length + 1)
    (hfr : ∀ k, k < m.length → m0[k]? = m[k]?) (hq : m0[m.length]? = some (.row false 3 (cellsN O0))) (hl : O0.length = n) (hd : ∀ x ∈ O0, x < 256) (hv : val O0 = val (la.take i) * y)
    {F : Nat → Value} (h0 : F 0 = a) (h1 : F 1 = b) (h5 : F 5 = .slice (some ⟨m.length, 0, none⟩) n n) (h6 : F 6 = .int .i64 (i : Nat)) :
    ∃ F' m' O, acodeN E self nf lprmul_0 (lst F 67) m0 = some (.normal, lst F' 67, m') ∧ F' 0 = a ∧ F' 1 = b ∧ F' 5 = F 5 ∧ F' 6 = .int .i64 ((i + 1 : Nat) : Int) ∧ (∀ k, k < m.length → m'[k]? = m[k]?) ∧ m'[m.length]? = some (.row false 3 (cellsN O)) ∧ O.length = n ∧ (∀ x ∈ O, x < 256) ∧ val O = val (la.take (i + 1)) * y := by
  have hx : la[i]? = some la[i] := by simp [hi]
  have la9 := ha.1
  have q1 : decide (((i : Nat) : Int) < ((la.length : Nat) : Int)) = true := decide_eq_true (by omega)
  have e1 := w1 (i := i) (by omega)
  obtain ⟨F', m', O, hr, f0, f1, f5, f6, r1, r2, r3, r4, r5⟩ := rmul_inner (self := self) (nf := nf) (F := upd (upd (upd (upd (upd (upd F 17 (.int .i64 (i : Nat))) 18 a) 19 (.int .i64 ((la.length : Nat) : Int))) 20 (.bool true)) 7 (.int .i64 0)) 8 (.int .i64 0)) hnf ha hb dx dy vy hla hlb hx hn rfl hfr hq hl hd hv
    (by simp only [upd_at, Nat.reduceEqDiff, reduceIte, h0]) (by simp only [upd_at, Nat.reduceEqDiff, reduceIte, h1]) (by simp only [upd_at, Nat.reduceEqDiff, reduceIte, h5]) (by simp only [upd_at, Nat.reduceEqDiff, reduceIte, h6]) rfl rfl
  simp only [upd_at, Nat.reduceEqDiff, reduceIte] at f5 f6
  rw [h6] at f6
  simp only [lprmul_0_eq, ↓drmul_11, ↓srmul_11, ermul_0, ermul_1, ermul_10, ermul_11, ermul_12, ermul_13, ermul_14, ermul_2, ermul_3, ermul_4, ermul_5, ermul_6, ermul_7, ermul_8, ermul_9, lrmul_0, lrmul_1, lrmul_2, lrmul_3, lrmul_4, lrmul_5, lrmul_6, lrmul_7, lrmul_8, lrmul_9, lrmul_10, lrmul_11, lrmul_12, lrmul_13, lrmul_14, grmul_7_4, agd_none, gdAt, gdV_bool, gdV_undef, Tryd.f20, List.append_eq, List.cons_append, List.nil_append, apure_call1, apure_call2, apure_call3, bft, btf, acodeN, List.getElem?_toArray, List.getElem?_cons_zero, List.getElem?_cons_succ, aopsN, adrawT, cls, astep, aop, afloat, ev, nth_lst, get_lst, aput, setAt_lst, upd_at, init_zero, init_succ, init_nil, Nat.reduceLT, Nat.reduceEqDiff, reduceIte, len_N, abuiltin_app, Option.map_some, Option.map_none, orElse_some, apure_add, apure_eqlV, eqlVal_str, eqlVal_bool, eqlVal_ptr, eqlVal_slice, eqlVal_wide, eqlVal_int, allT, ↓aop_eqlV, apure_neq, List.map_cons, List.map_nil, List.all_cons, List.all_nil, lit2, lit1, lit0, List.isEmpty_nil, bls, Bool.false_eq_true, if_true, if_false, List.length_map, beq_self_eq_true, uns, h0, h6, la9, lss64, q1, hr, f6, add64', e1]
  exact ⟨_, m', O, rfl, by simp only [upd_at, Nat.reduceEqDiff, reduceIte, f0], by simp only [upd_at, Nat.reduceEqDiff, reduceIte, f1], by simp only [upd_at, Nat.reduceEqDiff, reduceIte, f5], by simp only [upd_at, Nat.reduceEqDiff, reduceIte], r1, r2, r3, r4, r5⟩
theorem rmul_last {self : Self} {nf : Nat} {m : Mem} {a : Value} {la : List Nat} {i : Nat} {F : Nat → Value} (h0 : F 0 = a) (h6 : F 6 = .int .i64 (i : Nat)) (ha : NumA m a la) (hi : la.length ≤ i) :
    ∃ F', acodeN E self nf lprmul_0 (lst F 67) m = some (.exit 0, lst F' 67, m) ∧ F' 5 = F 5 := by
  have la9 := ha.1
  have q1 : decide (((i : Nat) : Int) < ((la.length : Nat) : Int)) = false := decide_eq_false (by omega)
  simp only [lprmul_0_eq, ↓drmul_11, ↓srmul_11, ermul_0, ermul_1, ermul_10, ermul_11, ermul_12, ermul_13, ermul_14, ermul_2, ermul_3, ermul_4, ermul_5, ermul_6, ermul_7, ermul_8, ermul_9, lrmul_0, lrmul_1, lrmul_2, lrmul_3, lrmul_4, lrmul_5, lrmul_6, lrmul_7, lrmul_8, lrmul_9, lrmul_10, lrmul_11, lrmul_12, lrmul_13, lrmul_14, grmul_7_4, agd_none, gdAt, gdV_bool, gdV_undef, Tryd.f20, List.append_eq, List.cons_append, List.nil_append, apure_call1, apure_call2, apure_call3, bft, btf, acodeN, List.getElem?_toArray, List.getElem?_cons_zero, List.getElem?_cons_succ, aopsN, adrawT, cls, astep, aop, afloat, ev, nth_lst, get_lst, aput, setAt_lst, upd_at, init_zero, init_succ, init_nil, Nat.reduceLT, Nat.reduceEqDiff, reduceIte, len_N, abuiltin_app, Option.map_some, Option.map_none, orElse_some, apure_add, apure_eqlV, eqlVal_str, eqlVal_bool, eqlVal_ptr, eqlVal_slice, eqlVal_wide, eqlVal_int, allT, ↓aop_eqlV, apure_neq, List.map_cons, List.map_nil, List.all_cons, List.all_nil, lit2, lit1, lit0, List.isEmpty_nil, bls, Bool.false_eq_true, if_true, if_false, List.length_map, beq_self_eq_true, uns, h0, h6, la9, lss64, q1]
  exact ⟨_, rfl, by simp only [upd_at, Nat.reduceEqDiff, reduceIte]⟩
theorem rmul_body {self : Self} {nf : Nat} {m : Mem} {a b : Value} {x y : Nat} (ct : CTrim self) (ha : NumA m a (dig x)) (hb : NumA m b (dig y)) (hlx : (dig x).length ≤ 400) (hly : (dig y).length ≤ 400) (hnf : 1000 < nf) :
    ∃ v m1, abody E self nf 20 [a, b] m = some (v, m1) ∧ NumB m.length v m1 (x * y) := by
  rw [abody_eqF (by kernel_rfl) Tryd.func20 bodyrmul (by kernel_rfl) (Nat.le_of_ble_eq_true rfl)]
  rw [show Tryd.f20.ntmps = 67 from rfl]
  have vx := val_dig x
  have vy := val_dig y
  have dx := dig_lt x
  have dy := dig_lt y
  generalize hla : dig x = la at *
  generalize hlb : dig y = lb at *
  have la9 := ha.1
  have lb9 := hb.1
  have e1 := addNN (a := la.length) (b := lb.length) (by omega)
  have e2 := w1 (i := la.length + lb.length) (by omega)
  have mk := makeN (la.length + lb.length + 1) (by omega) m
  have hloop := aloop_inv (body := acodeN E self nf lprmul_0) (N := la.length)
    (I := fun i T m' => ∃ G O, T = lst G 67 ∧ (∀ k, k < m.length → m'[k]? = m[k]?) ∧ m'[m.length]? = some (.row false 3 (cellsN O)) ∧ O.length = la.length + lb.length + 1 ∧ (∀ x ∈ O, x < 256) ∧ G 0 = a ∧ G 1 = b ∧ G 5 = .slice (some ⟨m.length, 0, none⟩) (la.length + lb.length + 1) (la.length + lb.length + 1) ∧ G 6 = .int .i64 (i : Nat) ∧ val O = val (la.take i) * y)
    (Q := fun e T m' => e = .exit 0 ∧ ∃ G O, T = lst G 67 ∧ m'[m.length]? = some (.row false 3 (cellsN O)) ∧ O.length = la.length + lb.length + 1 ∧ (∀ x ∈ O, x < 256) ∧ G 5 = .slice (some ⟨m.length, 0, none⟩) (la.length + lb.length + 1) (la.length + lb.length + 1) ∧ val O = x * y) (fun i T m' hi hI => by
      obtain ⟨G, O, rfl, gfr, gq, gl, gd, g0, g1, g5, g6, gv⟩ := hI
      by_cases hlt : i < la.length
      · left
        obtain ⟨F', m2, O', hr, f0, f1, f5, f6, r1, r2, r3, r4, r5⟩ := rmul_iter (self := self) (nf := nf) hnf ha hb dx dy vy hlx hly hlt rfl gfr gq gl gd gv g0 g1 g5 g6
        exact ⟨_, _, hr, hlt, F', O', rfl, r1, r2, r3, r4, f0, f1, f5.trans g5, f6, r5⟩
      · right
        obtain ⟨F', hr, f5⟩ := rmul_last (self := self) (nf := nf) g0 g6 (ha.keep gfr) (by omega)
        rw [List.take_of_length_le (by omega), vx] at gv
        exact ⟨_, _, _, hr, by simp, rfl, F', O, rfl, gq, gl, gd, f5.trans g5, gv⟩)
  obtain ⟨e, T', m', hr, rfl, G, O, rfl, gq, gl, gd, g5, gv⟩ := hloop la.length 0 nf (lst (upd (upd (upd (upd (upd (upd (upd (upd (upd (upd (init [a, b]) 4 (.slice none 0 0)) 10 a) 11 (.int .i64 ((la.length : Nat) : Int))) 12 b) 13 (.int .i64 ((lb.length : Nat) : Int))) 14 (.int .i64 ((la.length + lb.length : Nat) : Int))) 15 (.int .i64 ((la.length + lb.length + 1 : Nat) : Int))) 16 (.slice (some ⟨m.length, 0, none⟩) (la.length + lb.length + 1) (la.length + lb.length + 1))) 5 (.slice (some ⟨m.length, 0, none⟩) (la.length + lb.length + 1) (la.length + lb.length + 1))) 6 (.int .i64 0)) 67) (m ++ [.row false 3 (cellsN (List.replicate (la.length + lb.length + 1) 0))]) (by omega) (by omega)
    ⟨_, List.replicate (la.length + lb.length + 1) 0, rfl, (fun k hk => List.getElem?_append_left hk), by simp, by simp, (fun x hx => by have := List.eq_of_mem_replicate hx; omega), rfl, rfl, rfl, rfl, by rw [val_noughts (fun x hx => List.eq_of_mem_replicate hx)]; simp [val]⟩
  obtain ⟨v', ht, hB⟩ := ct m.length m' (.slice (some ⟨m.length, 0, none⟩) O.length O.length) O (x * y) (.inr ⟨m.length, Nat.le_refl _, rfl, gq, fun h => by rw [h] at gl; simp at gl⟩) (by omega) gd gv
  rw [gl] at ht
  simp only [↓drmul_11, ↓srmul_11, ermul_0, ermul_1, ermul_10, ermul_11, ermul_12, ermul_13, ermul_14, ermul_2, ermul_3, ermul_4, ermul_5, ermul_6, ermul_7, ermul_8, ermul_9, lrmul_0, lrmul_1, lrmul_2, lrmul_3, lrmul_4, lrmul_5, lrmul_6, lrmul_7, lrmul_8, lrmul_9, lrmul_10, lrmul_11, lrmul_12, lrmul_13, lrmul_14, grmul_7_4, agd_none, gdAt, gdV_bool, gdV_undef, Tryd.f20, List.append_eq, List.cons_append, List.nil_append, apure_call1, apure_call2, apure_call3, bft, btf, acodeN, List.getElem?_toArray, List.getElem?_cons_zero, List.getElem?_cons_succ, aopsN, adrawT, cls, astep, aop, afloat, ev, nth_lst, get_lst, aput, setAt_lst, upd_at, init_zero, init_succ, init_nil, Nat.reduceLT, Nat.reduceEqDiff, reduceIte, len_N, abuiltin_app, Option.map_some, Option.map_none, orElse_some, apure_add, apure_eqlV, eqlVal_str, eqlVal_bool, eqlVal_ptr, eqlVal_slice, eqlVal_wide, eqlVal_int, allT, ↓aop_eqlV, apure_neq, List.map_cons, List.map_nil, List.all_cons, List.all_nil, lit2, lit1, lit0, List.isEmpty_nil, bls, Bool.false_eq_true, if_true, if_false, List.length_map, beq_self_eq_true, uns, la9, lb9, add64', e1, e2, mk, hr, g5, calltrim, ht, finish, ares, aresL, ares1]
  exact ⟨_, _, rfl, hB⟩
def CMul (self : Self) : Prop := ∀ (m : Mem) (a b : Value) (x y : Nat), NumA m a (dig x) → NumA m b (dig y) → (dig x).length ≤ 400 → (dig y).length ≤ 400 → ∃ v m', ainv E self 20 [a, b] m = some (v, m') ∧ NumR m v m' (x * y)
theorem cmul {R : Nat → Self} {K : List Fact} (hR : Runs R K) {n : Nat} (hK : hasF K 20 = false) (hK' : hasF K 16 = false) (hn : 1000 ≤ n) : CMul (R (n + 2)) := by
  intro m a b x y ha hb hlx hly
  refine num2_call (by kernel_rfl) (by kernel_rfl) ha hb fun M' ha hb => ?_
  obtain ⟨v, m1, h1, h2⟩ := rmul_body (self := (R (n + 1))) (nf := n + 2) (ctrim hR hK' hn) ha hb hlx hly (by omega)
  exact ⟨v, m1, hR.b hK h1, h2⟩
end Go.Am.Seat
namespace Go.Am.Seat
open Go.Proofs Go.Am
theorem natsOf_lt (s : ByteArray) : ∀ x ∈ natsOf s, x < 256 := by
  intro x hx
  unfold natsOf at hx
  obtain ⟨y, _, rfl⟩ := List.mem_map.1 hx
  exact y.toNat_lt
theorem natsOf_len (s : ByteArray) : (natsOf s).length = s.data.toList.length := by unfold natsOf; rw [List.length_map]
theorem trim_exact {R : Nat → Self} {K : List Fact} (hR : Runs R K) {n : Nat} (hK : hasF K 16 = false) (hn : 1000 ≤ n) {m : Mem} {b : Nat} {L : List Nat} (hb : m[b]? = some (.row false 3 (cellsN L))) (hpos : 0 < L.length) (hL : L.length ≤ 1000) (hx : ∀ x ∈ L, x < 256) :
    ainv E (R (n + 1)) 16 [.slice (some ⟨b, 0, none⟩) L.length L.length] m = some (.slice (some ⟨b, 0, none⟩) (dig (val L)).length L.length, m) := by
  have hbs : (m.map sealed)[b]? = some (.row true 3 (cellsN L)) := by rw [List.getElem?_map, hb]; rfl
  obtain ⟨k, hT, hbd⟩ := trim_body (self := (R n)) (nf := n + 1) hbs hpos hL (by omega)
  have hk : k = (dig (val L)).length := by
    rw [← trim_val hT hx, List.length_take, Nat.min_eq_left hT.1]
  subst hk
  unfold ainv
  rw [show ([Value.slice (some ⟨b, 0, none⟩) L.length L.length].all lit2) = false from rfl, show E.wr 16 = false from by kernel_rfl]
  simp only [Bool.false_eq_true, if_false, hR.b hK hbd]
  exact acoll_old (by rw [List.length_map]; exact lt_of_at hb)
theorem of_nil {R : Nat → Self} {K : List Fact} (hR : Runs R K) {n : Nat} {m : Mem} (hK : hasF K 16 = false) (hn : 1000 ≤ n) : abody E (R (n + 1)) (n + 2) 8 [.string ⟨#[]⟩] m = some (.slice none 0 0, m) := by
  rw [abody_eqF (by kernel_rfl) Tryd.func8 bodyrof (by kernel_rfl) (Nat.le_of_ble_eq_true rfl)]
  rw [show Tryd.f8.ntmps = 20 from rfl]
  obtain ⟨F', hr, f3⟩ := lastOf (self := (R (n + 1))) (nf := n + 2) (m := m) (s := ⟨#[]⟩) (i := 0) (F := upd (upd (upd (init [.string ⟨#[]⟩]) 2 (.slice none 0 0)) 3 (.slice none 0 0)) 4 (.int .i64 0)) rfl rfl (Nat.le_refl _)
  have f3 : F' 3 = .slice none 0 0 := f3
  have ht : ainv E (R (n + 1)) 16 [.slice none 0 0] m = some (.slice none 0 0, m) := ainv_lit rfl (by kernel_rfl) (hR.b hK trim_nil) rfl
  have hr' : aloop (acodeN E (R (n + 1)) (n + 2) lprof_0) (n + 2) (lst (upd (upd (upd (init [.string ⟨#[]⟩]) 2 (.slice none 0 0)) 3 (.slice none 0 0)) 4 (.int .i64 0)) 20) m = some (.exit 0, lst F' 20, m) := by rw [aloop, hr]
  simp only [erof_0, erof_1, erof_2, erof_3, erof_4, erof_5, erof_6, lrof_0, lrof_1, lrof_2, lrof_3, lrof_4, lrof_5, lrof_6, agd_none, gdAt, gdV_bool, gdV_undef, Tryd.f8, List.append_eq, List.cons_append, List.nil_append, apure_call1, apure_call2, apure_call3, bft, btf, acodeN, List.getElem?_toArray, List.getElem?_cons_zero, List.getElem?_cons_succ, aopsN, adrawT, cls, astep, aop, afloat, ev, nth_lst, get_lst, aput, setAt_lst, upd_at, init_zero, init_succ, init_nil, Nat.reduceLT, Nat.reduceEqDiff, reduceIte, abuiltin, alen, Option.map_some, Option.map_none, orElse_some, apure_add, apure_eql, apure_neq, List.map_cons, List.map_nil, List.all_cons, List.all_nil, lit2, lit1, lit0, List.isEmpty_nil, bls, Bool.false_eq_true, if_true, if_false, List.length_map, beq_self_eq_true, uns, hr', f3, calltrim, ht, finish, ares, aresL, ares1]
def COf (self : Self) : Prop := ∀ (m : Mem) (s : ByteArray), s.data.toList.length ≤ 1000 → ∃ v m', ainv E self 8 [.string s] m = some (v, m') ∧ NumR m v m' (val (natsOf s))
theorem cof {R : Nat → Self} {K : List Fact} (hR : Runs R K) {n : Nat} (hK : hasF K 8 = false) (hK' : hasF K 16 = false) (hn : 1000 ≤ n) : COf (R (n + 2)) := by
  intro m s hs
  have key : ∃ v m1, (R (n + 2)) 8 [.string s] ((m.take E.G).map onlyTab) = some (v, m1) ∧ NumB ((m.take E.G).map onlyTab).length v m1 (val (natsOf s)) := by
    by_cases h0 : s.data.toList.length = 0
    · have hz : s = ⟨#[]⟩ := by
        apply ByteArray.ext
        apply Array.ext'
        exact List.eq_nil_of_length_eq_zero h0
      subst hz
      exact ⟨_, _, hR.b hK (of_nil hR hK' hn), .inl ⟨rfl, rfl⟩⟩
    · have hnl := natsOf_len s
      obtain ⟨b, m', h1, h2, h3⟩ := of_body (self := (R (n + 1))) (nf := n + 2) (m := (m.take E.G).map onlyTab) (s := s) (n := (dig (val (natsOf s))).length) hs (by omega) (by omega) (fun M' b' hb' => by
        have := trim_exact hR hK' hn hb' (by omega) (by omega) (natsOf_lt s)
        rw [hnl] at this
        exact this)
      refine ⟨_, _, hR.b hK h1, .inr ⟨natsOf s, (dig (val (natsOf s))).length, b, false, ?_, ?_, h3, by rw [hnl], h2, fun hz => by rw [hz] at hnl; exact h0 hnl.symm⟩⟩
      · exact dig_len_le (val_lt (natsOf_lt s))
      · have hle := dig_len_le (val_lt (natsOf_lt s))
        have h9 : val ((natsOf s).take (dig (val (natsOf s))).length) = val (natsOf s) := by
          rw [val_take (natsOf_lt s), Nat.mod_eq_of_lt (lt_dig_len _)]
        have h10 := dig_last (val (natsOf s))
        have h11 : (natsOf s).take (dig (val (natsOf s))).length = dig (val (natsOf s)) := by
          refine same_len (fun x hx => natsOf_lt s x (List.mem_of_mem_take hx)) (dig_lt _) (by rw [List.length_take, Nat.min_eq_left hle]) (by rw [h9, val_dig])
        exact h11
  obtain ⟨v, m1, h1, h2⟩ := key
  unfold ainv
  rw [show ([Value.string s].all lit2) = true from rfl, show E.fast 8 = none from by kernel_rfl]
  simp only [if_true, h1]
  exact h2.coll
end Go.Am.Seat
namespace Go.Am.Seat
open Go.Proofs Go.Am
-- ntmps 41
section
variable {self : Self} {nf B : Nat} {m : Mem} {F : Nat → Value} {a b : Value} {la lb L : List Nat} {i c x y : Nat}
end
end Go.Am.Seat
namespace Go.Am
noncomputable section
section
variable {E : Env} {self : Self} {ops : Array Oper} {m m1 : Mem} {o : Oper} {l : List Oper} {i c : Nat} {T : List Value} {nb bs : List Blk} {ow : List Nat} {v v' : Value}
theorem u_float (hg : agd ops T o = some true) (hok : okOp E.P o.op = true) (hc : cls E.P E.wr o = 0) (hf : afloat E.P T o = some v) : amkUT E self ops m (o :: l) i T nb ow = amkUT E self ops m l (i + 1) (aput T o.dst v) nb ow := by
  rw [amkUT, hg]
  simp only
  rw [if_pos hok, hc]
  simp only [hf]
theorem u_make (hg : agd ops T o = some true) (hok : okOp E.P o.op = true) (hc : cls E.P E.wr o = c + 1) (hp : opsP (pW ops i m.length ow) T o = true) (hr : rowsP (pW ops i m.length ow) (maskN ops i nb ow) = true)
    (hs : astep E self T ((m ++ maskN ops i nb ow).map sealed) o = some (v, m1)) (ha : acollAt (m.length + nb.length) (m.length + nb.length) v m1 = some (v', bs)) (hw : (bs.isEmpty || isW E.P E.wr ops i) = true) :
    amkUT E self ops m (o :: l) i T nb ow = amkUT E self ops m l (i + 1) (aput T o.dst v') (nb ++ bs) (ow ++ List.replicate bs.length i) := by
  rw [amkUT, hg]
  simp only
  rw [if_pos hok, hc]
  simp only [hp, hr, Bool.and_self, if_true, hs, ha, hw]
theorem u_end : amkUT E self ops m [] i T nb ow = some (T, nb) := rfl
theorem amk_of {T1 : List Value} {nb1 : List Blk} (hd : useU E.P E.wr ops = true) (h : amkUT E self ops m ops.toList 0 T [] [] = some (T1, nb1)) : amk E self ops T m = some (T1, m ++ nb1) := by
  unfold amk
  rw [hd]
  simp only
  unfold amkU
  rw [h]
end
theorem acollAt_lit {n N : Nat} {v : Value} {m1 : Mem} (h : lit2 v = true) : acollAt n N v m1 = some (v, []) := by
  unfold acollAt
  rw [if_pos h]
end
end Go.Am
namespace Go.Am.Seat
open Go.Proofs Go.Am
theorem acollAt_new {m1 : Mem} {n N b o k c : Nat} {ro : Bool} {e : TypeId} {cs : List Value} (hb : n ≤ b) (hm : m1[b]? = some (.row ro e cs)) (hc : cs.all lit0 = true) :
    acollAt n N (.slice (some ⟨b, o, none⟩) k c) m1 = some (.slice (some ⟨N, o, none⟩) k c, [.row ro e cs]) := by
  have hnb : ¬ b < n := by omega
  unfold acollAt
  rw [if_neg (by simp [lit2, lit1, lit0])]
  have h1 : idsL n (partsOf (.slice (some ⟨b, o, none⟩) k c)) [] = [b] := by
    simp [partsOf, idsL, idOf, addIds, hnb]
  have h2 : closeIds n m1 2 [b] = [b] := by
    simp only [closeIds, List.foldl_cons, List.foldl_nil, hm, idsL_lit cs [b] hc]
  simp only [h1, h2]
  rw [if_pos (by simp [nodupB, hb])]
  have h3 : rid n N [b] b = some N := by
    unfold rid
    rw [if_neg hnb]
    simp [List.idxOf?]
  simp only [renB, hm, renL_id cs hc, ren3, ren2, ren1, h3]
def NumIn (n : Nat) (v : Value) : Prop := v = .slice none 0 0 ∨ ∃ b k c, v = .slice (some ⟨b, 0, none⟩) k c ∧ b < n
theorem num_at2 {M M' : Mem} {v : Value} {r : Nat} (h : NumR M v M' r) : ∃ bs, acollAt M.length M.length v M' = some (v, bs) ∧ (bs = [] ∨ ∃ L, bs = [.row false 3 (cellsN L)]) ∧ (∀ A C : Mem, A.length = M.length → NumA (A ++ bs ++ C) v (dig r) ∧ NumIn (A ++ bs ++ C).length v ∧ NumB A.length v (A ++ bs ++ C) r) := by
  rcases h with ⟨rfl, rfl, rfl⟩ | ⟨L, n, h1, h2, rfl, rfl, hne⟩
  · exact ⟨[], acollAt_lit rfl, .inl rfl, fun A C hA => ⟨by rw [dig_zero]; exact NumA.nil _, .inl rfl, .inl ⟨rfl, rfl⟩⟩⟩
  · refine ⟨[.row false 3 (cellsN L)], acollAt_new (Nat.le_refl _) (by simp) (cellsN_lits L), .inr ⟨L, rfl⟩, fun A C hA => ?_⟩
    have hrow : (A ++ [Blk.row false 3 (cellsN L)] ++ C)[M.length]? = some (.row false 3 (cellsN L)) := by
      rw [← hA, List.append_assoc, List.getElem?_append_right (Nat.le_refl _)]
      simp
    refine ⟨?_, .inr ⟨_, _, _, rfl, by simp; omega⟩, .inr ⟨L, n, M.length, false, h1, h2, by omega, rfl, hrow, hne⟩⟩
    rw [← h2]
    exact NumA.row (ro := false) hrow h1
theorem NumR.in {m m' : Mem} {v : Value} {r : Nat} (h : NumR m v m' r) : NumIn m'.length v := by
  rcases h with ⟨rfl, rfl, rfl⟩ | ⟨L, n, h1, h2, rfl, rfl, hne⟩
  · exact .inl rfl
  · exact .inr ⟨_, _, _, rfl, by simp⟩
theorem NumB.mono {B B' r : Nat} {v : Value} {m : Mem} (h : NumB B v m r) (hB : B' ≤ B) : NumB B' v m r := by
  rcases h with h | ⟨L, n, b, ro, h1, h2, h3, h4, h5, hne⟩
  · exact .inl h
  · exact .inr ⟨L, n, b, ro, h1, h2, by omega, h4, h5, hne⟩
theorem NumIn.mono {n n' : Nat} {v : Value} (h : NumIn n v) (hn : n ≤ n') : NumIn n' v := by
  rcases h with h | ⟨b, k, c, h1, h2⟩
  · exact .inl h
  · exact .inr ⟨b, k, c, h1, by omega⟩
theorem NumIn.below {n : Nat} {v : Value} (h : NumIn n v) {p : Nat → Bool} (hp : ∀ k, k < n → p k = true) : belowP p 4 v = true := by
  rcases h with rfl | ⟨b, k, c, rfl, h2⟩
  · rfl
  · exact hp b h2
theorem cellsN_below (p : Nat → Bool) (L : List Nat) : (cellsN L).all (belowP p 4) = true := by
  unfold cellsN
  rw [List.all_map, List.all_eq_true]
  intro x _
  rfl
end Go.Am.Seat
