/-
  Texts of my own, put together: KS, KD6, KD7, KD8, KD9, KD10, KD11, KD12, KD13, KD14, KD15, KD16, KD17, KD18, KD19, KD20, KD21, KD22.
-/
import Derived.Test.YtfgincdpgdlfnaaDoorGrLimbTexts15
set_option linter.unusedSimpArgs false
set_option linter.unusedVariables false
set_option maxRecDepth 100000
namespace Go.Am.Seat
open Go.Proofs Go.Am
-- ntmps 57
-- ntmps 36
-- ntmps 44
-- ntmps 24
-- ntmps 16
-- ntmps 20
noncomputable def rdw_0 : Array Oper := match Tryd.f22.body with
  | some (.seq (.region _ o _) _) => o
  | _ => #[]
noncomputable def rdw_1 : Array Oper := match Tryd.f22.body with
  | some (.seq _ (.seq (.region _ o _) _)) => o
  | _ => #[]
noncomputable def rdw_2 : Array Oper := match Tryd.f22.body with
  | some (.seq _ (.seq _ (.seq (.region _ o _) _))) => o
  | _ => #[]
noncomputable def rdw_3 : Array Oper := match Tryd.f22.body with
  | some (.seq _ (.seq _ (.seq _ (.seq (.seq (.region _ o _) _) _)))) => o
  | _ => #[]
noncomputable def lpdw_0 : Code := match Tryd.f22.body with
  | some (.seq _ (.seq _ (.seq _ (.seq (.seq _ (.block _ (.loop c))) _)))) => c
  | _ => .skip
noncomputable def rdw_4 : Array Oper := match Tryd.f22.body with
  | some (.seq _ (.seq _ (.seq _ (.seq (.seq _ (.block _ (.loop (.seq (.seq (.region _ o _) _) _)))) _)))) => o
  | _ => #[]
noncomputable def rdw_6 : Array Oper := match Tryd.f22.body with
  | some (.seq _ (.seq _ (.seq _ (.seq (.seq _ (.block _ (.loop (.seq _ (.seq (.block _ (.region _ o _)) _))))) _)))) => o
  | _ => #[]
noncomputable def rdw_5 : Array Oper := match Tryd.f22.body with
  | some (.seq _ (.seq _ (.seq _ (.seq (.seq _ (.block _ (.loop (.seq _ (.seq _ (.region _ o _)))))) _)))) => o
  | _ => #[]
theorem lpdw_0_eq : lpdw_0 = (.seq (.seq (.region 4 rdw_4 false) (.cond (.tmp 10) .skip (.exit 0))) (.seq (.block 1 (.region 6 rdw_6 false)) (.region 5 rdw_5 false))) := rfl
noncomputable def rdw_7 : Array Oper := match Tryd.f22.body with
  | some (.seq _ (.seq _ (.seq _ (.seq _ (.seq (.region _ o _) _))))) => o
  | _ => #[]
theorem bodydw : Tryd.f22.body = some (.seq (.region 0 rdw_0 false) (.seq (.region 1 rdw_1 false) (.seq (.region 2 rdw_2 false) (.seq (.seq (.region 3 rdw_3 false) (.block 0 (.loop lpdw_0))) (.seq (.region 7 rdw_7 false) .ret))))) := rfl
-- ntmps 26
-- ntmps 49
-- ntmps 43
-- ntmps 31
-- ntmps 17
-- ntmps 17
-- ntmps 67
-- ntmps 18
-- ntmps 116
theorem odw_0 : rdw_0.toList = [⟨some 2, .box 24 (.tmp 0), 0, "reckon.go:97", #[], none⟩, ⟨some 4, .alloc 24, 0, "reckon.go:97", #[], none⟩, ⟨some 5, .assign (.const (.int .u64 0)), 22, "reckon.go:97", #[], none⟩] := rfl
theorem odw_1 : rdw_1.toList = [⟨some 6, .alloc 24, 0, "reckon.go:98", #[], none⟩] := rfl
theorem odw_2 : rdw_2.toList = [⟨some 7, .assign (.const (.int .u64 0)), 22, "reckon.go:99", #[], none⟩] := rfl
theorem odw_3 : rdw_3.toList = [⟨some 8, .assign (.const (.int .i64 7)), 3, "reckon.go:100", #[], none⟩] := rfl
theorem odw_4 : rdw_4.toList = [⟨some 9, .move (.tmp 8), 3, "reckon.go:100", #[], none⟩, ⟨some 10, .binOp .geq 3 (.tmp 9) (.const (.int .i64 0)) 3, 4, "reckon.go:100", #[eD 0], none⟩] := rfl
theorem odw_6 : rdw_6.toList = [⟨some 14, .move (.tmp 8), 3, "reckon.go:101", #[], none⟩, ⟨some 15, .move (.tmp 7), 22, "reckon.go:101", #[], none⟩, ⟨some 16, .move (.tmp 8), 3, "reckon.go:101", #[], none⟩, ⟨some 17, .indexAddr 24 (.tmp 2) (.tmp 16), 0, "reckon.go:101", #[eD 2], none⟩, ⟨some 18, .load 22 (.tmp 17), 22, "reckon.go:101", #[eD 3], none⟩, ⟨some 19, .move (.tmp 1), 22, "reckon.go:101", #[], none⟩, ⟨some 20, .call { callee := .value (.func 28), args := #[.tmp 15, .tmp 18, .tmp 19], argTypes := #[22, 22, 22] }, 54, "reckon.go:101", #[eD 1, eD 4, eD 5], none⟩, ⟨some 13, .move (.tmp 20), 54, "reckon.go:101", #[eD 6], none⟩, ⟨some 21, .extract (.tmp 13) 0, 22, "reckon.go:101", #[eD 7], none⟩, ⟨some 22, .extract (.tmp 13) 1, 22, "reckon.go:101", #[eD 7, { on := 11, ground := Ground.gcOnly Departure.lateStores }], none⟩, ⟨some 23, .indexAddr 24 (.tmp 6) (.tmp 14), 0, "reckon.go:101", #[eD 0, eP 0, eP 1, eP 2, eP 3, eP 4, eP 5, eP 6, eP 7, eP 8, { on := 9, ground := Ground.textOnly Departure.lateStores }], none⟩, ⟨none, .store 22 (.tmp 23) (.tmp 21), 0, "reckon.go:101", #[eD 10, eD 8, eC 6, eP 0, eP 1, eP 2, eP 3, eP 4, eP 5, eP 6, eP 7, eP 8, { on := 9, ground := Ground.textOnly Departure.lateStores }], none⟩, ⟨some 7, .assign (.tmp 22), 22, "reckon.go:101", #[eD 9, eC 11, eP 0, eP 1, eP 2, eP 3, eP 4, eP 5, eP 6, eP 7, eP 8, eP 9, eP 10, eP 11], none⟩] := rfl
theorem odw_5 : rdw_5.toList = [⟨some 11, .move (.tmp 8), 3, "reckon.go:100", #[], none⟩, ⟨some 12, .binOp .sub 3 (.tmp 11) (.const (.int .i64 1)) 3, 3, "reckon.go:100", #[eD 0], none⟩, ⟨some 8, .assign (.tmp 12), 3, "reckon.go:100", #[eD 1, eP 0, eP 1], none⟩] := rfl
theorem odw_7 : rdw_7.toList = [⟨some 24, .load 24 (.tmp 6), 24, "reckon.go:103", #[], none⟩, ⟨some 25, .move (.tmp 7), 22, "reckon.go:103", #[{ on := 2, ground := Ground.gcOnly Departure.lateStores }], none⟩, ⟨none, .store 24 (.tmp 4) (.tmp 24), 0, "reckon.go:103", #[eD 0, eP 0, { on := 1, ground := Ground.textOnly Departure.lateStores }], none⟩, ⟨some 5, .assign (.tmp 25), 22, "reckon.go:103", #[eD 1, eC 2, eP 0, eP 1, eP 2], none⟩] := rfl
end Go.Am.Seat
namespace Go.Am.Seat
open Go.Proofs Go.Am Go.Am.Num Go.Am.Kn
def putW (R : Nat → Nat) (k x : Nat) : Nat → Nat := fun j => if j = k then x else R j
def vN (w : Nat → Nat) : Nat → Nat
  | 0 => 0
  | n + 1 => vN w n + 18446744073709551616 ^ n * w n
theorem vN_ext {w w' : Nat → Nat} : ∀ {n : Nat}, (∀ j, j < n → w j = w' j) → vN w n = vN w' n
  | 0, _ => rfl
  | n + 1, h => by rw [vN, vN, vN_ext fun j hj => h j (by omega), h n (by omega)]
theorem vN_lt {w : Nat → Nat} (h : ∀ j, w j < 18446744073709551616) : ∀ n, vN w n < 18446744073709551616 ^ n
  | 0 => Nat.one_pos
  | n + 1 => by
    have h1 := vN_lt h n
    have h2 := h n
    rw [vN, Nat.pow_succ]
    generalize 18446744073709551616 ^ n = P at *
    have h3 : P * w n + P ≤ P * 18446744073709551616 := by rw [← Nat.mul_succ]; exact Nat.mul_le_mul_left _ h2
    omega
theorem vN_put {R : Nat → Nat} {k x n : Nat} (h : n ≤ k) : vN (putW R k x) n = vN R n := vN_ext fun j hj => by unfold putW; rw [if_neg (by omega)]
section
variable {self : Self} {nf : Nat} {m : Mem} {F : Nat → Value} {p q i n c cv j often cy bw : Nat} {R V : Nat → Nat} {be be' : TypeId} {ro : Bool}
end
end Go.Am.Seat
namespace Go.Am.Seat
open Go.Proofs Go.Am Go.Am.Num Go.Am.Kn
section
variable {self : Self} {nf : Nat} {m : Mem} {F : Nat → Value} {p q i n c cv j cy : Nat} {R V : Nat → Nat} {be be' : TypeId} {ro : Bool}
end
end Go.Am.Seat
namespace Go.Am.Seat
open Go.Proofs Go.Am Go.Am.Num Go.Am.Kn
theorem vN_top {w : Nat → Nat} (n : Nat) : vN w (n + 1) = vN w n + 18446744073709551616 ^ n * w n := rfl
section
variable {self : Self} {nf : Nat} {m : Mem} {F : Nat → Value} {p q i n c cv : Nat} {be be' : TypeId} {ro : Bool}
end
end Go.Am.Seat
namespace Go.Am.Seat
open Go.Proofs Go.Am Go.Am.Num Go.Am.Kn
section
variable {self : Self} {nf : Nat} {m m1 m2 : Mem} {C0 C1 C2 C3 C4 C5 C6 : Code} {T : List Value} {A B C D G H I : Nat → Value}
end
section
variable {self : Self} {nf : Nat} {m : Mem} {F : Nat → Value} {p q i k c cv : Nat} {be be' : TypeId} {ro : Bool} {R V : Nat → Nat}
end
end Go.Am.Seat
namespace Go.Am.Seat
open Go.Proofs Go.Am Go.Am.Num Go.Am.Kn
section
variable {self : Self} {nf : Nat} {m : Mem} {F : Nat → Value} {p n : Nat} {w : Nat → Nat} {be : TypeId} {m' : Mem}
def Uses (w : Nat → Nat) (n : Nat) : Prop := n ≤ 8 ∧ (∀ j, n ≤ j → j < 8 → w j = 0) ∧ (n = 0 ∨ w (n - 1) ≠ 0)
end
end Go.Am.Seat
namespace Go.Am.Seat
open Go.Proofs Go.Am Go.Am.Num Go.Am.Kn
theorem geqI64' (a b : Int) : abin .geq .i64 a .i64 b = some (.bool (decide (a ≥ b))) := by kernel_rfl
section
variable {self : Self} {nf : Nat} {m m' : Mem} {F : Nat → Value} {p q n : Nat} {w v : Nat → Nat} {be be' : TypeId}
end
end Go.Am.Seat
namespace Go.Am.Seat
open Go.Proofs Go.Am Go.Am.Num Go.Am.Kn
theorem low_step (a P w x B : Nat) : w + B * x + P * B * a = w + B * (x + P * a) := by
  rw [Nat.mul_add, Nat.add_assoc, Nat.mul_comm P B, Nat.mul_assoc]
theorem vN_low (w : Nat → Nat) : ∀ n, vN w (n + 1) = w 0 + 18446744073709551616 * vN (fun j => w (j + 1)) n
  | 0 => by rw [vN, vN, vN, Nat.pow_zero, Nat.one_mul, Nat.mul_zero, Nat.zero_add, Nat.add_zero]
  | n + 1 => by
    rw [vN, vN_low w n, vN, Nat.pow_succ]
    exact low_step _ _ _ _ _
theorem digit_dw {x q d l w B : Nat} (h : x = q * d + l) (hd : 0 < d) : w + B * x = ((l * B + w) / d + B * q) * d + (l * B + w) % d := by
  have h1 := Nat.div_add_mod (l * B + w) d
  generalize (l * B + w) / d = Q at *
  generalize (l * B + w) % d = R at *
  have e : B * (q * d + l) = B * q * d + l * B := by rw [Nat.mul_add, Nat.mul_assoc, Nat.mul_comm B l]
  have e2 : (Q + B * q) * d = d * Q + B * q * d := by rw [Nat.add_mul, Nat.mul_comm Q d]
  rw [h, e, e2]
  omega
def CDv64 (self : Self) : Prop := ∀ hi lo y, hi < y → y < 18446744073709551616 → lo < 18446744073709551616 → Ans self 28 [U hi, U lo, U y] (pair64 ((hi * 18446744073709551616 + lo) / y) ((hi * 18446744073709551616 + lo) % y))
section
variable {self : Self} {nf : Nat} {m m' : Mem} {F : Nat → Value} {p q r n d l x : Nat} {w out : Nat → Nat} {be be' : TypeId}
theorem dw_0 {m1 m2 : Mem} (hb : abox E.P 24 (wide w) m = some (.pointer (some ⟨p, 0, none⟩), m1)) (hc : aalloc E.P 24 m1 = some (.pointer (some ⟨r, 0, none⟩), m2)) (h0 : F 0 = wide w) : ∃ F', acodeN E self nf (.region 0 rdw_0 false) (lst F 26) m = some (.normal, lst F' 26, m2) ∧ F' 2 = .pointer (some ⟨p, 0, none⟩) ∧ F' 4 = .pointer (some ⟨r, 0, none⟩) ∧ F' 1 = F 1 := by
  simp only [odw_0, agd_none, gdAt, gdV_bool, gdV_undef, List.append_eq, List.cons_append, List.nil_append, apure_call1, apure_call2, apure_call3, bft, btf, acodeN, List.getElem?_toArray, List.getElem?_cons_zero, List.getElem?_cons_succ, aopsN, adrawT, cls, astep, aop, afloat, ev, nth_lst, get_lst, aput, setAt_lst, upd_at, init_zero, init_succ, init_nil, Nat.reduceLT, Nat.reduceEqDiff, reduceIte, abuiltin, alen, Option.map_some, Option.map_none, orElse_some, apure_add, apure_eqlV, eqlVal_str, eqlVal_bool, eqlVal_ptr, eqlVal_slice, eqlVal_wide, eqlVal_int, allT, ↓aop_eqlV, apure_neq, List.map_cons, List.map_nil, List.all_cons, List.all_nil, lit2, lit1, lit0, List.isEmpty_nil, bls, Bool.false_eq_true, if_true, if_false, List.length_map, beq_self_eq_true, uns, h0, hb, hc]
  exact ⟨_, rfl, by simp only [upd_at, Nat.reduceEqDiff, reduceIte], by simp only [upd_at, Nat.reduceEqDiff, reduceIte], by simp only [upd_at, Nat.reduceEqDiff, reduceIte]⟩
theorem dw_1 {m1 : Mem} (hc : aalloc E.P 24 m = some (.pointer (some ⟨q, 0, none⟩), m1)) : ∃ F', acodeN E self nf (.region 1 rdw_1 false) (lst F 26) m = some (.normal, lst F' 26, m1) ∧ F' 6 = .pointer (some ⟨q, 0, none⟩) ∧ ∀ j, j < 6 → F' j = F j := by
  simp only [odw_1, agd_none, gdAt, gdV_bool, gdV_undef, List.append_eq, List.cons_append, List.nil_append, apure_call1, apure_call2, apure_call3, bft, btf, acodeN, List.getElem?_toArray, List.getElem?_cons_zero, List.getElem?_cons_succ, aopsN, adrawT, cls, astep, aop, afloat, ev, nth_lst, get_lst, aput, setAt_lst, upd_at, init_zero, init_succ, init_nil, Nat.reduceLT, Nat.reduceEqDiff, reduceIte, abuiltin, alen, Option.map_some, Option.map_none, orElse_some, apure_add, apure_eqlV, eqlVal_str, eqlVal_bool, eqlVal_ptr, eqlVal_slice, eqlVal_wide, eqlVal_int, allT, ↓aop_eqlV, apure_neq, List.map_cons, List.map_nil, List.all_cons, List.all_nil, lit2, lit1, lit0, List.isEmpty_nil, bls, Bool.false_eq_true, if_true, if_false, List.length_map, beq_self_eq_true, uns, hc]
  exact ⟨_, rfl, by simp only [upd_at, Nat.reduceEqDiff, reduceIte], fun j h1 => by repeat rw [upd_ne (by omega)]⟩
theorem dw_2 : ∃ F', acodeN E self nf (.region 2 rdw_2 false) (lst F 26) m = some (.normal, lst F' 26, m) ∧ F' 7 = U 0 ∧ ∀ j, j < 7 → F' j = F j := by
  simp only [odw_2, agd_none, gdAt, gdV_bool, gdV_undef, List.append_eq, List.cons_append, List.nil_append, apure_call1, apure_call2, apure_call3, bft, btf, acodeN, List.getElem?_toArray, List.getElem?_cons_zero, List.getElem?_cons_succ, aopsN, adrawT, cls, astep, aop, afloat, ev, nth_lst, get_lst, aput, setAt_lst, upd_at, init_zero, init_succ, init_nil, Nat.reduceLT, Nat.reduceEqDiff, reduceIte, abuiltin, alen, Option.map_some, Option.map_none, orElse_some, apure_add, apure_eqlV, eqlVal_str, eqlVal_bool, eqlVal_ptr, eqlVal_slice, eqlVal_wide, eqlVal_int, allT, ↓aop_eqlV, apure_neq, List.map_cons, List.map_nil, List.all_cons, List.all_nil, lit2, lit1, lit0, List.isEmpty_nil, bls, Bool.false_eq_true, if_true, if_false, List.length_map, beq_self_eq_true, uns]
  exact ⟨_, rfl, by simp only [upd_at, Nat.reduceEqDiff, reduceIte]; rfl, fun j h1 => by repeat rw [upd_ne (by omega)]⟩
theorem dw_3 : ∃ F', acodeN E self nf (.region 3 rdw_3 false) (lst F 26) m = some (.normal, lst F' 26, m) ∧ F' 8 = .int .i64 7 ∧ ∀ j, j < 8 → F' j = F j := by
  simp only [odw_3, agd_none, gdAt, gdV_bool, gdV_undef, List.append_eq, List.cons_append, List.nil_append, apure_call1, apure_call2, apure_call3, bft, btf, acodeN, List.getElem?_toArray, List.getElem?_cons_zero, List.getElem?_cons_succ, aopsN, adrawT, cls, astep, aop, afloat, ev, nth_lst, get_lst, aput, setAt_lst, upd_at, init_zero, init_succ, init_nil, Nat.reduceLT, Nat.reduceEqDiff, reduceIte, abuiltin, alen, Option.map_some, Option.map_none, orElse_some, apure_add, apure_eqlV, eqlVal_str, eqlVal_bool, eqlVal_ptr, eqlVal_slice, eqlVal_wide, eqlVal_int, allT, ↓aop_eqlV, apure_neq, List.map_cons, List.map_nil, List.all_cons, List.all_nil, lit2, lit1, lit0, List.isEmpty_nil, bls, Bool.false_eq_true, if_true, if_false, List.length_map, beq_self_eq_true, uns]
  exact ⟨_, rfl, by simp only [upd_at, Nat.reduceEqDiff, reduceIte], fun j h1 => by repeat rw [upd_ne (by omega)]⟩
theorem dw_4 {i : Int} {b : Bool} (h8 : F 8 = .int .i64 i) (hb : decide (i ≥ 0) = b) : ∃ F', acodeN E self nf (.region 4 rdw_4 false) (lst F 26) m = some (.normal, lst F' 26, m) ∧ F' 10 = .bool b ∧ ∀ j, j < 9 → F' j = F j := by
  simp only [odw_4, agd_none, gdAt, gdV_bool, gdV_undef, List.append_eq, List.cons_append, List.nil_append, apure_call1, apure_call2, apure_call3, bft, btf, acodeN, List.getElem?_toArray, List.getElem?_cons_zero, List.getElem?_cons_succ, aopsN, adrawT, cls, astep, aop, afloat, ev, nth_lst, get_lst, aput, setAt_lst, upd_at, init_zero, init_succ, init_nil, Nat.reduceLT, Nat.reduceEqDiff, reduceIte, abuiltin, alen, Option.map_some, Option.map_none, orElse_some, apure_add, apure_eqlV, eqlVal_str, eqlVal_bool, eqlVal_ptr, eqlVal_slice, eqlVal_wide, eqlVal_int, allT, ↓aop_eqlV, apure_neq, List.map_cons, List.map_nil, List.all_cons, List.all_nil, lit2, lit1, lit0, List.isEmpty_nil, bls, Bool.false_eq_true, if_true, if_false, List.length_map, beq_self_eq_true, uns, h8, geqI64', hb]
  exact ⟨_, rfl, by simp only [upd_at, Nat.reduceEqDiff, reduceIte], fun j h1 => by repeat rw [upd_ne (by omega)]⟩
theorem dw_5 (h8 : F 8 = .int .i64 ((n : Nat) : Int)) (hn : n < 8) : ∃ F', acodeN E self nf (.region 5 rdw_5 false) (lst F 26) m = some (.normal, lst F' 26, m) ∧ F' 8 = .int .i64 (((n : Nat) : Int) - 1) ∧ ∀ j, j < 8 → F' j = F j := by
  have e : wrapF .i64 (((n : Nat) : Int) - 1) = ((n : Nat) : Int) - 1 := by
    rcases Nat.eq_zero_or_pos n with rfl | h
    · rfl
    · exact wrap_i64 (by omega) (by omega)
  simp only [odw_5, agd_none, gdAt, gdV_bool, gdV_undef, List.append_eq, List.cons_append, List.nil_append, apure_call1, apure_call2, apure_call3, bft, btf, acodeN, List.getElem?_toArray, List.getElem?_cons_zero, List.getElem?_cons_succ, aopsN, adrawT, cls, astep, aop, afloat, ev, nth_lst, get_lst, aput, setAt_lst, upd_at, init_zero, init_succ, init_nil, Nat.reduceLT, Nat.reduceEqDiff, reduceIte, abuiltin, alen, Option.map_some, Option.map_none, orElse_some, apure_add, apure_eqlV, eqlVal_str, eqlVal_bool, eqlVal_ptr, eqlVal_slice, eqlVal_wide, eqlVal_int, allT, ↓aop_eqlV, apure_neq, List.map_cons, List.map_nil, List.all_cons, List.all_nil, lit2, lit1, lit0, List.isEmpty_nil, bls, Bool.false_eq_true, if_true, if_false, List.length_map, beq_self_eq_true, uns, h8, sub64', e]
  exact ⟨_, rfl, by simp only [upd_at, Nat.reduceEqDiff, reduceIte], fun j h1 => by repeat rw [upd_ne (by omega)]⟩
theorem dw_6 {a b : Nat} {m1 : Mem} (h1 : F 1 = U d) (h2 : F 2 = .pointer (some ⟨p, 0, none⟩)) (h6 : F 6 = .pointer (some ⟨q, 0, none⟩)) (h7 : F 7 = U l) (h8 : F 8 = .int .i64 ((n : Nat) : Int)) (hn : n < 8) (c : cellAt m p n = some (U x)) (hd : ∀ M, ainv E self 28 [U l, U x, U d] M = some (pair64 a b, M)) (st : astore E.P 22 (.pointer (some ⟨q, n, none⟩)) (U a) m = some m1) :
    ∃ F', acodeN E self nf (.region 6 rdw_6 false) (lst F 26) m = some (.normal, lst F' 26, m1) ∧ F' 7 = U b ∧ ∀ j, j ≠ 7 → j < 9 → F' j = F j := by
  have i1 := ix24 (p := p) (k := n) hn
  have i2 := ix24 (p := q) (k := n) hn
  simp only [odw_6, agd_none, gdAt, gdV_bool, gdV_undef, List.append_eq, List.cons_append, List.nil_append, apure_call1, apure_call2, apure_call3, bft, btf, acodeN, List.getElem?_toArray, List.getElem?_cons_zero, List.getElem?_cons_succ, aopsN, adrawT, cls, astep, aop, afloat, ev, nth_lst, get_lst, aput, setAt_lst, upd_at, init_zero, init_succ, init_nil, Nat.reduceLT, Nat.reduceEqDiff, reduceIte, abuiltin, alen, Option.map_some, Option.map_none, orElse_some, apure_add, apure_eqlV, eqlVal_str, eqlVal_bool, eqlVal_ptr, eqlVal_slice, eqlVal_wide, eqlVal_int, allT, ↓aop_eqlV, apure_neq, List.map_cons, List.map_nil, List.all_cons, List.all_nil, lit2, lit1, lit0, List.isEmpty_nil, bls, Bool.false_eq_true, if_true, if_false, List.length_map, beq_self_eq_true, uns, h1, h2, h6, h7, h8, i1, i2, load22, c, callDv64, hd, ex0, ex1, st]
  exact ⟨_, rfl, by simp only [upd_at, Nat.reduceEqDiff, reduceIte], fun j h1 h2 => by repeat rw [upd_ne (by omega)]⟩
theorem dw_7 {m1 : Mem} {v y : Value} (h4 : F 4 = .pointer (some ⟨r, 0, none⟩)) (h6 : F 6 = .pointer (some ⟨q, 0, none⟩)) (h7 : F 7 = y) (ld : aload E.P 24 (.pointer (some ⟨q, 0, none⟩)) m = some v) (st : astore E.P 24 (.pointer (some ⟨r, 0, none⟩)) v m = some m1) :
    ∃ F', acodeN E self nf (.region 7 rdw_7 false) (lst F 26) m = some (.normal, lst F' 26, m1) ∧ F' 4 = .pointer (some ⟨r, 0, none⟩) ∧ F' 5 = y := by
  simp only [odw_7, agd_none, gdAt, gdV_bool, gdV_undef, List.append_eq, List.cons_append, List.nil_append, apure_call1, apure_call2, apure_call3, bft, btf, acodeN, List.getElem?_toArray, List.getElem?_cons_zero, List.getElem?_cons_succ, aopsN, adrawT, cls, astep, aop, afloat, ev, nth_lst, get_lst, aput, setAt_lst, upd_at, init_zero, init_succ, init_nil, Nat.reduceLT, Nat.reduceEqDiff, reduceIte, abuiltin, alen, Option.map_some, Option.map_none, orElse_some, apure_add, apure_eqlV, eqlVal_str, eqlVal_bool, eqlVal_ptr, eqlVal_slice, eqlVal_wide, eqlVal_int, allT, ↓aop_eqlV, apure_neq, List.map_cons, List.map_nil, List.all_cons, List.all_nil, lit2, lit1, lit0, List.isEmpty_nil, bls, Bool.false_eq_true, if_true, if_false, List.length_map, beq_self_eq_true, uns, h4, h6, h7, ld, st]
  exact ⟨_, rfl, by simp only [upd_at, Nat.reduceEqDiff, reduceIte, h4], by simp only [upd_at, Nat.reduceEqDiff, reduceIte]⟩
theorem dw_it (hdv : CDv64 self) (h1 : F 1 = U d) (h2 : F 2 = .pointer (some ⟨p, 0, none⟩)) (h6 : F 6 = .pointer (some ⟨q, 0, none⟩)) (h7 : F 7 = U l) (h8 : F 8 = .int .i64 ((n : Nat) : Int)) (hn : n < 8) (gp : m[p]? = some (.row false be (rowOf w))) (gq : m[q]? = some (.row false 24 (rowOf out))) (hl : l < d) (hd : d < 18446744073709551616) (hw : w n < 18446744073709551616) :
    ∃ F', acodeN E self nf lpdw_0 (lst F 26) m = some (.normal, lst F' 26, m.set q (.row false 24 (rowOf (putW out n ((l * 18446744073709551616 + w n) / d))))) ∧ F' 7 = U ((l * 18446744073709551616 + w n) % d) ∧ F' 8 = .int .i64 (((n : Nat) : Int) - 1) ∧ ∀ j, j < 7 → F' j = F j := by
  have c : cellAt m p n = some (U (w n)) := by rw [cellAt_row gp, rowOf_get hn]
  have hd1 := hdv l (w n) d hl hd hw
  unfold Ans at hd1
  have st := store22 (x := (l * 18446744073709551616 + w n) / d) gq hn
  obtain ⟨A, ra, a10, ak⟩ := dw_4 (self := self) (nf := nf) (m := m) h8 (b := true) (decide_eq_true (by omega))
  obtain ⟨B, rb, b7, bk⟩ := dw_6 (self := self) (nf := nf) (m := m) ((ak 1 (by omega)).trans h1) ((ak 2 (by omega)).trans h2) ((ak 6 (by omega)).trans h6) ((ak 7 (by omega)).trans h7) ((ak 8 (by omega)).trans h8) hn c hd1 st
  obtain ⟨C, rc, c8, ck⟩ := dw_5 (self := self) (nf := nf) (m := m.set q (.row false 24 (rowOf (putW out n ((l * 18446744073709551616 + w n) / d))))) ((bk 8 (by omega) (by omega)).trans ((ak 8 (by omega)).trans h8)) hn
  refine ⟨C, ?_, (ck 7 (by omega)).trans b7, c8, fun j hj => (ck j (by omega)).trans ((bk j (by omega) (by omega)).trans (ak j (by omega)))⟩
  rw [lpdw_0_eq]
  change acodeN E self nf _ _ _ = some (_, _, m.set q (.row false 24 (rowOf (putW out n ((l * 18446744073709551616 + w n) / d))))) at rb
  generalize m.set q (.row false 24 (rowOf (putW out n ((l * 18446744073709551616 + w n) / d)))) = M1 at *
  generalize Code.region 4 rdw_4 false = C4 at *
  generalize Code.region 5 rdw_5 false = C5 at *
  generalize Code.region 6 rdw_6 false = C6 at *
  simp only [acodeN, ra, rb, rc, ev, nth_lst, Nat.reduceLT, if_true, a10]
theorem dw_end (h8 : F 8 = .int .i64 (-1)) : ∃ F', acodeN E self nf lpdw_0 (lst F 26) m = some (.exit 0, lst F' 26, m) ∧ ∀ j, j < 9 → F' j = F j := by
  obtain ⟨A, ra, a10, ak⟩ := dw_4 (self := self) (nf := nf) (m := m) h8 (b := false) (by decide)
  rw [lpdw_0_eq]
  refine ⟨A, ?_, ak⟩
  generalize Code.region 4 rdw_4 false = C4 at *
  simp only [acodeN, ra, ev, nth_lst, Nat.reduceLT, if_true, a10]
theorem dw_body (hdv : CDv64 self) (hw : ∀ j, w j < 18446744073709551616) (hd0 : 0 < d) (hd : d < 18446744073709551616) (hnf : 10 < nf) :
    ∃ o l m', vN w 8 = vN o 8 * d + l ∧ l < d ∧ (∀ j, o j < 18446744073709551616) ∧ abody E self nf 22 [wide w, U d] m = some (.tuple ⟨[wide o, U l]⟩, m') := by
  rw [abody_eqF (by kernel_rfl) Tryd.func22 bodydw (by kernel_rfl) (Nat.le_of_ble_eq_true rfl)]
  rw [show Tryd.f22.ntmps = 26 from rfl]
  have l1 : (m ++ [Blk.row false 24 (rowOf w)]).length = m.length + 1 := by simp
  have l2 : (m ++ [Blk.row false 24 (rowOf w)] ++ [Blk.row false 24 (rowOf fun _ => 0)]).length = m.length + 2 := by simp
  have b2 := alloc24 (m ++ [.row false 24 (rowOf w)])
  have b3 := alloc24 (m ++ [Blk.row false 24 (rowOf w)] ++ [.row false 24 (rowOf fun _ => 0)])
  rw [l1] at b2
  rw [l2] at b3
  obtain ⟨A, ra, a2, a4, a1⟩ := dw_0 (self := self) (nf := nf) (m := m) (F := init [wide w, U d]) (box24 w m) b2 rfl
  obtain ⟨B, rb, b6, bk⟩ := dw_1 (self := self) (nf := nf) (F := A) b3
  obtain ⟨M, hM⟩ : ∃ M, M = m ++ [Blk.row false 24 (rowOf w)] ++ [.row false 24 (rowOf fun _ => 0)] ++ [.row false 24 (rowOf fun _ => 0)] := ⟨_, rfl⟩
  rw [← hM] at rb
  have hp : M[m.length]? = some (.row false 24 (rowOf w)) := by
    rw [hM, List.getElem?_append_left (by simp), List.getElem?_append_left (by simp)]; simp
  have hr : M[m.length + 1]? = some (.row false 24 (rowOf fun _ => 0)) := by
    rw [hM, List.getElem?_append_left (by simp), List.getElem?_append_right (by simp)]; simp
  have hq : M[m.length + 2]? = some (.row false 24 (rowOf fun _ => 0)) := by
    rw [hM, List.getElem?_append_right (by simp)]; simp
  clear hM b2 b3 l1 l2
  obtain ⟨C, rc, c7, ck⟩ := dw_2 (self := self) (nf := nf) (m := M) (F := B)
  obtain ⟨D, rd, d8, dk⟩ := dw_3 (self := self) (nf := nf) (m := M) (F := C)
  have d1 : D 1 = U d := (dk 1 (by omega)).trans ((ck 1 (by omega)).trans ((bk 1 (by omega)).trans a1))
  have d2 := (dk 2 (by omega)).trans ((ck 2 (by omega)).trans ((bk 2 (by omega)).trans a2))
  have d4 := (dk 4 (by omega)).trans ((ck 4 (by omega)).trans ((bk 4 (by omega)).trans a4))
  have d6 := (dk 6 (by omega)).trans ((ck 6 (by omega)).trans b6)
  have d7 := (dk 7 (by omega)).trans c7
  have hloop := aloop_inv (body := acodeN E self nf lpdw_0) (N := 8)
    (I := fun k T m' => ∃ G o l, T = lst G 26 ∧ G 1 = U d ∧ G 2 = .pointer (some ⟨m.length, 0, none⟩) ∧ G 4 = .pointer (some ⟨m.length + 1, 0, none⟩) ∧ G 6 = .pointer (some ⟨m.length + 2, 0, none⟩) ∧ G 7 = U l ∧ G 8 = .int .i64 (((8 - k : Nat) : Int) - 1) ∧
      m'[m.length]? = some (.row false 24 (rowOf w)) ∧ m'[m.length + 1]? = some (.row false 24 (rowOf fun _ => 0)) ∧ m'[m.length + 2]? = some (.row false 24 (rowOf o)) ∧ l < d ∧ (∀ j, o j < 18446744073709551616) ∧ vN (fun j => w (j + (8 - k))) k = vN (fun j => o (j + (8 - k))) k * d + l)
    (Q := fun x T m' => x = .exit 0 ∧ ∃ G o l, T = lst G 26 ∧ G 4 = .pointer (some ⟨m.length + 1, 0, none⟩) ∧ G 6 = .pointer (some ⟨m.length + 2, 0, none⟩) ∧ G 7 = U l ∧ 
      m'[m.length + 1]? = some (.row false 24 (rowOf fun _ => 0)) ∧ m'[m.length + 2]? = some (.row false 24 (rowOf o)) ∧ l < d ∧ (∀ j, o j < 18446744073709551616) ∧ vN w 8 = vN o 8 * d + l) (fun k T m' hk hI => by
      obtain ⟨G, o, l, rfl, g1, g2, g4, g6, g7, g8, gp, gr, gq, hl, ho, hs⟩ := hI
      rcases Nat.eq_zero_or_pos (8 - k) with h0 | h0
      · right
        have hk8 : k = 8 := by omega
        subst hk8
        obtain ⟨H, rh, hk⟩ := dw_end (self := self) (nf := nf) (m := m') g8
        exact ⟨_, _, _, rh, by simp, rfl, H, o, l, rfl, (hk 4 (by omega)).trans g4, (hk 6 (by omega)).trans g6, (hk 7 (by omega)).trans g7, gr, gq, hl, ho, hs⟩
      · left
        obtain ⟨n, hn⟩ : ∃ n, 8 - k = n + 1 := ⟨8 - k - 1, by omega⟩
        rw [hn, show (((n + 1 : Nat) : Int) - 1) = ((n : Nat) : Int) by omega] at g8
        rw [hn] at hs
        have hn8 : n < 8 := by omega
        obtain ⟨H, rh, h7, h8, hk2⟩ := dw_it (self := self) (nf := nf) (m := m') hdv g1 g2 g6 g7 g8 hn8 gp gq hl hd (hw n)
        have hqb : (l * 18446744073709551616 + w n) / d < 18446744073709551616 := two_digits hl (hw n)
        refine ⟨_, _, rh, by omega, H, putW o n ((l * 18446744073709551616 + w n) / d), (l * 18446744073709551616 + w n) % d, rfl, (hk2 1 (by omega)).trans g1, (hk2 2 (by omega)).trans g2, (hk2 4 (by omega)).trans g4, (hk2 6 (by omega)).trans g6, h7, by rw [h8, show 8 - (k + 1) = n by omega], ?_, ?_, ?_, Nat.mod_lt _ hd0, ?_, ?_⟩
        · rw [List.getElem?_set_ne (by omega)]; exact gp
        · rw [List.getElem?_set_ne (by omega)]; exact gr
        · rw [List.getElem?_set_self (lt_of_at gq)]
        · intro j; unfold putW; split
          · exact hqb
          · exact ho j
        · rw [show 8 - (k + 1) = n by omega]
          have h1 := vN_low (fun j => w (j + n)) k
          have h2 := vN_low (fun j => putW o n ((l * 18446744073709551616 + w n) / d) (j + n)) k
          have h3 : vN (fun j => putW o n ((l * 18446744073709551616 + w n) / d) (j + 1 + n)) k = vN (fun j => o (j + (n + 1))) k := vN_ext fun j _ => by
            unfold putW
            rw [if_neg (by omega), show j + 1 + n = j + (n + 1) by omega]
          have h4 : vN (fun j => w (j + 1 + n)) k = vN (fun j => w (j + (n + 1))) k := vN_ext fun j _ => by
            rw [show j + 1 + n = j + (n + 1) by omega]
          have h5 : putW o n ((l * 18446744073709551616 + w n) / d) (0 + n) = (l * 18446744073709551616 + w n) / d := by unfold putW; rw [Nat.zero_add, if_pos rfl]
          have h6 := digit_dw (w := w n) (B := 18446744073709551616) hs hd0
          rw [h1, h2]
          simp only [Nat.zero_add] at h5 ⊢
          rw [h3, h4, h5]
          exact h6)
  obtain ⟨x, T', m', hlp, rfl, G, o, l, rfl, g4, g6, g7, gr, gq, hl, ho, hs⟩ := hloop 8 0 nf (lst D 26) M (by omega) (by omega) ⟨D, fun _ => 0, 0, rfl, d1, d2, d4, d6, d7, d8, hp, hr, hq, hd0, fun _ => (by show 0 < 18446744073709551616; decide), by simp [vN]⟩
  have st := store24 (w := o) gr (rowOf_length _)
  obtain ⟨H, rh, h4, h5⟩ := dw_7 (self := self) (nf := nf) (m := m') g4 g6 g7 (load24 gq) st
  have ld2 : aload E.P 24 (.pointer (some ⟨m.length + 1, 0, none⟩)) (m'.set (m.length + 1) (.row false 24 (rowOf o))) = some (wide o) := load24 (by rw [List.getElem?_set_self (lt_of_at gr)])
  refine ⟨o, l, m'.set (m.length + 1) (.row false 24 (rowOf o)), hs, hl, ho, ?_⟩
  generalize m'.set (m.length + 1) (.row false 24 (rowOf o)) = M2 at *
  generalize Code.region 0 rdw_0 false = C0 at *
  generalize Code.region 1 rdw_1 false = C1 at *
  generalize Code.region 2 rdw_2 false = C2 at *
  generalize Code.region 3 rdw_3 false = C3 at *
  generalize Code.region 7 rdw_7 false = C7 at *
  simp only [acodeN, ra, rb, rc, rd, hlp, rh, finish, ares, aresL, ares1, Tryd.f22, ev, nth_lst, Nat.reduceLT, if_true, h4, h5, ld2, Option.map_some]
end
end Go.Am.Seat
namespace Go.Am.Seat
open Go.Proofs Go.Am Go.Am.Num Go.Am.Kn
section
variable {self : Self} {nf : Nat} {m m' : Mem} {F : Nat → Value} {p q r t by' : Nat} {w u R : Nat → Nat} {be be' : TypeId}
def sprW (u : Nat → Nat) (x : Nat) : Nat → Nat := putW (fun j => if j < 8 then u j else 0) 8 x
end
end Go.Am.Seat
namespace Go.Am.Seat
open Go.Proofs Go.Am Go.Am.Num Go.Am.Kn
section
variable {self : Self} {nf : Nat} {m m' : Mem} {F : Nat → Value} {p q r s t z b' n i : Nat} {w v u S : Nat → Nat} {be be' : TypeId}
end
end Go.Am.Seat
namespace Go.Am.Seat
open Go.Proofs Go.Am Go.Am.Num Go.Am.Kn
theorem vN_split (w : Nat → Nat) (a : Nat) : ∀ b, vN w (a + b) = vN w a + 18446744073709551616 ^ a * vN (fun j => w (a + j)) b
  | 0 => by rw [Nat.add_zero, vN.eq_def (fun j => w (a + j)) 0]; simp
  | b + 1 => by
    rw [show a + (b + 1) = (a + b) + 1 by omega, vN, vN_split w a b, vN, Nat.pow_add, Nat.mul_add, Nat.add_assoc, Nat.mul_assoc]
theorem vN_zero {w : Nat → Nat} {n : Nat} : ∀ k, (∀ j, n ≤ j → j < n + k → w j = 0) → vN w (n + k) = vN w n
  | 0, _ => by rw [Nat.add_zero]
  | k + 1, h => by
    rw [show n + (k + 1) = (n + k) + 1 by omega, vN, vN_zero k fun j h1 h2 => h j h1 (by omega), h (n + k) (by omega) (by omega), Nat.mul_zero, Nat.add_zero]
structure DL (S : Nat → Nat) (V n t : Nat) (R o : Nat → Nat) : Prop where
  sum : vN S 9 = 18446744073709551616 ^ t * vN (fun j => o (t + j)) (9 - n - t) * V + vN R (t + n)
  high : vN (fun j => R (t + j)) n < V
  zero : ∀ j, t + n ≤ j → j < 9 → R j = 0
  zo : ∀ j, 9 - n ≤ j → o j = 0
  small : ∀ j, R j < 18446744073709551616
  smallo : ∀ j, o j < 18446744073709551616
theorem dl_alg (P B O q V a U r : Nat) (hU : U = V * q + r) : P * B * O * V + (a + P * U) = P * (q + B * O) * V + (a + P * r) := by
  subst hU
  simp only [Nat.mul_add, Nat.add_mul]
  ac_rfl
theorem DL.lt {S R o : Nat → Nat} {V n i : Nat} (h : DL S V n (i + 1) R o) : vN (fun j => R (i + j)) (n + 1) < V * 18446744073709551616 := by
  have h1 := vN_low (fun j => R (i + j)) n
  have h2 : vN (fun j => R (i + (j + 1))) n = vN (fun j => R (i + 1 + j)) n := vN_ext fun j _ => by rw [show i + (j + 1) = i + 1 + j by omega]
  have h3 := h.high
  have h4 := h.small i
  rw [h2] at h1
  simp only [Nat.add_zero] at h1
  rw [h1]
  generalize vN (fun j => R (i + 1 + j)) n = x at *
  have := Nat.mul_le_mul_left 18446744073709551616 h3
  rw [Nat.mul_succ, Nat.mul_comm _ V] at this
  omega
theorem DL.step {S R R' o : Nat → Nat} {V n i : Nat} (h : DL S V n (i + 1) R o) (hn : i + 1 + n ≤ 9) (hV : V < 18446744073709551616 ^ n) (hlo : ∀ j, j < i → R' j = R j) (hhi : ∀ j, i + n < j → R' j = R j) (hR' : ∀ j, R' j < 18446744073709551616) (hr : vN (fun j => R' (i + j)) (n + 1) = vN (fun j => R (i + j)) (n + 1) % V) :
    DL S V n i R' (putW o i (vN (fun j => R (i + j)) (n + 1) / V)) := by
  have hVp : 0 < V := Nat.lt_of_le_of_lt (Nat.zero_le _) h.high
  have hrl : vN (fun j => R' (i + j)) (n + 1) < V := by rw [hr]; exact Nat.mod_lt _ hVp
  have htop : R' (i + n) = 0 := by
    rcases Nat.eq_zero_or_pos (R' (i + n)) with h1 | h1
    · exact h1
    · have h2 : 18446744073709551616 ^ n * 1 ≤ 18446744073709551616 ^ n * R' (i + n) := Nat.mul_le_mul_left _ h1
      rw [vN] at hrl
      generalize 18446744073709551616 ^ n = P at *
      omega
  have hlow : vN (fun j => R' (i + j)) n = vN (fun j => R (i + j)) (n + 1) % V := by
    rw [← hr, vN, htop, Nat.mul_zero, Nat.add_zero]
  have hq : vN (fun j => R (i + j)) (n + 1) / V < 18446744073709551616 := Nat.div_lt_of_lt_mul h.lt
  refine ⟨?_, ?_, ?_, ?_, hR', ?_⟩
  · rw [h.sum]
    have e1 : vN R (i + 1 + n) = vN R i + 18446744073709551616 ^ i * vN (fun j => R (i + j)) (n + 1) := by rw [← vN_split, show i + 1 + n = i + (n + 1) by omega]
    have e2 : vN R' (i + n) = vN R i + 18446744073709551616 ^ i * (vN (fun j => R (i + j)) (n + 1) % V) := by rw [vN_split, hlow, vN_ext hlo]
    have e3 : vN (fun j => putW o i (vN (fun j => R (i + j)) (n + 1) / V) (i + j)) (9 - n - i) = vN (fun j => R (i + j)) (n + 1) / V + 18446744073709551616 * vN (fun j => o (i + 1 + j)) (9 - n - (i + 1)) := by
      rw [show 9 - n - i = (9 - n - (i + 1)) + 1 by omega, vN_low]
      congr 1
      · unfold putW; rw [Nat.add_zero, if_pos rfl]
      · congr 1
        apply vN_ext
        intro j _
        unfold putW
        rw [if_neg (by omega), show i + (j + 1) = i + 1 + j by omega]
    rw [e1, e2, e3, Nat.pow_succ]
    exact dl_alg _ _ _ _ _ _ _ _ (Nat.div_add_mod _ _).symm
  · rw [hlow]; exact Nat.mod_lt _ hVp
  · intro j h1 h2
    rcases (by omega : j = i + n ∨ i + n < j) with rfl | h3
    · exact htop
    · rw [hhi j h3]; exact h.zero j (by omega) h2
  · intro j h1
    unfold putW
    rw [if_neg (by omega)]
    exact h.zo j h1
  · intro j; unfold putW; split
    · exact hq
    · exact h.smallo j
theorem DL.last {S R o : Nat → Nat} {V n : Nat} (h : DL S V n 0 R o) (hn : 1 ≤ n) (hn8 : n ≤ 8) : vN S 9 = vN o 8 * V + vN R 8 ∧ vN R 8 < V := by
  have h1 := h.sum
  have h2 := h.high
  simp only [Nat.pow_zero, Nat.one_mul, Nat.zero_add, Nat.sub_zero] at h1 h2
  have e1 : vN R 8 = vN R n := by
    have := vN_zero (w := R) (n := n) (8 - n) fun j h3 h4 => h.zero j (by omega) (by omega)
    rw [show n + (8 - n) = 8 by omega] at this
    exact this
  have e2 : vN o 8 = vN o (9 - n) := by
    have := vN_zero (w := o) (n := 9 - n) (8 - (9 - n)) fun j h3 h4 => h.zo j h3
    rw [show 9 - n + (8 - (9 - n)) = 8 by omega] at this
    exact this
  rw [e1, e2]
  exact ⟨h1, h2⟩
section
variable {self : Self} {nf : Nat} {m m' : Mem} {F : Nat → Value} {q t z k i : Nat} {V R o S : Nat → Nat} {be : TypeId}
end
end Go.Am.Seat
namespace Go.Am.Seat
open Go.Proofs Go.Am Go.Am.Num Go.Am.Kn
theorem word_pow {b : Nat} (hb : b ≤ 64) : 18446744073709551616 = 2 ^ b * 2 ^ (64 - b) := by
  rw [← Nat.pow_add, show b + (64 - b) = 64 by omega]
theorem shl_mod (x : Nat) {b : Nat} (hb : b ≤ 64) : x * 2 ^ b % 18446744073709551616 = 2 ^ b * (x % 2 ^ (64 - b)) := by
  rw [word_pow hb, Nat.mul_comm x, Nat.mul_mod_mul_left]
theorem shl_div (x : Nat) {b : Nat} (hb : b ≤ 64) : x * 2 ^ b / 18446744073709551616 = x / 2 ^ (64 - b) := by
  rw [word_pow hb, Nat.mul_comm x, Nat.mul_div_mul_left _ _ (Nat.two_pow_pos b)]
theorem shl_or (x : Nat) {y b : Nat} (hb : b ≤ 64) (hy : y < 2 ^ b) : (x * 2 ^ b % 18446744073709551616) ||| y = x * 2 ^ b % 18446744073709551616 + y := by
  rw [shl_mod x hb, Nat.two_pow_add_eq_or_of_lt hy]
theorem shr_lt {x b : Nat} (hb : b ≤ 64) (hx : x < 18446744073709551616) : x / 2 ^ (64 - b) < 2 ^ b := by
  apply Nat.div_lt_of_lt_mul
  rw [Nat.mul_comm, ← word_pow hb]
  exact hx
theorem up_alg (P B s m d y v x : Nat) (h : x * s = B * d + m) : v + P * (m + y) + P * B * d = (v + P * y) + P * (s * x) := by
  rw [Nat.mul_comm s x, h]
  simp only [Nat.mul_add]
  ac_rfl
theorem vN_up {w : Nat → Nat} (hw : ∀ j, w j < 18446744073709551616) {b : Nat} (hb : b ≤ 64) : ∀ n, vN (upW w 0 b) (n + 1) + 18446744073709551616 ^ (n + 1) * (w n / 2 ^ (64 - b)) = 2 ^ b * vN w (n + 1)
  | 0 => by
    have h := Nat.div_add_mod (w 0 * 2 ^ b) 18446744073709551616
    rw [shl_div _ hb] at h
    have e : upW w 0 b 0 = w 0 * 2 ^ b % 18446744073709551616 := by
      unfold upW
      rw [if_neg (Nat.lt_irrefl 0), if_neg (Nat.lt_irrefl 0), Nat.sub_zero]
    have e2 : vN (upW w 0 b) 1 = upW w 0 b 0 := by rw [vN, vN, Nat.pow_zero, Nat.one_mul, Nat.zero_add]
    have e3 : vN w 1 = w 0 := by rw [vN, vN, Nat.pow_zero, Nat.one_mul, Nat.zero_add]
    show vN (upW w 0 b) 1 + 18446744073709551616 ^ 1 * (w 0 / 2 ^ (64 - b)) = 2 ^ b * vN w 1
    rw [e2, e3, e, Nat.pow_one, Nat.add_comm, Nat.mul_comm (2 ^ b)]
    exact h
  | n + 1 => by
    have ih := vN_up hw hb n
    have h := Nat.div_add_mod (w (n + 1) * 2 ^ b) 18446744073709551616
    rw [shl_div _ hb] at h
    have e : upW w 0 b (n + 1) = w (n + 1) * 2 ^ b % 18446744073709551616 + w n / 2 ^ (64 - b) := by
      unfold upW
      rw [if_neg (Nat.not_lt_zero _), if_pos (Nat.succ_pos n)]
      exact shl_or _ hb (shr_lt hb (hw n))
    rw [vN, e, show vN w (n + 1 + 1) = vN w (n + 1) + 18446744073709551616 ^ (n + 1) * w (n + 1) from rfl, Nat.mul_add (2 ^ b), ← ih, Nat.pow_succ _ (n + 1), Nat.mul_left_comm (2 ^ b)]
    exact up_alg _ _ _ _ _ _ _ _ h.symm
theorem vN_spr {w : Nat → Nat} (hw : ∀ j, w j < 18446744073709551616) {b : Nat} (hb : b ≤ 64) : vN (sprW (upW w 0 b) (w 7 / 2 ^ (64 - b))) 9 = 2 ^ b * vN w 8 := by
  rw [← vN_up hw hb 7, vN]
  rfl
end Go.Am.Seat
namespace Go.Am.Seat
open Go.Proofs Go.Am Go.Am.Num Go.Am.Kn
theorem high_alg {P Q s W S hi lo V v1 ul : Nat} (hs : s ≤ 9223372036854775808) (hW : W < P * Q * 18446744073709551616 ) (hS : s * W = lo + P * 18446744073709551616 * hi) (hV : V = ul + Q * v1) (h1 : 9223372036854775808 ≤ v1) (hs0 : 0 < s) : hi < V := by
  have e1 : s * W < s * (P * Q * 18446744073709551616) := Nat.mul_lt_mul_of_pos_left hW hs0
  have e2 : s * (P * Q * 18446744073709551616) ≤ v1 * (P * Q * 18446744073709551616) := Nat.mul_le_mul_right _ (Nat.le_trans hs h1)
  have e3 : v1 * (P * Q * 18446744073709551616) = P * 18446744073709551616 * (Q * v1) := by
    rw [Nat.mul_comm v1, Nat.mul_right_comm P Q, Nat.mul_assoc]
  have e4 : P * 18446744073709551616 * hi < P * 18446744073709551616 * (Q * v1) := by omega
  have := Nat.lt_of_mul_lt_mul_left e4
  omega
theorem DL.first {v w : Nat → Nat} {k b : Nat} (hw : ∀ j, w j < 18446744073709551616) (hv : ∀ j, v j < 18446744073709551616) (hu : Uses v (k + 2)) (hb : b < 64) (hn : 9223372036854775808 ≤ upW v 0 b (k + 1)) (hS : ∀ j, sprW (upW w 0 b) (w 7 / 2 ^ (64 - b)) j < 18446744073709551616) :
    DL (sprW (upW w 0 b) (w 7 / 2 ^ (64 - b))) (vN (upW v 0 b) (k + 2)) (k + 2) (9 - (k + 2)) (sprW (upW w 0 b) (w 7 / 2 ^ (64 - b))) (fun _ => 0) := by
  have h9 := vN_spr hw (b := b) (by omega)
  have hk := hu.1
  have hspl := vN_split (sprW (upW w 0 b) (w 7 / 2 ^ (64 - b))) (9 - (k + 2)) (k + 2)
  rw [show 9 - (k + 2) + (k + 2) = 9 by omega, h9, show 9 - (k + 2) = (6 - k) + 1 by omega, Nat.pow_succ] at hspl
  have hW := vN_lt hw 8
  rw [show (8 : Nat) = (6 - k) + (k + 1) + 1 by omega, Nat.pow_succ, Nat.pow_add] at hW
  rw [show (6 - k) + (k + 1) + 1 = 8 by omega] at hW
  have h2b : 2 ^ b ≤ 9223372036854775808 := Nat.pow_le_pow_right (n := 2) (by omega) (show b ≤ 63 by omega)
  refine ⟨?_, ?_, ?_, ?_, hS, fun _ => (by show 0 < 18446744073709551616; decide)⟩
  · rw [Nat.sub_self, show 9 - (k + 2) + (k + 2) = 9 by omega, vN.eq_def (fun j => _) 0]
    simp
  · rw [show 9 - (k + 2) = (6 - k) + 1 by omega]
    exact high_alg (V := vN (upW v 0 b) (k + 2)) (S := 0) h2b hW hspl (vN_top (k + 1)) hn (Nat.two_pow_pos b)
  · intro j h1 h2; omega
  · intro j _; rfl
end Go.Am.Seat
namespace Go.Am.Seat
open Go.Proofs Go.Am Go.Am.Num Go.Am.Kn
section
variable {self : Self} {nf : Nat} {m m' : Mem} {F : Nat → Value} {q t z r s k i : Nat} {V R o S : Nat → Nat} {be be' : TypeId}
end
end Go.Am.Seat
namespace Go.Am.Seat
open Go.Proofs Go.Am Go.Am.Num Go.Am.Kn
section
variable {self : Self} {nf : Nat} {m : Mem} {F : Nat → Value} {w v : Nat → Nat} {k b : Nat}
end
end Go.Am.Seat
namespace Go.Am.Seat
open Go.Proofs Go.Am Go.Am.Num Go.Am.Kn
section
variable {self : Self} {nf : Nat} {m : Mem} {F : Nat → Value} {w v R o d : Nat → Nat} {k b p q r s t z : Nat} {be : TypeId}
end
end Go.Am.Seat
namespace Go.Am.Seat
open Go.Proofs Go.Am Go.Am.Num Go.Am.Kn
theorem a24w : ArrT 24 8 22 .u64 := ⟨und24, und22, info24, info22⟩
theorem eql24 {x y : Operand} (u v : Nat → Nat) : eqlVal E.P 24 x y (wide u) (wide v) = some (.bool ((List.range 8).all fun j => ((u j : Nat) : Int) == ((v j : Nat) : Int))) := eqlVal_arr a24w (by kernel_rfl) (by kernel_rfl) (by kernel_rfl) u v
theorem abuild24 : abuild E.P 24 [] = some (wide fun _ => 0) := by kernel_rfl
theorem apure24 {T : List Value} {dd : Option Tmp} {pos : String} {af : Array Edge} {g : Option (Nat × Bool)} : apure E.P T { dst := dd, op := .build 24 #[], type := 24, pos := pos, after := af, guard := g } = some (wide fun _ => 0) := by kernel_rfl
theorem exW0 (a b : Value) : aextract (.tuple ⟨[a, b]⟩) 0 = some a := rfl
theorem exW1 (a b : Value) : aextract (.tuple ⟨[a, b]⟩) 1 = some b := rfl
theorem eqlI' (a b : Int) : abin .eql .i64 a .i64 b = some (.bool (a == b)) := by kernel_rfl
section
variable {self : Self} {nf : Nat} {m : Mem} {F : Nat → Value} {w v o l : Nat → Nat} {p q r s x y n : Nat}
end
end Go.Am.Seat
namespace Go.Am.Seat
open Go.Proofs Go.Am Go.Am.Num Go.Am.Kn
section
variable {self : Self} {nf : Nat} {m : Mem} {F : Nat → Value} {w v o l : Nat → Nat} {p q r s x y n : Nat}
end
end Go.Am.Seat
