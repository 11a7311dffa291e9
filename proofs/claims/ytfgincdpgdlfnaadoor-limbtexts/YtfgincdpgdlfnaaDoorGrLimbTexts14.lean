/-
  Texts of my own, put together: E8, KD2, KD3.
-/
import Derived.Test.YtfgincdpgdlfnaaDoorGrLimbTexts13
import Derived.Test.YtfgincdpgdlfnaaDoorGrLimbTexts0
set_option linter.unusedSimpArgs false
set_option linter.unusedVariables false
set_option maxRecDepth 100000
namespace Go.Am.Seat
open Go.Proofs Go.Am Go.Am.Num
set_option maxHeartbeats 4000000
section
variable {self : Self} {nf : Nat} {m : Mem} {X Y : Nat}
end
end Go.Am.Seat
namespace Go.Am.Seat
open Go.Proofs Go.Am Go.Am.Num Go.Am.Kn
noncomputable def rln64_0 : Array Oper := match Tryd.f26.body with
  | some (.seq (.region _ o _) _) => o
  | _ => #[]
noncomputable def lln64_0 : List Oper := match Tryd.f26.body with
  | some (.seq (.region _ o _) _) => o.toList
  | _ => []
theorem eln64_0 : rln64_0.toList = lln64_0 := rfl
noncomputable def rln64_1 : Array Oper := match Tryd.f26.body with
  | some (.seq _ (.seq (.seq (.region _ o _) _) _)) => o
  | _ => #[]
noncomputable def lln64_1 : List Oper := match Tryd.f26.body with
  | some (.seq _ (.seq (.seq (.region _ o _) _) _)) => o.toList
  | _ => []
theorem eln64_1 : rln64_1.toList = lln64_1 := rfl
noncomputable def rln64_2 : Array Oper := match Tryd.f26.body with
  | some (.seq _ (.seq (.seq _ (.cond _ (.seq (.region _ o _) _) _)) _)) => o
  | _ => #[]
noncomputable def lln64_2 : List Oper := match Tryd.f26.body with
  | some (.seq _ (.seq (.seq _ (.cond _ (.seq (.region _ o _) _) _)) _)) => o.toList
  | _ => []
theorem eln64_2 : rln64_2.toList = lln64_2 := rfl
noncomputable def rln64_3 : Array Oper := match Tryd.f26.body with
  | some (.seq _ (.seq (.seq _ (.cond _ (.seq _ (.region _ o _)) _)) _)) => o
  | _ => #[]
noncomputable def lln64_3 : List Oper := match Tryd.f26.body with
  | some (.seq _ (.seq (.seq _ (.cond _ (.seq _ (.region _ o _)) _)) _)) => o.toList
  | _ => []
theorem eln64_3 : rln64_3.toList = lln64_3 := rfl
noncomputable def rln64_4 : Array Oper := match Tryd.f26.body with
  | some (.seq _ (.seq _ (.seq (.seq (.region _ o _) _) _))) => o
  | _ => #[]
noncomputable def lln64_4 : List Oper := match Tryd.f26.body with
  | some (.seq _ (.seq _ (.seq (.seq (.region _ o _) _) _))) => o.toList
  | _ => []
theorem eln64_4 : rln64_4.toList = lln64_4 := rfl
noncomputable def rln64_5 : Array Oper := match Tryd.f26.body with
  | some (.seq _ (.seq _ (.seq (.seq _ (.cond _ (.seq (.region _ o _) _) _)) _))) => o
  | _ => #[]
noncomputable def lln64_5 : List Oper := match Tryd.f26.body with
  | some (.seq _ (.seq _ (.seq (.seq _ (.cond _ (.seq (.region _ o _) _) _)) _))) => o.toList
  | _ => []
theorem eln64_5 : rln64_5.toList = lln64_5 := rfl
noncomputable def rln64_6 : Array Oper := match Tryd.f26.body with
  | some (.seq _ (.seq _ (.seq (.seq _ (.cond _ (.seq _ (.region _ o _)) _)) _))) => o
  | _ => #[]
noncomputable def lln64_6 : List Oper := match Tryd.f26.body with
  | some (.seq _ (.seq _ (.seq (.seq _ (.cond _ (.seq _ (.region _ o _)) _)) _))) => o.toList
  | _ => []
theorem eln64_6 : rln64_6.toList = lln64_6 := rfl
noncomputable def rln64_7 : Array Oper := match Tryd.f26.body with
  | some (.seq _ (.seq _ (.seq _ (.seq (.seq (.region _ o _) _) _)))) => o
  | _ => #[]
noncomputable def lln64_7 : List Oper := match Tryd.f26.body with
  | some (.seq _ (.seq _ (.seq _ (.seq (.seq (.region _ o _) _) _)))) => o.toList
  | _ => []
theorem eln64_7 : rln64_7.toList = lln64_7 := rfl
noncomputable def rln64_8 : Array Oper := match Tryd.f26.body with
  | some (.seq _ (.seq _ (.seq _ (.seq (.seq _ (.cond _ (.seq (.region _ o _) _) _)) _)))) => o
  | _ => #[]
noncomputable def lln64_8 : List Oper := match Tryd.f26.body with
  | some (.seq _ (.seq _ (.seq _ (.seq (.seq _ (.cond _ (.seq (.region _ o _) _) _)) _)))) => o.toList
  | _ => []
theorem eln64_8 : rln64_8.toList = lln64_8 := rfl
noncomputable def rln64_9 : Array Oper := match Tryd.f26.body with
  | some (.seq _ (.seq _ (.seq _ (.seq (.seq _ (.cond _ (.seq _ (.region _ o _)) _)) _)))) => o
  | _ => #[]
noncomputable def lln64_9 : List Oper := match Tryd.f26.body with
  | some (.seq _ (.seq _ (.seq _ (.seq (.seq _ (.cond _ (.seq _ (.region _ o _)) _)) _)))) => o.toList
  | _ => []
theorem eln64_9 : rln64_9.toList = lln64_9 := rfl
noncomputable def rln64_10 : Array Oper := match Tryd.f26.body with
  | some (.seq _ (.seq _ (.seq _ (.seq _ (.seq (.region _ o _) _))))) => o
  | _ => #[]
noncomputable def lln64_10 : List Oper := match Tryd.f26.body with
  | some (.seq _ (.seq _ (.seq _ (.seq _ (.seq (.region _ o _) _))))) => o.toList
  | _ => []
theorem eln64_10 : rln64_10.toList = lln64_10 := rfl
theorem bodyln64 : Tryd.f26.body = some (.seq (.region 0 rln64_0 false) (.seq (.seq (.region 1 rln64_1 false) (.cond (.tmp 4) (.seq (.region 2 rln64_2 false) (.region 3 rln64_3 false)) .skip)) (.seq (.seq (.region 4 rln64_4 false) (.cond (.tmp 8) (.seq (.region 5 rln64_5 false) (.region 6 rln64_6 false)) .skip)) (.seq (.seq (.region 7 rln64_7 false) (.cond (.tmp 14) (.seq (.region 8 rln64_8 false) (.region 9 rln64_9 false)) .skip)) (.seq (.region 10 rln64_10 false) .ret))))) := rfl
-- ntmps 25
noncomputable def rlz_0 : Array Oper := match Tryd.f38.body with
  | some (.seq (.region _ o _) _) => o
  | _ => #[]
noncomputable def llz_0 : List Oper := match Tryd.f38.body with
  | some (.seq (.region _ o _) _) => o.toList
  | _ => []
theorem elz_0 : rlz_0.toList = llz_0 := rfl
noncomputable def rlz_1 : Array Oper := match Tryd.f38.body with
  | some (.seq _ (.seq (.region _ o _) _)) => o
  | _ => #[]
noncomputable def llz_1 : List Oper := match Tryd.f38.body with
  | some (.seq _ (.seq (.region _ o _) _)) => o.toList
  | _ => []
theorem elz_1 : rlz_1.toList = llz_1 := rfl
theorem bodylz : Tryd.f38.body = some (.seq (.region 0 rlz_0 false) (.seq (.region 1 rlz_1 false) .ret)) := rfl
-- ntmps 6
def bl8 (k : Nat) : Nat := if k < 1 then 0 else if k < 2 then 1 else if k < 4 then 2 else if k < 8 then 3 else if k < 16 then 4 else if k < 32 then 5 else if k < 64 then 6 else if k < 128 then 7 else 8
noncomputable def lenTab : ByteArray := match lln64_10 with
  | _ :: _ :: _ :: { op := .index _ (.const (.string s)) _, .. } :: _ => s
  | _ => ⟨#[]⟩
theorem lenTab_all : ((List.range 256).all fun k => decide (lenTab.data.toList[k]? = some (UInt8.ofNat (bl8 k)))) = true := by kernel_rfl
theorem bl8_le (k : Nat) : bl8 k ≤ 8 := by unfold bl8; (repeat' split) <;> omega
theorem ix_len {k : Nat} (hk : k < 256) : aindex E.P 9 (.string lenTab) (.int .u8 ((k : Nat) : Int)) = some (.int .u8 ((bl8 k : Nat) : Int)) := by
  have h1 : lenTab.data.toList[k]? = some (UInt8.ofNat (bl8 k)) := of_decide_eq_true (List.all_eq_true.1 lenTab_all k (List.mem_range.2 hk))
  have h2 := bl8_le k
  unfold aindex
  simp only [und9, Int.toNat_natCast, h1, UInt8.toNat_ofNat']
  rw [if_pos (by omega), Nat.mod_eq_of_lt (by omega)]
theorem geqU (a b : Int) : abin .geq .u64 a .u64 b = some (.bool (decide (a ≥ b))) := by kernel_rfl
theorem shrC (x n : Nat) (hn : n ≤ 64) : abin .shr .u64 ((x : Nat) : Int) .u64 ((n : Nat) : Int) = some (.int .u64 ((x / 2 ^ n : Nat) : Int)) := shrU hn
theorem cvU8 (x : Nat) : aconv E.P 22 5 (.int .u64 ((x : Nat) : Int)) = some (.int .u8 ((x % 256 : Nat) : Int)) := by
  have h : ∀ n : Int, aconv E.P 22 5 (.int .u64 n) = some (.int .u8 (wrapF .u8 n)) := fun n => by kernel_rfl
  rw [h]
  simp only [wrapF]
  congr 2
theorem cv8I (x : Nat) (h : x < 256) : aconv E.P 5 3 (.int .u8 ((x : Nat) : Int)) = some (.int .i64 ((x : Nat) : Int)) := by
  have h1 : ∀ n : Int, aconv E.P 5 3 (.int .u8 n) = some (.int .i64 (wrapF .i64 n)) := fun n => by kernel_rfl
  rw [h1, wrap_i64 (by omega) (by omega)]
section
variable {self : Self} {nf : Nat} {m : Mem} {F : Nat → Value} {x n k : Nat}
theorem ln_10 (h0 : F 0 = .int .u64 (x : Nat)) (h2 : F 2 = .int .i64 (n : Nat)) (hx : x < 256) (hn : n < 1000) : ∃ F', acodeN E self nf (.region 10 rln64_10 false) (lst F 25) m = some (.normal, lst F' 25, m) ∧ F' 2 = .int .i64 ((n + bl8 x : Nat) : Int) := by
  have hi := ix_len hx
  simp only [lenTab, lln64_10, Tryd.f26, List.append_eq, List.cons_append, List.nil_append] at hi
  have c1 := cvU8 x
  rw [Nat.mod_eq_of_lt hx] at c1
  have h8 := bl8_le x
  have c2 := cv8I (bl8 x) (by omega)
  have e1 : wrapF .i64 (((n : Nat) : Int) + ((bl8 x : Nat) : Int)) = ((n + bl8 x : Nat) : Int) := by rw [wrap_i64 (by omega) (by omega)]; omega
  simp only [eln64_10, lln64_10, agd_none, gdAt, gdV_bool, gdV_undef, Tryd.f26, List.append_eq, List.cons_append, List.nil_append, apure_call1, apure_call2, apure_call3, bft, btf, acodeN, List.getElem?_toArray, List.getElem?_cons_zero, List.getElem?_cons_succ, aopsN, adrawT, cls, astep, aop, afloat, ev, nth_lst, get_lst, aput, setAt_lst, upd_at, init_zero, init_succ, init_nil, Nat.reduceLT, Nat.reduceEqDiff, reduceIte, abuiltin, alen, Option.map_some, Option.map_none, orElse_some, apure_add, apure_eqlV, eqlVal_str, eqlVal_bool, eqlVal_ptr, eqlVal_slice, eqlVal_wide, eqlVal_int, allT, ↓aop_eqlV, apure_neq, List.map_cons, List.map_nil, List.all_cons, List.all_nil, lit2, lit1, lit0, List.isEmpty_nil, bls, Bool.false_eq_true, if_true, if_false, List.length_map, beq_self_eq_true, uns, h0, h2, c1, hi, c2, add64', e1]
  exact ⟨_, rfl, by simp only [upd_at, Nat.reduceEqDiff, reduceIte]⟩
end
def lenW (x : Nat) : Nat :=
  if x ≥ 4294967296 then
    (if x / 4294967296 ≥ 65536 then (if x / 4294967296 / 65536 ≥ 256 then 56 + bl8 (x / 4294967296 / 65536 / 256) else 48 + bl8 (x / 4294967296 / 65536))
    else (if x / 4294967296 ≥ 256 then 40 + bl8 (x / 4294967296 / 256) else 32 + bl8 (x / 4294967296)))
  else
    (if x ≥ 65536 then (if x / 65536 ≥ 256 then 24 + bl8 (x / 65536 / 256) else 16 + bl8 (x / 65536))
    else (if x ≥ 256 then 8 + bl8 (x / 256) else 0 + bl8 x))
theorem bl8_ok {k : Nat} (h : k < 256) : k < 2 ^ bl8 k ∧ (0 < k → 2 ^ bl8 k ≤ 2 * k) := by
  unfold bl8
  repeat' split
  all_goals simp only [Nat.reducePow]
  all_goals omega
theorem bl_shift {x k c : Nat} (h1 : x / 2 ^ c = k) (h2 : k < 256) (h3 : 0 < k) : x < 2 ^ (c + bl8 k) ∧ 2 ^ (c + bl8 k) ≤ 2 * x := by
  obtain ⟨h4, h5⟩ := bl8_ok h2
  have h6 := h5 h3
  have hp := Nat.two_pow_pos c
  have h7 := Nat.div_add_mod x (2 ^ c)
  have h8 := Nat.mod_lt x hp
  rw [h1] at h7
  rw [Nat.pow_add]
  have h9 : 2 ^ c * (k + 1) ≤ 2 ^ c * 2 ^ bl8 k := Nat.mul_le_mul_left _ h4
  have h10 : 2 ^ c * 2 ^ bl8 k ≤ 2 ^ c * (2 * k) := Nat.mul_le_mul_left _ h6
  rw [Nat.mul_add, Nat.mul_one] at h9
  rw [Nat.mul_left_comm] at h10
  generalize 2 ^ c * 2 ^ bl8 k = A at *
  generalize 2 ^ c * k = D at *
  generalize 2 ^ c = C at *
  omega
theorem lenW_ok {x : Nat} (h : x < 18446744073709551616) (h0 : 0 < x) : x < 2 ^ lenW x ∧ 2 ^ lenW x ≤ 2 * x := by
  unfold lenW
  by_cases c1 : x ≥ 4294967296
  · rw [if_pos c1]
    by_cases c2 : x / 4294967296 ≥ 65536
    · rw [if_pos c2]
      by_cases c3 : x / 4294967296 / 65536 ≥ 256
      · rw [if_pos c3]; exact bl_shift (c := 56) (by rw [Nat.div_div_eq_div_mul, Nat.div_div_eq_div_mul]) (by omega) (by omega)
      · rw [if_neg c3]; exact bl_shift (c := 48) (by rw [Nat.div_div_eq_div_mul]) (by omega) (by omega)
    · rw [if_neg c2]
      by_cases c3 : x / 4294967296 ≥ 256
      · rw [if_pos c3]; exact bl_shift (c := 40) (by rw [Nat.div_div_eq_div_mul]) (by omega) (by omega)
      · rw [if_neg c3]; exact bl_shift (c := 32) rfl (by omega) (by omega)
  · rw [if_neg c1]
    by_cases c2 : x ≥ 65536
    · rw [if_pos c2]
      by_cases c3 : x / 65536 ≥ 256
      · rw [if_pos c3]; exact bl_shift (c := 24) (by rw [Nat.div_div_eq_div_mul]) (by omega) (by omega)
      · rw [if_neg c3]; exact bl_shift (c := 16) rfl (by omega) (by omega)
    · rw [if_neg c2]
      by_cases c3 : x ≥ 256
      · rw [if_pos c3]; exact bl_shift (c := 8) rfl (by omega) (by omega)
      · rw [if_neg c3]; exact bl_shift (c := 0) (by rw [Nat.pow_zero, Nat.div_one]) (by omega) h0
theorem lenW_le (x : Nat) : lenW x ≤ 64 := by
  unfold lenW
  have := bl8_le
  repeat' split
  all_goals first | (have h := this (x / 4294967296 / 65536 / 256); omega) | (have h := this (x / 4294967296 / 65536); omega) | (have h := this (x / 4294967296 / 256); omega) | (have h := this (x / 4294967296); omega) | (have h := this (x / 65536 / 256); omega) | (have h := this (x / 65536); omega) | (have h := this (x / 256); omega) | (have h := this x; omega)
section
variable {self : Self} {nf : Nat} {m : Mem} {F : Nat → Value} {x n k : Nat}
theorem ln_1 {t : Bool} (h0 : F 0 = .int .u64 (x : Nat)) (h2 : F 2 = .int .i64 0) (ht : decide (x ≥ 4294967296) = t) : ∃ F', acodeN E self nf (.seq (.region 1 rln64_1 false) (.cond (.tmp 4) (.seq (.region 2 rln64_2 false) (.region 3 rln64_3 false)) .skip)) (lst F 25) m = some (.normal, lst F' 25, m) ∧ F' 0 = .int .u64 ((if t then x / 4294967296 else x : Nat) : Int) ∧ F' 2 = .int .i64 ((if t then 32 else 0 : Nat) : Int) := by
  have q : decide (((x : Nat) : Int) ≥ 4294967296) = t := by rw [← ht]; congr 1; simp only [ge_iff_le, eq_iff_iff]; omega
  have s1 := shrC x 32 (by omega)
  cases t with
  | true =>
    simp only [eln64_1, eln64_2, eln64_3, lln64_1, lln64_2, lln64_3, agd_none, gdAt, gdV_bool, gdV_undef, Tryd.f26, List.append_eq, List.cons_append, List.nil_append, apure_call1, apure_call2, apure_call3, bft, btf, acodeN, List.getElem?_toArray, List.getElem?_cons_zero, List.getElem?_cons_succ, aopsN, adrawT, cls, astep, aop, afloat, ev, nth_lst, get_lst, aput, setAt_lst, upd_at, init_zero, init_succ, init_nil, Nat.reduceLT, Nat.reduceEqDiff, reduceIte, abuiltin, alen, Option.map_some, Option.map_none, orElse_some, apure_add, apure_eqlV, eqlVal_str, eqlVal_bool, eqlVal_ptr, eqlVal_slice, eqlVal_wide, eqlVal_int, allT, ↓aop_eqlV, apure_neq, List.map_cons, List.map_nil, List.all_cons, List.all_nil, lit2, lit1, lit0, List.isEmpty_nil, bls, Bool.false_eq_true, if_true, if_false, List.length_map, beq_self_eq_true, uns, h0, geqU, q, shr32]
    exact ⟨_, rfl, by simp only [upd_at, Nat.reduceEqDiff, reduceIte], by (simp only [upd_at, Nat.reduceEqDiff, reduceIte]; try rfl)⟩
  | false =>
    simp only [eln64_1, eln64_2, eln64_3, lln64_1, lln64_2, lln64_3, agd_none, gdAt, gdV_bool, gdV_undef, Tryd.f26, List.append_eq, List.cons_append, List.nil_append, apure_call1, apure_call2, apure_call3, bft, btf, acodeN, List.getElem?_toArray, List.getElem?_cons_zero, List.getElem?_cons_succ, aopsN, adrawT, cls, astep, aop, afloat, ev, nth_lst, get_lst, aput, setAt_lst, upd_at, init_zero, init_succ, init_nil, Nat.reduceLT, Nat.reduceEqDiff, reduceIte, abuiltin, alen, Option.map_some, Option.map_none, orElse_some, apure_add, apure_eqlV, eqlVal_str, eqlVal_bool, eqlVal_ptr, eqlVal_slice, eqlVal_wide, eqlVal_int, allT, ↓aop_eqlV, apure_neq, List.map_cons, List.map_nil, List.all_cons, List.all_nil, lit2, lit1, lit0, List.isEmpty_nil, bls, Bool.false_eq_true, if_true, if_false, List.length_map, beq_self_eq_true, uns, h0, geqU, q]
    exact ⟨_, rfl, by (simp only [upd_at, Nat.reduceEqDiff, reduceIte, h0]; try rfl), by (simp only [upd_at, Nat.reduceEqDiff, reduceIte, h2]; try rfl)⟩
theorem ln_4 {t : Bool} (h0 : F 0 = .int .u64 (x : Nat)) (h2 : F 2 = .int .i64 (n : Nat)) (hn : n ≤ 32) (ht : decide (x ≥ 65536) = t) : ∃ F', acodeN E self nf (.seq (.region 4 rln64_4 false) (.cond (.tmp 8) (.seq (.region 5 rln64_5 false) (.region 6 rln64_6 false)) .skip)) (lst F 25) m = some (.normal, lst F' 25, m) ∧ F' 0 = .int .u64 ((if t then x / 65536 else x : Nat) : Int) ∧ F' 2 = .int .i64 ((if t then n + 16 else n : Nat) : Int) := by
  have q : decide (((x : Nat) : Int) ≥ 65536) = t := by rw [← ht]; congr 1; simp only [ge_iff_le, eq_iff_iff]; omega
  have s1 : abin .shr .u64 ((x : Nat) : Int) .u64 16 = some (.int .u64 ((x / 65536 : Nat) : Int)) := shrC x 16 (by omega)
  have e1 : wrapF .i64 (((n : Nat) : Int) + 16) = ((n + 16 : Nat) : Int) := by rw [wrap_i64 (by omega) (by omega)]; omega
  cases t with
  | true =>
    simp only [eln64_4, eln64_5, eln64_6, lln64_4, lln64_5, lln64_6, agd_none, gdAt, gdV_bool, gdV_undef, Tryd.f26, List.append_eq, List.cons_append, List.nil_append, apure_call1, apure_call2, apure_call3, bft, btf, acodeN, List.getElem?_toArray, List.getElem?_cons_zero, List.getElem?_cons_succ, aopsN, adrawT, cls, astep, aop, afloat, ev, nth_lst, get_lst, aput, setAt_lst, upd_at, init_zero, init_succ, init_nil, Nat.reduceLT, Nat.reduceEqDiff, reduceIte, abuiltin, alen, Option.map_some, Option.map_none, orElse_some, apure_add, apure_eqlV, eqlVal_str, eqlVal_bool, eqlVal_ptr, eqlVal_slice, eqlVal_wide, eqlVal_int, allT, ↓aop_eqlV, apure_neq, List.map_cons, List.map_nil, List.all_cons, List.all_nil, lit2, lit1, lit0, List.isEmpty_nil, bls, Bool.false_eq_true, if_true, if_false, List.length_map, beq_self_eq_true, uns, h0, h2, geqU, q, s1, add64', e1]
    exact ⟨_, rfl, by simp only [upd_at, Nat.reduceEqDiff, reduceIte], by simp only [upd_at, Nat.reduceEqDiff, reduceIte]⟩
  | false =>
    simp only [eln64_4, eln64_5, eln64_6, lln64_4, lln64_5, lln64_6, agd_none, gdAt, gdV_bool, gdV_undef, Tryd.f26, List.append_eq, List.cons_append, List.nil_append, apure_call1, apure_call2, apure_call3, bft, btf, acodeN, List.getElem?_toArray, List.getElem?_cons_zero, List.getElem?_cons_succ, aopsN, adrawT, cls, astep, aop, afloat, ev, nth_lst, get_lst, aput, setAt_lst, upd_at, init_zero, init_succ, init_nil, Nat.reduceLT, Nat.reduceEqDiff, reduceIte, abuiltin, alen, Option.map_some, Option.map_none, orElse_some, apure_add, apure_eqlV, eqlVal_str, eqlVal_bool, eqlVal_ptr, eqlVal_slice, eqlVal_wide, eqlVal_int, allT, ↓aop_eqlV, apure_neq, List.map_cons, List.map_nil, List.all_cons, List.all_nil, lit2, lit1, lit0, List.isEmpty_nil, bls, Bool.false_eq_true, if_true, if_false, List.length_map, beq_self_eq_true, uns, h0, geqU, q]
    exact ⟨_, rfl, by (simp only [upd_at, Nat.reduceEqDiff, reduceIte, h0]; try rfl), by (simp only [upd_at, Nat.reduceEqDiff, reduceIte, h2]; try rfl)⟩
theorem ln_7 {t : Bool} (h0 : F 0 = .int .u64 (x : Nat)) (h2 : F 2 = .int .i64 (n : Nat)) (hn : n ≤ 48) (ht : decide (x ≥ 256) = t) : ∃ F', acodeN E self nf (.seq (.region 7 rln64_7 false) (.cond (.tmp 14) (.seq (.region 8 rln64_8 false) (.region 9 rln64_9 false)) .skip)) (lst F 25) m = some (.normal, lst F' 25, m) ∧ F' 0 = .int .u64 ((if t then x / 256 else x : Nat) : Int) ∧ F' 2 = .int .i64 ((if t then n + 8 else n : Nat) : Int) := by
  have q : decide (((x : Nat) : Int) ≥ 256) = t := by rw [← ht]; congr 1; simp only [ge_iff_le, eq_iff_iff]; omega
  have s1 : abin .shr .u64 ((x : Nat) : Int) .u64 8 = some (.int .u64 ((x / 256 : Nat) : Int)) := shrC x 8 (by omega)
  have e1 : wrapF .i64 (((n : Nat) : Int) + 8) = ((n + 8 : Nat) : Int) := by rw [wrap_i64 (by omega) (by omega)]; omega
  cases t with
  | true =>
    simp only [eln64_7, eln64_8, eln64_9, lln64_7, lln64_8, lln64_9, agd_none, gdAt, gdV_bool, gdV_undef, Tryd.f26, List.append_eq, List.cons_append, List.nil_append, apure_call1, apure_call2, apure_call3, bft, btf, acodeN, List.getElem?_toArray, List.getElem?_cons_zero, List.getElem?_cons_succ, aopsN, adrawT, cls, astep, aop, afloat, ev, nth_lst, get_lst, aput, setAt_lst, upd_at, init_zero, init_succ, init_nil, Nat.reduceLT, Nat.reduceEqDiff, reduceIte, abuiltin, alen, Option.map_some, Option.map_none, orElse_some, apure_add, apure_eqlV, eqlVal_str, eqlVal_bool, eqlVal_ptr, eqlVal_slice, eqlVal_wide, eqlVal_int, allT, ↓aop_eqlV, apure_neq, List.map_cons, List.map_nil, List.all_cons, List.all_nil, lit2, lit1, lit0, List.isEmpty_nil, bls, Bool.false_eq_true, if_true, if_false, List.length_map, beq_self_eq_true, uns, h0, h2, geqU, q, s1, add64', e1]
    exact ⟨_, rfl, by simp only [upd_at, Nat.reduceEqDiff, reduceIte], by simp only [upd_at, Nat.reduceEqDiff, reduceIte]⟩
  | false =>
    simp only [eln64_7, eln64_8, eln64_9, lln64_7, lln64_8, lln64_9, agd_none, gdAt, gdV_bool, gdV_undef, Tryd.f26, List.append_eq, List.cons_append, List.nil_append, apure_call1, apure_call2, apure_call3, bft, btf, acodeN, List.getElem?_toArray, List.getElem?_cons_zero, List.getElem?_cons_succ, aopsN, adrawT, cls, astep, aop, afloat, ev, nth_lst, get_lst, aput, setAt_lst, upd_at, init_zero, init_succ, init_nil, Nat.reduceLT, Nat.reduceEqDiff, reduceIte, abuiltin, alen, Option.map_some, Option.map_none, orElse_some, apure_add, apure_eqlV, eqlVal_str, eqlVal_bool, eqlVal_ptr, eqlVal_slice, eqlVal_wide, eqlVal_int, allT, ↓aop_eqlV, apure_neq, List.map_cons, List.map_nil, List.all_cons, List.all_nil, lit2, lit1, lit0, List.isEmpty_nil, bls, Bool.false_eq_true, if_true, if_false, List.length_map, beq_self_eq_true, uns, h0, geqU, q]
    exact ⟨_, rfl, by (simp only [upd_at, Nat.reduceEqDiff, reduceIte, h0]; try rfl), by (simp only [upd_at, Nat.reduceEqDiff, reduceIte, h2]; try rfl)⟩
theorem ln64_body (hx : x < 18446744073709551616) : abody E self nf 26 [.int .u64 (x : Nat)] m = some (.int .i64 ((lenW x : Nat) : Int), m) := by
  rw [abody_eqF (by kernel_rfl) Tryd.func26 bodyln64 (by kernel_rfl) (Nat.le_of_ble_eq_true rfl)]
  rw [show Tryd.f26.ntmps = 25 from rfl]
  have r0 : ∃ F', acodeN E self nf (.region 0 rln64_0 false) (lst (init [.int .u64 (x : Nat)]) 25) m = some (.normal, lst F' 25, m) ∧ F' 0 = .int .u64 (x : Nat) ∧ F' 2 = .int .i64 0 := by
    simp only [eln64_0, eln64_1, eln64_10, eln64_2, eln64_3, eln64_4, eln64_5, eln64_6, eln64_7, eln64_8, eln64_9, lln64_0, lln64_1, lln64_2, lln64_3, lln64_4, lln64_5, lln64_6, lln64_7, lln64_8, lln64_9, lln64_10, agd_none, gdAt, gdV_bool, gdV_undef, Tryd.f26, List.append_eq, List.cons_append, List.nil_append, apure_call1, apure_call2, apure_call3, bft, btf, acodeN, List.getElem?_toArray, List.getElem?_cons_zero, List.getElem?_cons_succ, aopsN, adrawT, cls, astep, aop, afloat, ev, nth_lst, get_lst, aput, setAt_lst, upd_at, init_zero, init_succ, init_nil, Nat.reduceLT, Nat.reduceEqDiff, reduceIte, abuiltin, alen, Option.map_some, Option.map_none, orElse_some, apure_add, apure_eqlV, eqlVal_str, eqlVal_bool, eqlVal_ptr, eqlVal_slice, eqlVal_wide, eqlVal_int, allT, ↓aop_eqlV, apure_neq, List.map_cons, List.map_nil, List.all_cons, List.all_nil, lit2, lit1, lit0, List.isEmpty_nil, bls, Bool.false_eq_true, if_true, if_false, List.length_map, beq_self_eq_true, uns]
    exact ⟨_, rfl, by simp only [upd_at, Nat.reduceEqDiff, reduceIte]; rfl, by simp only [upd_at, Nat.reduceEqDiff, reduceIte]⟩
  obtain ⟨A, ra, a0, a2⟩ := r0
  obtain ⟨B, rb, b0, b2⟩ := ln_1 (self := self) (nf := nf) (m := m) a0 a2 rfl
  obtain ⟨C, rc, c0, c2⟩ := ln_4 (self := self) (nf := nf) (m := m) b0 b2 (by split <;> omega) rfl
  obtain ⟨D, rd, d0, d2⟩ := ln_7 (self := self) (nf := nf) (m := m) c0 c2 (by (repeat' split) <;> omega) rfl
  obtain ⟨G, re, g2⟩ := ln_10 (self := self) (nf := nf) (m := m) d0 d2 (by simp only [decide_eq_true_eq]; (repeat' split) <;> omega) (by simp only [decide_eq_true_eq]; (repeat' split) <;> omega)
  have hv : lenW x = (if decide ((if decide ((if decide (x ≥ 4294967296) = true then x / 4294967296 else x) ≥ 65536) = true then (if decide (x ≥ 4294967296) = true then x / 4294967296 else x) / 65536 else if decide (x ≥ 4294967296) = true then x / 4294967296 else x) ≥ 256) = true then (if decide ((if decide (x ≥ 4294967296) = true then x / 4294967296 else x) ≥ 65536) = true then (if decide (x ≥ 4294967296) = true then 32 else 0) + 16 else if decide (x ≥ 4294967296) = true then 32 else 0) + 8 else if decide ((if decide (x ≥ 4294967296) = true then x / 4294967296 else x) ≥ 65536) = true then (if decide (x ≥ 4294967296) = true then 32 else 0) + 16 else if decide (x ≥ 4294967296) = true then 32 else 0) + bl8 (if decide ((if decide ((if decide (x ≥ 4294967296) = true then x / 4294967296 else x) ≥ 65536) = true then (if decide (x ≥ 4294967296) = true then x / 4294967296 else x) / 65536 else if decide (x ≥ 4294967296) = true then x / 4294967296 else x) ≥ 256) = true then (if decide ((if decide (x ≥ 4294967296) = true then x / 4294967296 else x) ≥ 65536) = true then (if decide (x ≥ 4294967296) = true then x / 4294967296 else x) / 65536 else if decide (x ≥ 4294967296) = true then x / 4294967296 else x) / 256 else if decide ((if decide (x ≥ 4294967296) = true then x / 4294967296 else x) ≥ 65536) = true then (if decide (x ≥ 4294967296) = true then x / 4294967296 else x) / 65536 else if decide (x ≥ 4294967296) = true then x / 4294967296 else x) := by
    unfold lenW
    simp only [decide_eq_true_eq]
    by_cases c1 : x ≥ 4294967296
    · simp only [c1, if_true]
      by_cases c2 : x / 4294967296 ≥ 65536
      · simp only [c2, if_true]
        by_cases c3 : x / 4294967296 / 65536 ≥ 256
        · simp only [c3, if_true]
        · simp only [c3, if_false]
      · simp only [c2, if_false]
        by_cases c3 : x / 4294967296 ≥ 256
        · simp only [c3, if_true]
        · simp only [c3, if_false]
    · simp only [c1, if_false]
      by_cases c2 : x ≥ 65536
      · simp only [c2, if_true]
        by_cases c3 : x / 65536 ≥ 256
        · simp only [c3, if_true]
        · simp only [c3, if_false]
      · simp only [c2, if_false]
        by_cases c3 : x ≥ 256
        · simp only [c3, if_true]
        · simp only [c3, if_false]
  rw [← hv] at g2
  generalize Code.region 0 rln64_0 false = C0 at *
  generalize Code.seq (Code.region 1 rln64_1 false) (Code.cond (Operand.tmp 4) (Code.seq (Code.region 2 rln64_2 false) (Code.region 3 rln64_3 false)) Code.skip) = C1 at *
  generalize Code.seq (Code.region 4 rln64_4 false) (Code.cond (Operand.tmp 8) (Code.seq (Code.region 5 rln64_5 false) (Code.region 6 rln64_6 false)) Code.skip) = C4 at *
  generalize Code.seq (Code.region 7 rln64_7 false) (Code.cond (Operand.tmp 14) (Code.seq (Code.region 8 rln64_8 false) (Code.region 9 rln64_9 false)) Code.skip) = C7 at *
  generalize Code.region 10 rln64_10 false = C10 at *
  simp only [acodeN, ra, rb, rc, rd, re, if_true, finish, ares, aresL, ares1, Tryd.f26, ev, nth_lst, Nat.reduceLT, g2, Option.map_some]
theorem callLn64 : callableB E.P 26 = true := by kernel_rfl
theorem lz_body (hln : Ans self 26 [.int .u64 (x : Nat)] (.int .i64 ((lenW x : Nat) : Int))) : abody E self nf 38 [.int .u64 (x : Nat)] m = some (.int .i64 ((64 - lenW x : Nat) : Int), m) := by
  rw [abody_eqF (by kernel_rfl) Tryd.func38 bodylz (by kernel_rfl) (Nat.le_of_ble_eq_true rfl)]
  rw [show Tryd.f38.ntmps = 6 from rfl]
  have hl := lenW_le x
  have e1 : wrapF .i64 ((64 : Int) - ((lenW x : Nat) : Int)) = ((64 - lenW x : Nat) : Int) := by rw [wrap_i64 (by omega) (by omega)]; omega
  unfold Ans at hln
  simp only [elz_0, elz_1, llz_0, llz_1, agd_none, gdAt, gdV_bool, gdV_undef, Tryd.f38, List.append_eq, List.cons_append, List.nil_append, apure_call1, apure_call2, apure_call3, bft, btf, acodeN, List.getElem?_toArray, List.getElem?_cons_zero, List.getElem?_cons_succ, aopsN, adrawT, cls, astep, aop, afloat, ev, nth_lst, get_lst, aput, setAt_lst, upd_at, init_zero, init_succ, init_nil, Nat.reduceLT, Nat.reduceEqDiff, reduceIte, abuiltin, alen, Option.map_some, Option.map_none, orElse_some, apure_add, apure_eqlV, eqlVal_str, eqlVal_bool, eqlVal_ptr, eqlVal_slice, eqlVal_wide, eqlVal_int, allT, ↓aop_eqlV, apure_neq, List.map_cons, List.map_nil, List.all_cons, List.all_nil, lit2, lit1, lit0, List.isEmpty_nil, bls, Bool.false_eq_true, if_true, if_false, List.length_map, beq_self_eq_true, uns, callLn64, hln, sub64', e1, finish, ares, aresL, ares1]
end
end Go.Am.Seat
namespace Go.Am.Seat
open Go.Proofs Go.Am Go.Am.Num Go.Am.Kn
noncomputable def rdv64_0 : Array Oper := match Tryd.f28.body with
  | some (.seq (.region _ o _) _) => o
  | _ => #[]
noncomputable def ldv64_0 : List Oper := match Tryd.f28.body with
  | some (.seq (.region _ o _) _) => o.toList
  | _ => []
theorem edv64_0 : rdv64_0.toList = ldv64_0 := rfl
noncomputable def rdv64_1 : Array Oper := match Tryd.f28.body with
  | some (.seq _ (.seq (.seq (.region _ o _) _) _)) => o
  | _ => #[]
noncomputable def ldv64_1 : List Oper := match Tryd.f28.body with
  | some (.seq _ (.seq (.seq (.region _ o _) _) _)) => o.toList
  | _ => []
theorem edv64_1 : rdv64_1.toList = ldv64_1 := rfl
noncomputable def rdv64_2 : Array Oper := match Tryd.f28.body with
  | some (.seq _ (.seq (.seq _ (.cond _ (.region _ o _) _)) _)) => o
  | _ => #[]
noncomputable def ldv64_2 : List Oper := match Tryd.f28.body with
  | some (.seq _ (.seq (.seq _ (.cond _ (.region _ o _) _)) _)) => o.toList
  | _ => []
theorem edv64_2 : rdv64_2.toList = ldv64_2 := rfl
noncomputable def rdv64_3 : Array Oper := match Tryd.f28.body with
  | some (.seq _ (.seq _ (.seq (.seq (.region _ o _) _) _))) => o
  | _ => #[]
noncomputable def ldv64_3 : List Oper := match Tryd.f28.body with
  | some (.seq _ (.seq _ (.seq (.seq (.region _ o _) _) _))) => o.toList
  | _ => []
theorem edv64_3 : rdv64_3.toList = ldv64_3 := rfl
noncomputable def rdv64_4 : Array Oper := match Tryd.f28.body with
  | some (.seq _ (.seq _ (.seq (.seq _ (.cond _ (.region _ o _) _)) _))) => o
  | _ => #[]
noncomputable def ldv64_4 : List Oper := match Tryd.f28.body with
  | some (.seq _ (.seq _ (.seq (.seq _ (.cond _ (.region _ o _) _)) _))) => o.toList
  | _ => []
theorem edv64_4 : rdv64_4.toList = ldv64_4 := rfl
noncomputable def rdv64_5 : Array Oper := match Tryd.f28.body with
  | some (.seq _ (.seq _ (.seq _ (.seq (.seq (.region _ o _) _) _)))) => o
  | _ => #[]
noncomputable def ldv64_5 : List Oper := match Tryd.f28.body with
  | some (.seq _ (.seq _ (.seq _ (.seq (.seq (.region _ o _) _) _)))) => o.toList
  | _ => []
theorem edv64_5 : rdv64_5.toList = ldv64_5 := rfl
noncomputable def rdv64_6 : Array Oper := match Tryd.f28.body with
  | some (.seq _ (.seq _ (.seq _ (.seq (.seq _ (.cond _ (.seq (.region _ o _) _) _)) _)))) => o
  | _ => #[]
noncomputable def ldv64_6 : List Oper := match Tryd.f28.body with
  | some (.seq _ (.seq _ (.seq _ (.seq (.seq _ (.cond _ (.seq (.region _ o _) _) _)) _)))) => o.toList
  | _ => []
theorem edv64_6 : rdv64_6.toList = ldv64_6 := rfl
theorem ddv64_6 {self : Self} {B : Nat} {T : List Value} {m : Mem} {lb : List (Nat × Nat)} {ls : Bool} : adrawN E self rdv64_6 B rdv64_6.toList 0 T m lb ls = adrawT E self rdv64_6 B rdv64_6.toList [(false, false), (false, false), (false, false), (false, false), (false, false), (false, false), (false, false), (false, false)] 0 T m lb ls := adraw_tab (by kernel_rfl)
theorem sdv64_6 : E.sr 6 rdv64_6 = false := by kernel_rfl
noncomputable def rdv64_7 : Array Oper := match Tryd.f28.body with
  | some (.seq _ (.seq _ (.seq _ (.seq _ (.seq (.region _ o _) _))))) => o
  | _ => #[]
noncomputable def ldv64_7 : List Oper := match Tryd.f28.body with
  | some (.seq _ (.seq _ (.seq _ (.seq _ (.seq (.region _ o _) _))))) => o.toList
  | _ => []
theorem edv64_7 : rdv64_7.toList = ldv64_7 := rfl
noncomputable def rdv64_8 : Array Oper := match Tryd.f28.body with
  | some (.seq _ (.seq _ (.seq _ (.seq _ (.seq _ (.seq (.region _ o _) _)))))) => o
  | _ => #[]
noncomputable def ldv64_8 : List Oper := match Tryd.f28.body with
  | some (.seq _ (.seq _ (.seq _ (.seq _ (.seq _ (.seq (.region _ o _) _)))))) => o.toList
  | _ => []
theorem edv64_8 : rdv64_8.toList = ldv64_8 := rfl
noncomputable def rdv64_9 : Array Oper := match Tryd.f28.body with
  | some (.seq _ (.seq _ (.seq _ (.seq _ (.seq _ (.seq _ (.seq (.region _ o _) _))))))) => o
  | _ => #[]
noncomputable def ldv64_9 : List Oper := match Tryd.f28.body with
  | some (.seq _ (.seq _ (.seq _ (.seq _ (.seq _ (.seq _ (.seq (.region _ o _) _))))))) => o.toList
  | _ => []
theorem edv64_9 : rdv64_9.toList = ldv64_9 := rfl
noncomputable def rdv64_10 : Array Oper := match Tryd.f28.body with
  | some (.seq _ (.seq _ (.seq _ (.seq _ (.seq _ (.seq _ (.seq _ (.seq (.region _ o _) _)))))))) => o
  | _ => #[]
noncomputable def ldv64_10 : List Oper := match Tryd.f28.body with
  | some (.seq _ (.seq _ (.seq _ (.seq _ (.seq _ (.seq _ (.seq _ (.seq (.region _ o _) _)))))))) => o.toList
  | _ => []
theorem edv64_10 : rdv64_10.toList = ldv64_10 := rfl
noncomputable def rdv64_11 : Array Oper := match Tryd.f28.body with
  | some (.seq _ (.seq _ (.seq _ (.seq _ (.seq _ (.seq _ (.seq _ (.seq _ (.seq (.region _ o _) _))))))))) => o
  | _ => #[]
noncomputable def ldv64_11 : List Oper := match Tryd.f28.body with
  | some (.seq _ (.seq _ (.seq _ (.seq _ (.seq _ (.seq _ (.seq _ (.seq _ (.seq (.region _ o _) _))))))))) => o.toList
  | _ => []
theorem edv64_11 : rdv64_11.toList = ldv64_11 := rfl
noncomputable def rdv64_12 : Array Oper := match Tryd.f28.body with
  | some (.seq _ (.seq _ (.seq _ (.seq _ (.seq _ (.seq _ (.seq _ (.seq _ (.seq _ (.seq (.region _ o _) _)))))))))) => o
  | _ => #[]
noncomputable def ldv64_12 : List Oper := match Tryd.f28.body with
  | some (.seq _ (.seq _ (.seq _ (.seq _ (.seq _ (.seq _ (.seq _ (.seq _ (.seq _ (.seq (.region _ o _) _)))))))))) => o.toList
  | _ => []
theorem edv64_12 : rdv64_12.toList = ldv64_12 := rfl
noncomputable def rdv64_13 : Array Oper := match Tryd.f28.body with
  | some (.seq _ (.seq _ (.seq _ (.seq _ (.seq _ (.seq _ (.seq _ (.seq _ (.seq _ (.seq _ (.seq (.region _ o _) _))))))))))) => o
  | _ => #[]
noncomputable def ldv64_13 : List Oper := match Tryd.f28.body with
  | some (.seq _ (.seq _ (.seq _ (.seq _ (.seq _ (.seq _ (.seq _ (.seq _ (.seq _ (.seq _ (.seq (.region _ o _) _))))))))))) => o.toList
  | _ => []
theorem edv64_13 : rdv64_13.toList = ldv64_13 := rfl
noncomputable def rdv64_14 : Array Oper := match Tryd.f28.body with
  | some (.seq _ (.seq _ (.seq _ (.seq _ (.seq _ (.seq _ (.seq _ (.seq _ (.seq _ (.seq _ (.seq _ (.seq (.region _ o _) _)))))))))))) => o
  | _ => #[]
noncomputable def ldv64_14 : List Oper := match Tryd.f28.body with
  | some (.seq _ (.seq _ (.seq _ (.seq _ (.seq _ (.seq _ (.seq _ (.seq _ (.seq _ (.seq _ (.seq _ (.seq (.region _ o _) _)))))))))))) => o.toList
  | _ => []
theorem edv64_14 : rdv64_14.toList = ldv64_14 := rfl
noncomputable def rdv64_15 : Array Oper := match Tryd.f28.body with
  | some (.seq _ (.seq _ (.seq _ (.seq _ (.seq _ (.seq _ (.seq _ (.seq _ (.seq _ (.seq _ (.seq _ (.seq _ (.seq (.region _ o _) _))))))))))))) => o
  | _ => #[]
noncomputable def ldv64_15 : List Oper := match Tryd.f28.body with
  | some (.seq _ (.seq _ (.seq _ (.seq _ (.seq _ (.seq _ (.seq _ (.seq _ (.seq _ (.seq _ (.seq _ (.seq _ (.seq (.region _ o _) _))))))))))))) => o.toList
  | _ => []
theorem edv64_15 : rdv64_15.toList = ldv64_15 := rfl
noncomputable def rdv64_16 : Array Oper := match Tryd.f28.body with
  | some (.seq _ (.seq _ (.seq _ (.seq _ (.seq _ (.seq _ (.seq _ (.seq _ (.seq _ (.seq _ (.seq _ (.seq _ (.seq _ (.seq (.region _ o _) _)))))))))))))) => o
  | _ => #[]
noncomputable def ldv64_16 : List Oper := match Tryd.f28.body with
  | some (.seq _ (.seq _ (.seq _ (.seq _ (.seq _ (.seq _ (.seq _ (.seq _ (.seq _ (.seq _ (.seq _ (.seq _ (.seq _ (.seq (.region _ o _) _)))))))))))))) => o.toList
  | _ => []
theorem edv64_16 : rdv64_16.toList = ldv64_16 := rfl
noncomputable def lpdv64_0 : Code := match Tryd.f28.body with
  | some (.seq _ (.seq _ (.seq _ (.seq _ (.seq _ (.seq _ (.seq _ (.seq _ (.seq _ (.seq _ (.seq _ (.seq _ (.seq _ (.seq _ (.seq (.block _ (.loop c)) _))))))))))))))) => c
  | _ => .skip
noncomputable def rdv64_17 : Array Oper := match Tryd.f28.body with
  | some (.seq _ (.seq _ (.seq _ (.seq _ (.seq _ (.seq _ (.seq _ (.seq _ (.seq _ (.seq _ (.seq _ (.seq _ (.seq _ (.seq _ (.seq (.block _ (.loop (.seq (.seq (.region _ o _) _) _))) _))))))))))))))) => o
  | _ => #[]
noncomputable def ldv64_17 : List Oper := match Tryd.f28.body with
  | some (.seq _ (.seq _ (.seq _ (.seq _ (.seq _ (.seq _ (.seq _ (.seq _ (.seq _ (.seq _ (.seq _ (.seq _ (.seq _ (.seq _ (.seq (.block _ (.loop (.seq (.seq (.region _ o _) _) _))) _))))))))))))))) => o.toList
  | _ => []
theorem edv64_17 : rdv64_17.toList = ldv64_17 := rfl
theorem gdv64_17_2 {T : List Value} {dd : Option Tmp} {op : Op} {ty : TypeId} {pos : String} {af : Array Edge} {want : Bool} : agd rdv64_17 T { dst := dd, op := op, type := ty, pos := pos, after := af, guard := some (2, want) } = gdAt T 69 want := agd_at (by kernel_rfl)
noncomputable def rdv64_18 : Array Oper := match Tryd.f28.body with
  | some (.seq _ (.seq _ (.seq _ (.seq _ (.seq _ (.seq _ (.seq _ (.seq _ (.seq _ (.seq _ (.seq _ (.seq _ (.seq _ (.seq _ (.seq (.block _ (.loop (.seq _ (.block _ (.seq (.region _ o _) _))))) _))))))))))))))) => o
  | _ => #[]
noncomputable def ldv64_18 : List Oper := match Tryd.f28.body with
  | some (.seq _ (.seq _ (.seq _ (.seq _ (.seq _ (.seq _ (.seq _ (.seq _ (.seq _ (.seq _ (.seq _ (.seq _ (.seq _ (.seq _ (.seq (.block _ (.loop (.seq _ (.block _ (.seq (.region _ o _) _))))) _))))))))))))))) => o.toList
  | _ => []
theorem edv64_18 : rdv64_18.toList = ldv64_18 := rfl
noncomputable def rdv64_19 : Array Oper := match Tryd.f28.body with
  | some (.seq _ (.seq _ (.seq _ (.seq _ (.seq _ (.seq _ (.seq _ (.seq _ (.seq _ (.seq _ (.seq _ (.seq _ (.seq _ (.seq _ (.seq (.block _ (.loop (.seq _ (.block _ (.seq _ (.seq (.region _ o _) _)))))) _))))))))))))))) => o
  | _ => #[]
noncomputable def ldv64_19 : List Oper := match Tryd.f28.body with
  | some (.seq _ (.seq _ (.seq _ (.seq _ (.seq _ (.seq _ (.seq _ (.seq _ (.seq _ (.seq _ (.seq _ (.seq _ (.seq _ (.seq _ (.seq (.block _ (.loop (.seq _ (.block _ (.seq _ (.seq (.region _ o _) _)))))) _))))))))))))))) => o.toList
  | _ => []
theorem edv64_19 : rdv64_19.toList = ldv64_19 := rfl
noncomputable def rdv64_20 : Array Oper := match Tryd.f28.body with
  | some (.seq _ (.seq _ (.seq _ (.seq _ (.seq _ (.seq _ (.seq _ (.seq _ (.seq _ (.seq _ (.seq _ (.seq _ (.seq _ (.seq _ (.seq (.block _ (.loop (.seq _ (.block _ (.seq _ (.seq _ (.seq (.region _ o _) _))))))) _))))))))))))))) => o
  | _ => #[]
noncomputable def ldv64_20 : List Oper := match Tryd.f28.body with
  | some (.seq _ (.seq _ (.seq _ (.seq _ (.seq _ (.seq _ (.seq _ (.seq _ (.seq _ (.seq _ (.seq _ (.seq _ (.seq _ (.seq _ (.seq (.block _ (.loop (.seq _ (.block _ (.seq _ (.seq _ (.seq (.region _ o _) _))))))) _))))))))))))))) => o.toList
  | _ => []
theorem edv64_20 : rdv64_20.toList = ldv64_20 := rfl
theorem lpdv64_0_eq : lpdv64_0 = (.seq (.seq (.region 17 rdv64_17 false) (.cond (.tmp 78) .skip (.exit 0))) (.block 1 (.seq (.region 18 rdv64_18 false) (.seq (.region 19 rdv64_19 false) (.seq (.region 20 rdv64_20 false) (.cond (.tmp 85) (.exit 0) .skip)))))) := rfl
noncomputable def rdv64_21 : Array Oper := match Tryd.f28.body with
  | some (.seq _ (.seq _ (.seq _ (.seq _ (.seq _ (.seq _ (.seq _ (.seq _ (.seq _ (.seq _ (.seq _ (.seq _ (.seq _ (.seq _ (.seq _ (.seq (.region _ o _) _)))))))))))))))) => o
  | _ => #[]
noncomputable def ldv64_21 : List Oper := match Tryd.f28.body with
  | some (.seq _ (.seq _ (.seq _ (.seq _ (.seq _ (.seq _ (.seq _ (.seq _ (.seq _ (.seq _ (.seq _ (.seq _ (.seq _ (.seq _ (.seq _ (.seq (.region _ o _) _)))))))))))))))) => o.toList
  | _ => []
theorem edv64_21 : rdv64_21.toList = ldv64_21 := rfl
noncomputable def rdv64_22 : Array Oper := match Tryd.f28.body with
  | some (.seq _ (.seq _ (.seq _ (.seq _ (.seq _ (.seq _ (.seq _ (.seq _ (.seq _ (.seq _ (.seq _ (.seq _ (.seq _ (.seq _ (.seq _ (.seq _ (.seq (.region _ o _) _))))))))))))))))) => o
  | _ => #[]
noncomputable def ldv64_22 : List Oper := match Tryd.f28.body with
  | some (.seq _ (.seq _ (.seq _ (.seq _ (.seq _ (.seq _ (.seq _ (.seq _ (.seq _ (.seq _ (.seq _ (.seq _ (.seq _ (.seq _ (.seq _ (.seq _ (.seq (.region _ o _) _))))))))))))))))) => o.toList
  | _ => []
theorem edv64_22 : rdv64_22.toList = ldv64_22 := rfl
noncomputable def rdv64_23 : Array Oper := match Tryd.f28.body with
  | some (.seq _ (.seq _ (.seq _ (.seq _ (.seq _ (.seq _ (.seq _ (.seq _ (.seq _ (.seq _ (.seq _ (.seq _ (.seq _ (.seq _ (.seq _ (.seq _ (.seq _ (.seq (.region _ o _) _)))))))))))))))))) => o
  | _ => #[]
noncomputable def ldv64_23 : List Oper := match Tryd.f28.body with
  | some (.seq _ (.seq _ (.seq _ (.seq _ (.seq _ (.seq _ (.seq _ (.seq _ (.seq _ (.seq _ (.seq _ (.seq _ (.seq _ (.seq _ (.seq _ (.seq _ (.seq _ (.seq (.region _ o _) _)))))))))))))))))) => o.toList
  | _ => []
theorem edv64_23 : rdv64_23.toList = ldv64_23 := rfl
noncomputable def lpdv64_1 : Code := match Tryd.f28.body with
  | some (.seq _ (.seq _ (.seq _ (.seq _ (.seq _ (.seq _ (.seq _ (.seq _ (.seq _ (.seq _ (.seq _ (.seq _ (.seq _ (.seq _ (.seq _ (.seq _ (.seq _ (.seq _ (.seq (.block _ (.loop c)) _))))))))))))))))))) => c
  | _ => .skip
noncomputable def rdv64_24 : Array Oper := match Tryd.f28.body with
  | some (.seq _ (.seq _ (.seq _ (.seq _ (.seq _ (.seq _ (.seq _ (.seq _ (.seq _ (.seq _ (.seq _ (.seq _ (.seq _ (.seq _ (.seq _ (.seq _ (.seq _ (.seq _ (.seq (.block _ (.loop (.seq (.seq (.region _ o _) _) _))) _))))))))))))))))))) => o
  | _ => #[]
noncomputable def ldv64_24 : List Oper := match Tryd.f28.body with
  | some (.seq _ (.seq _ (.seq _ (.seq _ (.seq _ (.seq _ (.seq _ (.seq _ (.seq _ (.seq _ (.seq _ (.seq _ (.seq _ (.seq _ (.seq _ (.seq _ (.seq _ (.seq _ (.seq (.block _ (.loop (.seq (.seq (.region _ o _) _) _))) _))))))))))))))))))) => o.toList
  | _ => []
theorem edv64_24 : rdv64_24.toList = ldv64_24 := rfl
theorem gdv64_24_2 {T : List Value} {dd : Option Tmp} {op : Op} {ty : TypeId} {pos : String} {af : Array Edge} {want : Bool} : agd rdv64_24 T { dst := dd, op := op, type := ty, pos := pos, after := af, guard := some (2, want) } = gdAt T 104 want := agd_at (by kernel_rfl)
noncomputable def rdv64_25 : Array Oper := match Tryd.f28.body with
  | some (.seq _ (.seq _ (.seq _ (.seq _ (.seq _ (.seq _ (.seq _ (.seq _ (.seq _ (.seq _ (.seq _ (.seq _ (.seq _ (.seq _ (.seq _ (.seq _ (.seq _ (.seq _ (.seq (.block _ (.loop (.seq _ (.block _ (.seq (.region _ o _) _))))) _))))))))))))))))))) => o
  | _ => #[]
noncomputable def ldv64_25 : List Oper := match Tryd.f28.body with
  | some (.seq _ (.seq _ (.seq _ (.seq _ (.seq _ (.seq _ (.seq _ (.seq _ (.seq _ (.seq _ (.seq _ (.seq _ (.seq _ (.seq _ (.seq _ (.seq _ (.seq _ (.seq _ (.seq (.block _ (.loop (.seq _ (.block _ (.seq (.region _ o _) _))))) _))))))))))))))))))) => o.toList
  | _ => []
theorem edv64_25 : rdv64_25.toList = ldv64_25 := rfl
noncomputable def rdv64_26 : Array Oper := match Tryd.f28.body with
  | some (.seq _ (.seq _ (.seq _ (.seq _ (.seq _ (.seq _ (.seq _ (.seq _ (.seq _ (.seq _ (.seq _ (.seq _ (.seq _ (.seq _ (.seq _ (.seq _ (.seq _ (.seq _ (.seq (.block _ (.loop (.seq _ (.block _ (.seq _ (.seq (.region _ o _) _)))))) _))))))))))))))))))) => o
  | _ => #[]
noncomputable def ldv64_26 : List Oper := match Tryd.f28.body with
  | some (.seq _ (.seq _ (.seq _ (.seq _ (.seq _ (.seq _ (.seq _ (.seq _ (.seq _ (.seq _ (.seq _ (.seq _ (.seq _ (.seq _ (.seq _ (.seq _ (.seq _ (.seq _ (.seq (.block _ (.loop (.seq _ (.block _ (.seq _ (.seq (.region _ o _) _)))))) _))))))))))))))))))) => o.toList
  | _ => []
theorem edv64_26 : rdv64_26.toList = ldv64_26 := rfl
noncomputable def rdv64_27 : Array Oper := match Tryd.f28.body with
  | some (.seq _ (.seq _ (.seq _ (.seq _ (.seq _ (.seq _ (.seq _ (.seq _ (.seq _ (.seq _ (.seq _ (.seq _ (.seq _ (.seq _ (.seq _ (.seq _ (.seq _ (.seq _ (.seq (.block _ (.loop (.seq _ (.block _ (.seq _ (.seq _ (.seq (.region _ o _) _))))))) _))))))))))))))))))) => o
  | _ => #[]
noncomputable def ldv64_27 : List Oper := match Tryd.f28.body with
  | some (.seq _ (.seq _ (.seq _ (.seq _ (.seq _ (.seq _ (.seq _ (.seq _ (.seq _ (.seq _ (.seq _ (.seq _ (.seq _ (.seq _ (.seq _ (.seq _ (.seq _ (.seq _ (.seq (.block _ (.loop (.seq _ (.block _ (.seq _ (.seq _ (.seq (.region _ o _) _))))))) _))))))))))))))))))) => o.toList
  | _ => []
theorem edv64_27 : rdv64_27.toList = ldv64_27 := rfl
theorem lpdv64_1_eq : lpdv64_1 = (.seq (.seq (.region 24 rdv64_24 false) (.cond (.tmp 113) .skip (.exit 2))) (.block 3 (.seq (.region 25 rdv64_25 false) (.seq (.region 26 rdv64_26 false) (.seq (.region 27 rdv64_27 false) (.cond (.tmp 120) (.exit 2) .skip)))))) := rfl
noncomputable def rdv64_28 : Array Oper := match Tryd.f28.body with
  | some (.seq _ (.seq _ (.seq _ (.seq _ (.seq _ (.seq _ (.seq _ (.seq _ (.seq _ (.seq _ (.seq _ (.seq _ (.seq _ (.seq _ (.seq _ (.seq _ (.seq _ (.seq _ (.seq _ (.seq (.region _ o _) _)))))))))))))))))))) => o
  | _ => #[]
noncomputable def ldv64_28 : List Oper := match Tryd.f28.body with
  | some (.seq _ (.seq _ (.seq _ (.seq _ (.seq _ (.seq _ (.seq _ (.seq _ (.seq _ (.seq _ (.seq _ (.seq _ (.seq _ (.seq _ (.seq _ (.seq _ (.seq _ (.seq _ (.seq _ (.seq (.region _ o _) _)))))))))))))))))))) => o.toList
  | _ => []
theorem edv64_28 : rdv64_28.toList = ldv64_28 := rfl
theorem bodydv64 : Tryd.f28.body = some (.seq (.region 0 rdv64_0 false) (.seq (.seq (.region 1 rdv64_1 false) (.cond (.tmp 20) (.region 2 rdv64_2 false) .skip)) (.seq (.seq (.region 3 rdv64_3 false) (.cond (.tmp 24) (.region 4 rdv64_4 false) .skip)) (.seq (.seq (.region 5 rdv64_5 false) (.cond (.tmp 27) (.seq (.region 6 rdv64_6 true) .ret) .skip)) (.seq (.region 7 rdv64_7 false) (.seq (.region 8 rdv64_8 false) (.seq (.region 9 rdv64_9 false) (.seq (.region 10 rdv64_10 false) (.seq (.region 11 rdv64_11 false) (.seq (.region 12 rdv64_12 false) (.seq (.region 13 rdv64_13 false) (.seq (.region 14 rdv64_14 false) (.seq (.region 15 rdv64_15 false) (.seq (.region 16 rdv64_16 false) (.seq (.block 0 (.loop lpdv64_0)) (.seq (.region 21 rdv64_21 false) (.seq (.region 22 rdv64_22 false) (.seq (.region 23 rdv64_23 false) (.seq (.block 2 (.loop lpdv64_1)) (.seq (.region 28 rdv64_28 false) .ret)))))))))))))))))))) := rfl
-- ntmps 135
theorem quoN (a c : Nat) (ha : a < 18446744073709551616) : abin .quo .u64 ((a : Nat) : Int) .u64 ((c + 1 : Nat) : Int) = some (.int .u64 ((a / (c + 1) : Nat) : Int)) := by
  have h : ∀ k : Int, abin .quo .u64 k .u64 ((c + 1 : Nat) : Int) = some (.int .u64 (wrapF .u64 (k.tdiv ((c + 1 : Nat) : Int)))) := fun k => by kernel_rfl
  rw [h, Int.tdiv_eq_ediv_of_nonneg (by omega), ← Int.natCast_ediv, wrapU, Nat.mod_eq_of_lt (Nat.lt_of_le_of_lt (Nat.div_le_self _ _) ha)]
theorem remN (a c : Nat) : abin .rem .u64 ((a : Nat) : Int) .u64 ((c + 1 : Nat) : Int) = some (.int .u64 ((a % (c + 1) : Nat) : Int)) := by
  have h : ∀ k : Int, abin .rem .u64 k .u64 ((c + 1 : Nat) : Int) = some (.int .u64 (k.tmod ((c + 1 : Nat) : Int))) := fun k => by kernel_rfl
  rw [h, Int.tmod_eq_emod_of_nonneg (by omega), ← Int.natCast_emod]
theorem leqU' (a b : Int) : abin .leq .u64 a .u64 b = some (.bool (decide (a ≤ b))) := by kernel_rfl
theorem lssU' (a b : Int) : abin .lss .u64 a .u64 b = some (.bool (decide (a < b))) := by kernel_rfl
theorem gtrU' (a b : Int) : abin .gtr .u64 a .u64 b = some (.bool (decide (a > b))) := by kernel_rfl
theorem eqlU' (a b : Int) : abin .eql .u64 a .u64 b = some (.bool (a == b)) := by kernel_rfl
theorem neqU' (a b : Int) : abin .neq .u64 a .u64 b = some (.bool (a != b)) := by kernel_rfl
theorem subC {a b : Nat} (h : b ≤ a) (ha : a < 18446744073709551616) : wrapF .u64 (((a : Nat) : Int) - ((b : Nat) : Int)) = ((a - b : Nat) : Int) := by simp only [wrapF]; omega
theorem subC1 {a : Nat} (h : 1 ≤ a) (ha : a < 18446744073709551616) : wrapF .u64 (((a : Nat) : Int) - 1) = ((a - 1 : Nat) : Int) := by simp only [wrapF]; omega
theorem upd_ne {F : Nat → Value} {d j : Nat} {v : Value} (h : j ≠ d) : upd F d v j = F j := by rw [upd_at, if_neg h]
theorem callLz : callableB E.P 38 = true := by kernel_rfl
section
variable {self : Self} {nf : Nat} {m : Mem} {F : Nat → Value} {q r y1 y0 d u : Nat}
theorem dv0_it (h9 : F 9 = .int .u64 (y1 : Nat)) (h10 : F 10 = .int .u64 (y0 : Nat)) (hd' : F 13 = .int .u64 (d : Nat)) (hq' : F 15 = .int .u64 (q : Nat)) (h16 : F 16 = .int .u64 (r : Nat)) (hr : r < 4294967296) (hy1 : y1 < 4294967296) (hy0 : y0 < 4294967296) (hd : d < 4294967296) (hq : q ≤ 4294967297)
    (c e : Bool) (hc : c = (decide (4294967296 ≤ q) || decide (4294967296 * r + d < q * y0))) (he : e = decide (4294967296 ≤ r + y1)) (hq1 : c = true → 1 ≤ q) :
    ∃ F', acodeN E self nf lpdv64_0 (lst F 135) m = some (if c && !e then .normal else .exit 0, lst F' 135, m) ∧ F' 15 = .int .u64 ((if c then q - 1 else q : Nat) : Int) ∧ F' 16 = .int .u64 ((if c then r + y1 else r : Nat) : Int) ∧ ∀ j, j ≠ 15 → j ≠ 16 → j < 67 → F' j = F j := by
  have e3 : abin .add .u64 ((r : Nat) : Int) .u64 ((y1 : Nat) : Int) = some (.int .u64 ((r + y1 : Nat) : Int)) := by rw [addN, Nat.mod_eq_of_lt (by omega)]
  have d2 : decide (((r + y1 : Nat) : Int) ≥ 4294967296) = e := by rw [he]; congr 1; simp only [ge_iff_le, eq_iff_iff]; omega
  by_cases hqb : 4294967296 ≤ q
  · have d1 : decide (((q : Nat) : Int) ≥ 4294967296) = true := decide_eq_true (by omega)
    have c1 : c = true := by rw [hc, decide_eq_true hqb, Bool.true_or]
    have e2 := subC1 (a := q) (by omega) (by omega)
    subst c1
    cases e with
    | true =>
      simp only [lpdv64_0_eq, ↓ddv64_6, ↓sdv64_6, edv64_0, edv64_1, edv64_10, edv64_11, edv64_12, edv64_13, edv64_14, edv64_15, edv64_16, edv64_17, edv64_18, edv64_19, edv64_2, edv64_20, edv64_21, edv64_22, edv64_23, edv64_24, edv64_25, edv64_26, edv64_27, edv64_28, edv64_3, edv64_4, edv64_5, edv64_6, edv64_7, edv64_8, edv64_9, ldv64_0, ldv64_1, ldv64_2, ldv64_3, ldv64_4, ldv64_5, ldv64_6, ldv64_7, ldv64_8, ldv64_9, ldv64_10, ldv64_11, ldv64_12, ldv64_13, ldv64_14, ldv64_15, ldv64_16, ldv64_17, ldv64_18, ldv64_19, ldv64_20, ldv64_21, ldv64_22, ldv64_23, ldv64_24, ldv64_25, ldv64_26, ldv64_27, ldv64_28, gdv64_17_2, gdv64_24_2, agd_none, gdAt, gdV_bool, gdV_undef, Tryd.f28, List.append_eq, List.cons_append, List.nil_append, apure_call1, apure_call2, apure_call3, bft, btf, acodeN, List.getElem?_toArray, List.getElem?_cons_zero, List.getElem?_cons_succ, aopsN, adrawT, cls, astep, aop, afloat, ev, nth_lst, get_lst, aput, setAt_lst, upd_at, init_zero, init_succ, init_nil, Nat.reduceLT, Nat.reduceEqDiff, reduceIte, abuiltin, alen, Option.map_some, Option.map_none, orElse_some, apure_add, apure_eqlV, eqlVal_str, eqlVal_bool, eqlVal_ptr, eqlVal_slice, eqlVal_wide, eqlVal_int, allT, ↓aop_eqlV, apure_neq, List.map_cons, List.map_nil, List.all_cons, List.all_nil, lit2, lit1, lit0, List.isEmpty_nil, bls, Bool.false_eq_true, if_true, if_false, List.length_map, beq_self_eq_true, uns, h9, h10, hd', hq', h16, geqU, d1, subU, e2, e3, d2]
      exact ⟨_, rfl, by simp only [upd_at, Nat.reduceEqDiff, reduceIte, if_true], by simp only [upd_at, Nat.reduceEqDiff, reduceIte, if_true], fun j h1 h2 h3 => by repeat rw [upd_ne (by omega)]⟩
    | false =>
      simp only [lpdv64_0_eq, ↓ddv64_6, ↓sdv64_6, edv64_0, edv64_1, edv64_10, edv64_11, edv64_12, edv64_13, edv64_14, edv64_15, edv64_16, edv64_17, edv64_18, edv64_19, edv64_2, edv64_20, edv64_21, edv64_22, edv64_23, edv64_24, edv64_25, edv64_26, edv64_27, edv64_28, edv64_3, edv64_4, edv64_5, edv64_6, edv64_7, edv64_8, edv64_9, ldv64_0, ldv64_1, ldv64_2, ldv64_3, ldv64_4, ldv64_5, ldv64_6, ldv64_7, ldv64_8, ldv64_9, ldv64_10, ldv64_11, ldv64_12, ldv64_13, ldv64_14, ldv64_15, ldv64_16, ldv64_17, ldv64_18, ldv64_19, ldv64_20, ldv64_21, ldv64_22, ldv64_23, ldv64_24, ldv64_25, ldv64_26, ldv64_27, ldv64_28, gdv64_17_2, gdv64_24_2, agd_none, gdAt, gdV_bool, gdV_undef, Tryd.f28, List.append_eq, List.cons_append, List.nil_append, apure_call1, apure_call2, apure_call3, bft, btf, acodeN, List.getElem?_toArray, List.getElem?_cons_zero, List.getElem?_cons_succ, aopsN, adrawT, cls, astep, aop, afloat, ev, nth_lst, get_lst, aput, setAt_lst, upd_at, init_zero, init_succ, init_nil, Nat.reduceLT, Nat.reduceEqDiff, reduceIte, abuiltin, alen, Option.map_some, Option.map_none, orElse_some, apure_add, apure_eqlV, eqlVal_str, eqlVal_bool, eqlVal_ptr, eqlVal_slice, eqlVal_wide, eqlVal_int, allT, ↓aop_eqlV, apure_neq, List.map_cons, List.map_nil, List.all_cons, List.all_nil, lit2, lit1, lit0, List.isEmpty_nil, bls, Bool.false_eq_true, if_true, if_false, List.length_map, beq_self_eq_true, uns, h9, h10, hd', hq', h16, geqU, d1, subU, e2, e3, d2]
      exact ⟨_, rfl, by simp only [upd_at, Nat.reduceEqDiff, reduceIte, if_true], by simp only [upd_at, Nat.reduceEqDiff, reduceIte, if_true], fun j h1 h2 h3 => by repeat rw [upd_ne (by omega)]⟩
  · have d1 : decide (((q : Nat) : Int) ≥ 4294967296) = false := decide_eq_false (by omega)
    have hm : q * y0 < 4294967296 * 4294967296 := Nat.mul_lt_mul'' (by omega) hy0
    have m1 : abin .mul .u64 ((q : Nat) : Int) .u64 ((y0 : Nat) : Int) = some (.int .u64 ((q * y0 : Nat) : Int)) := by rw [mulN, Nat.mod_eq_of_lt (by omega)]
    have m2 : abin .mul .u64 4294967296 .u64 ((r : Nat) : Int) = some (.int .u64 ((4294967296 * r : Nat) : Int)) := by
      have := mulN 4294967296 r
      rw [Nat.mod_eq_of_lt (by omega)] at this
      exact this
    have m3 : abin .add .u64 ((4294967296 * r : Nat) : Int) .u64 ((d : Nat) : Int) = some (.int .u64 ((4294967296 * r + d : Nat) : Int)) := by rw [addN, Nat.mod_eq_of_lt (by omega)]
    have c1 : c = decide (4294967296 * r + d < q * y0) := by rw [hc, decide_eq_false hqb, Bool.false_or]
    have d3 : decide (((q * y0 : Nat) : Int) > ((4294967296 * r + d : Nat) : Int)) = c := by
      rw [c1]; congr 1; simp only [gt_iff_lt, eq_iff_iff]; omega
    generalize q * y0 = p at *
    generalize 4294967296 * r + d = s at *
    generalize 4294967296 * r = z at *
    clear hc c1
    cases c with
    | false =>
      simp only [lpdv64_0_eq, ↓ddv64_6, ↓sdv64_6, edv64_0, edv64_1, edv64_10, edv64_11, edv64_12, edv64_13, edv64_14, edv64_15, edv64_16, edv64_17, edv64_18, edv64_19, edv64_2, edv64_20, edv64_21, edv64_22, edv64_23, edv64_24, edv64_25, edv64_26, edv64_27, edv64_28, edv64_3, edv64_4, edv64_5, edv64_6, edv64_7, edv64_8, edv64_9, ldv64_0, ldv64_1, ldv64_2, ldv64_3, ldv64_4, ldv64_5, ldv64_6, ldv64_7, ldv64_8, ldv64_9, ldv64_10, ldv64_11, ldv64_12, ldv64_13, ldv64_14, ldv64_15, ldv64_16, ldv64_17, ldv64_18, ldv64_19, ldv64_20, ldv64_21, ldv64_22, ldv64_23, ldv64_24, ldv64_25, ldv64_26, ldv64_27, ldv64_28, gdv64_17_2, gdv64_24_2, agd_none, gdAt, gdV_bool, gdV_undef, Tryd.f28, List.append_eq, List.cons_append, List.nil_append, apure_call1, apure_call2, apure_call3, bft, btf, acodeN, List.getElem?_toArray, List.getElem?_cons_zero, List.getElem?_cons_succ, aopsN, adrawT, cls, astep, aop, afloat, ev, nth_lst, get_lst, aput, setAt_lst, upd_at, init_zero, init_succ, init_nil, Nat.reduceLT, Nat.reduceEqDiff, reduceIte, abuiltin, alen, Option.map_some, Option.map_none, orElse_some, apure_add, apure_eqlV, eqlVal_str, eqlVal_bool, eqlVal_ptr, eqlVal_slice, eqlVal_wide, eqlVal_int, allT, ↓aop_eqlV, apure_neq, List.map_cons, List.map_nil, List.all_cons, List.all_nil, lit2, lit1, lit0, List.isEmpty_nil, bls, Bool.false_eq_true, if_true, if_false, List.length_map, beq_self_eq_true, uns, h9, h10, hd', hq', h16, geqU, d1, m1, m2, m3, gtrU', d3]
      exact ⟨_, rfl, by simp only [upd_at, Nat.reduceEqDiff, reduceIte, if_false, hq', Bool.false_eq_true], by simp only [upd_at, Nat.reduceEqDiff, reduceIte, if_false, h16, Bool.false_eq_true], fun j h1 h2 h3 => by repeat rw [upd_ne (by omega)]⟩
    | true =>
      have e2 := subC1 (a := q) (hq1 rfl) (by omega)
      cases e with
      | true =>
        simp only [lpdv64_0_eq, ↓ddv64_6, ↓sdv64_6, edv64_0, edv64_1, edv64_10, edv64_11, edv64_12, edv64_13, edv64_14, edv64_15, edv64_16, edv64_17, edv64_18, edv64_19, edv64_2, edv64_20, edv64_21, edv64_22, edv64_23, edv64_24, edv64_25, edv64_26, edv64_27, edv64_28, edv64_3, edv64_4, edv64_5, edv64_6, edv64_7, edv64_8, edv64_9, ldv64_0, ldv64_1, ldv64_2, ldv64_3, ldv64_4, ldv64_5, ldv64_6, ldv64_7, ldv64_8, ldv64_9, ldv64_10, ldv64_11, ldv64_12, ldv64_13, ldv64_14, ldv64_15, ldv64_16, ldv64_17, ldv64_18, ldv64_19, ldv64_20, ldv64_21, ldv64_22, ldv64_23, ldv64_24, ldv64_25, ldv64_26, ldv64_27, ldv64_28, gdv64_17_2, gdv64_24_2, agd_none, gdAt, gdV_bool, gdV_undef, Tryd.f28, List.append_eq, List.cons_append, List.nil_append, apure_call1, apure_call2, apure_call3, bft, btf, acodeN, List.getElem?_toArray, List.getElem?_cons_zero, List.getElem?_cons_succ, aopsN, adrawT, cls, astep, aop, afloat, ev, nth_lst, get_lst, aput, setAt_lst, upd_at, init_zero, init_succ, init_nil, Nat.reduceLT, Nat.reduceEqDiff, reduceIte, abuiltin, alen, Option.map_some, Option.map_none, orElse_some, apure_add, apure_eqlV, eqlVal_str, eqlVal_bool, eqlVal_ptr, eqlVal_slice, eqlVal_wide, eqlVal_int, allT, ↓aop_eqlV, apure_neq, List.map_cons, List.map_nil, List.all_cons, List.all_nil, lit2, lit1, lit0, List.isEmpty_nil, bls, Bool.false_eq_true, if_true, if_false, List.length_map, beq_self_eq_true, uns, h9, h10, hd', hq', h16, geqU, d1, m1, m2, m3, gtrU', d3, subU, e2, e3, d2]
        exact ⟨_, rfl, by simp only [upd_at, Nat.reduceEqDiff, reduceIte, if_true], by simp only [upd_at, Nat.reduceEqDiff, reduceIte, if_true], fun j h1 h2 h3 => by repeat rw [upd_ne (by omega)]⟩
      | false =>
        simp only [lpdv64_0_eq, ↓ddv64_6, ↓sdv64_6, edv64_0, edv64_1, edv64_10, edv64_11, edv64_12, edv64_13, edv64_14, edv64_15, edv64_16, edv64_17, edv64_18, edv64_19, edv64_2, edv64_20, edv64_21, edv64_22, edv64_23, edv64_24, edv64_25, edv64_26, edv64_27, edv64_28, edv64_3, edv64_4, edv64_5, edv64_6, edv64_7, edv64_8, edv64_9, ldv64_0, ldv64_1, ldv64_2, ldv64_3, ldv64_4, ldv64_5, ldv64_6, ldv64_7, ldv64_8, ldv64_9, ldv64_10, ldv64_11, ldv64_12, ldv64_13, ldv64_14, ldv64_15, ldv64_16, ldv64_17, ldv64_18, ldv64_19, ldv64_20, ldv64_21, ldv64_22, ldv64_23, ldv64_24, ldv64_25, ldv64_26, ldv64_27, ldv64_28, gdv64_17_2, gdv64_24_2, agd_none, gdAt, gdV_bool, gdV_undef, Tryd.f28, List.append_eq, List.cons_append, List.nil_append, apure_call1, apure_call2, apure_call3, bft, btf, acodeN, List.getElem?_toArray, List.getElem?_cons_zero, List.getElem?_cons_succ, aopsN, adrawT, cls, astep, aop, afloat, ev, nth_lst, get_lst, aput, setAt_lst, upd_at, init_zero, init_succ, init_nil, Nat.reduceLT, Nat.reduceEqDiff, reduceIte, abuiltin, alen, Option.map_some, Option.map_none, orElse_some, apure_add, apure_eqlV, eqlVal_str, eqlVal_bool, eqlVal_ptr, eqlVal_slice, eqlVal_wide, eqlVal_int, allT, ↓aop_eqlV, apure_neq, List.map_cons, List.map_nil, List.all_cons, List.all_nil, lit2, lit1, lit0, List.isEmpty_nil, bls, Bool.false_eq_true, if_true, if_false, List.length_map, beq_self_eq_true, uns, h9, h10, hd', hq', h16, geqU, d1, m1, m2, m3, gtrU', d3, subU, e2, e3, d2]
        exact ⟨_, rfl, by simp only [upd_at, Nat.reduceEqDiff, reduceIte, if_true], by simp only [upd_at, Nat.reduceEqDiff, reduceIte, if_true], fun j h1 h2 h3 => by repeat rw [upd_ne (by omega)]⟩
theorem dv0_loop (h9 : F 9 = .int .u64 (y1 : Nat)) (h10 : F 10 = .int .u64 (y0 : Nat)) (hd' : F 13 = .int .u64 (d : Nat)) (hq' : F 15 = .int .u64 ((u / y1 : Nat) : Int)) (h16 : F 16 = .int .u64 ((u % y1 : Nat) : Int)) (hy1 : y1 < 4294967296) (hb : 2147483648 ≤ y1) (hy0 : y0 < 4294967296) (hd : d < 4294967296) (hu : u < y1 * 4294967296 + y0) (hnf : 10 < nf) :
    ∃ F', aloop (acodeN E self nf lpdv64_0) nf (lst F 135) m = some (.exit 0, lst F' 135, m) ∧ F' 15 = .int .u64 (((u * 4294967296 + d) / (y1 * 4294967296 + y0) : Nat) : Int) ∧ ∀ j, j ≠ 15 → j ≠ 16 → j < 67 → F' j = F j := by
  have hY : 0 < y1 * 4294967296 + y0 := by omega
  have hF := two_digits hu hd
  have hloop := aloop_inv (body := acodeN E self nf lpdv64_0) (N := 2)
    (I := fun k T m' => m' = m ∧ ∃ G q r, T = lst G 135 ∧ G 15 = .int .u64 ((q : Nat) : Int) ∧ G 16 = .int .u64 ((r : Nat) : Int) ∧ (∀ j, j ≠ 15 → j ≠ 16 → j < 67 → G j = F j) ∧ DI 4294967296 u d y1 y0 q r k)
    (Q := fun x T m' => x = .exit 0 ∧ m' = m ∧ ∃ G, T = lst G 135 ∧ G 15 = .int .u64 (((u * 4294967296 + d) / (y1 * 4294967296 + y0) : Nat) : Int) ∧ ∀ j, j ≠ 15 → j ≠ 16 → j < 67 → G j = F j) (fun k T m' hk hI => by
      obtain ⟨rfl, G, q, r, rfl, gq, gr, gk, hD⟩ := hI
      have hk2 := hD.rounds2 (by omega)
      have hcc : ∀ c : Bool, c = (decide (4294967296 ≤ q) || decide (4294967296 * r + d < q * y0)) → c = true → 4294967296 ≤ q ∨ 4294967296 * r + d < q * y0 := fun c h1 h2 => by
        rw [h2] at h1
        simpa using h1.symm
      obtain ⟨c, hc⟩ : ∃ c : Bool, c = (decide (4294967296 ≤ q) || decide (4294967296 * r + d < q * y0)) := ⟨_, rfl⟩
      obtain ⟨e, he⟩ : ∃ e : Bool, e = decide (4294967296 ≤ r + y1) := ⟨_, rfl⟩
      obtain ⟨F', hr, f1, f2, f3⟩ := dv0_it (self := self) (nf := nf) (m := m') ((gk 9 (by omega) (by omega) (by omega)).trans h9) ((gk 10 (by omega) (by omega) (by omega)).trans h10) ((gk 13 (by omega) (by omega) (by omega)).trans hd') gq gr hD.small hy1 hy0 hd hD.most c e hc he (fun h => by
        have := Nat.lt_of_le_of_lt (Nat.zero_le _) (hD.gt hF (hcc c hc h))
        omega)
      have fk : ∀ j, j ≠ 15 → j ≠ 16 → j < 67 → F' j = F j := fun j h1 h2 h3 => (f3 j h1 h2 h3).trans (gk j h1 h2 h3)
      cases c with
      | false =>
        right
        have h1 : ¬ 4294967296 ≤ q ∧ ¬ 4294967296 * r + d < q * y0 := by simpa using hc.symm
        have h2 := hD.stop hY (Nat.le_of_not_lt h1.2)
        rw [if_neg (by simp)] at f1
        rw [if_neg (by simp)] at hr
        exact ⟨_, _, _, hr, by simp, rfl, rfl, F', rfl, by rw [f1, h2], fk⟩
      | true =>
        have h1 := hcc true hc rfl
        rw [if_pos rfl] at f1 f2
        cases e with
        | false =>
          left
          have h3 : ¬ 4294967296 ≤ r + y1 := by simpa using he.symm
          have h4 := hD.next hF h1 (by omega)
          rw [if_pos (by rfl)] at hr
          exact ⟨_, _, hr, hk2, rfl, F', q - 1, r + y1, rfl, f1, f2, fk, h4⟩
        | true =>
          right
          have h3 : 4294967296 ≤ r + y1 := by simpa using he.symm
          have h4 := hD.break hY hy0 hF h1 h3
          rw [if_neg (by simp)] at hr
          exact ⟨_, _, _, hr, by simp, rfl, rfl, F', rfl, by rw [f1, h4], fk⟩)
  obtain ⟨x, T', m', hr, rfl, rfl, G, rfl, g⟩ := hloop 2 0 nf (lst F 135) m (by omega) (by omega) ⟨rfl, F, u / y1, u % y1, rfl, hq', h16, fun _ _ _ _ => rfl, DI.init (by omega) hy1 hy0 hd hu⟩
  exact ⟨G, hr, g⟩
end
section
variable {self : Self} {nf : Nat} {m : Mem} {F : Nat → Value} {q r y1 y0 d u : Nat}
theorem dv1_it (h9 : F 9 = .int .u64 (y1 : Nat)) (h10 : F 10 = .int .u64 (y0 : Nat)) (hd' : F 14 = .int .u64 (d : Nat)) (hq' : F 18 = .int .u64 (q : Nat)) (h16 : F 16 = .int .u64 (r : Nat)) (hr : r < 4294967296) (hy1 : y1 < 4294967296) (hy0 : y0 < 4294967296) (hd : d < 4294967296) (hq : q ≤ 4294967297)
    (c e : Bool) (hc : c = (decide (4294967296 ≤ q) || decide (4294967296 * r + d < q * y0))) (he : e = decide (4294967296 ≤ r + y1)) (hq1 : c = true → 1 ≤ q) :
    ∃ F', acodeN E self nf lpdv64_1 (lst F 135) m = some (if c && !e then .normal else .exit 2, lst F' 135, m) ∧ F' 18 = .int .u64 ((if c then q - 1 else q : Nat) : Int) ∧ F' 16 = .int .u64 ((if c then r + y1 else r : Nat) : Int) ∧ ∀ j, j ≠ 18 → j ≠ 16 → j < 102 → F' j = F j := by
  have e3 : abin .add .u64 ((r : Nat) : Int) .u64 ((y1 : Nat) : Int) = some (.int .u64 ((r + y1 : Nat) : Int)) := by rw [addN, Nat.mod_eq_of_lt (by omega)]
  have d2 : decide (((r + y1 : Nat) : Int) ≥ 4294967296) = e := by rw [he]; congr 1; simp only [ge_iff_le, eq_iff_iff]; omega
  by_cases hqb : 4294967296 ≤ q
  · have d1 : decide (((q : Nat) : Int) ≥ 4294967296) = true := decide_eq_true (by omega)
    have c1 : c = true := by rw [hc, decide_eq_true hqb, Bool.true_or]
    have e2 := subC1 (a := q) (by omega) (by omega)
    subst c1
    cases e with
    | true =>
      simp only [lpdv64_1_eq, ↓ddv64_6, ↓sdv64_6, edv64_0, edv64_1, edv64_10, edv64_11, edv64_12, edv64_13, edv64_14, edv64_15, edv64_16, edv64_17, edv64_18, edv64_19, edv64_2, edv64_20, edv64_21, edv64_22, edv64_23, edv64_24, edv64_25, edv64_26, edv64_27, edv64_28, edv64_3, edv64_4, edv64_5, edv64_6, edv64_7, edv64_8, edv64_9, ldv64_0, ldv64_1, ldv64_2, ldv64_3, ldv64_4, ldv64_5, ldv64_6, ldv64_7, ldv64_8, ldv64_9, ldv64_10, ldv64_11, ldv64_12, ldv64_13, ldv64_14, ldv64_15, ldv64_16, ldv64_17, ldv64_18, ldv64_19, ldv64_20, ldv64_21, ldv64_22, ldv64_23, ldv64_24, ldv64_25, ldv64_26, ldv64_27, ldv64_28, gdv64_17_2, gdv64_24_2, agd_none, gdAt, gdV_bool, gdV_undef, Tryd.f28, List.append_eq, List.cons_append, List.nil_append, apure_call1, apure_call2, apure_call3, bft, btf, acodeN, List.getElem?_toArray, List.getElem?_cons_zero, List.getElem?_cons_succ, aopsN, adrawT, cls, astep, aop, afloat, ev, nth_lst, get_lst, aput, setAt_lst, upd_at, init_zero, init_succ, init_nil, Nat.reduceLT, Nat.reduceEqDiff, reduceIte, abuiltin, alen, Option.map_some, Option.map_none, orElse_some, apure_add, apure_eqlV, eqlVal_str, eqlVal_bool, eqlVal_ptr, eqlVal_slice, eqlVal_wide, eqlVal_int, allT, ↓aop_eqlV, apure_neq, List.map_cons, List.map_nil, List.all_cons, List.all_nil, lit2, lit1, lit0, List.isEmpty_nil, bls, Bool.false_eq_true, if_true, if_false, List.length_map, beq_self_eq_true, uns, h9, h10, hd', hq', h16, geqU, d1, subU, e2, e3, d2]
      exact ⟨_, rfl, by simp only [upd_at, Nat.reduceEqDiff, reduceIte, if_true], by simp only [upd_at, Nat.reduceEqDiff, reduceIte, if_true], fun j h1 h2 h3 => by repeat rw [upd_ne (by omega)]⟩
    | false =>
      simp only [lpdv64_1_eq, ↓ddv64_6, ↓sdv64_6, edv64_0, edv64_1, edv64_10, edv64_11, edv64_12, edv64_13, edv64_14, edv64_15, edv64_16, edv64_17, edv64_18, edv64_19, edv64_2, edv64_20, edv64_21, edv64_22, edv64_23, edv64_24, edv64_25, edv64_26, edv64_27, edv64_28, edv64_3, edv64_4, edv64_5, edv64_6, edv64_7, edv64_8, edv64_9, ldv64_0, ldv64_1, ldv64_2, ldv64_3, ldv64_4, ldv64_5, ldv64_6, ldv64_7, ldv64_8, ldv64_9, ldv64_10, ldv64_11, ldv64_12, ldv64_13, ldv64_14, ldv64_15, ldv64_16, ldv64_17, ldv64_18, ldv64_19, ldv64_20, ldv64_21, ldv64_22, ldv64_23, ldv64_24, ldv64_25, ldv64_26, ldv64_27, ldv64_28, gdv64_17_2, gdv64_24_2, agd_none, gdAt, gdV_bool, gdV_undef, Tryd.f28, List.append_eq, List.cons_append, List.nil_append, apure_call1, apure_call2, apure_call3, bft, btf, acodeN, List.getElem?_toArray, List.getElem?_cons_zero, List.getElem?_cons_succ, aopsN, adrawT, cls, astep, aop, afloat, ev, nth_lst, get_lst, aput, setAt_lst, upd_at, init_zero, init_succ, init_nil, Nat.reduceLT, Nat.reduceEqDiff, reduceIte, abuiltin, alen, Option.map_some, Option.map_none, orElse_some, apure_add, apure_eqlV, eqlVal_str, eqlVal_bool, eqlVal_ptr, eqlVal_slice, eqlVal_wide, eqlVal_int, allT, ↓aop_eqlV, apure_neq, List.map_cons, List.map_nil, List.all_cons, List.all_nil, lit2, lit1, lit0, List.isEmpty_nil, bls, Bool.false_eq_true, if_true, if_false, List.length_map, beq_self_eq_true, uns, h9, h10, hd', hq', h16, geqU, d1, subU, e2, e3, d2]
      exact ⟨_, rfl, by simp only [upd_at, Nat.reduceEqDiff, reduceIte, if_true], by simp only [upd_at, Nat.reduceEqDiff, reduceIte, if_true], fun j h1 h2 h3 => by repeat rw [upd_ne (by omega)]⟩
  · have d1 : decide (((q : Nat) : Int) ≥ 4294967296) = false := decide_eq_false (by omega)
    have hm : q * y0 < 4294967296 * 4294967296 := Nat.mul_lt_mul'' (by omega) hy0
    have m1 : abin .mul .u64 ((q : Nat) : Int) .u64 ((y0 : Nat) : Int) = some (.int .u64 ((q * y0 : Nat) : Int)) := by rw [mulN, Nat.mod_eq_of_lt (by omega)]
    have m2 : abin .mul .u64 4294967296 .u64 ((r : Nat) : Int) = some (.int .u64 ((4294967296 * r : Nat) : Int)) := by
      have := mulN 4294967296 r
      rw [Nat.mod_eq_of_lt (by omega)] at this
      exact this
    have m3 : abin .add .u64 ((4294967296 * r : Nat) : Int) .u64 ((d : Nat) : Int) = some (.int .u64 ((4294967296 * r + d : Nat) : Int)) := by rw [addN, Nat.mod_eq_of_lt (by omega)]
    have c1 : c = decide (4294967296 * r + d < q * y0) := by rw [hc, decide_eq_false hqb, Bool.false_or]
    have d3 : decide (((q * y0 : Nat) : Int) > ((4294967296 * r + d : Nat) : Int)) = c := by
      rw [c1]; congr 1; simp only [gt_iff_lt, eq_iff_iff]; omega
    generalize q * y0 = p at *
    generalize 4294967296 * r + d = s at *
    generalize 4294967296 * r = z at *
    clear hc c1
    cases c with
    | false =>
      simp only [lpdv64_1_eq, ↓ddv64_6, ↓sdv64_6, edv64_0, edv64_1, edv64_10, edv64_11, edv64_12, edv64_13, edv64_14, edv64_15, edv64_16, edv64_17, edv64_18, edv64_19, edv64_2, edv64_20, edv64_21, edv64_22, edv64_23, edv64_24, edv64_25, edv64_26, edv64_27, edv64_28, edv64_3, edv64_4, edv64_5, edv64_6, edv64_7, edv64_8, edv64_9, ldv64_0, ldv64_1, ldv64_2, ldv64_3, ldv64_4, ldv64_5, ldv64_6, ldv64_7, ldv64_8, ldv64_9, ldv64_10, ldv64_11, ldv64_12, ldv64_13, ldv64_14, ldv64_15, ldv64_16, ldv64_17, ldv64_18, ldv64_19, ldv64_20, ldv64_21, ldv64_22, ldv64_23, ldv64_24, ldv64_25, ldv64_26, ldv64_27, ldv64_28, gdv64_17_2, gdv64_24_2, agd_none, gdAt, gdV_bool, gdV_undef, Tryd.f28, List.append_eq, List.cons_append, List.nil_append, apure_call1, apure_call2, apure_call3, bft, btf, acodeN, List.getElem?_toArray, List.getElem?_cons_zero, List.getElem?_cons_succ, aopsN, adrawT, cls, astep, aop, afloat, ev, nth_lst, get_lst, aput, setAt_lst, upd_at, init_zero, init_succ, init_nil, Nat.reduceLT, Nat.reduceEqDiff, reduceIte, abuiltin, alen, Option.map_some, Option.map_none, orElse_some, apure_add, apure_eqlV, eqlVal_str, eqlVal_bool, eqlVal_ptr, eqlVal_slice, eqlVal_wide, eqlVal_int, allT, ↓aop_eqlV, apure_neq, List.map_cons, List.map_nil, List.all_cons, List.all_nil, lit2, lit1, lit0, List.isEmpty_nil, bls, Bool.false_eq_true, if_true, if_false, List.length_map, beq_self_eq_true, uns, h9, h10, hd', hq', h16, geqU, d1, m1, m2, m3, gtrU', d3]
      exact ⟨_, rfl, by simp only [upd_at, Nat.reduceEqDiff, reduceIte, if_false, hq', Bool.false_eq_true], by simp only [upd_at, Nat.reduceEqDiff, reduceIte, if_false, h16, Bool.false_eq_true], fun j h1 h2 h3 => by repeat rw [upd_ne (by omega)]⟩
    | true =>
      have e2 := subC1 (a := q) (hq1 rfl) (by omega)
      cases e with
      | true =>
        simp only [lpdv64_1_eq, ↓ddv64_6, ↓sdv64_6, edv64_0, edv64_1, edv64_10, edv64_11, edv64_12, edv64_13, edv64_14, edv64_15, edv64_16, edv64_17, edv64_18, edv64_19, edv64_2, edv64_20, edv64_21, edv64_22, edv64_23, edv64_24, edv64_25, edv64_26, edv64_27, edv64_28, edv64_3, edv64_4, edv64_5, edv64_6, edv64_7, edv64_8, edv64_9, ldv64_0, ldv64_1, ldv64_2, ldv64_3, ldv64_4, ldv64_5, ldv64_6, ldv64_7, ldv64_8, ldv64_9, ldv64_10, ldv64_11, ldv64_12, ldv64_13, ldv64_14, ldv64_15, ldv64_16, ldv64_17, ldv64_18, ldv64_19, ldv64_20, ldv64_21, ldv64_22, ldv64_23, ldv64_24, ldv64_25, ldv64_26, ldv64_27, ldv64_28, gdv64_17_2, gdv64_24_2, agd_none, gdAt, gdV_bool, gdV_undef, Tryd.f28, List.append_eq, List.cons_append, List.nil_append, apure_call1, apure_call2, apure_call3, bft, btf, acodeN, List.getElem?_toArray, List.getElem?_cons_zero, List.getElem?_cons_succ, aopsN, adrawT, cls, astep, aop, afloat, ev, nth_lst, get_lst, aput, setAt_lst, upd_at, init_zero, init_succ, init_nil, Nat.reduceLT, Nat.reduceEqDiff, reduceIte, abuiltin, alen, Option.map_some, Option.map_none, orElse_some, apure_add, apure_eqlV, eqlVal_str, eqlVal_bool, eqlVal_ptr, eqlVal_slice, eqlVal_wide, eqlVal_int, allT, ↓aop_eqlV, apure_neq, List.map_cons, List.map_nil, List.all_cons, List.all_nil, lit2, lit1, lit0, List.isEmpty_nil, bls, Bool.false_eq_true, if_true, if_false, List.length_map, beq_self_eq_true, uns, h9, h10, hd', hq', h16, geqU, d1, m1, m2, m3, gtrU', d3, subU, e2, e3, d2]
        exact ⟨_, rfl, by simp only [upd_at, Nat.reduceEqDiff, reduceIte, if_true], by simp only [upd_at, Nat.reduceEqDiff, reduceIte, if_true], fun j h1 h2 h3 => by repeat rw [upd_ne (by omega)]⟩
      | false =>
        simp only [lpdv64_1_eq, ↓ddv64_6, ↓sdv64_6, edv64_0, edv64_1, edv64_10, edv64_11, edv64_12, edv64_13, edv64_14, edv64_15, edv64_16, edv64_17, edv64_18, edv64_19, edv64_2, edv64_20, edv64_21, edv64_22, edv64_23, edv64_24, edv64_25, edv64_26, edv64_27, edv64_28, edv64_3, edv64_4, edv64_5, edv64_6, edv64_7, edv64_8, edv64_9, ldv64_0, ldv64_1, ldv64_2, ldv64_3, ldv64_4, ldv64_5, ldv64_6, ldv64_7, ldv64_8, ldv64_9, ldv64_10, ldv64_11, ldv64_12, ldv64_13, ldv64_14, ldv64_15, ldv64_16, ldv64_17, ldv64_18, ldv64_19, ldv64_20, ldv64_21, ldv64_22, ldv64_23, ldv64_24, ldv64_25, ldv64_26, ldv64_27, ldv64_28, gdv64_17_2, gdv64_24_2, agd_none, gdAt, gdV_bool, gdV_undef, Tryd.f28, List.append_eq, List.cons_append, List.nil_append, apure_call1, apure_call2, apure_call3, bft, btf, acodeN, List.getElem?_toArray, List.getElem?_cons_zero, List.getElem?_cons_succ, aopsN, adrawT, cls, astep, aop, afloat, ev, nth_lst, get_lst, aput, setAt_lst, upd_at, init_zero, init_succ, init_nil, Nat.reduceLT, Nat.reduceEqDiff, reduceIte, abuiltin, alen, Option.map_some, Option.map_none, orElse_some, apure_add, apure_eqlV, eqlVal_str, eqlVal_bool, eqlVal_ptr, eqlVal_slice, eqlVal_wide, eqlVal_int, allT, ↓aop_eqlV, apure_neq, List.map_cons, List.map_nil, List.all_cons, List.all_nil, lit2, lit1, lit0, List.isEmpty_nil, bls, Bool.false_eq_true, if_true, if_false, List.length_map, beq_self_eq_true, uns, h9, h10, hd', hq', h16, geqU, d1, m1, m2, m3, gtrU', d3, subU, e2, e3, d2]
        exact ⟨_, rfl, by simp only [upd_at, Nat.reduceEqDiff, reduceIte, if_true], by simp only [upd_at, Nat.reduceEqDiff, reduceIte, if_true], fun j h1 h2 h3 => by repeat rw [upd_ne (by omega)]⟩
theorem dv1_loop (h9 : F 9 = .int .u64 (y1 : Nat)) (h10 : F 10 = .int .u64 (y0 : Nat)) (hd' : F 14 = .int .u64 (d : Nat)) (hq' : F 18 = .int .u64 ((u / y1 : Nat) : Int)) (h16 : F 16 = .int .u64 ((u % y1 : Nat) : Int)) (hy1 : y1 < 4294967296) (hb : 2147483648 ≤ y1) (hy0 : y0 < 4294967296) (hd : d < 4294967296) (hu : u < y1 * 4294967296 + y0) (hnf : 10 < nf) :
    ∃ F', aloop (acodeN E self nf lpdv64_1) nf (lst F 135) m = some (.exit 2, lst F' 135, m) ∧ F' 18 = .int .u64 (((u * 4294967296 + d) / (y1 * 4294967296 + y0) : Nat) : Int) ∧ ∀ j, j ≠ 18 → j ≠ 16 → j < 102 → F' j = F j := by
  have hY : 0 < y1 * 4294967296 + y0 := by omega
  have hF := two_digits hu hd
  have hloop := aloop_inv (body := acodeN E self nf lpdv64_1) (N := 2)
    (I := fun k T m' => m' = m ∧ ∃ G q r, T = lst G 135 ∧ G 18 = .int .u64 ((q : Nat) : Int) ∧ G 16 = .int .u64 ((r : Nat) : Int) ∧ (∀ j, j ≠ 18 → j ≠ 16 → j < 102 → G j = F j) ∧ DI 4294967296 u d y1 y0 q r k)
    (Q := fun x T m' => x = .exit 2 ∧ m' = m ∧ ∃ G, T = lst G 135 ∧ G 18 = .int .u64 (((u * 4294967296 + d) / (y1 * 4294967296 + y0) : Nat) : Int) ∧ ∀ j, j ≠ 18 → j ≠ 16 → j < 102 → G j = F j) (fun k T m' hk hI => by
      obtain ⟨rfl, G, q, r, rfl, gq, gr, gk, hD⟩ := hI
      have hk2 := hD.rounds2 (by omega)
      have hcc : ∀ c : Bool, c = (decide (4294967296 ≤ q) || decide (4294967296 * r + d < q * y0)) → c = true → 4294967296 ≤ q ∨ 4294967296 * r + d < q * y0 := fun c h1 h2 => by
        rw [h2] at h1
        simpa using h1.symm
      obtain ⟨c, hc⟩ : ∃ c : Bool, c = (decide (4294967296 ≤ q) || decide (4294967296 * r + d < q * y0)) := ⟨_, rfl⟩
      obtain ⟨e, he⟩ : ∃ e : Bool, e = decide (4294967296 ≤ r + y1) := ⟨_, rfl⟩
      obtain ⟨F', hr, f1, f2, f3⟩ := dv1_it (self := self) (nf := nf) (m := m') ((gk 9 (by omega) (by omega) (by omega)).trans h9) ((gk 10 (by omega) (by omega) (by omega)).trans h10) ((gk 14 (by omega) (by omega) (by omega)).trans hd') gq gr hD.small hy1 hy0 hd hD.most c e hc he (fun h => by
        have := Nat.lt_of_le_of_lt (Nat.zero_le _) (hD.gt hF (hcc c hc h))
        omega)
      have fk : ∀ j, j ≠ 18 → j ≠ 16 → j < 102 → F' j = F j := fun j h1 h2 h3 => (f3 j h1 h2 h3).trans (gk j h1 h2 h3)
      cases c with
      | false =>
        right
        have h1 : ¬ 4294967296 ≤ q ∧ ¬ 4294967296 * r + d < q * y0 := by simpa using hc.symm
        have h2 := hD.stop hY (Nat.le_of_not_lt h1.2)
        rw [if_neg (by simp)] at f1
        rw [if_neg (by simp)] at hr
        exact ⟨_, _, _, hr, by simp, rfl, rfl, F', rfl, by rw [f1, h2], fk⟩
      | true =>
        have h1 := hcc true hc rfl
        rw [if_pos rfl] at f1 f2
        cases e with
        | false =>
          left
          have h3 : ¬ 4294967296 ≤ r + y1 := by simpa using he.symm
          have h4 := hD.next hF h1 (by omega)
          rw [if_pos (by rfl)] at hr
          exact ⟨_, _, hr, hk2, rfl, F', q - 1, r + y1, rfl, f1, f2, fk, h4⟩
        | true =>
          right
          have h3 : 4294967296 ≤ r + y1 := by simpa using he.symm
          have h4 := hD.break hY hy0 hF h1 h3
          rw [if_neg (by simp)] at hr
          exact ⟨_, _, _, hr, by simp, rfl, rfl, F', rfl, by rw [f1, h4], fk⟩)
  obtain ⟨x, T', m', hr, rfl, rfl, G, rfl, g⟩ := hloop 2 0 nf (lst F 135) m (by omega) (by omega) ⟨rfl, F, u / y1, u % y1, rfl, hq', h16, fun _ _ _ _ => rfl, DI.init (by omega) hy1 hy0 hd hu⟩
  exact ⟨G, hr, g⟩
end
end Go.Am.Seat
